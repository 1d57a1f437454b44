/- Own work. -/
import Derived.Test.YtfkjobiapjhacabGreatG3
import Derived.Test.YtfkjobiapjhacabGreatGwJ
import Derived.Test.YtfkjobiapjhacabGreatGwD
import Derived.Test.YtfkjobiapjhacabGreatG1
/- Contracts of package gateway: route. Own work. -/
namespace Go.Proofs.YtfkjobiapjhacabGreat
open Go.RowKit
attribute [local go_sem ↓] Go.wp_at_zero Go.wp_at_succ

def outsW (s : BX) (pr : Int) (m : ByteArray) (fa fp tp : Int) : WYD := match innerI pr tp s.l with
  | none => ⟨16, 0, 0, 0, 0, 0, 0, ⟨#[]⟩⟩
  | some x => if hasS pr x.ia x.ip fa fp s.l = true then ⟨0, 0, pr, fa, fp, x.ia, x.ip, btwM pr m fa fp x.ia x.ip⟩ else ⟨16, 0, 0, 0, 0, 0, 0, ⟨#[]⟩⟩
theorem outsV_eq (s : BX) (pr : Int) (m : ByteArray) (fa fp tp : Int) (iq : Bool) : ∃ qb, outsV s pr m fa fp tp iq = (outsW s pr m fa fp tp).val qb := by
  unfold outsV outsW
  rcases innerI pr tp s.l with _ | x
  · exact ⟨false, rfl⟩
  · simp only
    split
    · exact ⟨iq, rfl⟩
    · exact ⟨false, rfl⟩
def turnW (s : BX) (pr : Int) (m : ByteArray) (xa xp ya yp : Int) : WYD := if hasS pr ya yp xa xp s.l = true then ⟨0, 0, pr, xa, xp, ya, yp, btwM pr m xa xp ya yp⟩ else ⟨17, 0, 0, 0, 0, 0, 0, ⟨#[]⟩⟩
theorem turnV_eq (s : BX) (pr : Int) (m : ByteArray) (xa xp ya yp : Int) (iq : Bool) : ∃ qb, turnV s pr m xa xp ya yp iq = (turnW s pr m xa xp ya yp).val qb := by
  unfold turnV turnW
  split
  · exact ⟨iq, rfl⟩
  · exact ⟨false, rfl⟩
def insW (s : BX) (pr : Int) (m : ByteArray) (fa fp ta tp : Int) : WYD :=
  if ta = s.ou ∧ (innE pr tp s.l).1 = false then ⟨16, 0, 0, 0, 0, 0, 0, ⟨#[]⟩⟩
  else if ¬ askW s pr fa fp ta tp (byteAt m 13) = 0 then ⟨askW s pr fa fp ta tp (byteAt m 13), 0, 0, 0, 0, 0, 0, ⟨#[]⟩⟩
  else if ta = s.ou then turnW { s with l := insL s pr m fa fp ta tp } pr m s.ou (insP s pr m fa fp ta tp) (innE pr tp s.l).2.1 (innE pr tp s.l).2.2
  else ⟨0, 1, pr, s.ou, insP s pr m fa fp ta tp, ta, tp, btwM pr m s.ou (insP s pr m fa fp ta tp) ta tp⟩
theorem insV_eq (s : BX) (pr : Int) (m : ByteArray) (fa fp ta tp : Int) (iq : Bool) : ∃ qb, insV s pr m fa fp ta tp iq = (insW s pr m fa fp ta tp).val qb := by
  unfold insV insW
  split
  · exact ⟨false, rfl⟩
  · split
    · exact ⟨false, rfl⟩
    · split
      · exact turnV_eq _ _ _ _ _ _ _ _
      · exact ⟨iq, rfl⟩
/-! An ICMP error, and the packet that it is about. -/
/-- The packet that an error tells of. -/
def abR (m : ByteArray) : ByteArray := m.extract 8 m.size
def abH (m : ByteArray) : ByteArray := (abR m).extract 0 20
def abB (m : ByteArray) : ByteArray := (abR m).extract 20 (abR m).size
/-- May an error be about it? -/
def abOK (m : ByteArray) : Bool := decide (36 ≤ m.size) && (byteAt (abH m) 0 == 69) && (sumI (abH m) == 65535) && ((byteAt (abR m) 9 == 1) || (byteAt (abR m) 9 == 6) || (byteAt (abR m) 9 == 17)) && (bits .and .i64 (wordAt (abH m) 6) 8191 == 0)
/-- A word at a place, where there is such a place. -/
def putW (s : ByteArray) (i : Nat) (v : Int) : ByteArray := if i + 2 ≤ s.size then putWord s i v else s
def endChg (a p b q : Int) : Int := 196605 - (a / 65536 + a % 65536) - p + (b / 65536 + b % 65536) + q
def chgI (pr fa fp ta tp : Int) (m o : ByteArray) (xa xp ya yp : Int) : Int := if pr = 1 then 65535 - wordAt m 4 + wordAt o 4 else endChg fa fp xa xp + endChg ta tp ya yp
/-- A message that may be cut, between other ends. -/
def shiftM (pr fa fp ta tp : Int) (m : ByteArray) (xa xp ya yp : Int) : ByteArray :=
  if hasSumB pr m = false then portM pr m xp yp
  else putW (portM pr m xp yp) (sumAtI pr) (ckI pr (foldI (65535 - wordAt m (sumAtI pr : Nat) + chgI pr fa fp ta tp m (portM pr m xp yp) xa xp ya yp)))
/-- An error's message, with the packet in it between other ends. -/
def retM (m : ByteArray) (src dst xa xp ya yp : Int) : ByteArray :=
  sealM 1 src dst (m.extract 0 8 ++ addrHead (abH m) xa ya ++ shiftM (byteAt (abR m) 9) (addrAt (abR m) 12) (portsOf (byteAt (abR m) 9) (abB m)).1 (addrAt (abR m) 16) (portsOf (byteAt (abR m) 9) (abB m)).2 (abB m) xa xp ya yp)
def noW (k : Int) : WYD := ⟨k, 0, 0, 0, 0, 0, 0, ⟨#[]⟩⟩
/-- What becomes of an error about a packet of protocol q between these ends. -/
def trOut (s : BX) (pr fa fp tp q aa ap ba bp : Int) (m : ByteArray) : WYD :=
  if q = 1 ∧ ¬ byteAt (abB m) 0 = 8 then noW 16
  else match innerI q ap s.l with
    | none => noW 16
    | some x => if ¬ aa = s.ou ∨ hasS q x.ia x.ip ba bp s.l = false then noW 16 else ⟨0, 0, pr, fa, fp, x.ia, tp, retM m fa x.ia x.ia x.ip ba bp⟩
def trIn (s : BX) (pr fp ta tp q aa ap ba bp : Int) (m : ByteArray) : WYD :=
  if q = 1 ∧ ¬ byteAt (abB m) 0 = 0 then noW 16
  else if ta = s.ou ∨ hasS q ba bp aa ap s.l = false then noW 16
  else ⟨0, 1, pr, s.ou, fp, ta, tp, retM m s.ou ta aa ap s.ou (outerI q ba bp s.l)⟩
def trW (s : BX) (side pr fa fp ta tp : Int) (m : ByteArray) : WYD :=
  if abOK m = false then noW 13
  else if side = 0 then trIn s pr fp ta tp (byteAt (abR m) 9) (addrAt (abR m) 12) (portsOf (byteAt (abR m) 9) (abB m)).1 (addrAt (abR m) 16) (portsOf (byteAt (abR m) 9) (abB m)).2 m
  else trOut s pr fa fp tp (byteAt (abR m) 9) (addrAt (abR m) 12) (portsOf (byteAt (abR m) 9) (abB m)).1 (addrAt (abR m) 16) (portsOf (byteAt (abR m) 9) (abB m)).2 m
def routeW (s : BX) (side pr fa fp ta tp : Int) (m : ByteArray) : WYD :=
  if ¬ dFault pr fa fp ta tp m = 0 then ⟨dFault pr fa fp ta tp m, 0, 0, 0, 0, 0, 0, ⟨#[]⟩⟩
  else if errB pr m = true then trW s side pr fa fp ta tp m
  else if (pr = 1 ∧ ¬ eFault s.ou side pr ta m = 0) then ⟨eFault s.ou side pr ta m, 0, 0, 0, 0, 0, 0, ⟨#[]⟩⟩
  else if side = 0 then insW s pr m fa fp ta tp else outsW s pr m fa fp tp
/-- The same, of a message that came in pieces or in one. -/
def routeG (s : BX) (side pr fa fp ta tp : Int) (m : ByteArray) (iq : Bool) : WYD :=
  if iq = true ∧ errB pr m = true ∧ dFault pr fa fp ta tp m = 0 then noW 13 else routeW s side pr fa fp ta tp m
def routeL (s : BX) (side pr fa fp ta tp : Int) (m : ByteArray) : List SD :=
  if ¬ dFault pr fa fp ta tp m = 0 then s.l
  else if errB pr m = true then s.l
  else if (pr = 1 ∧ ¬ eFault s.ou side pr ta m = 0) then s.l
  else if side = 0 then insF s pr m fa fp ta tp else outsL s pr m fa fp tp
/-- What holds of every box. -/
structure OKB (s : BX) : Prop where
  n0 : 0 ≤ s.ne
  n1 : s.ne ≤ 4294967296
  o0 : 0 ≤ s.ou
  o1 : s.ou ≤ 4294967295
  l0 : 0 ≤ s.lo
  l1 : s.lo ≤ s.hi
  l2 : s.hi ≤ 100000
  t0 : 0 ≤ s.tm
  t1 : s.tm ≤ 1000000000000000
  len : s.l.length ≤ 100
  ia : ∀ x ∈ s.l, 0 ≤ x.ia ∧ x.ia ≤ 4294967295
theorem formed_room {pr fa fp ta tp : Int} {m : ByteArray} (h : dFault pr fa fp ta tp m = 0) (h2 : pr = 1 ∨ pr = 6 ∨ pr = 17) : sumAtI pr + 2 ≤ m.size ∧ 6 ≤ m.size := by
  unfold dFault at h
  split at h
  · omega
  · rename_i hf
    have hf' : formedB pr fp tp m = true := by simpa using hf
    unfold formedB at hf'
    by_cases h1 : pr = 1
    · rw [if_pos h1] at hf'
      subst h1
      simp at hf'
      have : sumAtI 1 = 2 := rfl
      rw [this]
      omega
    · rw [if_neg h1] at hf'
      split at hf'
      · simp at hf'
      · rcases h2 with h2 | h2 | h2
        · exact absurd h2 h1
        · subst h2
          simp at hf'
          have : sumAtI 6 = 16 := rfl
          rw [this]
          have := hf'.1
          have := hf'.2
          omega
        · subst h2
          simp at hf'
          have : sumAtI 17 = 6 := rfl
          rw [this]
          omega
set_option maxRecDepth 100000 in
set_option maxHeartbeats 1000000 in
theorem route_any {w : World} {b : Nat} {v : Value} {s : BX} (h : BoxAt w b v s) (hk : OKB s) (side : Int) (pr fa fp ta tp : Int) (m : ByteArray) (iq : Bool) (hm : m.size ≤ 1000) (hp : pr = 1 ∨ pr = 6 ∨ pr = 17) (hf0 : 0 ≤ fa) (hf1 : fa ≤ 4294967295) (ht0 : 0 ≤ ta) (ht1 : ta ≤ 4294967295)
    (hTR : errB pr m = false ∨ (dFault pr fa fp ta tp m = 0 → ∀ W, BoxAt W b v s → Calls Tryz.prog 79 #[.pointer (some ⟨b, 0, none⟩), .int .i64 side, .agg #[.int .i64 pr, .int .i64 fa, .int .i64 fp, .int .i64 ta, .int .i64 tp, .string m, .bool iq]] W fun e w' => (∃ qb, e = .returned ((if iq = true then noW 13 else trW s side pr fa fp ta tp m).val qb)) ∧ BoxAt w' b v s ∧ Chg b v W w' v)) :
    Calls Tryz.prog 61 #[.pointer (some ⟨b, 0, none⟩), .int .i64 side, .agg #[.int .i64 pr, .int .i64 fa, .int .i64 fp, .int .i64 ta, .int .i64 tp, .string m, .bool iq]] w fun e w' => (∃ qb, e = .returned ((routeG s side pr fa fp ta tp m iq).val qb)) ∧ ∃ v', BoxAt w' b v' { s with l := routeL s side pr fa fp ta tp m } ∧ Chg b v w w' v' := by
  have hp0 : 0 ≤ pr := by omega
  have hp1 : pr ≤ 255 := by omega
  have HFA : Hid (∀ W, Calls Tryz.prog 77 #[.agg #[.int .i64 pr, .int .i64 fa, .int .i64 fp, .int .i64 ta, .int .i64 tp, .string m, .bool iq]] W fun e w' => e = .returned (.int .i64 (dFault pr fa fp ta tp m)) ∧ Below W.heap.size W w') := fun W => dFault_any pr fa fp ta tp m iq W hm hp0 hp1 hf0 hf1 ht0 ht1
  have HER : Hid (∀ W, Calls Tryz.prog 78 #[.agg #[.int .i64 pr, .int .i64 fa, .int .i64 fp, .int .i64 ta, .int .i64 tp, .string m, .bool iq]] W fun e w' => e = .returned (.bool (errB pr m)) ∧ Below W.heap.size W w') := fun W => IsError_any pr fa fp ta tp m iq W
  have HEF : Hid (∀ W, BoxAt W b v s → Calls Tryz.prog 80 #[.pointer (some ⟨b, 0, none⟩), .int .i64 side, .agg #[.int .i64 pr, .int .i64 fa, .int .i64 fp, .int .i64 ta, .int .i64 tp, .string m, .bool iq]] W fun e w' => e = .returned (.int .i64 (eFault s.ou side pr ta m)) ∧ BoxAt w' b v s ∧ Chg b v W w' v) := fun W hW => echoFault_any hW side pr fa fp ta tp m iq
  have HIN : Hid (dFault pr fa fp ta tp m = 0 → ∀ W, BoxAt W b v s → Calls Tryz.prog 81 #[.pointer (some ⟨b, 0, none⟩), .agg #[.int .i64 pr, .int .i64 fa, .int .i64 fp, .int .i64 ta, .int .i64 tp, .string m, .bool iq]] W fun e w' => (∃ qb, e = .returned ((insW s pr m fa fp ta tp).val qb)) ∧ ∃ v', BoxAt w' b v' { s with l := insF s pr m fa fp ta tp } ∧ Chg b v W w' v') := fun h2 W hW => by
    obtain ⟨r1, r2⟩ := formed_room h2 hp
    obtain ⟨qb, hq⟩ := insV_eq s pr m fa fp ta tp iq
    refine (fromInside_any hW (by have := hk.len; omega) pr fa fp ta tp m iq hk.l0 hk.l1 hk.l2 hk.t0 hk.t1 hm r1 r2 hp0 hp1 hk.o0 hk.o1 hk.ia ht0 ht1 hk.len).mono ?_
    rintro e w' ⟨h1, h3⟩
    exact ⟨⟨qb, by rw [← hq]; exact h1⟩, h3⟩
  have HOU : Hid (dFault pr fa fp ta tp m = 0 → ∀ W, BoxAt W b v s → Calls Tryz.prog 82 #[.pointer (some ⟨b, 0, none⟩), .agg #[.int .i64 pr, .int .i64 fa, .int .i64 fp, .int .i64 ta, .int .i64 tp, .string m, .bool iq]] W fun e w' => (∃ qb, e = .returned ((outsW s pr m fa fp tp).val qb)) ∧ ∃ v', BoxAt w' b v' { s with l := outsL s pr m fa fp tp } ∧ Chg b v W w' v') := fun h2 W hW => by
    obtain ⟨r1, r2⟩ := formed_room h2 hp
    obtain ⟨qb, hq⟩ := outsV_eq s pr m fa fp tp iq
    refine (fromOutside_any hW (by have := hk.len; omega) hk.ia hk.t0 hk.t1 pr fa fp ta tp m iq hm r1 r2 hp0 hp1 hf0 hf1).mono ?_
    rintro e w' ⟨h1, h2, h3⟩
    exact ⟨⟨qb, by rw [← hq]; exact h1⟩, v, h2, h3⟩
  have HTR : Hid (errB pr m = true → dFault pr fa fp ta tp m = 0 → ∀ W, BoxAt W b v s → Calls Tryz.prog 79 #[.pointer (some ⟨b, 0, none⟩), .int .i64 side, .agg #[.int .i64 pr, .int .i64 fa, .int .i64 fp, .int .i64 ta, .int .i64 tp, .string m, .bool iq]] W fun e w' => (∃ qb, e = .returned ((if iq = true then noW 13 else trW s side pr fa fp ta tp m).val qb)) ∧ BoxAt w' b v s ∧ Chg b v W w' v) := fun h1 h2 => by
    rcases hTR with h3 | h3
    · rw [h3] at h1; exact absurd h1 (by decide)
    · exact h3 h2
  clear hTR
  obtain ⟨IW, HW0⟩ : ∃ IW, IW = routeG s side pr fa fp ta tp m iq := ⟨_, rfl⟩
  obtain ⟨IF, HF0⟩ : ∃ IF, IF = routeL s side pr fa fp ta tp m := ⟨_, rfl⟩
  rw [← HW0, ← HF0]
  unfold routeG routeW at HW0
  unfold routeL at HF0
  clear hf0 hf1 ht0 ht1 hp0 hp1 hp hk hm
  generalize dFault pr fa fp ta tp m = FA at HFA HIN HOU HTR HW0 HF0
  generalize insW s pr m fa fp ta tp = IN at HIN HW0
  generalize outsW s pr m fa fp tp = OU at HOU HW0
  generalize insF s pr m fa fp ta tp = INF at HIN HF0
  generalize outsL s pr m fa fp tp = OUF at HOU HF0
  generalize eFault s.ou side pr ta m = EF at HEF HW0 HF0
  generalize errB pr m = ER at HER HTR HW0 HF0
  generalize trW s side pr fa fp ta tp m = TR at HTR HW0
  generalize noW 13 = N13 at HTR HW0
  have hM1 : GMid w ((w.alloc (.cells #[.int .i64 pr, .int .i64 fa, .int .i64 fp, .int .i64 ta, .int .i64 tp, .string m, .bool iq] 106)).alloc (.cells #[.int .i64 0, .int .i64 0, .int .i64 0, .int .i64 0, .int .i64 0, .int .i64 0, .int .i64 0, .string ⟨#[]⟩, .bool false] 109)) b v v s [(w.heap.size + 1, #[.int .i64 0, .int .i64 0, .int .i64 0, .int .i64 0, .int .i64 0, .int .i64 0, .int .i64 0, .string ⟨#[]⟩, .bool false], 109), (w.heap.size, #[.int .i64 pr, .int .i64 fa, .int .i64 fp, .int .i64 ta, .int .i64 tp, .string m, .bool iq], 106)] := (((GMid.start h).alloc' _ _ _ rfl).alloc' _ _ _ (by simp))
  have hlt := h.lt
  clear h
  obtain ⟨⟨z0, z1, z2, z3, z4, z5, z6, z7, z8⟩, zf⟩ := c9g hM1.at0; obtain ⟨⟨d0, d1, d2, d3, d4, d5, d6⟩, df⟩ := c7 hM1.at1
  have hM : Hid _ := hM1
  clear hM1
  by_cases c1 : FA = 0
  · have c1b : (FA != 0) = false := by simp [c1]
    have hn1 : ¬ ¬ FA = 0 := by simp [c1]
    rw [if_neg hn1] at HF0
    by_cases cE : ER = true
    · rw [if_pos cE] at HF0
      rw [if_neg hn1, if_pos cE] at HW0
      have HW1 : IW = if iq = true then N13 else TR := by
        rw [HW0]
        by_cases hq : iq = true
        · rw [if_pos ⟨hq, cE, c1⟩, if_pos hq]
        · rw [if_neg (fun h => hq h.1), if_neg hq]
      clear HW0
      rename IW = _ => HW0
      have HI : Hid (∀ W, BoxAt W b v s → Calls Tryz.prog 79 #[.pointer (some ⟨b, 0, none⟩), .int .i64 side, .agg #[.int .i64 pr, .int .i64 fa, .int .i64 fp, .int .i64 ta, .int .i64 tp, .string m, .bool iq]] W fun e w' => ∃ qb, e = .returned (.agg #[.int .i64 IW.what, .int .i64 IW.side, .int .i64 IW.pr, .int .i64 IW.xa, .int .i64 IW.xp, .int .i64 IW.ya, .int .i64 IW.yp, .string IW.m, .bool qb]) ∧ BoxAt w' b v s ∧ Chg b v W w' v) := by
        have := HTR.out cE c1
        rw [← HW0] at this
        exact fun W hW => (this W hW).mono (fun e w' h => by obtain ⟨⟨qb, h1⟩, h2⟩ := h; exact ⟨qb, h1, h2⟩)
      have HF : Hid (IF = s.l) := HF0
      clear HW0 HF0 c1 HIN HOU HTR HEF
      rw [cE] at HER
      clear cE
      go_enter Tryz.func61, Tryz.ntmps61
      go_wp2_with (first | (go_at_call 77; refine (HFA.out _).mono ?_; rintro e w1 ⟨rfl, hb1⟩; have hM1 := hM.out.call hb1; clear hM hb1; clear z0 z1 z2 z3 z4 z5 z6 z7 z8 zf d0 d1 d2 d3 d4 d5 d6 df; obtain ⟨⟨z0, z1, z2, z3, z4, z5, z6, z7, z8⟩, zf⟩ := c9g hM1.at0; obtain ⟨⟨d0, d1, d2, d3, d4, d5, d6⟩, df⟩ := c7 hM1.at1; have hM : Hid _ := hM1; clear hM1) | (go_at_call 78; refine (HER.out _).mono ?_; rintro e w1 ⟨rfl, hb1⟩; have hM1 := hM.out.call hb1; clear hM hb1; clear z0 z1 z2 z3 z4 z5 z6 z7 z8 zf d0 d1 d2 d3 d4 d5 d6 df; obtain ⟨⟨z0, z1, z2, z3, z4, z5, z6, z7, z8⟩, zf⟩ := c9g hM1.at0; obtain ⟨⟨d0, d1, d2, d3, d4, d5, d6⟩, df⟩ := c7 hM1.at1; have hM : Hid _ := hM1; clear hM1) | (go_at_call 79; refine (HI.out _ hM.out.box).mono ?_; rintro e w2 ⟨qb, rfl, hbx2, hch2⟩; have hM1 := hM.out.change hbx2 hch2; clear hM hbx2 hch2; clear z0 z1 z2 z3 z4 z5 z6 z7 z8 zf d0 d1 d2 d3 d4 d5 d6 df; obtain ⟨⟨z0, z1, z2, z3, z4, z5, z6, z7, z8⟩, zf⟩ := c9g hM1.at0; obtain ⟨⟨d0, d1, d2, d3, d4, d5, d6⟩, df⟩ := c7 hM1.at1; have hM : Hid _ := hM1; clear hM1))
      refine bodyPost_ret (v := .agg #[.int .i64 IW.what, .int .i64 IW.side, .int .i64 IW.pr, .int .i64 IW.xa, .int .i64 IW.xp, .int .i64 IW.ya, .int .i64 IW.yp, .string IW.m, .bool qb]) (by simp [results, Tryz.results61, go_sem, z0, z1, z2, z3, z4, z5, z6, z7, z8]) rfl ⟨⟨qb, rfl⟩, ?_⟩
      have hE := ((((((((hM.out.set0 0 (.int .i64 IW.what)).set0 1 (.int .i64 IW.side)).set0 2 (.int .i64 IW.pr)).set0 3 (.int .i64 IW.xa)).set0 4 (.int .i64 IW.xp)).set0 5 (.int .i64 IW.ya)).set0 6 (.int .i64 IW.yp)).set0 7 (.string IW.m)).set0 8 (.bool qb)
      rw [HF.out]
      exact ⟨_, hE.box, hE.chg⟩
    · rw [if_neg cE] at HF0
      rw [if_neg (fun h => cE h.2.1), if_neg hn1, if_neg cE] at HW0
      have cE' : ER = false := by simpa using cE
      rw [cE'] at HER
      clear cE cE' HTR
      by_cases c2 : pr = 1 ∧ ¬ EF = 0
      · rw [if_pos c2] at HW0 HF0
        have c2b : (pr == 1) = true := by simp [c2.1]
        have c2c : (EF != 0) = true := by simp [c2.2]
        have HV : Hid (IW.val false = .agg #[.int .i64 EF, .int .i64 0, .int .i64 0, .int .i64 0, .int .i64 0, .int .i64 0, .int .i64 0, .string ⟨#[]⟩, .bool false]) := by rw [HW0]; rfl
        have HF : Hid (IF = s.l) := HF0
        clear HW0 HF0 c1 c2 HIN HOU
        go_enter Tryz.func61, Tryz.ntmps61
        go_wp2_with (first | (go_at_call 77; refine (HFA.out _).mono ?_; rintro e w1 ⟨rfl, hb1⟩; have hM1 := hM.out.call hb1; clear hM hb1; clear z0 z1 z2 z3 z4 z5 z6 z7 z8 zf d0 d1 d2 d3 d4 d5 d6 df; obtain ⟨⟨z0, z1, z2, z3, z4, z5, z6, z7, z8⟩, zf⟩ := c9g hM1.at0; obtain ⟨⟨d0, d1, d2, d3, d4, d5, d6⟩, df⟩ := c7 hM1.at1; have hM : Hid _ := hM1; clear hM1) | (go_at_call 78; refine (HER.out _).mono ?_; rintro e w1 ⟨rfl, hb1⟩; have hM1 := hM.out.call hb1; clear hM hb1; clear z0 z1 z2 z3 z4 z5 z6 z7 z8 zf d0 d1 d2 d3 d4 d5 d6 df; obtain ⟨⟨z0, z1, z2, z3, z4, z5, z6, z7, z8⟩, zf⟩ := c9g hM1.at0; obtain ⟨⟨d0, d1, d2, d3, d4, d5, d6⟩, df⟩ := c7 hM1.at1; have hM : Hid _ := hM1; clear hM1) | (go_at_call 80; refine (HEF.out _ hM.out.box).mono ?_; rintro e w3 ⟨rfl, hbx2, hch2⟩; have hM1 := hM.out.change hbx2 hch2; clear hM hbx2 hch2; clear z0 z1 z2 z3 z4 z5 z6 z7 z8 zf d0 d1 d2 d3 d4 d5 d6 df; obtain ⟨⟨z0, z1, z2, z3, z4, z5, z6, z7, z8⟩, zf⟩ := c9g hM1.at0; obtain ⟨⟨d0, d1, d2, d3, d4, d5, d6⟩, df⟩ := c7 hM1.at1; have hM : Hid _ := hM1; clear hM1))
        refine bodyPost_ret (v := .agg #[.int .i64 EF, .int .i64 0, .int .i64 0, .int .i64 0, .int .i64 0, .int .i64 0, .int .i64 0, .string ⟨#[]⟩, .bool false]) (by simp [results, Tryz.results61, go_sem, z0, z1, z2, z3, z4, z5, z6, z7, z8]) rfl ⟨⟨false, by rw [HV.out]⟩, ?_⟩
        have hE := ((((((((hM.out.set0 0 (.int .i64 EF)).set0 1 (.int .i64 0)).set0 2 (.int .i64 0)).set0 3 (.int .i64 0)).set0 4 (.int .i64 0)).set0 5 (.int .i64 0)).set0 6 (.int .i64 0)).set0 7 (.string ⟨#[]⟩)).set0 8 (.bool false)
        rw [HF.out]
        exact ⟨_, hE.box, hE.chg⟩
      · rw [if_neg c2] at HW0 HF0
        have c2' : (pr == 1) = false ∨ (pr == 1) = true ∧ EF = 0 := by
          by_cases e : pr = 1
          · right; exact ⟨by simp [e], Decidable.byContradiction fun h => c2 ⟨e, h⟩⟩
          · left; simp [e]
        clear c2
        by_cases c3 : side = 0
        · rw [if_pos c3] at HW0 HF0
          have c3b : (side == 0) = true := by simp [c3]
          have HI : Hid (∀ W, BoxAt W b v s → Calls Tryz.prog 81 #[.pointer (some ⟨b, 0, none⟩), .agg #[.int .i64 pr, .int .i64 fa, .int .i64 fp, .int .i64 ta, .int .i64 tp, .string m, .bool iq]] W fun e w' => ∃ qb, e = .returned (.agg #[.int .i64 IW.what, .int .i64 IW.side, .int .i64 IW.pr, .int .i64 IW.xa, .int .i64 IW.xp, .int .i64 IW.ya, .int .i64 IW.yp, .string IW.m, .bool qb]) ∧ ∃ v', BoxAt w' b v' { s with l := IF } ∧ Chg b v W w' v') := by
            have := HIN.out c1
            rw [← HW0, ← HF0] at this
            exact fun W hW => (this W hW).mono (fun e w' h => by obtain ⟨⟨qb, h1⟩, h2⟩ := h; exact ⟨qb, h1, h2⟩)
          clear HW0 HF0 c1 c3 HIN HOU
          rcases c2' with c2b | ⟨c2b, rfl⟩
          all_goals
            go_enter Tryz.func61, Tryz.ntmps61
            go_wp2_with (first | (go_at_call 77; refine (HFA.out _).mono ?_; rintro e w1 ⟨rfl, hb1⟩; have hM1 := hM.out.call hb1; clear hM hb1; clear z0 z1 z2 z3 z4 z5 z6 z7 z8 zf d0 d1 d2 d3 d4 d5 d6 df; obtain ⟨⟨z0, z1, z2, z3, z4, z5, z6, z7, z8⟩, zf⟩ := c9g hM1.at0; obtain ⟨⟨d0, d1, d2, d3, d4, d5, d6⟩, df⟩ := c7 hM1.at1; have hM : Hid _ := hM1; clear hM1) | (go_at_call 78; refine (HER.out _).mono ?_; rintro e w1 ⟨rfl, hb1⟩; have hM1 := hM.out.call hb1; clear hM hb1; clear z0 z1 z2 z3 z4 z5 z6 z7 z8 zf d0 d1 d2 d3 d4 d5 d6 df; obtain ⟨⟨z0, z1, z2, z3, z4, z5, z6, z7, z8⟩, zf⟩ := c9g hM1.at0; obtain ⟨⟨d0, d1, d2, d3, d4, d5, d6⟩, df⟩ := c7 hM1.at1; have hM : Hid _ := hM1; clear hM1) | (go_at_call 80; refine (HEF.out _ hM.out.box).mono ?_; rintro e w3 ⟨rfl, hbx2, hch2⟩; have hM1 := hM.out.change hbx2 hch2; clear hM hbx2 hch2; clear z0 z1 z2 z3 z4 z5 z6 z7 z8 zf d0 d1 d2 d3 d4 d5 d6 df; obtain ⟨⟨z0, z1, z2, z3, z4, z5, z6, z7, z8⟩, zf⟩ := c9g hM1.at0; obtain ⟨⟨d0, d1, d2, d3, d4, d5, d6⟩, df⟩ := c7 hM1.at1; have hM : Hid _ := hM1; clear hM1) | (go_at_call 81; refine (HI.out _ hM.out.box).mono ?_; rintro e w2 ⟨qb, rfl, v2, hbx2, hch2⟩; have hM1 := hM.out.change hbx2 hch2; clear hM hbx2 hch2; clear z0 z1 z2 z3 z4 z5 z6 z7 z8 zf d0 d1 d2 d3 d4 d5 d6 df; obtain ⟨⟨z0, z1, z2, z3, z4, z5, z6, z7, z8⟩, zf⟩ := c9g hM1.at0; obtain ⟨⟨d0, d1, d2, d3, d4, d5, d6⟩, df⟩ := c7 hM1.at1; have hM : Hid _ := hM1; clear hM1))
            refine bodyPost_ret (v := .agg #[.int .i64 IW.what, .int .i64 IW.side, .int .i64 IW.pr, .int .i64 IW.xa, .int .i64 IW.xp, .int .i64 IW.ya, .int .i64 IW.yp, .string IW.m, .bool qb]) (by simp [results, Tryz.results61, go_sem, z0, z1, z2, z3, z4, z5, z6, z7, z8]) rfl ⟨⟨qb, rfl⟩, ?_⟩
            have hE := ((((((((hM.out.set0 0 (.int .i64 IW.what)).set0 1 (.int .i64 IW.side)).set0 2 (.int .i64 IW.pr)).set0 3 (.int .i64 IW.xa)).set0 4 (.int .i64 IW.xp)).set0 5 (.int .i64 IW.ya)).set0 6 (.int .i64 IW.yp)).set0 7 (.string IW.m)).set0 8 (.bool qb)
            exact ⟨_, hE.box, hE.chg⟩
        · rw [if_neg c3] at HW0 HF0
          have c3b : (side == 0) = false := by simp [c3]
          have HI : Hid (∀ W, BoxAt W b v s → Calls Tryz.prog 82 #[.pointer (some ⟨b, 0, none⟩), .agg #[.int .i64 pr, .int .i64 fa, .int .i64 fp, .int .i64 ta, .int .i64 tp, .string m, .bool iq]] W fun e w' => ∃ qb, e = .returned (.agg #[.int .i64 IW.what, .int .i64 IW.side, .int .i64 IW.pr, .int .i64 IW.xa, .int .i64 IW.xp, .int .i64 IW.ya, .int .i64 IW.yp, .string IW.m, .bool qb]) ∧ ∃ v', BoxAt w' b v' { s with l := IF } ∧ Chg b v W w' v') := by
            have := HOU.out c1
            rw [← HW0, ← HF0] at this
            exact fun W hW => (this W hW).mono (fun e w' h => by obtain ⟨⟨qb, h1⟩, h2⟩ := h; exact ⟨qb, h1, h2⟩)
          clear HW0 HF0 c1 c3 HIN HOU
          rcases c2' with c2b | ⟨c2b, rfl⟩
          all_goals
            go_enter Tryz.func61, Tryz.ntmps61
            go_wp2_with (first | (go_at_call 77; refine (HFA.out _).mono ?_; rintro e w1 ⟨rfl, hb1⟩; have hM1 := hM.out.call hb1; clear hM hb1; clear z0 z1 z2 z3 z4 z5 z6 z7 z8 zf d0 d1 d2 d3 d4 d5 d6 df; obtain ⟨⟨z0, z1, z2, z3, z4, z5, z6, z7, z8⟩, zf⟩ := c9g hM1.at0; obtain ⟨⟨d0, d1, d2, d3, d4, d5, d6⟩, df⟩ := c7 hM1.at1; have hM : Hid _ := hM1; clear hM1) | (go_at_call 78; refine (HER.out _).mono ?_; rintro e w1 ⟨rfl, hb1⟩; have hM1 := hM.out.call hb1; clear hM hb1; clear z0 z1 z2 z3 z4 z5 z6 z7 z8 zf d0 d1 d2 d3 d4 d5 d6 df; obtain ⟨⟨z0, z1, z2, z3, z4, z5, z6, z7, z8⟩, zf⟩ := c9g hM1.at0; obtain ⟨⟨d0, d1, d2, d3, d4, d5, d6⟩, df⟩ := c7 hM1.at1; have hM : Hid _ := hM1; clear hM1) | (go_at_call 80; refine (HEF.out _ hM.out.box).mono ?_; rintro e w3 ⟨rfl, hbx2, hch2⟩; have hM1 := hM.out.change hbx2 hch2; clear hM hbx2 hch2; clear z0 z1 z2 z3 z4 z5 z6 z7 z8 zf d0 d1 d2 d3 d4 d5 d6 df; obtain ⟨⟨z0, z1, z2, z3, z4, z5, z6, z7, z8⟩, zf⟩ := c9g hM1.at0; obtain ⟨⟨d0, d1, d2, d3, d4, d5, d6⟩, df⟩ := c7 hM1.at1; have hM : Hid _ := hM1; clear hM1) | (go_at_call 82; refine (HI.out _ hM.out.box).mono ?_; rintro e w2 ⟨qb, rfl, v2, hbx2, hch2⟩; have hM1 := hM.out.change hbx2 hch2; clear hM hbx2 hch2; clear z0 z1 z2 z3 z4 z5 z6 z7 z8 zf d0 d1 d2 d3 d4 d5 d6 df; obtain ⟨⟨z0, z1, z2, z3, z4, z5, z6, z7, z8⟩, zf⟩ := c9g hM1.at0; obtain ⟨⟨d0, d1, d2, d3, d4, d5, d6⟩, df⟩ := c7 hM1.at1; have hM : Hid _ := hM1; clear hM1))
            refine bodyPost_ret (v := .agg #[.int .i64 IW.what, .int .i64 IW.side, .int .i64 IW.pr, .int .i64 IW.xa, .int .i64 IW.xp, .int .i64 IW.ya, .int .i64 IW.yp, .string IW.m, .bool qb]) (by simp [results, Tryz.results61, go_sem, z0, z1, z2, z3, z4, z5, z6, z7, z8]) rfl ⟨⟨qb, rfl⟩, ?_⟩
            have hE := ((((((((hM.out.set0 0 (.int .i64 IW.what)).set0 1 (.int .i64 IW.side)).set0 2 (.int .i64 IW.pr)).set0 3 (.int .i64 IW.xa)).set0 4 (.int .i64 IW.xp)).set0 5 (.int .i64 IW.ya)).set0 6 (.int .i64 IW.yp)).set0 7 (.string IW.m)).set0 8 (.bool qb)
            exact ⟨_, hE.box, hE.chg⟩
  · have c1b : (FA != 0) = true := by simp [c1]
    rw [if_pos c1] at HF0
    rw [if_neg (fun h => c1 h.2.2), if_pos c1] at HW0
    have HV : Hid (IW.val false = .agg #[.int .i64 FA, .int .i64 0, .int .i64 0, .int .i64 0, .int .i64 0, .int .i64 0, .int .i64 0, .string ⟨#[]⟩, .bool false]) := by rw [HW0]; rfl
    have HF : Hid (IF = s.l) := HF0
    clear HW0 HF0 c1 HIN HOU HTR
    go_enter Tryz.func61, Tryz.ntmps61
    go_wp2_with (go_at_call 77; refine (HFA.out _).mono ?_; rintro e w1 ⟨rfl, hb1⟩; have hM1 := hM.out.call hb1; clear hM hb1; clear z0 z1 z2 z3 z4 z5 z6 z7 z8 zf d0 d1 d2 d3 d4 d5 d6 df; obtain ⟨⟨z0, z1, z2, z3, z4, z5, z6, z7, z8⟩, zf⟩ := c9g hM1.at0; obtain ⟨⟨d0, d1, d2, d3, d4, d5, d6⟩, df⟩ := c7 hM1.at1; have hM : Hid _ := hM1; clear hM1)
    refine bodyPost_ret (v := .agg #[.int .i64 FA, .int .i64 0, .int .i64 0, .int .i64 0, .int .i64 0, .int .i64 0, .int .i64 0, .string ⟨#[]⟩, .bool false]) (by simp [results, Tryz.results61, go_sem, z0, z1, z2, z3, z4, z5, z6, z7, z8]) rfl ⟨⟨false, by rw [HV.out]⟩, ?_⟩
    have hE := ((((((((hM.out.set0 0 (.int .i64 FA)).set0 1 (.int .i64 0)).set0 2 (.int .i64 0)).set0 3 (.int .i64 0)).set0 4 (.int .i64 0)).set0 5 (.int .i64 0)).set0 6 (.int .i64 0)).set0 7 (.string ⟨#[]⟩)).set0 8 (.bool false)
    rw [HF.out]
    exact ⟨_, hE.box, hE.chg⟩
end Go.Proofs.YtfkjobiapjhacabGreat
/- Contracts of package gateway: pass. Own work. -/
namespace Go.Proofs.YtfkjobiapjhacabGreat
open Go.RowKit
attribute [local go_sem ↓] Go.wp_at_zero Go.wp_at_succ

/-- Frames lie in memory. -/
def frC (f : Int × ByteArray) : List Value := [.int .i64 f.1, .string f.2]
theorem frC_len (f : Int × ByteArray) : (frC f).length = 2 := rfl
def FrsAt (w : World) (fv : Value) (fs : List (Int × ByteArray)) : Prop := LsAt w 45 2 frC fv fs
def FrAt (w : World) (fv : Value) (o : Option (Int × ByteArray)) : Prop := FrsAt w fv o.toList
theorem FrAt.one {w : World} {fv : Value} {sd : Int} {r : ByteArray} (h : FrAt w fv (some (sd, r))) : ∃ g cap, fv = .slice (some ⟨g, 0, none⟩) 1 cap ∧ g < w.heap.size ∧ w.cell? ⟨g, 0, none⟩ = some (.int .i64 sd) ∧ w.cell? ⟨g, 1, none⟩ = some (.string r) := by
  obtain ⟨g, cap, e, hg, hc⟩ := LsAt.get h (by simp)
  have h0 := hc 0 (by simp) 0 (by decide)
  have h1 := hc 0 (by simp) 1 (by decide)
  simp [frC] at h0 h1
  exact ⟨g, cap, by simpa using e, hg, h0, h1⟩
theorem FrAt.none {w : World} {fv : Value} (h : FrAt w fv none) : ∃ ao cap, fv = .slice ao 0 cap := by
  obtain ⟨ao, cap, e⟩ := LsAt.shape h
  exact ⟨ao, cap, by simpa using e⟩
/-- What Receive does at a box: an answer, what goes out, the box behind it. -/
def RecvAt (b : Nat) (s : BX) (side : Int) (raw : ByteArray) (what : Int) (fr : Option (Int × ByteArray)) (s' : BX) : Prop :=
  ∀ W v, BoxAt W b v s → Calls Tryz.prog 21 #[.pointer (some ⟨b, 0, none⟩), .int .i64 side, .string raw] W fun e w' => ∃ fv, e = .returned (.tuple #[.int .i64 what, fv]) ∧ FrAt w' fv fr ∧ ∃ v', BoxAt w' b v' s' ∧ Chg b v W w' v'
/-- What becomes of a packet: an answer, what goes out, the sessions, what waits. -/
structure HG where
  what : Int
  frs : List (Int × ByteArray)
  l : List SD
  wl : List PD
/-- What becomes of packets that are a datagram together. -/
def passW (s : BX) (side : Int) (l : List KP) : WYD := routeG s side (wOf l).pr (wOf l).sr (portsOf (wOf l).pr (wOf l).m).1 (wOf l).ds (portsOf (wOf l).pr (wOf l).m).2 (wOf l).m (decide (1 < l.length))
def passL' (s : BX) (side : Int) (l : List KP) : List SD := routeL s side (wOf l).pr (wOf l).sr (portsOf (wOf l).pr (wOf l).m).1 (wOf l).ds (portsOf (wOf l).pr (wOf l).m).2 (wOf l).m
def passH (s : BX) (side : Int) (l : List KP) : HG :=
  if (passW s side l).what = 0 then ⟨0, (onAll (passW s side l).xa (passW s side l).ya (passW s side l).m l).map (fun r => ((passW s side l).side, r)), passL' s side l, s.wl⟩ else ⟨(passW s side l).what, [], passL' s side l, s.wl⟩
theorem Parse_any (raw : ByteArray) (w : World) (r : Value) (hr : rFault raw = 0 ∧ r = .agg #[.string (raw.extract 0 20), .int .i64 (addrAt raw 12), .int .i64 (addrAt raw 16), .int .i64 (byteAt raw 9), .string (raw.extract 20 raw.size)] ∨ ¬ rFault raw = 0 ∧ r = .agg #[.string ⟨#[]⟩, .int .i64 0, .int .i64 0, .int .i64 0, .string ⟨#[]⟩]) :
    Calls Tryz.prog 46 #[.string raw] w fun e w' => e = .returned (.tuple #[r, .int .i64 (rFault raw)]) ∧ Below w.heap.size w w' := by
  by_cases hz : raw.size ≤ 20 ∨ 160 < raw.size
  · have e : rFault raw = 3 := if_pos hz
    rw [e] at hr ⊢
    rcases hr with ⟨h, -⟩ | ⟨-, rfl⟩
    · exact absurd h (by decide)
    · exact Parse_short raw w hz
  · have e : rFault raw = pFault (raw.extract 0 20) (raw.extract 20 raw.size) := if_neg hz
    exact Parse_long raw w (by omega) (by omega) (rFault raw) e.symm r hr
theorem sealM_size {pr : Int} {m : ByteArray} (xa ya : Int) (hat : sumAtI pr + 2 ≤ m.size) : (sealM pr xa ya m).size = m.size := by
  unfold sealM
  split
  · rfl
  · have e3 : (putWord m (sumAtI pr) 0).size = m.size := size_put _ _ _ (by omega)
    rw [size_put _ _ _ (by omega), e3]
theorem btwM_size {pr : Int} {m : ByteArray} (xa xp ya yp : Int) (h4 : 6 ≤ m.size) (hat : sumAtI pr + 2 ≤ m.size) : (btwM pr m xa xp ya yp).size = m.size := by
  have e2 := portM_size pr m xp yp h4
  unfold btwM
  rw [sealM_size xa ya (by omega), e2]
theorem routeW_size (s : BX) (side pr fa fp ta tp : Int) (m : ByteArray) (hm : m.size ≤ 1000) (hp : pr = 1 ∨ pr = 6 ∨ pr = 17) (hT : errB pr m = false ∨ (dFault pr fa fp ta tp m = 0 → (trW s side pr fa fp ta tp m).m.size ≤ 1000)) : (routeW s side pr fa fp ta tp m).m.size ≤ 1000 := by
  have e0 : (⟨#[]⟩ : ByteArray).size ≤ 1000 := by decide
  unfold routeW
  by_cases h0 : dFault pr fa fp ta tp m = 0
  · rw [if_neg (by simp [h0])]
    by_cases hE : errB pr m = true
    · rw [if_pos hE]
      rcases hT with h | h
      · rw [h] at hE; exact absurd hE (by decide)
      · exact h h0
    · rw [if_neg hE]
      obtain ⟨r1, r2⟩ := formed_room h0 hp
      have hb : ∀ xa xp ya yp, (btwM pr m xa xp ya yp).size ≤ 1000 := fun xa xp ya yp => by rw [btwM_size xa xp ya yp r2 r1]; exact hm
      split
      · exact e0
      · split
        · unfold insW
          split
          · exact e0
          · split
            · exact e0
            · split
              · unfold turnW
                split
                · exact hb _ _ _ _
                · exact e0
              · exact hb _ _ _ _
        · unfold outsW
          split
          · exact e0
          · split
            · exact hb _ _ _ _
            · exact e0
  · rw [if_pos h0]; exact e0
/-- What is asked of trouble at a box. -/
def TrOK (b : Nat) (s : BX) : Prop := ∀ (side pr fa fp ta tp : Int) (m : ByteArray) (iq : Bool), m.size ≤ 900 → errB pr m = true → 0 ≤ fa → fa ≤ 4294967295 → 0 ≤ ta → ta ≤ 4294967295 → dFault pr fa fp ta tp m = 0 →
  ((trW s side pr fa fp ta tp m).m.size ≤ 1000 ∧ ((trW s side pr fa fp ta tp m).what = 0 → (trW s side pr fa fp ta tp m).m.size = m.size)) ∧ ∀ v W, BoxAt W b v s → Calls Tryz.prog 79 #[.pointer (some ⟨b, 0, none⟩), .int .i64 side, .agg #[.int .i64 pr, .int .i64 fa, .int .i64 fp, .int .i64 ta, .int .i64 tp, .string m, .bool iq]] W fun e w' => (∃ qb, e = .returned ((if iq = true then noW 13 else trW s side pr fa fp ta tp m).val qb)) ∧ BoxAt w' b v s ∧ Chg b v W w' v
theorem c5g {w : World} {b : Nat} {v0 v1 v2 v3 v4 : Value} {t : TypeId} (h : w.heap[b]? = some (.cells #[v0, v1, v2, v3, v4] t (0, 0))) :
    (w.cell? ⟨b, 0, none⟩ = some v0 ∧ w.cell? ⟨b, 1, none⟩ = some v1 ∧ w.cell? ⟨b, 2, none⟩ = some v2 ∧ w.cell? ⟨b, 3, none⟩ = some v3 ∧ w.cell? ⟨b, 4, none⟩ = some v4) ∧ ∀ j, w.frozen? ⟨b, j, none⟩ = false := by
  have hc : ∀ j, w.cell? ⟨b, j, none⟩ = (#[v0, v1, v2, v3, v4] : Array Value)[j]? := fun j => by simp [World.cell?, h]
  exact ⟨⟨hc 0, hc 1, hc 2, hc 3, hc 4⟩, fun j => by simp [World.frozen?, h]⟩
theorem routeG_size (s : BX) (side pr fa fp ta tp : Int) (m : ByteArray) (iq : Bool) (h : (routeW s side pr fa fp ta tp m).m.size ≤ 1000) : (routeG s side pr fa fp ta tp m iq).m.size ≤ 1000 := by
  unfold routeG
  split
  · exact (by decide : (⟨#[]⟩ : ByteArray).size ≤ 1000)
  · exact h
/-- A call at a box keeps blocks of other kinds. -/
theorem Chg.keptT {b : Nat} {v v' : Value} {w w' : World} {s : BX} (h : Chg b v w w' v') (hb : BoxAt w b v s) {t : TypeId} (h1 : t ≠ 78) (h2 : t ≠ 102) : KeptT t w w' := by
  intro k c hk
  obtain ⟨wv, hbk, -⟩ := hb.bk
  rw [h.block k (lt_of_block hk) ?_ ?_]
  · exact hk
  · intro e
    rw [e, hbk] at hk
    simp at hk
    exact h1 hk.2.symm
  · intro e
    obtain ⟨-, h4⟩ := hb.own
    rcases h4 with ⟨rfl, -⟩ | ⟨g, cap, cur, rfl, -, hh, -⟩
    · simp [Value.ownBlock] at e
    · simp [Value.ownBlock] at e
      rw [← e, hh] at hk
      simp at hk
      exact h2 hk.2.symm
theorem info_frame : (Tryz.prog.info? 45).map (fun i => (i.zero, i.size, i.bytes)) = some (some (.agg #[.int .i64 0, .string ⟨#[]⟩]), 2, 24) := by kernel_rfl
/-- A row of another kind grows: blocks of this kind are kept. -/
theorem KeptT.row {t t' : TypeId} {w w' : World} {B n k : Nat} {lv : Value} {xs : List Value} (h : w.ownsRow B t' n lv k xs) (hg : w.grownBy w' lv.ownBlock) (hne : t ≠ t') : KeptT t w w' := by
  intro j c hj
  rw [hg.block j (lt_of_block hj) ?_]
  · exact hj
  · intro e
    obtain ⟨-, h4⟩ := h
    rcases h4 with ⟨rfl, -⟩ | ⟨g, cap, cur, rfl, -, hh, -⟩
    · simp [Value.ownBlock] at e
    · simp [Value.ownBlock] at e
      rw [e, hh] at hj
      simp at hj
      exact hne hj.2.symm
theorem str1 {w : World} {ov : Value} {outs : List ByteArray} (h : LsAt w 9 1 strC ov outs) (k : Nat) (hk : k < outs.length) : ∃ g cap, ov = .slice (some ⟨g, 0, none⟩) outs.length cap ∧ g < w.heap.size ∧ w.cell? ⟨g, k, none⟩ = some (.string outs[k]) := by
  obtain ⟨g, cap, e, hg, hc⟩ := LsAt.get h (by intro e; rw [e] at hk; simp at hk)
  have := hc k hk 0 (by decide)
  simp [strC] at this
  exact ⟨g, cap, e, hg, this⟩
set_option maxRecDepth 100000 in
set_option maxHeartbeats 4000000 in
theorem pass_any {w : World} {b : Nat} {v : Value} {s : BX} (h : BoxAt w b v s) (hk : OKB s) (side : Int) (pv : Value) (l : List KP) (hl : KsAt w pv l) (hn : l.length ≤ 1000) (hb : ∀ p ∈ l, p.h.size = 20 ∧ p.b.size ≤ 1000) (hm : (wOf l).m.size ≤ 900) (hp : (wOf l).pr = 1 ∨ (wOf l).pr = 6 ∨ (wOf l).pr = 17) (hf0 : 0 ≤ (wOf l).sr) (hf1 : (wOf l).sr ≤ 4294967295) (ht0 : 0 ≤ (wOf l).ds) (ht1 : (wOf l).ds ≤ 4294967295) (hTR : errB (wOf l).pr (wOf l).m = false ∨ TrOK b s) :
    Calls Tryz.prog 49 #[.pointer (some ⟨b, 0, none⟩), .int .i64 side, pv] w fun e w' => ∃ fv, e = .returned (.tuple #[.int .i64 (passH s side l).what, fv]) ∧ FrsAt w' fv (passH s side l).frs ∧ ∃ v', BoxAt w' b v' { s with l := (passH s side l).l } ∧ Chg b v w w' v' := by
  have hER : errB (wOf l).pr (wOf l).m = false ∨ errB (wOf l).pr (wOf l).m = true ∧ TrOK b s := by
    rcases hTR with h | h
    · exact Or.inl h
    · rcases hee : errB (wOf l).pr (wOf l).m with _ | _
      · exact Or.inl rfl
      · exact Or.inr ⟨rfl, h⟩
  clear hTR
  have HWH : Hid (Calls Tryz.prog 60 #[pv] w fun e w' => e = .returned (.agg #[.int .i64 (wOf l).pr, .int .i64 (wOf l).sr, .int .i64 (portsOf (wOf l).pr (wOf l).m).1, .int .i64 (wOf l).ds, .int .i64 (portsOf (wOf l).pr (wOf l).m).2, .string (wOf l).m, .bool (decide (1 < l.length))]) ∧ Below w.heap.size w w') := Whole_any pv l w hl hn (fun p hp => (hb p hp).2)
  have HRO : Hid (∀ W, BoxAt W b v s → Calls Tryz.prog 61 #[.pointer (some ⟨b, 0, none⟩), .int .i64 side, .agg #[.int .i64 (wOf l).pr, .int .i64 (wOf l).sr, .int .i64 (portsOf (wOf l).pr (wOf l).m).1, .int .i64 (wOf l).ds, .int .i64 (portsOf (wOf l).pr (wOf l).m).2, .string (wOf l).m, .bool (decide (1 < l.length))]] W fun e w' => (∃ qb, e = .returned ((passW s side l).val qb)) ∧ ∃ v', BoxAt w' b v' { s with l := passL' s side l } ∧ Chg b v W w' v') := fun W hW => route_any hW hk side (wOf l).pr (wOf l).sr _ (wOf l).ds _ (wOf l).m _ (by omega) hp hf0 hf1 ht0 ht1 (by rcases hER with e | ⟨e, h⟩; exact Or.inl e; exact Or.inr fun h0 => (h side _ _ _ _ _ _ _ hm e hf0 hf1 ht0 ht1 h0).2 v)
  have hms : (passW s side l).m.size ≤ 1000 := routeG_size _ _ _ _ _ _ _ _ _ (routeW_size s side (wOf l).pr (wOf l).sr _ (wOf l).ds _ (wOf l).m (by omega) hp (by rcases hER with e | ⟨e, h⟩; exact Or.inl e; exact Or.inr fun h0 => (h side _ _ _ _ _ _ false hm e hf0 hf1 ht0 ht1 h0).1.1))
  have HON : Hid (∀ W qb, KsAt W pv l → Calls Tryz.prog 62 #[.agg #[.int .i64 (passW s side l).pr, .int .i64 (passW s side l).xa, .int .i64 (passW s side l).xp, .int .i64 (passW s side l).ya, .int .i64 (passW s side l).yp, .string (passW s side l).m, .bool qb], pv] W fun e w' => ∃ ov, e = .returned ov ∧ LsAt w' 9 1 strC ov (onAll (passW s side l).xa (passW s side l).ya (passW s side l).m l) ∧ Below W.heap.size W w') := fun W qb hW => Onward_any _ _ _ _ _ _ qb pv l W hW hn hms hb
  have hon := onTo_len (passW s side l).xa (passW s side l).ya (passW s side l).m l l.length (Nat.le_refl _)
  rw [onTo_all] at hon
  obtain ⟨H, hH⟩ : ∃ H, H = passH s side l := ⟨_, rfl⟩
  rw [← hH]
  unfold passH at hH
  have HL : Hid (KsAt w pv l) := hl
  generalize passW s side l = IW at HRO HON hH hon
  generalize passL' s side l = IL at HRO hH
  generalize onAll IW.xa IW.ya IW.m l = outs at HON hH hon
  generalize (portsOf (wOf l).pr (wOf l).m).1 = p1 at HWH HRO
  generalize (portsOf (wOf l).pr (wOf l).m).2 = p2 at HWH HRO
  generalize decide (1 < l.length) = iq at HWH HRO
  generalize wOf l = x at HWH HRO
  have hol := hon.1
  clear hER hms hb hm hp hf0 hf1 ht0 ht1 hon hk
  have hM : Hid (GMid w w b v v s []) := GMid.start h
  clear h
  simp only [WYD.val] at HRO
  obtain ⟨ao, cap, hpv⟩ := hl.shape
  clear hl
  subst hpv
  generalize l.length = len at HL HWH HON hn hol
  go_enter Tryz.func49, Tryz.ntmps49
  go_wp2_with fail
  refine HWH.out.mono ?_
  rintro e w4 ⟨rfl, hb4⟩
  have hM1 := (hM.out.call hb4).alloc' #[.int .i64 x.pr, .int .i64 x.sr, .int .i64 p1, .int .i64 x.ds, .int .i64 p2, .string x.m, .bool iq] 106 w4.heap.size rfl
  have HL4 : Hid (KsAt (w4.alloc (.cells #[.int .i64 x.pr, .int .i64 x.sr, .int .i64 p1, .int .i64 x.ds, .int .i64 p2, .string x.m, .bool iq] 106)) (.slice ao len cap) l) := LsAt.keep (LsAt.keep HL.out hb4) ((Below.refl _ _).alloc (Nat.le_refl _) _)
  clear hM hb4
  have hM : Hid _ := hM1
  clear hM1
  go_wp2_with fail
  refine (HRO.out _ hM.out.box).mono ?_
  rintro e w5 ⟨⟨qb, rfl⟩, v5, hbx5, hch5⟩
  have HL5 : Hid (KsAt w5 (.slice ao len cap) l) := LsAt.kept HL4.out (hch5.keptT hM.out.box (by decide) (by decide))
  have hM1 := (hM.out.change hbx5 hch5).alloc' #[.int .i64 IW.what, .int .i64 IW.side, .int .i64 IW.pr, .int .i64 IW.xa, .int .i64 IW.xp, .int .i64 IW.ya, .int .i64 IW.yp, .string IW.m, .bool qb] 109 w5.heap.size rfl
  clear hM hbx5 hch5
  obtain ⟨⟨t0, t1, t2, t3, t4, t5, t6, t7, t8⟩, tf⟩ := c9g hM1.at0
  have hM : Hid _ := hM1
  clear hM1
  by_cases c5 : IW.what = 0
  · rw [if_pos c5] at hH
    subst hH
    have c5b : (IW.what != 0) = false := by simp [c5]
    clear c5
    obtain ⟨i0, hi0, hz0, hz1, hz2⟩ := info_parts info_frame
    go_wp2_with fail
    refine (HON.out _ qb (LsAt.keep (LsAt.keep HL5.out ((Below.refl _ _).alloc (Nat.le_refl _) _)) ((Below.refl _ _).alloc (Nat.le_refl _) _))).mono ?_
    rintro e w6 ⟨ov, rfl, hov, hb6⟩
    have hQ := (QMid.start (LMid.start (w5.alloc (.cells #[.int .i64 IW.what, .int .i64 IW.side, .int .i64 IW.pr, .int .i64 IW.xa, .int .i64 IW.xp, .int .i64 IW.ya, .int .i64 IW.yp, .string IW.m, .bool qb] 109))) 45 2 _ rfl).call hb6
    obtain ⟨oao, ocap, hsh⟩ := hov.shape
    subst hsh
    have HQ : Hid (QMid (w5.alloc (.cells #[.int .i64 IW.what, .int .i64 IW.side, .int .i64 IW.pr, .int .i64 IW.xa, .int .i64 IW.xp, .int .i64 IW.ya, .int .i64 IW.yp, .string IW.m, .bool qb] 109)) w6 [] 45 2 (.slice (some ⟨w5.heap.size + 1, 0, none⟩) 0 0) 0 []) := by show QMid _ _ _ _ _ _ _ _; simpa using hQ
    have HOV : Hid (LsAt w6 9 1 strC (.slice oao len ocap) outs) := by rw [← hol]; exact hov
    have HOL : Hid (outs.length = len) := hol
    rw [hol]
    clear hQ hb6 hov hol t0 t1 t2 t3 t4 t5 t6 t7 t8 tf
    go_wp2_with fail
    go_loopw [10, 30] (fun lst i wr => ∃ (k : Nat) (lv : Value), k ≤ len ∧ i = .int .i64 k ∧ lv = lst ∧ QMid (w5.alloc (.cells #[.int .i64 IW.what, .int .i64 IW.side, .int .i64 IW.pr, .int .i64 IW.xa, .int .i64 IW.xp, .int .i64 IW.ya, .int .i64 IW.yp, .string IW.m, .bool qb] 109)) wr [] 45 2 lv k (((outs.take k).map (fun r => (IW.side, r))).flatMap frC) ∧ LsAt wr 9 1 strC (.slice oao len ocap) outs) (fun _ i _ => len - (intOf i).toNat)
    case atStart => exact ⟨0, _, Nat.zero_le _, rfl, rfl, HQ.out, HOV.out⟩
    case round =>
      obtain ⟨k, lv, hk, rfl, rfl, hQ, hov⟩ := hrel
      by_cases hlt : k < len
      · have hlo : k < outs.length := by have := HOL.out; omega
        obtain ⟨g, cp, hv, hg, q0⟩ := str1 hov k hlo
        simp at hv
        obtain ⟨rfl, -, rfl⟩ := hv
        obtain ⟨⟨t0, t1, t2, t3, t4, t5, t6, t7, t8⟩, tf⟩ := c9g (hM.out.call hQ.mid.bl).at0
        have n0 := lt_of_block (hM.out.call hQ.mid.bl).at0
        have HTK : Hid (((outs.take (k + 1)).map (fun r => (IW.side, r))).flatMap frC = ((outs.take k).map (fun r => (IW.side, r))).flatMap frC ++ [.int .i64 IW.side, .string outs[k]]) := by
          show _ = _
          rw [List.take_succ_eq_append_getElem hlo, List.map_append, List.flatMap_append]
          rfl
        generalize outs[k] = o at q0 HTK
        have HQ2 : Hid (QMid (w5.alloc (.cells #[.int .i64 IW.what, .int .i64 IW.side, .int .i64 IW.pr, .int .i64 IW.xa, .int .i64 IW.xp, .int .i64 IW.ya, .int .i64 IW.yp, .string IW.m, .bool qb] 109)) wr [] 45 2 lv k (((outs.take k).map (fun r => (IW.side, r))).flatMap frC)) := hQ
        have HOV2 : Hid (LsAt wr 9 1 strC (.slice (some ⟨g, 0, none⟩) len ocap) outs) := hov
        have hsw := hQ.mid.bl.size
        clear hQ hov
        generalize ((outs.take k).map (fun r => (IW.side, r))).flatMap frC = F at HQ2 HTK
        have hkI : (0 : Int) ≤ (k : Int) := by omega
        have hkL : (k : Int) < (len : Int) := by omega
        simp at hsw
        go_wp2_with (at_builtin; refine wpList_append_lies _ rfl (.tmp 34) (.tmp 39) 40 rfl (w5.heap.size + 1) 45 i0 _ 2 24 Tryz.underlying40 hi0 hz0 hz1 hz2 rfl (by decide) lv k F rfl (by simpa using HQ2.out.own.alloc _) ⟨wr.heap.size, 0, none⟩ 1 1 [.int .i64 IW.side, .string o] rfl rfl (by exact World.news_of_block (B := wr.heap.size) (by rw [hget_alloc, if_pos rfl])) (by intro u hu; simp at hu; rcases hu with rfl | rfl <;> rfl) (by decide) (by unfold maxLen; omega) (by omega) (by simp; omega) (wr.heap.size + 1) (by simp) ?_; intro g4 cap4 w7 hown hgrow hat hlt4; have hQ1 := HQ2.out.call ((Below.refl _ _).alloc (Nat.le_refl _) (.cells #[.int .i64 IW.side, .string o] 45)); have hov1 := LsAt.kept (LsAt.keep HOV2.out ((Below.refl _ _).alloc (Nat.le_refl _) (.cells #[.int .i64 IW.side, .string o] 45))) (KeptT.row hQ1.own hgrow (by decide)); have hQ2 := hQ1.app hgrow (by simpa using hown) _ hat (by simp); clear HQ2 HOV2 hown hgrow hat hlt4 hQ1; have HQ2 : Hid _ := hQ2; have HOV2 : Hid _ := hov1; clear hQ2 hov1)
        go_roundw
        case rel => exact ⟨k + 1, _, by omega, by go_num, rfl, by rw [HTK.out]; exact HQ2.out, HOV2.out⟩
        case measure => simp [intOf]; omega
      · have e : k = len := by omega
        have HFR : Hid (FrsAt wr lv (outs.map (fun r => (IW.side, r)))) := by
          have h1 := hQ.own
          rw [List.take_of_length_le (by have := HOL.out; omega)] at h1
          have h2 : k = (outs.map (fun r => (IW.side, r))).length := by rw [List.length_map, HOL.out, e]
          rw [h2] at h1
          exact LsAt.of_owns frC_len h1
        have hM1 := hM.out.call hQ.mid.bl
        clear hM
        have hM : Hid _ := hM1
        clear hM1 hQ hov
        go_wp2_with fail
        go_ret2
        exact ⟨_, rfl, HFR.out, v5, hM.out.box, hM.out.chg⟩
  · rw [if_neg c5] at hH
    subst hH
    have c5b : (IW.what != 0) = true := by simp [c5]
    clear c5
    go_wp2_with fail
    go_ret2
    exact ⟨_, rfl, LsAt.nil, v5, hM.out.box, hM.out.chg⟩
end Go.Proofs.YtfkjobiapjhacabGreat
/- Pieces, purely; what becomes of a packet. Own work. -/
namespace Go.Proofs.YtfkjobiapjhacabGreat
open Go.RowKit

def endI (p : KP) : Int := placeI p.h + p.b.size
/-- Is the datagram that of a piece? -/
def nameB (side : Int) (p : KP) (d : PD) : Bool := d.sd == side && d.sr == p.sr && d.ds == p.ds && d.pr == p.pr && d.nu == wordAt p.h 4
def pd0 : PD := ⟨0, 0, 0, 0, 0, false, 0, []⟩
def likeB (p h : KP) : Bool := (placeI h.h == placeI p.h) && (moreB h.h == moreB p.h) && (h.b == p.b)
def hasP (held : List KP) (p : KP) : Bool := held.any (likeB p)
def overB (p q : KP) : Bool := decide (placeI p.h < endI q) && decide (placeI q.h < endI p)
def beyondB (q p : KP) : Bool := !moreB q.h && decide (endI q < endI p)
def clashB (held : List KP) (p : KP) : Bool := (decide (0 < held.length) && decide (65535 < endI p)) || held.any (fun h => overB h p || beyondB h p || beyondB p h)
def costK (p : KP) : Int := p.b.size + 16
def costD (held : List KP) : Int := (held.map costK).sum
def heldAll (wl : List PD) : Int := (wl.map (fun d => costD d.held)).sum
def heldOf (wl : List PD) (src : Int) : Int := (wl.map (fun d => if d.sr = src then costD d.held else 0)).sum
def muchB (wl : List PD) (p : KP) (ps gl : Int) : Bool := decide (ps < heldOf wl p.sr + costK p) || decide (gl < heldAll wl + costK p)
/-- What speaks against holding a piece; 0: nothing. -/
def faultP (wl : List PD) (d : PD) (p : KP) (ps gl : Int) : Int :=
  if d.gu = true then 8 else if hasP d.held p = true then 10 else if clashB d.held p = true then 9 else if 6 ≤ d.held.length then 12
  else if muchB wl p ps gl = true then 11 else if d.held.length = 0 ∧ 4 ≤ wl.length then 12 else if 65535 < endI p then 9 else 0
/-- Something laid down among others, by its place. -/
def layStep {α : Type} (bef : α → α → Bool) (n : α) (a : List α × Bool) (d : α) : List α × Bool := if a.2 = false ∧ bef n d = true then (a.1 ++ [n] ++ [d], true) else (a.1 ++ [d], a.2)
def layTo {α : Type} (bef : α → α → Bool) (n : α) (l : List α) (k : Nat) : List α × Bool := (l.take k).foldl (layStep bef n) ([], false)
def layL {α : Type} (bef : α → α → Bool) (n : α) (l : List α) : List α := if (layTo bef n l l.length).2 = true then (layTo bef n l l.length).1 else (layTo bef n l l.length).1 ++ [n]
def befP (n d : PD) : Bool :=
  if ¬ n.sd = d.sd then decide (n.sd < d.sd) else if ¬ n.sr = d.sr then decide (n.sr < d.sr) else if ¬ n.ds = d.ds then decide (n.ds < d.ds) else if ¬ n.pr = d.pr then decide (n.pr < d.pr) else decide (n.nu < d.nu)
def befK (p h : KP) : Bool := decide (placeI p.h < placeI h.h)
def withP (held : List KP) (p : KP) : List KP := layL befK p held
/-- The known end, and how many bytes are there. -/
def whStep (a : Int × Int) (p : KP) : Int × Int := (if moreB p.h = true then a.1 else endI p, a.2 + p.b.size)
def wholeB (held : List KP) : Bool := decide (0 < (held.foldl whStep (0, 0)).1) && ((held.foldl whStep (0, 0)).2 == (held.foldl whStep (0, 0)).1)
def dropP (wl : List PD) (side : Int) (p : KP) : List PD := wl.filter (fun d => !nameB side p d)
structure TKR where
  what : Int
  pk : List KP
  wl : List PD
def foundP (wl : List PD) (side : Int) (p : KP) : PD := (wl.find? (nameB side p)).getD pd0
def freshD (side : Int) (p : KP) (gu : Bool) (dl : Int) : PD := ⟨side, p.sr, p.ds, p.pr, wordAt p.h 4, gu, dl, []⟩
/-- What is held of a piece's datagram, and it. -/
def growD (wl : List PD) (side : Int) (p : KP) (tm : Int) : PD :=
  { (if (foundP wl side p).held.length = 0 then freshD side p false (tm + 6) else foundP wl side p) with held := withP (foundP wl side p).held p }
def takeP (wl : List PD) (side : Int) (p : KP) (ps gl tm : Int) : TKR :=
  if faultP wl (foundP wl side p) p ps gl = 9 then ⟨9, [], layL befP (freshD side p true (tm + 6)) (dropP wl side p)⟩
  else if ¬ faultP wl (foundP wl side p) p ps gl = 0 then ⟨faultP wl (foundP wl side p) p ps gl, [], wl⟩
  else if wholeB (withP (foundP wl side p).held p) = true then ⟨0, withP (foundP wl side p).held p, dropP wl side p⟩
  else ⟨1, [], layL befP (growD wl side p tm) (dropP wl side p)⟩

/-- A packet that was read. -/
def pkOf (raw : ByteArray) : KP := ⟨raw.extract 0 20, addrAt raw 12, addrAt raw 16, byteAt raw 9, raw.extract 20 raw.size⟩
def tookH (s : BX) (side : Int) (t : TKR) : HG := if t.what = 0 then passH { s with wl := t.wl } side t.pk else ⟨t.what, [], s.l, t.wl⟩
/-- What becomes of a packet. -/
def handG (s : BX) (side : Int) (raw : ByteArray) : HG :=
  if ¬ side = 0 ∧ ¬ side = 1 then ⟨2, [], s.l, s.wl⟩
  else if ¬ rFault raw = 0 then ⟨rFault raw, [], s.l, s.wl⟩
  else if mayB s side (addrAt raw 12) (addrAt raw 16) = false then ⟨6, [], s.l, s.wl⟩
  else if ¬ (byteAt raw 9 = 1 ∨ byteAt raw 9 = 6 ∨ byteAt raw 9 = 17) then ⟨7, [], s.l, s.wl⟩
  else if pieceB (raw.extract 0 20) = true then tookH s side (takeP s.wl side (pkOf raw) s.ps s.gl s.tm)
  else passH s side [pkOf raw]
/-- A packet that may come to the pieces. -/
structure PKok (p : KP) : Prop where
  h20 : p.h.size = 20
  b0 : 1 ≤ p.b.size
  b1 : p.b.size ≤ 140
  pr : p.pr = 1 ∨ p.pr = 6 ∨ p.pr = 17
  s0 : 0 ≤ p.sr
  s1 : p.sr ≤ 4294967295
  d0 : 0 ≤ p.ds
  d1 : p.ds ≤ 4294967295
  mb : moreB p.h = true → p.b.size % 8 = 0
/-- Packets that may be passed on together. -/
structure PLok (l : List KP) : Prop where
  n : l.length ≤ 1000
  b : ∀ p ∈ l, p.h.size = 20 ∧ p.b.size ≤ 1000
  m : (wOf l).m.size ≤ 900
  pr : (wOf l).pr = 1 ∨ (wOf l).pr = 6 ∨ (wOf l).pr = 17
  s0 : 0 ≤ (wOf l).sr
  s1 : (wOf l).sr ≤ 4294967295
  d0 : 0 ≤ (wOf l).ds
  d1 : (wOf l).ds ≤ 4294967295
/-- What is asked of Take at a box. -/
def TkOK (b : Nat) (s : BX) : Prop := ∀ (side : Int) (p : KP), PKok p → pieceB p.h = true →
  ((takeP s.wl side p s.ps s.gl s.tm).what = 0 → PLok (takeP s.wl side p s.ps s.gl s.tm).pk) ∧ ∀ v W, BoxAt W b v s → Calls Tryz.prog 50 #[.pointer (some ⟨b, 27, none⟩), .int .i64 side, .agg #[.string p.h, .int .i64 p.sr, .int .i64 p.ds, .int .i64 p.pr, .string p.b], .agg #[.int .i64 s.ou, .int .i64 s.ne, .int .i64 s.bi, .int .i64 s.lo, .int .i64 s.hi, .int .i64 s.ps, .int .i64 s.gl], .int .i64 s.tm] W
    fun e w' => ∃ pv, e = .returned (.tuple #[.int .i64 (takeP s.wl side p s.ps s.gl s.tm).what, pv]) ∧ KsAt w' pv (takeP s.wl side p s.ps s.gl s.tm).pk ∧ BoxAt w' b v { s with wl := (takeP s.wl side p s.ps s.gl s.tm).wl } ∧ Chg b v W w' v
theorem PLok.one {p : KP} (h : PKok p) : PLok [p] := by
  have e : wOf [p] = ⟨p.pr, p.sr, p.ds, ⟨#[]⟩ ++ p.b⟩ := rfl
  have hb := h.b1
  refine ⟨by simp, ?_, ?_, ?_, ?_, ?_, ?_, ?_⟩
  · intro q hq
    simp at hq
    subst hq
    exact ⟨h.h20, by omega⟩
  · rw [e]
    show (⟨#[]⟩ ++ p.b).size ≤ 900
    rw [ByteArray.size_append]
    have : (⟨#[]⟩ : ByteArray).size = 0 := rfl
    omega
  · rw [e]; exact h.pr
  · rw [e]; exact h.s0
  · rw [e]; exact h.s1
  · rw [e]; exact h.d0
  · rw [e]; exact h.d1
end Go.Proofs.YtfkjobiapjhacabGreat
