/- Contracts of package gateway: route. Own work. -/
import Derived.Test.YtfkjobiapjhacabGreatGwH
import Derived.Test.YtfkjobiapjhacabGreatGwJ
namespace Go.Proofs.YtfkjobiapjhacabGreat
open Go.RowKit
attribute [local go_sem ↓] Go.wp_at_zero Go.wp_at_succ

def outsW (s : BX) (pr : Int) (m : ByteArray) (fa fp tp : Int) : WYD := match innerI pr tp s.l with
  | none => ⟨16, 0, 0, 0, 0, 0, 0, ⟨#[]⟩⟩
  | some x => if hasS pr x.ia x.ip fa fp s.l = true then ⟨0, 0, pr, fa, fp, x.ia, x.ip, btwM pr m fa fp x.ia x.ip⟩ else ⟨16, 0, 0, 0, 0, 0, 0, ⟨#[]⟩⟩
theorem outsV_eq (s : BX) (pr : Int) (m : ByteArray) (fa fp tp : Int) (iq : Bool) : ∃ qb, outsV s pr m fa fp tp iq = (outsW s pr m fa fp tp).val qb := by
  unfold outsV outsW
  rcases innerI pr tp s.l with _ | x
  · exact ⟨false, rfl⟩
  · simp only
    split
    · exact ⟨iq, rfl⟩
    · exact ⟨false, rfl⟩
def turnW (s : BX) (pr : Int) (m : ByteArray) (xa xp ya yp : Int) : WYD := if hasS pr ya yp xa xp s.l = true then ⟨0, 0, pr, xa, xp, ya, yp, btwM pr m xa xp ya yp⟩ else ⟨17, 0, 0, 0, 0, 0, 0, ⟨#[]⟩⟩
theorem turnV_eq (s : BX) (pr : Int) (m : ByteArray) (xa xp ya yp : Int) (iq : Bool) : ∃ qb, turnV s pr m xa xp ya yp iq = (turnW s pr m xa xp ya yp).val qb := by
  unfold turnV turnW
  split
  · exact ⟨iq, rfl⟩
  · exact ⟨false, rfl⟩
def insW (s : BX) (pr : Int) (m : ByteArray) (fa fp ta tp : Int) : WYD :=
  if ta = s.ou ∧ (innE pr tp s.l).1 = false then ⟨16, 0, 0, 0, 0, 0, 0, ⟨#[]⟩⟩
  else if ¬ askW s pr fa fp ta tp (byteAt m 13) = 0 then ⟨askW s pr fa fp ta tp (byteAt m 13), 0, 0, 0, 0, 0, 0, ⟨#[]⟩⟩
  else if ta = s.ou then turnW { s with l := insL s pr m fa fp ta tp } pr m s.ou (insP s pr m fa fp ta tp) (innE pr tp s.l).2.1 (innE pr tp s.l).2.2
  else ⟨0, 1, pr, s.ou, insP s pr m fa fp ta tp, ta, tp, btwM pr m s.ou (insP s pr m fa fp ta tp) ta tp⟩
theorem insV_eq (s : BX) (pr : Int) (m : ByteArray) (fa fp ta tp : Int) (iq : Bool) : ∃ qb, insV s pr m fa fp ta tp iq = (insW s pr m fa fp ta tp).val qb := by
  unfold insV insW
  split
  · exact ⟨false, rfl⟩
  · split
    · exact ⟨false, rfl⟩
    · split
      · exact turnV_eq _ _ _ _ _ _ _ _
      · exact ⟨iq, rfl⟩
/-! An ICMP error, and the packet that it is about. -/
/-- The packet that an error tells of. -/
def abR (m : ByteArray) : ByteArray := m.extract 8 m.size
def abH (m : ByteArray) : ByteArray := (abR m).extract 0 20
def abB (m : ByteArray) : ByteArray := (abR m).extract 20 (abR m).size
/-- May an error be about it? -/
def abOK (m : ByteArray) : Bool := decide (36 ≤ m.size) && (byteAt (abH m) 0 == 69) && (sumI (abH m) == 65535) && ((byteAt (abR m) 9 == 1) || (byteAt (abR m) 9 == 6) || (byteAt (abR m) 9 == 17)) && (bits .and .i64 (wordAt (abH m) 6) 8191 == 0)
/-- A word at a place, where there is such a place. -/
def putW (s : ByteArray) (i : Nat) (v : Int) : ByteArray := if i + 2 ≤ s.size then putWord s i v else s
def endChg (a p b q : Int) : Int := 196605 - (a / 65536 + a % 65536) - p + (b / 65536 + b % 65536) + q
def chgI (pr fa fp ta tp : Int) (m o : ByteArray) (xa xp ya yp : Int) : Int := if pr = 1 then 65535 - wordAt m 4 + wordAt o 4 else endChg fa fp xa xp + endChg ta tp ya yp
/-- A message that may be cut, between other ends. -/
def shiftM (pr fa fp ta tp : Int) (m : ByteArray) (xa xp ya yp : Int) : ByteArray :=
  if hasSumB pr m = false then portM pr m xp yp
  else putW (portM pr m xp yp) (sumAtI pr) (ckI pr (foldI (65535 - wordAt m (sumAtI pr : Nat) + chgI pr fa fp ta tp m (portM pr m xp yp) xa xp ya yp)))
/-- An error's message, with the packet in it between other ends. -/
def retM (m : ByteArray) (src dst xa xp ya yp : Int) : ByteArray :=
  sealM 1 src dst (m.extract 0 8 ++ addrHead (abH m) xa ya ++ shiftM (byteAt (abR m) 9) (addrAt (abR m) 12) (portsOf (byteAt (abR m) 9) (abB m)).1 (addrAt (abR m) 16) (portsOf (byteAt (abR m) 9) (abB m)).2 (abB m) xa xp ya yp)
def noW (k : Int) : WYD := ⟨k, 0, 0, 0, 0, 0, 0, ⟨#[]⟩⟩
/-- What becomes of an error about a packet of protocol q between these ends. -/
def trOut (s : BX) (pr fa fp tp q aa ap ba bp : Int) (m : ByteArray) : WYD :=
  if q = 1 ∧ ¬ byteAt (abB m) 0 = 8 then noW 16
  else match innerI q ap s.l with
    | none => noW 16
    | some x => if ¬ aa = s.ou ∨ hasS q x.ia x.ip ba bp s.l = false then noW 16 else ⟨0, 0, pr, fa, fp, x.ia, tp, retM m fa x.ia x.ia x.ip ba bp⟩
def trIn (s : BX) (pr fp ta tp q aa ap ba bp : Int) (m : ByteArray) : WYD :=
  if q = 1 ∧ ¬ byteAt (abB m) 0 = 0 then noW 16
  else if ta = s.ou ∨ hasS q ba bp aa ap s.l = false then noW 16
  else ⟨0, 1, pr, s.ou, fp, ta, tp, retM m s.ou ta aa ap s.ou (outerI q ba bp s.l)⟩
def trW (s : BX) (side pr fa fp ta tp : Int) (m : ByteArray) : WYD :=
  if abOK m = false then noW 13
  else if side = 0 then trIn s pr fp ta tp (byteAt (abR m) 9) (addrAt (abR m) 12) (portsOf (byteAt (abR m) 9) (abB m)).1 (addrAt (abR m) 16) (portsOf (byteAt (abR m) 9) (abB m)).2 m
  else trOut s pr fa fp tp (byteAt (abR m) 9) (addrAt (abR m) 12) (portsOf (byteAt (abR m) 9) (abB m)).1 (addrAt (abR m) 16) (portsOf (byteAt (abR m) 9) (abB m)).2 m
def routeW (s : BX) (side pr fa fp ta tp : Int) (m : ByteArray) : WYD :=
  if ¬ dFault pr fa fp ta tp m = 0 then ⟨dFault pr fa fp ta tp m, 0, 0, 0, 0, 0, 0, ⟨#[]⟩⟩
  else if errB pr m = true then trW s side pr fa fp ta tp m
  else if (pr = 1 ∧ ¬ eFault s.ou side pr ta m = 0) then ⟨eFault s.ou side pr ta m, 0, 0, 0, 0, 0, 0, ⟨#[]⟩⟩
  else if side = 0 then insW s pr m fa fp ta tp else outsW s pr m fa fp tp
/-- The same, of a message that came in pieces or in one. -/
def routeG (s : BX) (side pr fa fp ta tp : Int) (m : ByteArray) (iq : Bool) : WYD :=
  if iq = true ∧ errB pr m = true ∧ dFault pr fa fp ta tp m = 0 then noW 13 else routeW s side pr fa fp ta tp m
def routeL (s : BX) (side pr fa fp ta tp : Int) (m : ByteArray) : List SD :=
  if ¬ dFault pr fa fp ta tp m = 0 then s.l
  else if errB pr m = true then s.l
  else if (pr = 1 ∧ ¬ eFault s.ou side pr ta m = 0) then s.l
  else if side = 0 then insF s pr m fa fp ta tp else outsL s pr m fa fp tp
/-- What holds of every box. -/
structure OKB (s : BX) : Prop where
  n0 : 0 ≤ s.ne
  n1 : s.ne ≤ 4294967296
  o0 : 0 ≤ s.ou
  o1 : s.ou ≤ 4294967295
  l0 : 0 ≤ s.lo
  l1 : s.lo ≤ s.hi
  l2 : s.hi ≤ 100000
  t0 : 0 ≤ s.tm
  t1 : s.tm ≤ 1000000000000000
  len : s.l.length ≤ 100
  ia : ∀ x ∈ s.l, 0 ≤ x.ia ∧ x.ia ≤ 4294967295
theorem formed_room {pr fa fp ta tp : Int} {m : ByteArray} (h : dFault pr fa fp ta tp m = 0) (h2 : pr = 1 ∨ pr = 6 ∨ pr = 17) : sumAtI pr + 2 ≤ m.size ∧ 6 ≤ m.size := by
  unfold dFault at h
  split at h
  · omega
  · rename_i hf
    have hf' : formedB pr fp tp m = true := by simpa using hf
    unfold formedB at hf'
    by_cases h1 : pr = 1
    · rw [if_pos h1] at hf'
      subst h1
      simp at hf'
      have : sumAtI 1 = 2 := rfl
      rw [this]
      omega
    · rw [if_neg h1] at hf'
      split at hf'
      · simp at hf'
      · rcases h2 with h2 | h2 | h2
        · exact absurd h2 h1
        · subst h2
          simp at hf'
          have : sumAtI 6 = 16 := rfl
          rw [this]
          have := hf'.1
          have := hf'.2
          omega
        · subst h2
          simp at hf'
          have : sumAtI 17 = 6 := rfl
          rw [this]
          omega
set_option maxRecDepth 100000 in
set_option maxHeartbeats 1000000 in
theorem route_any {w : World} {b : Nat} {v : Value} {s : BX} (h : BoxAt w b v s) (hk : OKB s) (side : Int) (pr fa fp ta tp : Int) (m : ByteArray) (iq : Bool) (hm : m.size ≤ 1000) (hp : pr = 1 ∨ pr = 6 ∨ pr = 17) (hf0 : 0 ≤ fa) (hf1 : fa ≤ 4294967295) (ht0 : 0 ≤ ta) (ht1 : ta ≤ 4294967295)
    (hTR : errB pr m = false ∨ (dFault pr fa fp ta tp m = 0 → ∀ W, BoxAt W b v s → Calls Tryz.prog 79 #[.pointer (some ⟨b, 0, none⟩), .int .i64 side, .agg #[.int .i64 pr, .int .i64 fa, .int .i64 fp, .int .i64 ta, .int .i64 tp, .string m, .bool iq]] W fun e w' => (∃ qb, e = .returned ((if iq = true then noW 13 else trW s side pr fa fp ta tp m).val qb)) ∧ BoxAt w' b v s ∧ Chg b v W w' v)) :
    Calls Tryz.prog 61 #[.pointer (some ⟨b, 0, none⟩), .int .i64 side, .agg #[.int .i64 pr, .int .i64 fa, .int .i64 fp, .int .i64 ta, .int .i64 tp, .string m, .bool iq]] w fun e w' => (∃ qb, e = .returned ((routeG s side pr fa fp ta tp m iq).val qb)) ∧ ∃ v', BoxAt w' b v' { s with l := routeL s side pr fa fp ta tp m } ∧ Chg b v w w' v' := by
  have hp0 : 0 ≤ pr := by omega
  have hp1 : pr ≤ 255 := by omega
  have HFA : Hid (∀ W, Calls Tryz.prog 77 #[.agg #[.int .i64 pr, .int .i64 fa, .int .i64 fp, .int .i64 ta, .int .i64 tp, .string m, .bool iq]] W fun e w' => e = .returned (.int .i64 (dFault pr fa fp ta tp m)) ∧ Below W.heap.size W w') := fun W => dFault_any pr fa fp ta tp m iq W hm hp0 hp1 hf0 hf1 ht0 ht1
  have HER : Hid (∀ W, Calls Tryz.prog 78 #[.agg #[.int .i64 pr, .int .i64 fa, .int .i64 fp, .int .i64 ta, .int .i64 tp, .string m, .bool iq]] W fun e w' => e = .returned (.bool (errB pr m)) ∧ Below W.heap.size W w') := fun W => IsError_any pr fa fp ta tp m iq W
  have HEF : Hid (∀ W, BoxAt W b v s → Calls Tryz.prog 80 #[.pointer (some ⟨b, 0, none⟩), .int .i64 side, .agg #[.int .i64 pr, .int .i64 fa, .int .i64 fp, .int .i64 ta, .int .i64 tp, .string m, .bool iq]] W fun e w' => e = .returned (.int .i64 (eFault s.ou side pr ta m)) ∧ BoxAt w' b v s ∧ Chg b v W w' v) := fun W hW => echoFault_any hW side pr fa fp ta tp m iq
  have HIN : Hid (dFault pr fa fp ta tp m = 0 → ∀ W, BoxAt W b v s → Calls Tryz.prog 81 #[.pointer (some ⟨b, 0, none⟩), .agg #[.int .i64 pr, .int .i64 fa, .int .i64 fp, .int .i64 ta, .int .i64 tp, .string m, .bool iq]] W fun e w' => (∃ qb, e = .returned ((insW s pr m fa fp ta tp).val qb)) ∧ ∃ v', BoxAt w' b v' { s with l := insF s pr m fa fp ta tp } ∧ Chg b v W w' v') := fun h2 W hW => by
    obtain ⟨r1, r2⟩ := formed_room h2 hp
    obtain ⟨qb, hq⟩ := insV_eq s pr m fa fp ta tp iq
    refine (fromInside_any hW (by have := hk.len; omega) pr fa fp ta tp m iq hk.l0 hk.l1 hk.l2 hk.t0 hk.t1 hm r1 r2 hp0 hp1 hk.o0 hk.o1 hk.ia ht0 ht1 hk.len).mono ?_
    rintro e w' ⟨h1, h3⟩
    exact ⟨⟨qb, by rw [← hq]; exact h1⟩, h3⟩
  have HOU : Hid (dFault pr fa fp ta tp m = 0 → ∀ W, BoxAt W b v s → Calls Tryz.prog 82 #[.pointer (some ⟨b, 0, none⟩), .agg #[.int .i64 pr, .int .i64 fa, .int .i64 fp, .int .i64 ta, .int .i64 tp, .string m, .bool iq]] W fun e w' => (∃ qb, e = .returned ((outsW s pr m fa fp tp).val qb)) ∧ ∃ v', BoxAt w' b v' { s with l := outsL s pr m fa fp tp } ∧ Chg b v W w' v') := fun h2 W hW => by
    obtain ⟨r1, r2⟩ := formed_room h2 hp
    obtain ⟨qb, hq⟩ := outsV_eq s pr m fa fp tp iq
    refine (fromOutside_any hW (by have := hk.len; omega) hk.ia hk.t0 hk.t1 pr fa fp ta tp m iq hm r1 r2 hp0 hp1 hf0 hf1).mono ?_
    rintro e w' ⟨h1, h2, h3⟩
    exact ⟨⟨qb, by rw [← hq]; exact h1⟩, v, h2, h3⟩
  have HTR : Hid (errB pr m = true → dFault pr fa fp ta tp m = 0 → ∀ W, BoxAt W b v s → Calls Tryz.prog 79 #[.pointer (some ⟨b, 0, none⟩), .int .i64 side, .agg #[.int .i64 pr, .int .i64 fa, .int .i64 fp, .int .i64 ta, .int .i64 tp, .string m, .bool iq]] W fun e w' => (∃ qb, e = .returned ((if iq = true then noW 13 else trW s side pr fa fp ta tp m).val qb)) ∧ BoxAt w' b v s ∧ Chg b v W w' v) := fun h1 h2 => by
    rcases hTR with h3 | h3
    · rw [h3] at h1; exact absurd h1 (by decide)
    · exact h3 h2
  clear hTR
  obtain ⟨IW, HW0⟩ : ∃ IW, IW = routeG s side pr fa fp ta tp m iq := ⟨_, rfl⟩
  obtain ⟨IF, HF0⟩ : ∃ IF, IF = routeL s side pr fa fp ta tp m := ⟨_, rfl⟩
  rw [← HW0, ← HF0]
  unfold routeG routeW at HW0
  unfold routeL at HF0
  clear hf0 hf1 ht0 ht1 hp0 hp1 hp hk hm
  generalize dFault pr fa fp ta tp m = FA at HFA HIN HOU HTR HW0 HF0
  generalize insW s pr m fa fp ta tp = IN at HIN HW0
  generalize outsW s pr m fa fp tp = OU at HOU HW0
  generalize insF s pr m fa fp ta tp = INF at HIN HF0
  generalize outsL s pr m fa fp tp = OUF at HOU HF0
  generalize eFault s.ou side pr ta m = EF at HEF HW0 HF0
  generalize errB pr m = ER at HER HTR HW0 HF0
  generalize trW s side pr fa fp ta tp m = TR at HTR HW0
  generalize noW 13 = N13 at HTR HW0
  have hM1 : GMid w ((w.alloc (.cells #[.int .i64 pr, .int .i64 fa, .int .i64 fp, .int .i64 ta, .int .i64 tp, .string m, .bool iq] 106)).alloc (.cells #[.int .i64 0, .int .i64 0, .int .i64 0, .int .i64 0, .int .i64 0, .int .i64 0, .int .i64 0, .string ⟨#[]⟩, .bool false] 109)) b v v s [(w.heap.size + 1, #[.int .i64 0, .int .i64 0, .int .i64 0, .int .i64 0, .int .i64 0, .int .i64 0, .int .i64 0, .string ⟨#[]⟩, .bool false], 109), (w.heap.size, #[.int .i64 pr, .int .i64 fa, .int .i64 fp, .int .i64 ta, .int .i64 tp, .string m, .bool iq], 106)] := (((GMid.start h).alloc' _ _ _ rfl).alloc' _ _ _ (by simp))
  have hlt := h.lt
  clear h
  obtain ⟨⟨z0, z1, z2, z3, z4, z5, z6, z7, z8⟩, zf⟩ := c9g hM1.at0; obtain ⟨⟨d0, d1, d2, d3, d4, d5, d6⟩, df⟩ := c7 hM1.at1
  have hM : Hid _ := hM1
  clear hM1
  by_cases c1 : FA = 0
  · have c1b : (FA != 0) = false := by simp [c1]
    have hn1 : ¬ ¬ FA = 0 := by simp [c1]
    rw [if_neg hn1] at HF0
    by_cases cE : ER = true
    · rw [if_pos cE] at HF0
      rw [if_neg hn1, if_pos cE] at HW0
      have HW1 : IW = if iq = true then N13 else TR := by
        rw [HW0]
        by_cases hq : iq = true
        · rw [if_pos ⟨hq, cE, c1⟩, if_pos hq]
        · rw [if_neg (fun h => hq h.1), if_neg hq]
      clear HW0
      rename IW = _ => HW0
      have HI : Hid (∀ W, BoxAt W b v s → Calls Tryz.prog 79 #[.pointer (some ⟨b, 0, none⟩), .int .i64 side, .agg #[.int .i64 pr, .int .i64 fa, .int .i64 fp, .int .i64 ta, .int .i64 tp, .string m, .bool iq]] W fun e w' => ∃ qb, e = .returned (.agg #[.int .i64 IW.what, .int .i64 IW.side, .int .i64 IW.pr, .int .i64 IW.xa, .int .i64 IW.xp, .int .i64 IW.ya, .int .i64 IW.yp, .string IW.m, .bool qb]) ∧ BoxAt w' b v s ∧ Chg b v W w' v) := by
        have := HTR.out cE c1
        rw [← HW0] at this
        exact fun W hW => (this W hW).mono (fun e w' h => by obtain ⟨⟨qb, h1⟩, h2⟩ := h; exact ⟨qb, h1, h2⟩)
      have HF : Hid (IF = s.l) := HF0
      clear HW0 HF0 c1 HIN HOU HTR HEF
      rw [cE] at HER
      clear cE
      go_enter Tryz.func61, Tryz.ntmps61
      go_wp2_with (first | (go_at_call 77; refine (HFA.out _).mono ?_; rintro e w1 ⟨rfl, hb1⟩; have hM1 := hM.out.call hb1; clear hM hb1; clear z0 z1 z2 z3 z4 z5 z6 z7 z8 zf d0 d1 d2 d3 d4 d5 d6 df; obtain ⟨⟨z0, z1, z2, z3, z4, z5, z6, z7, z8⟩, zf⟩ := c9g hM1.at0; obtain ⟨⟨d0, d1, d2, d3, d4, d5, d6⟩, df⟩ := c7 hM1.at1; have hM : Hid _ := hM1; clear hM1) | (go_at_call 78; refine (HER.out _).mono ?_; rintro e w1 ⟨rfl, hb1⟩; have hM1 := hM.out.call hb1; clear hM hb1; clear z0 z1 z2 z3 z4 z5 z6 z7 z8 zf d0 d1 d2 d3 d4 d5 d6 df; obtain ⟨⟨z0, z1, z2, z3, z4, z5, z6, z7, z8⟩, zf⟩ := c9g hM1.at0; obtain ⟨⟨d0, d1, d2, d3, d4, d5, d6⟩, df⟩ := c7 hM1.at1; have hM : Hid _ := hM1; clear hM1) | (go_at_call 79; refine (HI.out _ hM.out.box).mono ?_; rintro e w2 ⟨qb, rfl, hbx2, hch2⟩; have hM1 := hM.out.change hbx2 hch2; clear hM hbx2 hch2; clear z0 z1 z2 z3 z4 z5 z6 z7 z8 zf d0 d1 d2 d3 d4 d5 d6 df; obtain ⟨⟨z0, z1, z2, z3, z4, z5, z6, z7, z8⟩, zf⟩ := c9g hM1.at0; obtain ⟨⟨d0, d1, d2, d3, d4, d5, d6⟩, df⟩ := c7 hM1.at1; have hM : Hid _ := hM1; clear hM1))
      refine bodyPost_ret (v := .agg #[.int .i64 IW.what, .int .i64 IW.side, .int .i64 IW.pr, .int .i64 IW.xa, .int .i64 IW.xp, .int .i64 IW.ya, .int .i64 IW.yp, .string IW.m, .bool qb]) (by simp [results, Tryz.results61, go_sem, z0, z1, z2, z3, z4, z5, z6, z7, z8]) rfl ⟨⟨qb, rfl⟩, ?_⟩
      have hE := ((((((((hM.out.set0 0 (.int .i64 IW.what)).set0 1 (.int .i64 IW.side)).set0 2 (.int .i64 IW.pr)).set0 3 (.int .i64 IW.xa)).set0 4 (.int .i64 IW.xp)).set0 5 (.int .i64 IW.ya)).set0 6 (.int .i64 IW.yp)).set0 7 (.string IW.m)).set0 8 (.bool qb)
      rw [HF.out]
      exact ⟨_, hE.box, hE.chg⟩
    · rw [if_neg cE] at HF0
      rw [if_neg (fun h => cE h.2.1), if_neg hn1, if_neg cE] at HW0
      have cE' : ER = false := by simpa using cE
      rw [cE'] at HER
      clear cE cE' HTR
      by_cases c2 : pr = 1 ∧ ¬ EF = 0
      · rw [if_pos c2] at HW0 HF0
        have c2b : (pr == 1) = true := by simp [c2.1]
        have c2c : (EF != 0) = true := by simp [c2.2]
        have HV : Hid (IW.val false = .agg #[.int .i64 EF, .int .i64 0, .int .i64 0, .int .i64 0, .int .i64 0, .int .i64 0, .int .i64 0, .string ⟨#[]⟩, .bool false]) := by rw [HW0]; rfl
        have HF : Hid (IF = s.l) := HF0
        clear HW0 HF0 c1 c2 HIN HOU
        go_enter Tryz.func61, Tryz.ntmps61
        go_wp2_with (first | (go_at_call 77; refine (HFA.out _).mono ?_; rintro e w1 ⟨rfl, hb1⟩; have hM1 := hM.out.call hb1; clear hM hb1; clear z0 z1 z2 z3 z4 z5 z6 z7 z8 zf d0 d1 d2 d3 d4 d5 d6 df; obtain ⟨⟨z0, z1, z2, z3, z4, z5, z6, z7, z8⟩, zf⟩ := c9g hM1.at0; obtain ⟨⟨d0, d1, d2, d3, d4, d5, d6⟩, df⟩ := c7 hM1.at1; have hM : Hid _ := hM1; clear hM1) | (go_at_call 78; refine (HER.out _).mono ?_; rintro e w1 ⟨rfl, hb1⟩; have hM1 := hM.out.call hb1; clear hM hb1; clear z0 z1 z2 z3 z4 z5 z6 z7 z8 zf d0 d1 d2 d3 d4 d5 d6 df; obtain ⟨⟨z0, z1, z2, z3, z4, z5, z6, z7, z8⟩, zf⟩ := c9g hM1.at0; obtain ⟨⟨d0, d1, d2, d3, d4, d5, d6⟩, df⟩ := c7 hM1.at1; have hM : Hid _ := hM1; clear hM1) | (go_at_call 80; refine (HEF.out _ hM.out.box).mono ?_; rintro e w3 ⟨rfl, hbx2, hch2⟩; have hM1 := hM.out.change hbx2 hch2; clear hM hbx2 hch2; clear z0 z1 z2 z3 z4 z5 z6 z7 z8 zf d0 d1 d2 d3 d4 d5 d6 df; obtain ⟨⟨z0, z1, z2, z3, z4, z5, z6, z7, z8⟩, zf⟩ := c9g hM1.at0; obtain ⟨⟨d0, d1, d2, d3, d4, d5, d6⟩, df⟩ := c7 hM1.at1; have hM : Hid _ := hM1; clear hM1))
        refine bodyPost_ret (v := .agg #[.int .i64 EF, .int .i64 0, .int .i64 0, .int .i64 0, .int .i64 0, .int .i64 0, .int .i64 0, .string ⟨#[]⟩, .bool false]) (by simp [results, Tryz.results61, go_sem, z0, z1, z2, z3, z4, z5, z6, z7, z8]) rfl ⟨⟨false, by rw [HV.out]⟩, ?_⟩
        have hE := ((((((((hM.out.set0 0 (.int .i64 EF)).set0 1 (.int .i64 0)).set0 2 (.int .i64 0)).set0 3 (.int .i64 0)).set0 4 (.int .i64 0)).set0 5 (.int .i64 0)).set0 6 (.int .i64 0)).set0 7 (.string ⟨#[]⟩)).set0 8 (.bool false)
        rw [HF.out]
        exact ⟨_, hE.box, hE.chg⟩
      · rw [if_neg c2] at HW0 HF0
        have c2' : (pr == 1) = false ∨ (pr == 1) = true ∧ EF = 0 := by
          by_cases e : pr = 1
          · right; exact ⟨by simp [e], Decidable.byContradiction fun h => c2 ⟨e, h⟩⟩
          · left; simp [e]
        clear c2
        by_cases c3 : side = 0
        · rw [if_pos c3] at HW0 HF0
          have c3b : (side == 0) = true := by simp [c3]
          have HI : Hid (∀ W, BoxAt W b v s → Calls Tryz.prog 81 #[.pointer (some ⟨b, 0, none⟩), .agg #[.int .i64 pr, .int .i64 fa, .int .i64 fp, .int .i64 ta, .int .i64 tp, .string m, .bool iq]] W fun e w' => ∃ qb, e = .returned (.agg #[.int .i64 IW.what, .int .i64 IW.side, .int .i64 IW.pr, .int .i64 IW.xa, .int .i64 IW.xp, .int .i64 IW.ya, .int .i64 IW.yp, .string IW.m, .bool qb]) ∧ ∃ v', BoxAt w' b v' { s with l := IF } ∧ Chg b v W w' v') := by
            have := HIN.out c1
            rw [← HW0, ← HF0] at this
            exact fun W hW => (this W hW).mono (fun e w' h => by obtain ⟨⟨qb, h1⟩, h2⟩ := h; exact ⟨qb, h1, h2⟩)
          clear HW0 HF0 c1 c3 HIN HOU
          rcases c2' with c2b | ⟨c2b, rfl⟩
          all_goals
            go_enter Tryz.func61, Tryz.ntmps61
            go_wp2_with (first | (go_at_call 77; refine (HFA.out _).mono ?_; rintro e w1 ⟨rfl, hb1⟩; have hM1 := hM.out.call hb1; clear hM hb1; clear z0 z1 z2 z3 z4 z5 z6 z7 z8 zf d0 d1 d2 d3 d4 d5 d6 df; obtain ⟨⟨z0, z1, z2, z3, z4, z5, z6, z7, z8⟩, zf⟩ := c9g hM1.at0; obtain ⟨⟨d0, d1, d2, d3, d4, d5, d6⟩, df⟩ := c7 hM1.at1; have hM : Hid _ := hM1; clear hM1) | (go_at_call 78; refine (HER.out _).mono ?_; rintro e w1 ⟨rfl, hb1⟩; have hM1 := hM.out.call hb1; clear hM hb1; clear z0 z1 z2 z3 z4 z5 z6 z7 z8 zf d0 d1 d2 d3 d4 d5 d6 df; obtain ⟨⟨z0, z1, z2, z3, z4, z5, z6, z7, z8⟩, zf⟩ := c9g hM1.at0; obtain ⟨⟨d0, d1, d2, d3, d4, d5, d6⟩, df⟩ := c7 hM1.at1; have hM : Hid _ := hM1; clear hM1) | (go_at_call 80; refine (HEF.out _ hM.out.box).mono ?_; rintro e w3 ⟨rfl, hbx2, hch2⟩; have hM1 := hM.out.change hbx2 hch2; clear hM hbx2 hch2; clear z0 z1 z2 z3 z4 z5 z6 z7 z8 zf d0 d1 d2 d3 d4 d5 d6 df; obtain ⟨⟨z0, z1, z2, z3, z4, z5, z6, z7, z8⟩, zf⟩ := c9g hM1.at0; obtain ⟨⟨d0, d1, d2, d3, d4, d5, d6⟩, df⟩ := c7 hM1.at1; have hM : Hid _ := hM1; clear hM1) | (go_at_call 81; refine (HI.out _ hM.out.box).mono ?_; rintro e w2 ⟨qb, rfl, v2, hbx2, hch2⟩; have hM1 := hM.out.change hbx2 hch2; clear hM hbx2 hch2; clear z0 z1 z2 z3 z4 z5 z6 z7 z8 zf d0 d1 d2 d3 d4 d5 d6 df; obtain ⟨⟨z0, z1, z2, z3, z4, z5, z6, z7, z8⟩, zf⟩ := c9g hM1.at0; obtain ⟨⟨d0, d1, d2, d3, d4, d5, d6⟩, df⟩ := c7 hM1.at1; have hM : Hid _ := hM1; clear hM1))
            refine bodyPost_ret (v := .agg #[.int .i64 IW.what, .int .i64 IW.side, .int .i64 IW.pr, .int .i64 IW.xa, .int .i64 IW.xp, .int .i64 IW.ya, .int .i64 IW.yp, .string IW.m, .bool qb]) (by simp [results, Tryz.results61, go_sem, z0, z1, z2, z3, z4, z5, z6, z7, z8]) rfl ⟨⟨qb, rfl⟩, ?_⟩
            have hE := ((((((((hM.out.set0 0 (.int .i64 IW.what)).set0 1 (.int .i64 IW.side)).set0 2 (.int .i64 IW.pr)).set0 3 (.int .i64 IW.xa)).set0 4 (.int .i64 IW.xp)).set0 5 (.int .i64 IW.ya)).set0 6 (.int .i64 IW.yp)).set0 7 (.string IW.m)).set0 8 (.bool qb)
            exact ⟨_, hE.box, hE.chg⟩
        · rw [if_neg c3] at HW0 HF0
          have c3b : (side == 0) = false := by simp [c3]
          have HI : Hid (∀ W, BoxAt W b v s → Calls Tryz.prog 82 #[.pointer (some ⟨b, 0, none⟩), .agg #[.int .i64 pr, .int .i64 fa, .int .i64 fp, .int .i64 ta, .int .i64 tp, .string m, .bool iq]] W fun e w' => ∃ qb, e = .returned (.agg #[.int .i64 IW.what, .int .i64 IW.side, .int .i64 IW.pr, .int .i64 IW.xa, .int .i64 IW.xp, .int .i64 IW.ya, .int .i64 IW.yp, .string IW.m, .bool qb]) ∧ ∃ v', BoxAt w' b v' { s with l := IF } ∧ Chg b v W w' v') := by
            have := HOU.out c1
            rw [← HW0, ← HF0] at this
            exact fun W hW => (this W hW).mono (fun e w' h => by obtain ⟨⟨qb, h1⟩, h2⟩ := h; exact ⟨qb, h1, h2⟩)
          clear HW0 HF0 c1 c3 HIN HOU
          rcases c2' with c2b | ⟨c2b, rfl⟩
          all_goals
            go_enter Tryz.func61, Tryz.ntmps61
            go_wp2_with (first | (go_at_call 77; refine (HFA.out _).mono ?_; rintro e w1 ⟨rfl, hb1⟩; have hM1 := hM.out.call hb1; clear hM hb1; clear z0 z1 z2 z3 z4 z5 z6 z7 z8 zf d0 d1 d2 d3 d4 d5 d6 df; obtain ⟨⟨z0, z1, z2, z3, z4, z5, z6, z7, z8⟩, zf⟩ := c9g hM1.at0; obtain ⟨⟨d0, d1, d2, d3, d4, d5, d6⟩, df⟩ := c7 hM1.at1; have hM : Hid _ := hM1; clear hM1) | (go_at_call 78; refine (HER.out _).mono ?_; rintro e w1 ⟨rfl, hb1⟩; have hM1 := hM.out.call hb1; clear hM hb1; clear z0 z1 z2 z3 z4 z5 z6 z7 z8 zf d0 d1 d2 d3 d4 d5 d6 df; obtain ⟨⟨z0, z1, z2, z3, z4, z5, z6, z7, z8⟩, zf⟩ := c9g hM1.at0; obtain ⟨⟨d0, d1, d2, d3, d4, d5, d6⟩, df⟩ := c7 hM1.at1; have hM : Hid _ := hM1; clear hM1) | (go_at_call 80; refine (HEF.out _ hM.out.box).mono ?_; rintro e w3 ⟨rfl, hbx2, hch2⟩; have hM1 := hM.out.change hbx2 hch2; clear hM hbx2 hch2; clear z0 z1 z2 z3 z4 z5 z6 z7 z8 zf d0 d1 d2 d3 d4 d5 d6 df; obtain ⟨⟨z0, z1, z2, z3, z4, z5, z6, z7, z8⟩, zf⟩ := c9g hM1.at0; obtain ⟨⟨d0, d1, d2, d3, d4, d5, d6⟩, df⟩ := c7 hM1.at1; have hM : Hid _ := hM1; clear hM1) | (go_at_call 82; refine (HI.out _ hM.out.box).mono ?_; rintro e w2 ⟨qb, rfl, v2, hbx2, hch2⟩; have hM1 := hM.out.change hbx2 hch2; clear hM hbx2 hch2; clear z0 z1 z2 z3 z4 z5 z6 z7 z8 zf d0 d1 d2 d3 d4 d5 d6 df; obtain ⟨⟨z0, z1, z2, z3, z4, z5, z6, z7, z8⟩, zf⟩ := c9g hM1.at0; obtain ⟨⟨d0, d1, d2, d3, d4, d5, d6⟩, df⟩ := c7 hM1.at1; have hM : Hid _ := hM1; clear hM1))
            refine bodyPost_ret (v := .agg #[.int .i64 IW.what, .int .i64 IW.side, .int .i64 IW.pr, .int .i64 IW.xa, .int .i64 IW.xp, .int .i64 IW.ya, .int .i64 IW.yp, .string IW.m, .bool qb]) (by simp [results, Tryz.results61, go_sem, z0, z1, z2, z3, z4, z5, z6, z7, z8]) rfl ⟨⟨qb, rfl⟩, ?_⟩
            have hE := ((((((((hM.out.set0 0 (.int .i64 IW.what)).set0 1 (.int .i64 IW.side)).set0 2 (.int .i64 IW.pr)).set0 3 (.int .i64 IW.xa)).set0 4 (.int .i64 IW.xp)).set0 5 (.int .i64 IW.ya)).set0 6 (.int .i64 IW.yp)).set0 7 (.string IW.m)).set0 8 (.bool qb)
            exact ⟨_, hE.box, hE.chg⟩
  · have c1b : (FA != 0) = true := by simp [c1]
    rw [if_pos c1] at HF0
    rw [if_neg (fun h => c1 h.2.2), if_pos c1] at HW0
    have HV : Hid (IW.val false = .agg #[.int .i64 FA, .int .i64 0, .int .i64 0, .int .i64 0, .int .i64 0, .int .i64 0, .int .i64 0, .string ⟨#[]⟩, .bool false]) := by rw [HW0]; rfl
    have HF : Hid (IF = s.l) := HF0
    clear HW0 HF0 c1 HIN HOU HTR
    go_enter Tryz.func61, Tryz.ntmps61
    go_wp2_with (go_at_call 77; refine (HFA.out _).mono ?_; rintro e w1 ⟨rfl, hb1⟩; have hM1 := hM.out.call hb1; clear hM hb1; clear z0 z1 z2 z3 z4 z5 z6 z7 z8 zf d0 d1 d2 d3 d4 d5 d6 df; obtain ⟨⟨z0, z1, z2, z3, z4, z5, z6, z7, z8⟩, zf⟩ := c9g hM1.at0; obtain ⟨⟨d0, d1, d2, d3, d4, d5, d6⟩, df⟩ := c7 hM1.at1; have hM : Hid _ := hM1; clear hM1)
    refine bodyPost_ret (v := .agg #[.int .i64 FA, .int .i64 0, .int .i64 0, .int .i64 0, .int .i64 0, .int .i64 0, .int .i64 0, .string ⟨#[]⟩, .bool false]) (by simp [results, Tryz.results61, go_sem, z0, z1, z2, z3, z4, z5, z6, z7, z8]) rfl ⟨⟨false, by rw [HV.out]⟩, ?_⟩
    have hE := ((((((((hM.out.set0 0 (.int .i64 FA)).set0 1 (.int .i64 0)).set0 2 (.int .i64 0)).set0 3 (.int .i64 0)).set0 4 (.int .i64 0)).set0 5 (.int .i64 0)).set0 6 (.int .i64 0)).set0 7 (.string ⟨#[]⟩)).set0 8 (.bool false)
    rw [HF.out]
    exact ⟨_, hE.box, hE.chg⟩
end Go.Proofs.YtfkjobiapjhacabGreat
