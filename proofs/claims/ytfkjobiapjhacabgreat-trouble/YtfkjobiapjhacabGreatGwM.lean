/- Contracts of package gateway: pass. Own work. -/
import Derived.Test.YtfkjobiapjhacabGreatGwK
import Derived.Test.YtfkjobiapjhacabGreatGwD
import Derived.Test.YtfkjobiapjhacabGreatPa
namespace Go.Proofs.YtfkjobiapjhacabGreat
open Go.RowKit
attribute [local go_sem ↓] Go.wp_at_zero Go.wp_at_succ

/-- Frames lie in memory. -/
def frC (f : Int × ByteArray) : List Value := [.int .i64 f.1, .string f.2]
theorem frC_len (f : Int × ByteArray) : (frC f).length = 2 := rfl
def FrsAt (w : World) (fv : Value) (fs : List (Int × ByteArray)) : Prop := LsAt w 45 2 frC fv fs
def FrAt (w : World) (fv : Value) (o : Option (Int × ByteArray)) : Prop := FrsAt w fv o.toList
theorem FrAt.one {w : World} {fv : Value} {sd : Int} {r : ByteArray} (h : FrAt w fv (some (sd, r))) : ∃ g cap, fv = .slice (some ⟨g, 0, none⟩) 1 cap ∧ g < w.heap.size ∧ w.cell? ⟨g, 0, none⟩ = some (.int .i64 sd) ∧ w.cell? ⟨g, 1, none⟩ = some (.string r) := by
  obtain ⟨g, cap, e, hg, hc⟩ := LsAt.get h (by simp)
  have h0 := hc 0 (by simp) 0 (by decide)
  have h1 := hc 0 (by simp) 1 (by decide)
  simp [frC] at h0 h1
  exact ⟨g, cap, by simpa using e, hg, h0, h1⟩
theorem FrAt.none {w : World} {fv : Value} (h : FrAt w fv none) : ∃ ao cap, fv = .slice ao 0 cap := by
  obtain ⟨ao, cap, e⟩ := LsAt.shape h
  exact ⟨ao, cap, by simpa using e⟩
/-- What Receive does at a box: an answer, what goes out, the box behind it. -/
def RecvAt (b : Nat) (s : BX) (side : Int) (raw : ByteArray) (what : Int) (fr : Option (Int × ByteArray)) (s' : BX) : Prop :=
  ∀ W v, BoxAt W b v s → Calls Tryz.prog 21 #[.pointer (some ⟨b, 0, none⟩), .int .i64 side, .string raw] W fun e w' => ∃ fv, e = .returned (.tuple #[.int .i64 what, fv]) ∧ FrAt w' fv fr ∧ ∃ v', BoxAt w' b v' s' ∧ Chg b v W w' v'
/-- What becomes of a packet: an answer, what goes out, the sessions, what waits. -/
structure HG where
  what : Int
  frs : List (Int × ByteArray)
  l : List SD
  wl : List PD
/-- What becomes of packets that are a datagram together. -/
def passW (s : BX) (side : Int) (l : List KP) : WYD := routeG s side (wOf l).pr (wOf l).sr (portsOf (wOf l).pr (wOf l).m).1 (wOf l).ds (portsOf (wOf l).pr (wOf l).m).2 (wOf l).m (decide (1 < l.length))
def passL' (s : BX) (side : Int) (l : List KP) : List SD := routeL s side (wOf l).pr (wOf l).sr (portsOf (wOf l).pr (wOf l).m).1 (wOf l).ds (portsOf (wOf l).pr (wOf l).m).2 (wOf l).m
def passH (s : BX) (side : Int) (l : List KP) : HG :=
  if (passW s side l).what = 0 then ⟨0, (onAll (passW s side l).xa (passW s side l).ya (passW s side l).m l).map (fun r => ((passW s side l).side, r)), passL' s side l, s.wl⟩ else ⟨(passW s side l).what, [], passL' s side l, s.wl⟩
theorem Parse_any (raw : ByteArray) (w : World) (r : Value) (hr : rFault raw = 0 ∧ r = .agg #[.string (raw.extract 0 20), .int .i64 (addrAt raw 12), .int .i64 (addrAt raw 16), .int .i64 (byteAt raw 9), .string (raw.extract 20 raw.size)] ∨ ¬ rFault raw = 0 ∧ r = .agg #[.string ⟨#[]⟩, .int .i64 0, .int .i64 0, .int .i64 0, .string ⟨#[]⟩]) :
    Calls Tryz.prog 46 #[.string raw] w fun e w' => e = .returned (.tuple #[r, .int .i64 (rFault raw)]) ∧ Below w.heap.size w w' := by
  by_cases hz : raw.size ≤ 20 ∨ 160 < raw.size
  · have e : rFault raw = 3 := if_pos hz
    rw [e] at hr ⊢
    rcases hr with ⟨h, -⟩ | ⟨-, rfl⟩
    · exact absurd h (by decide)
    · exact Parse_short raw w hz
  · have e : rFault raw = pFault (raw.extract 0 20) (raw.extract 20 raw.size) := if_neg hz
    exact Parse_long raw w (by omega) (by omega) (rFault raw) e.symm r hr
theorem sealM_size {pr : Int} {m : ByteArray} (xa ya : Int) (hat : sumAtI pr + 2 ≤ m.size) : (sealM pr xa ya m).size = m.size := by
  unfold sealM
  split
  · rfl
  · have e3 : (putWord m (sumAtI pr) 0).size = m.size := size_put _ _ _ (by omega)
    rw [size_put _ _ _ (by omega), e3]
theorem btwM_size {pr : Int} {m : ByteArray} (xa xp ya yp : Int) (h4 : 6 ≤ m.size) (hat : sumAtI pr + 2 ≤ m.size) : (btwM pr m xa xp ya yp).size = m.size := by
  have e2 := portM_size pr m xp yp h4
  unfold btwM
  rw [sealM_size xa ya (by omega), e2]
theorem routeW_size (s : BX) (side pr fa fp ta tp : Int) (m : ByteArray) (hm : m.size ≤ 1000) (hp : pr = 1 ∨ pr = 6 ∨ pr = 17) (hT : errB pr m = false ∨ (dFault pr fa fp ta tp m = 0 → (trW s side pr fa fp ta tp m).m.size ≤ 1000)) : (routeW s side pr fa fp ta tp m).m.size ≤ 1000 := by
  have e0 : (⟨#[]⟩ : ByteArray).size ≤ 1000 := by decide
  unfold routeW
  by_cases h0 : dFault pr fa fp ta tp m = 0
  · rw [if_neg (by simp [h0])]
    by_cases hE : errB pr m = true
    · rw [if_pos hE]
      rcases hT with h | h
      · rw [h] at hE; exact absurd hE (by decide)
      · exact h h0
    · rw [if_neg hE]
      obtain ⟨r1, r2⟩ := formed_room h0 hp
      have hb : ∀ xa xp ya yp, (btwM pr m xa xp ya yp).size ≤ 1000 := fun xa xp ya yp => by rw [btwM_size xa xp ya yp r2 r1]; exact hm
      split
      · exact e0
      · split
        · unfold insW
          split
          · exact e0
          · split
            · exact e0
            · split
              · unfold turnW
                split
                · exact hb _ _ _ _
                · exact e0
              · exact hb _ _ _ _
        · unfold outsW
          split
          · exact e0
          · split
            · exact hb _ _ _ _
            · exact e0
  · rw [if_pos h0]; exact e0
/-- What is asked of trouble at a box. -/
def TrOK (b : Nat) (s : BX) : Prop := ∀ (side pr fa fp ta tp : Int) (m : ByteArray) (iq : Bool), m.size ≤ 900 → errB pr m = true → 0 ≤ fa → fa ≤ 4294967295 → 0 ≤ ta → ta ≤ 4294967295 → dFault pr fa fp ta tp m = 0 →
  ((trW s side pr fa fp ta tp m).m.size ≤ 1000 ∧ ((trW s side pr fa fp ta tp m).what = 0 → (trW s side pr fa fp ta tp m).m.size = m.size)) ∧ ∀ v W, BoxAt W b v s → Calls Tryz.prog 79 #[.pointer (some ⟨b, 0, none⟩), .int .i64 side, .agg #[.int .i64 pr, .int .i64 fa, .int .i64 fp, .int .i64 ta, .int .i64 tp, .string m, .bool iq]] W fun e w' => (∃ qb, e = .returned ((if iq = true then noW 13 else trW s side pr fa fp ta tp m).val qb)) ∧ BoxAt w' b v s ∧ Chg b v W w' v
theorem c5g {w : World} {b : Nat} {v0 v1 v2 v3 v4 : Value} {t : TypeId} (h : w.heap[b]? = some (.cells #[v0, v1, v2, v3, v4] t (0, 0))) :
    (w.cell? ⟨b, 0, none⟩ = some v0 ∧ w.cell? ⟨b, 1, none⟩ = some v1 ∧ w.cell? ⟨b, 2, none⟩ = some v2 ∧ w.cell? ⟨b, 3, none⟩ = some v3 ∧ w.cell? ⟨b, 4, none⟩ = some v4) ∧ ∀ j, w.frozen? ⟨b, j, none⟩ = false := by
  have hc : ∀ j, w.cell? ⟨b, j, none⟩ = (#[v0, v1, v2, v3, v4] : Array Value)[j]? := fun j => by simp [World.cell?, h]
  exact ⟨⟨hc 0, hc 1, hc 2, hc 3, hc 4⟩, fun j => by simp [World.frozen?, h]⟩
theorem routeG_size (s : BX) (side pr fa fp ta tp : Int) (m : ByteArray) (iq : Bool) (h : (routeW s side pr fa fp ta tp m).m.size ≤ 1000) : (routeG s side pr fa fp ta tp m iq).m.size ≤ 1000 := by
  unfold routeG
  split
  · exact (by decide : (⟨#[]⟩ : ByteArray).size ≤ 1000)
  · exact h
/-- A call at a box keeps blocks of other kinds. -/
theorem Chg.keptT {b : Nat} {v v' : Value} {w w' : World} {s : BX} (h : Chg b v w w' v') (hb : BoxAt w b v s) {t : TypeId} (h1 : t ≠ 78) (h2 : t ≠ 102) : KeptT t w w' := by
  intro k c hk
  obtain ⟨wv, hbk, -⟩ := hb.bk
  rw [h.block k (lt_of_block hk) ?_ ?_]
  · exact hk
  · intro e
    rw [e, hbk] at hk
    simp at hk
    exact h1 hk.2.symm
  · intro e
    obtain ⟨-, h4⟩ := hb.own
    rcases h4 with ⟨rfl, -⟩ | ⟨g, cap, cur, rfl, -, hh, -⟩
    · simp [Value.ownBlock] at e
    · simp [Value.ownBlock] at e
      rw [← e, hh] at hk
      simp at hk
      exact h2 hk.2.symm
theorem info_frame : (Tryz.prog.info? 45).map (fun i => (i.zero, i.size, i.bytes)) = some (some (.agg #[.int .i64 0, .string ⟨#[]⟩]), 2, 24) := by kernel_rfl
/-- A row of another kind grows: blocks of this kind are kept. -/
theorem KeptT.row {t t' : TypeId} {w w' : World} {B n k : Nat} {lv : Value} {xs : List Value} (h : w.ownsRow B t' n lv k xs) (hg : w.grownBy w' lv.ownBlock) (hne : t ≠ t') : KeptT t w w' := by
  intro j c hj
  rw [hg.block j (lt_of_block hj) ?_]
  · exact hj
  · intro e
    obtain ⟨-, h4⟩ := h
    rcases h4 with ⟨rfl, -⟩ | ⟨g, cap, cur, rfl, -, hh, -⟩
    · simp [Value.ownBlock] at e
    · simp [Value.ownBlock] at e
      rw [e, hh] at hj
      simp at hj
      exact hne hj.2.symm
theorem str1 {w : World} {ov : Value} {outs : List ByteArray} (h : LsAt w 9 1 strC ov outs) (k : Nat) (hk : k < outs.length) : ∃ g cap, ov = .slice (some ⟨g, 0, none⟩) outs.length cap ∧ g < w.heap.size ∧ w.cell? ⟨g, k, none⟩ = some (.string outs[k]) := by
  obtain ⟨g, cap, e, hg, hc⟩ := LsAt.get h (by intro e; rw [e] at hk; simp at hk)
  have := hc k hk 0 (by decide)
  simp [strC] at this
  exact ⟨g, cap, e, hg, this⟩
set_option maxRecDepth 100000 in
set_option maxHeartbeats 4000000 in
theorem pass_any {w : World} {b : Nat} {v : Value} {s : BX} (h : BoxAt w b v s) (hk : OKB s) (side : Int) (pv : Value) (l : List KP) (hl : KsAt w pv l) (hn : l.length ≤ 1000) (hb : ∀ p ∈ l, p.h.size = 20 ∧ p.b.size ≤ 1000) (hm : (wOf l).m.size ≤ 900) (hp : (wOf l).pr = 1 ∨ (wOf l).pr = 6 ∨ (wOf l).pr = 17) (hf0 : 0 ≤ (wOf l).sr) (hf1 : (wOf l).sr ≤ 4294967295) (ht0 : 0 ≤ (wOf l).ds) (ht1 : (wOf l).ds ≤ 4294967295) (hTR : errB (wOf l).pr (wOf l).m = false ∨ TrOK b s) :
    Calls Tryz.prog 49 #[.pointer (some ⟨b, 0, none⟩), .int .i64 side, pv] w fun e w' => ∃ fv, e = .returned (.tuple #[.int .i64 (passH s side l).what, fv]) ∧ FrsAt w' fv (passH s side l).frs ∧ ∃ v', BoxAt w' b v' { s with l := (passH s side l).l } ∧ Chg b v w w' v' := by
  have hER : errB (wOf l).pr (wOf l).m = false ∨ errB (wOf l).pr (wOf l).m = true ∧ TrOK b s := by
    rcases hTR with h | h
    · exact Or.inl h
    · rcases hee : errB (wOf l).pr (wOf l).m with _ | _
      · exact Or.inl rfl
      · exact Or.inr ⟨rfl, h⟩
  clear hTR
  have HWH : Hid (Calls Tryz.prog 60 #[pv] w fun e w' => e = .returned (.agg #[.int .i64 (wOf l).pr, .int .i64 (wOf l).sr, .int .i64 (portsOf (wOf l).pr (wOf l).m).1, .int .i64 (wOf l).ds, .int .i64 (portsOf (wOf l).pr (wOf l).m).2, .string (wOf l).m, .bool (decide (1 < l.length))]) ∧ Below w.heap.size w w') := Whole_any pv l w hl hn (fun p hp => (hb p hp).2)
  have HRO : Hid (∀ W, BoxAt W b v s → Calls Tryz.prog 61 #[.pointer (some ⟨b, 0, none⟩), .int .i64 side, .agg #[.int .i64 (wOf l).pr, .int .i64 (wOf l).sr, .int .i64 (portsOf (wOf l).pr (wOf l).m).1, .int .i64 (wOf l).ds, .int .i64 (portsOf (wOf l).pr (wOf l).m).2, .string (wOf l).m, .bool (decide (1 < l.length))]] W fun e w' => (∃ qb, e = .returned ((passW s side l).val qb)) ∧ ∃ v', BoxAt w' b v' { s with l := passL' s side l } ∧ Chg b v W w' v') := fun W hW => route_any hW hk side (wOf l).pr (wOf l).sr _ (wOf l).ds _ (wOf l).m _ (by omega) hp hf0 hf1 ht0 ht1 (by rcases hER with e | ⟨e, h⟩; exact Or.inl e; exact Or.inr fun h0 => (h side _ _ _ _ _ _ _ hm e hf0 hf1 ht0 ht1 h0).2 v)
  have hms : (passW s side l).m.size ≤ 1000 := routeG_size _ _ _ _ _ _ _ _ _ (routeW_size s side (wOf l).pr (wOf l).sr _ (wOf l).ds _ (wOf l).m (by omega) hp (by rcases hER with e | ⟨e, h⟩; exact Or.inl e; exact Or.inr fun h0 => (h side _ _ _ _ _ _ false hm e hf0 hf1 ht0 ht1 h0).1.1))
  have HON : Hid (∀ W qb, KsAt W pv l → Calls Tryz.prog 62 #[.agg #[.int .i64 (passW s side l).pr, .int .i64 (passW s side l).xa, .int .i64 (passW s side l).xp, .int .i64 (passW s side l).ya, .int .i64 (passW s side l).yp, .string (passW s side l).m, .bool qb], pv] W fun e w' => ∃ ov, e = .returned ov ∧ LsAt w' 9 1 strC ov (onAll (passW s side l).xa (passW s side l).ya (passW s side l).m l) ∧ Below W.heap.size W w') := fun W qb hW => Onward_any _ _ _ _ _ _ qb pv l W hW hn hms hb
  have hon := onTo_len (passW s side l).xa (passW s side l).ya (passW s side l).m l l.length (Nat.le_refl _)
  rw [onTo_all] at hon
  obtain ⟨H, hH⟩ : ∃ H, H = passH s side l := ⟨_, rfl⟩
  rw [← hH]
  unfold passH at hH
  have HL : Hid (KsAt w pv l) := hl
  generalize passW s side l = IW at HRO HON hH hon
  generalize passL' s side l = IL at HRO hH
  generalize onAll IW.xa IW.ya IW.m l = outs at HON hH hon
  generalize (portsOf (wOf l).pr (wOf l).m).1 = p1 at HWH HRO
  generalize (portsOf (wOf l).pr (wOf l).m).2 = p2 at HWH HRO
  generalize decide (1 < l.length) = iq at HWH HRO
  generalize wOf l = x at HWH HRO
  have hol := hon.1
  clear hER hms hb hm hp hf0 hf1 ht0 ht1 hon hk
  have hM : Hid (GMid w w b v v s []) := GMid.start h
  clear h
  simp only [WYD.val] at HRO
  obtain ⟨ao, cap, hpv⟩ := hl.shape
  clear hl
  subst hpv
  generalize l.length = len at HL HWH HON hn hol
  go_enter Tryz.func49, Tryz.ntmps49
  go_wp2_with fail
  refine HWH.out.mono ?_
  rintro e w4 ⟨rfl, hb4⟩
  have hM1 := (hM.out.call hb4).alloc' #[.int .i64 x.pr, .int .i64 x.sr, .int .i64 p1, .int .i64 x.ds, .int .i64 p2, .string x.m, .bool iq] 106 w4.heap.size rfl
  have HL4 : Hid (KsAt (w4.alloc (.cells #[.int .i64 x.pr, .int .i64 x.sr, .int .i64 p1, .int .i64 x.ds, .int .i64 p2, .string x.m, .bool iq] 106)) (.slice ao len cap) l) := LsAt.keep (LsAt.keep HL.out hb4) ((Below.refl _ _).alloc (Nat.le_refl _) _)
  clear hM hb4
  have hM : Hid _ := hM1
  clear hM1
  go_wp2_with fail
  refine (HRO.out _ hM.out.box).mono ?_
  rintro e w5 ⟨⟨qb, rfl⟩, v5, hbx5, hch5⟩
  have HL5 : Hid (KsAt w5 (.slice ao len cap) l) := LsAt.kept HL4.out (hch5.keptT hM.out.box (by decide) (by decide))
  have hM1 := (hM.out.change hbx5 hch5).alloc' #[.int .i64 IW.what, .int .i64 IW.side, .int .i64 IW.pr, .int .i64 IW.xa, .int .i64 IW.xp, .int .i64 IW.ya, .int .i64 IW.yp, .string IW.m, .bool qb] 109 w5.heap.size rfl
  clear hM hbx5 hch5
  obtain ⟨⟨t0, t1, t2, t3, t4, t5, t6, t7, t8⟩, tf⟩ := c9g hM1.at0
  have hM : Hid _ := hM1
  clear hM1
  by_cases c5 : IW.what = 0
  · rw [if_pos c5] at hH
    subst hH
    have c5b : (IW.what != 0) = false := by simp [c5]
    clear c5
    obtain ⟨i0, hi0, hz0, hz1, hz2⟩ := info_parts info_frame
    go_wp2_with fail
    refine (HON.out _ qb (LsAt.keep (LsAt.keep HL5.out ((Below.refl _ _).alloc (Nat.le_refl _) _)) ((Below.refl _ _).alloc (Nat.le_refl _) _))).mono ?_
    rintro e w6 ⟨ov, rfl, hov, hb6⟩
    have hQ := (QMid.start (LMid.start (w5.alloc (.cells #[.int .i64 IW.what, .int .i64 IW.side, .int .i64 IW.pr, .int .i64 IW.xa, .int .i64 IW.xp, .int .i64 IW.ya, .int .i64 IW.yp, .string IW.m, .bool qb] 109))) 45 2 _ rfl).call hb6
    obtain ⟨oao, ocap, hsh⟩ := hov.shape
    subst hsh
    have HQ : Hid (QMid (w5.alloc (.cells #[.int .i64 IW.what, .int .i64 IW.side, .int .i64 IW.pr, .int .i64 IW.xa, .int .i64 IW.xp, .int .i64 IW.ya, .int .i64 IW.yp, .string IW.m, .bool qb] 109)) w6 [] 45 2 (.slice (some ⟨w5.heap.size + 1, 0, none⟩) 0 0) 0 []) := by show QMid _ _ _ _ _ _ _ _; simpa using hQ
    have HOV : Hid (LsAt w6 9 1 strC (.slice oao len ocap) outs) := by rw [← hol]; exact hov
    have HOL : Hid (outs.length = len) := hol
    rw [hol]
    clear hQ hb6 hov hol t0 t1 t2 t3 t4 t5 t6 t7 t8 tf
    go_wp2_with fail
    go_loopw [10, 30] (fun lst i wr => ∃ (k : Nat) (lv : Value), k ≤ len ∧ i = .int .i64 k ∧ lv = lst ∧ QMid (w5.alloc (.cells #[.int .i64 IW.what, .int .i64 IW.side, .int .i64 IW.pr, .int .i64 IW.xa, .int .i64 IW.xp, .int .i64 IW.ya, .int .i64 IW.yp, .string IW.m, .bool qb] 109)) wr [] 45 2 lv k (((outs.take k).map (fun r => (IW.side, r))).flatMap frC) ∧ LsAt wr 9 1 strC (.slice oao len ocap) outs) (fun _ i _ => len - (intOf i).toNat)
    case atStart => exact ⟨0, _, Nat.zero_le _, rfl, rfl, HQ.out, HOV.out⟩
    case round =>
      obtain ⟨k, lv, hk, rfl, rfl, hQ, hov⟩ := hrel
      by_cases hlt : k < len
      · have hlo : k < outs.length := by have := HOL.out; omega
        obtain ⟨g, cp, hv, hg, q0⟩ := str1 hov k hlo
        simp at hv
        obtain ⟨rfl, -, rfl⟩ := hv
        obtain ⟨⟨t0, t1, t2, t3, t4, t5, t6, t7, t8⟩, tf⟩ := c9g (hM.out.call hQ.mid.bl).at0
        have n0 := lt_of_block (hM.out.call hQ.mid.bl).at0
        have HTK : Hid (((outs.take (k + 1)).map (fun r => (IW.side, r))).flatMap frC = ((outs.take k).map (fun r => (IW.side, r))).flatMap frC ++ [.int .i64 IW.side, .string outs[k]]) := by
          show _ = _
          rw [List.take_succ_eq_append_getElem hlo, List.map_append, List.flatMap_append]
          rfl
        generalize outs[k] = o at q0 HTK
        have HQ2 : Hid (QMid (w5.alloc (.cells #[.int .i64 IW.what, .int .i64 IW.side, .int .i64 IW.pr, .int .i64 IW.xa, .int .i64 IW.xp, .int .i64 IW.ya, .int .i64 IW.yp, .string IW.m, .bool qb] 109)) wr [] 45 2 lv k (((outs.take k).map (fun r => (IW.side, r))).flatMap frC)) := hQ
        have HOV2 : Hid (LsAt wr 9 1 strC (.slice (some ⟨g, 0, none⟩) len ocap) outs) := hov
        have hsw := hQ.mid.bl.size
        clear hQ hov
        generalize ((outs.take k).map (fun r => (IW.side, r))).flatMap frC = F at HQ2 HTK
        have hkI : (0 : Int) ≤ (k : Int) := by omega
        have hkL : (k : Int) < (len : Int) := by omega
        simp at hsw
        go_wp2_with (at_builtin; refine wpList_append_lies _ rfl (.tmp 34) (.tmp 39) 40 rfl (w5.heap.size + 1) 45 i0 _ 2 24 Tryz.underlying40 hi0 hz0 hz1 hz2 rfl (by decide) lv k F rfl (by simpa using HQ2.out.own.alloc _) ⟨wr.heap.size, 0, none⟩ 1 1 [.int .i64 IW.side, .string o] rfl rfl (by exact World.news_of_block (B := wr.heap.size) (by rw [hget_alloc, if_pos rfl])) (by intro u hu; simp at hu; rcases hu with rfl | rfl <;> rfl) (by decide) (by unfold maxLen; omega) (by omega) (by simp; omega) (wr.heap.size + 1) (by simp) ?_; intro g4 cap4 w7 hown hgrow hat hlt4; have hQ1 := HQ2.out.call ((Below.refl _ _).alloc (Nat.le_refl _) (.cells #[.int .i64 IW.side, .string o] 45)); have hov1 := LsAt.kept (LsAt.keep HOV2.out ((Below.refl _ _).alloc (Nat.le_refl _) (.cells #[.int .i64 IW.side, .string o] 45))) (KeptT.row hQ1.own hgrow (by decide)); have hQ2 := hQ1.app hgrow (by simpa using hown) _ hat (by simp); clear HQ2 HOV2 hown hgrow hat hlt4 hQ1; have HQ2 : Hid _ := hQ2; have HOV2 : Hid _ := hov1; clear hQ2 hov1)
        go_roundw
        case rel => exact ⟨k + 1, _, by omega, by go_num, rfl, by rw [HTK.out]; exact HQ2.out, HOV2.out⟩
        case measure => simp [intOf]; omega
      · have e : k = len := by omega
        have HFR : Hid (FrsAt wr lv (outs.map (fun r => (IW.side, r)))) := by
          have h1 := hQ.own
          rw [List.take_of_length_le (by have := HOL.out; omega)] at h1
          have h2 : k = (outs.map (fun r => (IW.side, r))).length := by rw [List.length_map, HOL.out, e]
          rw [h2] at h1
          exact LsAt.of_owns frC_len h1
        have hM1 := hM.out.call hQ.mid.bl
        clear hM
        have hM : Hid _ := hM1
        clear hM1 hQ hov
        go_wp2_with fail
        go_ret2
        exact ⟨_, rfl, HFR.out, v5, hM.out.box, hM.out.chg⟩
  · rw [if_neg c5] at hH
    subst hH
    have c5b : (IW.what != 0) = true := by simp [c5]
    clear c5
    go_wp2_with fail
    go_ret2
    exact ⟨_, rfl, LsAt.nil, v5, hM.out.box, hM.out.chg⟩
end Go.Proofs.YtfkjobiapjhacabGreat
