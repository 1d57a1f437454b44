/- Contracts of package gateway: handle. Own work. -/
import Derived.Test.YtapahmhpjmnebabGwK
import Derived.Test.YtapahmhpjmnebabGwD
namespace Go.Proofs.Ytapahmhpjmnebab
open Go.RowKit
attribute [local go_sem ↓] Go.wp_at_zero Go.wp_at_succ

/-- One frame, or none, lies in memory. -/
def FrAt (w : World) (fv : Value) : Option (Int × ByteArray) → Prop
  | none => fv = .slice none 0 0
  | some (sd, r) => ∃ g, fv = .slice (some ⟨g, 0, none⟩) 1 1 ∧ w.heap[g]? = some (.cells #[.int .i64 sd, .string r] 43 (0, 0))
/-- What Receive does at a box: an answer, what goes out, the box behind it. -/
def RecvAt (b : Nat) (s : BX) (side : Int) (raw : ByteArray) (what : Int) (fr : Option (Int × ByteArray)) (s' : BX) : Prop :=
  ∀ W v, BoxAt W b v s → Calls Try.prog 15 #[.pointer (some ⟨b, 0, none⟩), .int .i64 side, .string raw] W fun e w' => ∃ fv, e = .returned (.tuple #[.int .i64 what, fv]) ∧ FrAt w' fv fr ∧ ∃ v', BoxAt w' b v' s' ∧ Chg b v W w' v'
structure HR where
  what : Int
  fr : Option (Int × ByteArray)
  l : List SD
def wholeW (s : BX) (side : Int) (raw : ByteArray) : WYD := routeW s side (byteAt raw 9) (addrAt raw 12) (portsOf (byteAt raw 9) (raw.extract 20 raw.size)).1 (addrAt raw 16) (portsOf (byteAt raw 9) (raw.extract 20 raw.size)).2 (raw.extract 20 raw.size)
def wholeL (s : BX) (side : Int) (raw : ByteArray) : List SD := routeL s side (byteAt raw 9) (addrAt raw 12) (portsOf (byteAt raw 9) (raw.extract 20 raw.size)).1 (addrAt raw 16) (portsOf (byteAt raw 9) (raw.extract 20 raw.size)).2 (raw.extract 20 raw.size)
def wayH (raw : ByteArray) (t : WYD) (l : List SD) : HR := if t.what = 0 then ⟨0, some (t.side, onHead (raw.extract 0 20) t.xa t.ya ++ t.m), l⟩ else ⟨t.what, none, l⟩
def handM (s : BX) (side : Int) (raw : ByteArray) : HR :=
  if ¬ side = 0 ∧ ¬ side = 1 then ⟨2, none, s.l⟩
  else if ¬ rFault raw = 0 then ⟨rFault raw, none, s.l⟩
  else if mayB s side (addrAt raw 12) (addrAt raw 16) = false then ⟨6, none, s.l⟩
  else if ¬ (byteAt raw 9 = 1 ∨ byteAt raw 9 = 6 ∨ byteAt raw 9 = 17) then ⟨7, none, s.l⟩
  else if pieceB (raw.extract 0 20) = true then ⟨12, none, s.l⟩
  else wayH raw (wholeW s side raw) (wholeL s side raw)
theorem Parse_any (raw : ByteArray) (w : World) (r : Value) (hr : rFault raw = 0 ∧ r = .agg #[.string (raw.extract 0 20), .int .i64 (addrAt raw 12), .int .i64 (addrAt raw 16), .int .i64 (byteAt raw 9), .string (raw.extract 20 raw.size)] ∨ ¬ rFault raw = 0 ∧ r = .agg #[.string ⟨#[]⟩, .int .i64 0, .int .i64 0, .int .i64 0, .string ⟨#[]⟩]) :
    Calls Try.prog 35 #[.string raw] w fun e w' => e = .returned (.tuple #[r, .int .i64 (rFault raw)]) ∧ Below w.heap.size w w' := by
  by_cases hz : raw.size ≤ 20 ∨ 160 < raw.size
  · have e : rFault raw = 3 := if_pos hz
    rw [e] at hr ⊢
    rcases hr with ⟨h, -⟩ | ⟨-, rfl⟩
    · exact absurd h (by decide)
    · exact Parse_short raw w hz
  · have e : rFault raw = pFault (raw.extract 0 20) (raw.extract 20 raw.size) := if_neg hz
    exact Parse_long raw w (by omega) (by omega) (rFault raw) e.symm r hr
theorem sealM_size {pr : Int} {m : ByteArray} (xa ya : Int) (hat : sumAtI pr + 2 ≤ m.size) : (sealM pr xa ya m).size = m.size := by
  unfold sealM
  split
  · rfl
  · have e3 : (putWord m (sumAtI pr) 0).size = m.size := size_put _ _ _ (by omega)
    rw [size_put _ _ _ (by omega), e3]
theorem btwM_size {pr : Int} {m : ByteArray} (xa xp ya yp : Int) (h4 : 6 ≤ m.size) (hat : sumAtI pr + 2 ≤ m.size) : (btwM pr m xa xp ya yp).size = m.size := by
  have e2 := portM_size pr m xp yp h4
  unfold btwM
  rw [sealM_size xa ya (by omega), e2]
theorem routeW_size (s : BX) (side pr fa fp ta tp : Int) (m : ByteArray) (hm : m.size ≤ 1000) (hp : pr = 1 ∨ pr = 6 ∨ pr = 17) (hT : errB pr m = false ∨ (dFault pr fa fp ta tp m = 0 → (trW s side pr fa fp ta tp m).m.size ≤ 1000)) : (routeW s side pr fa fp ta tp m).m.size ≤ 1000 := by
  have e0 : (⟨#[]⟩ : ByteArray).size ≤ 1000 := by decide
  unfold routeW
  by_cases h0 : dFault pr fa fp ta tp m = 0
  · rw [if_neg (by simp [h0])]
    by_cases hE : errB pr m = true
    · rw [if_pos hE]
      rcases hT with h | h
      · rw [h] at hE; exact absurd hE (by decide)
      · exact h h0
    · rw [if_neg hE]
      obtain ⟨r1, r2⟩ := formed_room h0 hp
      have hb : ∀ xa xp ya yp, (btwM pr m xa xp ya yp).size ≤ 1000 := fun xa xp ya yp => by rw [btwM_size xa xp ya yp r2 r1]; exact hm
      split
      · exact e0
      · split
        · unfold insW
          split
          · exact e0
          · split
            · exact e0
            · split
              · unfold turnW
                split
                · exact hb _ _ _ _
                · exact e0
              · exact hb _ _ _ _
        · unfold outsW
          split
          · exact e0
          · split
            · exact hb _ _ _ _
            · exact e0
  · rw [if_pos h0]; exact e0
/-- What is asked of trouble at a box. -/
def TrOK (b : Nat) (s : BX) : Prop := ∀ (side pr fa fp ta tp : Int) (m : ByteArray), m.size ≤ 140 → errB pr m = true → 0 ≤ fa → fa ≤ 4294967295 → 0 ≤ ta → ta ≤ 4294967295 → dFault pr fa fp ta tp m = 0 →
  (trW s side pr fa fp ta tp m).m.size ≤ 1000 ∧ ∀ v W, BoxAt W b v s → Calls Try.prog 51 #[.pointer (some ⟨b, 0, none⟩), .int .i64 side, .agg #[.int .i64 pr, .int .i64 fa, .int .i64 fp, .int .i64 ta, .int .i64 tp, .string m]] W fun e w' => e = .returned (trW s side pr fa fp ta tp m).val ∧ BoxAt w' b v s ∧ Chg b v W w' v
theorem c5g {w : World} {b : Nat} {v0 v1 v2 v3 v4 : Value} {t : TypeId} (h : w.heap[b]? = some (.cells #[v0, v1, v2, v3, v4] t (0, 0))) :
    (w.cell? ⟨b, 0, none⟩ = some v0 ∧ w.cell? ⟨b, 1, none⟩ = some v1 ∧ w.cell? ⟨b, 2, none⟩ = some v2 ∧ w.cell? ⟨b, 3, none⟩ = some v3 ∧ w.cell? ⟨b, 4, none⟩ = some v4) ∧ ∀ j, w.frozen? ⟨b, j, none⟩ = false := by
  have hc : ∀ j, w.cell? ⟨b, j, none⟩ = (#[v0, v1, v2, v3, v4] : Array Value)[j]? := fun j => by simp [World.cell?, h]
  exact ⟨⟨hc 0, hc 1, hc 2, hc 3, hc 4⟩, fun j => by simp [World.frozen?, h]⟩
set_option maxRecDepth 100000 in
set_option maxHeartbeats 4000000 in
theorem handle_any {w : World} {b : Nat} {v : Value} {s : BX} (h : BoxAt w b v s) (hk : OKB s) (side : Int) (raw : ByteArray) (hTR : errB (byteAt raw 9) (raw.extract 20 raw.size) = false ∨ TrOK b s) :
    Calls Try.prog 30 #[.pointer (some ⟨b, 0, none⟩), .int .i64 side, .string raw] w fun e w' => ∃ fv, e = .returned (.tuple #[.int .i64 (handM s side raw).what, fv]) ∧ FrAt w' fv (handM s side raw).fr ∧ ∃ v', BoxAt w' b v' { s with l := (handM s side raw).l } ∧ Chg b v w w' v' := by
  obtain ⟨HM, hHM⟩ : ∃ HM, HM = handM s side raw := ⟨_, rfl⟩
  rw [← hHM]
  unfold handM at hHM
  have hM : Hid (GMid w w b v v s []) := GMid.start h
  clear h
  by_cases c0 : ¬ side = 0 ∧ ¬ side = 1
  · rw [if_pos c0] at hHM
    subst hHM
    have c0a : (side != 0) = true := by simp [c0.1]
    have c0b : (side != 1) = true := by simp [c0.2]
    clear c0
    go_enter Try.func30, Try.ntmps30
    go_wp2_with fail
    go_ret2
    exact ⟨_, rfl, rfl, v, hM.out.box, hM.out.chg⟩
  · rw [if_neg c0] at hHM
    have c0' : (side != 0) = false ∨ (side != 0) = true ∧ (side != 1) = false := by
      by_cases e : side = 0
      · left; simp [e]
      · right
        have : side = 1 := Decidable.byContradiction fun h => c0 ⟨e, h⟩
        simp [this]
    clear c0
    by_cases c1 : rFault raw = 0
    · rw [if_neg (by simp [c1])] at hHM
      have HPA : Hid (∀ W, Calls Try.prog 35 #[.string raw] W fun e w' => e = .returned (.tuple #[.agg #[.string (raw.extract 0 20), .int .i64 (addrAt raw 12), .int .i64 (addrAt raw 16), .int .i64 (byteAt raw 9), .string (raw.extract 20 raw.size)], .int .i64 0]) ∧ Below W.heap.size W w') := fun W => by
        have := Parse_any raw W _ (Or.inl ⟨c1, rfl⟩)
        rw [c1] at this
        exact this
      have hh20 : (raw.extract 0 20).size = 20 := by
        unfold rFault at c1
        split at c1
        · omega
        · rw [ByteArray.size_extract]; omega
      have hb140 : (raw.extract 20 raw.size).size ≤ 140 := by
        unfold rFault at c1
        split at c1
        · omega
        · rw [ByteArray.size_extract]; omega
      have hb1000 : (raw.extract 20 raw.size).size ≤ 1000 := by omega
      have hs := addrAt_bd raw 12
      have hd := addrAt_bd raw 16
      have hpr := byteAt_bd raw 9
      unfold wholeW wholeL at hHM
      unfold wayH at hHM
      generalize raw.extract 0 20 = HB at HPA hHM hh20
      generalize raw.extract 20 raw.size = BD at HPA hHM hb1000 hb140 hTR
      generalize addrAt raw 12 = src at HPA hHM hs
      generalize addrAt raw 16 = dst at HPA hHM hd
      generalize byteAt raw 9 = pr at HPA hHM hpr hTR
      clear c1
      have HMP : Hid (∀ W, BoxAt W b v s → Calls Try.prog 36 #[.pointer (some ⟨b, 0, none⟩), .int .i64 side, .int .i64 src, .int .i64 dst] W fun e w' => e = .returned (.bool (mayB s side src dst)) ∧ Below W.heap.size W w') := fun W hW => mayPass_any hW side src dst hs.1 hs.2 hd.1 hd.2 hk.n0 hk.n1
      by_cases c2 : mayB s side src dst = false
      · rw [if_pos c2] at hHM
        subst hHM
        rw [c2] at HMP
        rcases c0' with c0a | ⟨c0a, c0b⟩
        all_goals
          go_enter Try.func30, Try.ntmps30
          go_wp2_with (first | (go_at_call 35; refine (HPA.out _).mono ?_; rintro e w1 ⟨rfl, hb1⟩; have hM1 := hM.out.call hb1; clear hM hb1; have hM : Hid _ := hM1; clear hM1) | (go_at_call 36; refine (HMP.out _ (hM.out.alloc' #[.string HB, .int .i64 src, .int .i64 dst, .int .i64 pr, .string BD] 74 w1.heap.size rfl).box).mono ?_; rintro e w2 ⟨rfl, hb2⟩; have hM1 := (hM.out.alloc' #[.string HB, .int .i64 src, .int .i64 dst, .int .i64 pr, .string BD] 74 w1.heap.size rfl).call hb2; clear hM hb2; obtain ⟨⟨k0, k1, k2, k3, k4⟩, kf⟩ := c5g hM1.at0; have hM : Hid _ := hM1; clear hM1))
          go_ret2
          exact ⟨_, rfl, rfl, v, hM.out.box, hM.out.chg⟩
      · rw [if_neg c2] at hHM
        have c2' : mayB s side src dst = true := by simpa using c2
        rw [c2'] at HMP
        clear c2 c2'
        by_cases c3 : pr = 1 ∨ pr = 6 ∨ pr = 17
        · rw [if_neg (by simp [c3])] at hHM
          have c3' : (pr != 1) = false ∨ (pr != 1) = true ∧ (pr != 6) = false ∨ (pr != 1) = true ∧ (pr != 6) = true ∧ (pr != 17) = false := by
            rcases c3 with e | e | e <;> simp [e]
          have HPI : Hid (∀ W, Calls Try.prog 37 #[.agg #[.string HB, .int .i64 src, .int .i64 dst, .int .i64 pr, .string BD]] W fun e w' => e = .returned (.bool (pieceB HB)) ∧ Below W.heap.size W w') := fun W => Piece_any HB BD src dst pr W
          by_cases c4 : pieceB HB = true
          · rw [if_pos c4] at hHM
            subst hHM
            rw [c4] at HPI
            clear c3 c4
            go_enter Try.func30, Try.ntmps30
            go_upto_region 1 with fail; go_cut [19] (fun s19 wx => s19 = .bool false ∧ wx = w); (case first => (rcases c0' with c0a | ⟨c0a, c0b⟩ <;> (go_wp2_with fail; go_meet; exact ⟨rfl, rfl⟩))); obtain ⟨hu, hwc⟩ := hcut; subst hu; rw [hwc]; clear hwc
            go_upto_region 8 with (first | (go_at_call 35; refine (HPA.out _).mono ?_; rintro e w1 ⟨rfl, hb1⟩; have hM1 := hM.out.call hb1; clear hM hb1; have hM : Hid _ := hM1; clear hM1) | (go_at_call 36; refine (HMP.out _ (hM.out.alloc' #[.string HB, .int .i64 src, .int .i64 dst, .int .i64 pr, .string BD] 74 w1.heap.size rfl).box).mono ?_; rintro e w2 ⟨rfl, hb2⟩; have hM1 := (hM.out.alloc' #[.string HB, .int .i64 src, .int .i64 dst, .int .i64 pr, .string BD] 74 w1.heap.size rfl).call hb2; clear hM hb2; obtain ⟨⟨k0, k1, k2, k3, k4⟩, kf⟩ := c5g hM1.at0; have hM : Hid _ := hM1; clear hM1))
            go_cut [48] (fun s48 wx => s48 = .bool false ∧ wx = w2); (case first => (rcases c3' with c3a | ⟨c3a, c3b⟩ | ⟨c3a, c3b, c3c⟩ <;> (go_wp2_with fail; go_meet; exact ⟨rfl, rfl⟩))); obtain ⟨hu, hwc⟩ := hcut; subst hu; rw [hwc]; clear hwc
            go_wp2_with (go_at_call 37; refine (HPI.out _).mono ?_; rintro e w3 ⟨rfl, hb3⟩; have hM1 := hM.out.call hb3; clear hM hb3 k0 k1 k2 k3 k4 kf; have hM : Hid _ := hM1; clear hM1)
            go_ret2
            exact ⟨_, rfl, rfl, v, hM.out.box, hM.out.chg⟩
          · rw [if_neg c4] at hHM
            have c4' : pieceB HB = false := by simpa using c4
            rw [c4'] at HPI
            have HWH : Hid (∀ W, Calls Try.prog 38 #[.agg #[.string HB, .int .i64 src, .int .i64 dst, .int .i64 pr, .string BD]] W fun e w' => e = .returned (.agg #[.int .i64 pr, .int .i64 src, .int .i64 (portsOf pr BD).1, .int .i64 dst, .int .i64 (portsOf pr BD).2, .string BD]) ∧ Below W.heap.size W w') := fun W => Whole_any HB BD src dst pr W
            generalize (portsOf pr BD).1 = p1 at HWH hHM
            generalize (portsOf pr BD).2 = p2 at HWH hHM
            have hER : errB pr BD = false ∨ errB pr BD = true ∧ TrOK b s := by
              rcases hTR with h | h
              · exact Or.inl h
              · rcases hee : errB pr BD with _ | _
                · exact Or.inl rfl
                · exact Or.inr ⟨rfl, h⟩
            clear hTR
            have HRO : Hid (∀ W, BoxAt W b v s → Calls Try.prog 39 #[.pointer (some ⟨b, 0, none⟩), .int .i64 side, .agg #[.int .i64 pr, .int .i64 src, .int .i64 p1, .int .i64 dst, .int .i64 p2, .string BD]] W fun e w' => e = .returned (routeW s side pr src p1 dst p2 BD).val ∧ ∃ v', BoxAt w' b v' { s with l := routeL s side pr src p1 dst p2 BD } ∧ Chg b v W w' v') := fun W hW => route_any hW hk side pr src p1 dst p2 BD hb1000 c3 hs.1 hs.2 hd.1 hd.2 (by rcases hER with e | ⟨e, h⟩; exact Or.inl e; exact Or.inr fun h0 => (h side pr src p1 dst p2 BD hb140 e hs.1 hs.2 hd.1 hd.2 h0).2 v)
            have hms := routeW_size s side pr src p1 dst p2 BD hb1000 c3 (by rcases hER with e | ⟨e, h⟩; exact Or.inl e; exact Or.inr fun h0 => (h side pr src p1 dst p2 BD hb140 e hs.1 hs.2 hd.1 hd.2 h0).1)
            clear hER
            generalize routeW s side pr src p1 dst p2 BD = IW at HRO hHM hms
            generalize routeL s side pr src p1 dst p2 BD = IL at HRO hHM
            simp only [WYD.val] at HRO
            clear c4 c4' c3
            have HON : Hid (∀ W, Calls Try.prog 40 #[.agg #[.string HB, .int .i64 src, .int .i64 dst, .int .i64 pr, .string BD], .int .i64 IW.xa, .int .i64 IW.ya, .string IW.m] W fun e w' => e = .returned (.string (onHead HB IW.xa IW.ya ++ IW.m)) ∧ Below W.heap.size W w') := fun W => Onward_any HB BD src dst pr IW.xa IW.ya IW.m W hh20 hms
            by_cases c5 : IW.what = 0
            · rw [if_pos c5] at hHM
              subst hHM
              have c5b : (IW.what != 0) = false := by simp [c5]
              clear c5
              generalize onHead HB IW.xa IW.ya ++ IW.m = OUT at HON ⊢
              go_enter Try.func30, Try.ntmps30
              go_upto_region 1 with fail; go_cut [19] (fun s19 wx => s19 = .bool false ∧ wx = w); (case first => (rcases c0' with c0a | ⟨c0a, c0b⟩ <;> (go_wp2_with fail; go_meet; exact ⟨rfl, rfl⟩))); obtain ⟨hu, hwc⟩ := hcut; subst hu; rw [hwc]; clear hwc
              go_upto_region 8 with (first | (go_at_call 35; refine (HPA.out _).mono ?_; rintro e w1 ⟨rfl, hb1⟩; have hM1 := hM.out.call hb1; clear hM hb1; have hM : Hid _ := hM1; clear hM1) | (go_at_call 36; refine (HMP.out _ (hM.out.alloc' #[.string HB, .int .i64 src, .int .i64 dst, .int .i64 pr, .string BD] 74 w1.heap.size rfl).box).mono ?_; rintro e w2 ⟨rfl, hb2⟩; have hM1 := (hM.out.alloc' #[.string HB, .int .i64 src, .int .i64 dst, .int .i64 pr, .string BD] 74 w1.heap.size rfl).call hb2; clear hM hb2; obtain ⟨⟨k0, k1, k2, k3, k4⟩, kf⟩ := c5g hM1.at0; have hM : Hid _ := hM1; clear hM1))
              go_cut [48] (fun s48 wx => s48 = .bool false ∧ wx = w2); (case first => (rcases c3' with c3a | ⟨c3a, c3b⟩ | ⟨c3a, c3b, c3c⟩ <;> (go_wp2_with fail; go_meet; exact ⟨rfl, rfl⟩))); obtain ⟨hu, hwc⟩ := hcut; subst hu; rw [hwc]; clear hwc
              go_wp2_with (first | (go_at_call 37; refine (HPI.out _).mono ?_; rintro e w3 ⟨rfl, hb3⟩; have hM1 := hM.out.call hb3; clear hM hb3 k0 k1 k2 k3 k4 kf; obtain ⟨⟨k0, k1, k2, k3, k4⟩, kf⟩ := c5g hM1.at0; have hM : Hid _ := hM1; clear hM1) | (go_at_call 38; refine (HWH.out _).mono ?_; rintro e w4 ⟨rfl, hb4⟩; have hM1 := hM.out.call hb4; clear hM hb4 k0 k1 k2 k3 k4 kf; have hM : Hid _ := hM1; clear hM1) | (go_at_call 39; refine (HRO.out _ (hM.out.alloc' #[.int .i64 pr, .int .i64 src, .int .i64 p1, .int .i64 dst, .int .i64 p2, .string BD] 80 w4.heap.size rfl).box).mono ?_; rintro e w5 ⟨rfl, v5, hbx5, hch5⟩; have hM1 := (hM.out.alloc' #[.int .i64 pr, .int .i64 src, .int .i64 p1, .int .i64 dst, .int .i64 p2, .string BD] 80 w4.heap.size rfl).change hbx5 hch5; clear hM hbx5 hch5; obtain ⟨⟨k0, k1, k2, k3, k4⟩, kf⟩ := c5g hM1.at1; have hs1 := lt_of_block hM1.at1; have hM : Hid _ := hM1; clear hM1))
              refine (HON.out _).mono ?_
              rintro e w6 ⟨rfl, hb6⟩
              have hM1 := ((hM.out.alloc' #[.int .i64 IW.what, .int .i64 IW.side, .int .i64 IW.pr, .int .i64 IW.xa, .int .i64 IW.xp, .int .i64 IW.ya, .int .i64 IW.yp, .string IW.m] 83 w5.heap.size rfl).alloc' #[.int .i64 IW.pr, .int .i64 IW.xa, .int .i64 IW.xp, .int .i64 IW.ya, .int .i64 IW.yp, .string IW.m] 80 (w5.heap.size + 1) (by simp)).call hb6
              clear hM hb6
              obtain ⟨⟨t0, t1, t2, t3, t4, t5, t6, t7⟩, tf⟩ := c8g hM1.at1
              have hM : Hid _ := hM1
              clear hM1 k0 k1 k2 k3 k4 kf hs1
              go_wp2_with fail
              go_region
              go_wp2_with fail
              go_ret2
              have hE := (hM.out.alloc' #[.int .i64 IW.side, .string OUT] 43 w6.heap.size rfl).drew
              exact ⟨_, rfl, ⟨_, rfl, hE.at0⟩, _, hE.box, hE.chg⟩
            · rw [if_neg c5] at hHM
              subst hHM
              have c5b : (IW.what != 0) = true := by simp [c5]
              clear c5
              go_enter Try.func30, Try.ntmps30
              go_upto_region 1 with fail; go_cut [19] (fun s19 wx => s19 = .bool false ∧ wx = w); (case first => (rcases c0' with c0a | ⟨c0a, c0b⟩ <;> (go_wp2_with fail; go_meet; exact ⟨rfl, rfl⟩))); obtain ⟨hu, hwc⟩ := hcut; subst hu; rw [hwc]; clear hwc
              go_upto_region 8 with (first | (go_at_call 35; refine (HPA.out _).mono ?_; rintro e w1 ⟨rfl, hb1⟩; have hM1 := hM.out.call hb1; clear hM hb1; have hM : Hid _ := hM1; clear hM1) | (go_at_call 36; refine (HMP.out _ (hM.out.alloc' #[.string HB, .int .i64 src, .int .i64 dst, .int .i64 pr, .string BD] 74 w1.heap.size rfl).box).mono ?_; rintro e w2 ⟨rfl, hb2⟩; have hM1 := (hM.out.alloc' #[.string HB, .int .i64 src, .int .i64 dst, .int .i64 pr, .string BD] 74 w1.heap.size rfl).call hb2; clear hM hb2; obtain ⟨⟨k0, k1, k2, k3, k4⟩, kf⟩ := c5g hM1.at0; have hM : Hid _ := hM1; clear hM1))
              go_cut [48] (fun s48 wx => s48 = .bool false ∧ wx = w2); (case first => (rcases c3' with c3a | ⟨c3a, c3b⟩ | ⟨c3a, c3b, c3c⟩ <;> (go_wp2_with fail; go_meet; exact ⟨rfl, rfl⟩))); obtain ⟨hu, hwc⟩ := hcut; subst hu; rw [hwc]; clear hwc
              go_wp2_with (first | (go_at_call 37; refine (HPI.out _).mono ?_; rintro e w3 ⟨rfl, hb3⟩; have hM1 := hM.out.call hb3; clear hM hb3 k0 k1 k2 k3 k4 kf; obtain ⟨⟨k0, k1, k2, k3, k4⟩, kf⟩ := c5g hM1.at0; have hM : Hid _ := hM1; clear hM1) | (go_at_call 38; refine (HWH.out _).mono ?_; rintro e w4 ⟨rfl, hb4⟩; have hM1 := hM.out.call hb4; clear hM hb4 k0 k1 k2 k3 k4 kf; have hM : Hid _ := hM1; clear hM1) | (go_at_call 39; refine (HRO.out _ (hM.out.alloc' #[.int .i64 pr, .int .i64 src, .int .i64 p1, .int .i64 dst, .int .i64 p2, .string BD] 80 w4.heap.size rfl).box).mono ?_; rintro e w5 ⟨rfl, v5, hbx5, hch5⟩; have hM1 := (hM.out.alloc' #[.int .i64 pr, .int .i64 src, .int .i64 p1, .int .i64 dst, .int .i64 p2, .string BD] 80 w4.heap.size rfl).change hbx5 hch5; clear hM hbx5 hch5; obtain ⟨⟨k0, k1, k2, k3, k4⟩, kf⟩ := c5g hM1.at1; have hs1 := lt_of_block hM1.at1; have hM : Hid _ := hM1; clear hM1))
              go_ret2
              have hE := hM.out.alloc' #[.int .i64 IW.what, .int .i64 IW.side, .int .i64 IW.pr, .int .i64 IW.xa, .int .i64 IW.xp, .int .i64 IW.ya, .int .i64 IW.yp, .string IW.m] 83 w5.heap.size rfl
              exact ⟨_, rfl, rfl, v5, hE.box, hE.chg⟩
        · rw [if_pos c3] at hHM
          subst hHM
          have c3a : (pr != 1) = true := by simp; omega
          have c3b : (pr != 6) = true := by simp; omega
          have c3c : (pr != 17) = true := by simp; omega
          clear c3
          rcases c0' with c0a | ⟨c0a, c0b⟩
          all_goals
            go_enter Try.func30, Try.ntmps30
            go_wp2_with (first | (go_at_call 35; refine (HPA.out _).mono ?_; rintro e w1 ⟨rfl, hb1⟩; have hM1 := hM.out.call hb1; clear hM hb1; have hM : Hid _ := hM1; clear hM1) | (go_at_call 36; refine (HMP.out _ (hM.out.alloc' #[.string HB, .int .i64 src, .int .i64 dst, .int .i64 pr, .string BD] 74 w1.heap.size rfl).box).mono ?_; rintro e w2 ⟨rfl, hb2⟩; have hM1 := (hM.out.alloc' #[.string HB, .int .i64 src, .int .i64 dst, .int .i64 pr, .string BD] 74 w1.heap.size rfl).call hb2; clear hM hb2; obtain ⟨⟨k0, k1, k2, k3, k4⟩, kf⟩ := c5g hM1.at0; have hM : Hid _ := hM1; clear hM1))
            go_ret2
            exact ⟨_, rfl, rfl, v, hM.out.box, hM.out.chg⟩
    · rw [if_pos c1] at hHM
      subst hHM
      have HPA : Hid (∀ W, Calls Try.prog 35 #[.string raw] W fun e w' => e = .returned (.tuple #[.agg #[.string ⟨#[]⟩, .int .i64 0, .int .i64 0, .int .i64 0, .string ⟨#[]⟩], .int .i64 (rFault raw)]) ∧ Below W.heap.size W w') := fun W => Parse_any raw W _ (Or.inr ⟨c1, rfl⟩)
      have c1b : (rFault raw != 0) = true := by simp [c1]
      clear c1
      rcases c0' with c0a | ⟨c0a, c0b⟩
      all_goals
        go_enter Try.func30, Try.ntmps30
        go_wp2_with (go_at_call 35; refine (HPA.out _).mono ?_; rintro e w1 ⟨rfl, hb1⟩; have hM1 := hM.out.call hb1; clear hM hb1; have hM : Hid _ := hM1; clear hM1)
        go_ret2
        have hE := hM.out.alloc' #[.string ⟨#[]⟩, .int .i64 0, .int .i64 0, .int .i64 0, .string ⟨#[]⟩] 74 w1.heap.size rfl
        exact ⟨_, rfl, rfl, v, hE.box, hE.chg⟩
end Go.Proofs.Ytapahmhpjmnebab
