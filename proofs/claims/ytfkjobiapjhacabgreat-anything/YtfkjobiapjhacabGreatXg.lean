/- Anything: the walk; the row. Own work. -/
import Derived.Test.YtfkjobiapjhacabGreatXf
import Derived.Test.YtfkjobiapjhacabGreatQd
namespace Go.Proofs.YtfkjobiapjhacabGreat
open Go.RowKit
attribute [local go_sem ↓] Go.wp_at_zero Go.wp_at_succ

/-- A list of plain values lies in memory, one cell each. -/
def OnesAt {α : Type} (w : World) (mk : α → Value) (v : Value) (l : List α) : Prop :=
  ∃ ao cap, v = .slice ao l.length cap ∧ (l ≠ [] → ∃ g off, ao = some ⟨g, off, none⟩ ∧ g < w.heap.size ∧ ∀ (i : Nat) (h : i < l.length), w.cell? ⟨g, off + i, none⟩ = some (mk l[i]))
theorem OnesAt.at {α : Type} {w : World} {mk : α → Value} {v : Value} {l : List α} (h : OnesAt w mk v l) (i : Nat) (hi : i < l.length) : ∃ g off cap, v = .slice (some ⟨g, off, none⟩) l.length cap ∧ g < w.heap.size ∧ w.cell? ⟨g, off + i, none⟩ = some (mk l[i]) := by
  obtain ⟨ao, cap, e, hc⟩ := h
  obtain ⟨g, off, rfl, hg, hcell⟩ := hc (by intro e; rw [e] at hi; simp at hi)
  exact ⟨g, off, cap, e, hg, hcell i hi⟩
def iV (x : Int) : Value := .int .i64 x
def sV (x : ByteArray) : Value := .string x
theorem box0_st (n : Int) (h0 : 1 ≤ n) (h1 : n ≤ 12) : St (box0 n) 0 0 := by
  refine ⟨⟨?_, by show (0 : Int) ≤ 0; decide, by show (0 : Int) ≤ 1000000000000; decide, by simp [box0], fun x hx => absurd hx (by simp [box0]), by simp [box0], fun d hd => absurd hd (by simp [box0]), by simp [box0, heldAll], fun src => by simp [box0, heldOf]⟩, ⟨rfl, rfl, rfl, rfl, rfl⟩, fun d hd => absurd hd (by simp [box0]), ⟨rfl, fun c hc => ?_, rfl⟩, by show (0 : Int) ≤ 0; decide, by decide⟩
  · exact box0_valid n h0 h1
  · simp [box0] at hc
    omega
set_option maxRecDepth 100000 in
set_option maxHeartbeats 2000000 in
theorem Anything_walk (ports : Int) (sv pv tv : Value) (sl tl : List Int) (pl : List ByteArray) (w : World) (hp0 : -9223372036854775808 ≤ ports) (hp1 : ports ≤ 9223372036854775807) (hs : OnesAt w iV sv sl) (hp : OnesAt w sV pv pl) (ht : OnesAt w iV tv tl) :
    Calls Tryz.prog 7 #[.int .i64 ports, sv, pv, tv] w fun e w' => e = .returned (.bool true) ∧ Below w.heap.size w w' := by
  have hk := pickI_bd ports 12 (by decide)
  have HPK : Hid (∀ w, Calls Tryz.prog 12 #[.int .i64 ports, .int .i64 12] w fun e w' => e = .returned (.int .i64 (pickI ports 12)) ∧ w' = w) := fun w => pick_any ports 12 w hp0 hp1 (by decide) (by decide)
  have n0 : 1 ≤ 1 + pickI ports 12 := by omega
  have n1 : 1 + pickI ports 12 ≤ 12 := by omega
  have q0 := hk.1
  have q1 := hk.2
  have HBO : Hid (∀ w, Calls Tryz.prog 13 #[.int .i64 (1 + pickI ports 12)] w fun e w' => ∃ b, e = .returned (.pointer (some ⟨b, 0, none⟩)) ∧ BoxAt w' b (.slice none 0 0) (box0 (1 + pickI ports 12)) ∧ w.heap.size ≤ b ∧ Below w.heap.size w w') := fun w => box_any _ w n0 n1
  have hst := box0_st (1 + pickI ports 12) n0 n1
  generalize box0 (1 + pickI ports 12) = s0 at HBO hst
  generalize pickI ports 12 = pk at HPK HBO q0 q1 n0 n1
  have HST : Hid (St s0 0 0) := hst
  have HSL : Hid (OnesAt w iV sv sl) := hs
  have HPL : Hid (OnesAt w sV pv pl) := hp
  have HTL : Hid (OnesAt w iV tv tl) := ht
  obtain ⟨sa, sc, hsv, -⟩ := hs
  obtain ⟨pa, pc, hpv, -⟩ := hp
  obtain ⟨ta, tc, htv, -⟩ := ht
  subst hsv
  subst hpv
  subst htv
  obtain ⟨ns, hns⟩ : ∃ ns, ns = sl.length := ⟨_, rfl⟩
  obtain ⟨np, hnp⟩ : ∃ np, np = pl.length := ⟨_, rfl⟩
  obtain ⟨nt, hnt⟩ : ∃ nt, nt = tl.length := ⟨_, rfl⟩
  have HNS : Hid (ns = sl.length) := hns
  have HNP : Hid (np = pl.length) := hnp
  have HNT : Hid (nt = tl.length) := hnt
  rw [← hns] at HSL ⊢
  rw [← hnp] at HPL ⊢
  rw [← hnt] at HTL ⊢
  clear hk hst hns hnp hnt
  go_enter Tryz.func7, Tryz.ntmps7
  go_wp2_with fail
  refine (HPK.out _).mono ?_; rintro e w' ⟨rfl, rfl⟩
  obtain ⟨w0, hw0⟩ : ∃ w0, w0 = w' := ⟨_, rfl⟩
  subst hw0
  go_wp2_with fail
  refine (HBO.out _).mono ?_
  rintro e w1 ⟨b, rfl, hbx, hle, hbl⟩
  have HL : Hid (w0.heap.size ≤ b ∧ Below w0.heap.size w0 w1) := ⟨hle, hbl⟩
  have hM : Hid (GMid w1 w1 b (.slice none 0 0) (.slice none 0 0) s0 []) := GMid.start hbx
  clear hbx hle hbl HPK HBO
  go_wp2_with fail
  go_loopw [11] (fun i wr => ∃ (k : Nat) (v : Value) (s : BX), k ≤ 1024 ∧ k ≤ np ∧ i = .int .i64 (k : Int) ∧ St s (k : Int) (1048576 * (k : Int)) ∧ GMid w1 wr b (.slice none 0 0) v s [(w1.heap.size, #[.pointer (some ⟨b, 0, none⟩)], 32)]) (fun i _ => 1024 - (intOf i).toNat)
  case atStart => exact ⟨0, _, s0, by decide, Nat.zero_le _, rfl, HST.out, hM.out.alloc' _ _ _ rfl⟩
  case round =>
    obtain ⟨k, v, s, hk, hkp, rfl, hS, hM1⟩ := hrel
    clear hM
    have HS : Hid (St s (k : Int) (1048576 * (k : Int))) := hS
    have HM : Hid _ := hM1
    have hlow := (hM1.chg.low HL.out.1 (fun j hj => absurd hj (by simp [Value.ownBlock])) HL.out.2.size).1
    have HBW : Hid (Below w0.heap.size w0 wr) := HL.out.2.trans hlow
    clear hS hM1 hlow
    by_cases hlt : k < np
    · by_cases hlt2 : k < 1024
      · have hkI : (0 : Int) ≤ (k : Int) := by omega
        have hkN : (k : Int) < (np : Int) := by omega
        have hk2 : (k : Int) < 1024 := by omega
        go_upto_if 35 with fail
        go_cut [12] (fun s12 wx => ∃ sd : Int, s12 = .int .i64 sd ∧ wx = wr)
        case first =>
          by_cases hc : k < ns
          · obtain ⟨g, off, cap, hv, hg, hcell⟩ := OnesAt.at HSL.out k (by rw [← HNS.out]; exact hc)
            simp at hv
            obtain ⟨rfl, -, rfl⟩ := hv
            have hcw := (HBW.out.cell (p := ⟨g, off + k, none⟩) hg).trans hcell
            unfold iV at hcw
            generalize sl[k] = x at hcw
            have hc' : (k : Int) < (ns : Int) := by omega
            go_wp2_with fail
            go_meet
            exact ⟨_, rfl, rfl⟩
          · have hc' : ¬ (k : Int) < (ns : Int) := by omega
            go_wp2_with fail
            go_meet
            exact ⟨0, rfl, rfl⟩
        case rest =>
        obtain ⟨sd, rfl, hwc⟩ := hcut
        obtain ⟨wb, hwb⟩ : ∃ wb, wb = wc := ⟨_, rfl⟩
        subst hwb
        subst hwc
        go_upto_if 43 with fail
        go_cut [13] (fun s13 wx => ∃ tk : Int, s13 = .int .i64 tk ∧ wx = wb)
        case first =>
          by_cases hc : k < nt
          · obtain ⟨g, off, cap, hv, hg, hcell⟩ := OnesAt.at HTL.out k (by rw [← HNT.out]; exact hc)
            simp at hv
            obtain ⟨rfl, -, rfl⟩ := hv
            have hcw := (HBW.out.cell (p := ⟨g, off + k, none⟩) hg).trans hcell
            unfold iV at hcw
            generalize tl[k] = x at hcw
            have hc' : (k : Int) < (nt : Int) := by omega
            go_wp2_with fail
            go_meet
            exact ⟨_, rfl, rfl⟩
          · have hc' : ¬ (k : Int) < (nt : Int) := by omega
            go_wp2_with fail
            go_meet
            exact ⟨0, rfl, rfl⟩
        case rest =>
        obtain ⟨tk, rfl, hwc⟩ := hcut
        obtain ⟨wd, hwd⟩ : ∃ wd, wd = wc := ⟨_, rfl⟩
        subst hwd
        subst hwc
        have hlo : k < pl.length := by rw [← HNP.out]; exact hlt
        obtain ⟨g, off, cap, hv, hg, hcell⟩ := OnesAt.at HPL.out k hlo
        simp at hv
        obtain ⟨rfl, -, rfl⟩ := hv
        have hcw := (HBW.out.cell (p := ⟨g, off + k, none⟩) hg).trans hcell
        unfold sV at hcw
        generalize pl[k] = raw at hcw
        have hM1 := HM.out
        have hb1 := hM1.bk (w1.heap.size, #[.pointer (some ⟨b, 0, none⟩)], 32) (by simp)
        have hlt' := hM1.lt
        have HAN : Hid (Calls Tryz.prog 14 #[.pointer (some ⟨w1.heap.size, 0, none⟩), .string raw, .int .i64 sd, .int .i64 tk] wd fun e w' => e = .returned (.bool true) ∧ ∃ v' s', BoxAt w' b v' s' ∧ Chg b v wd w' v' ∧ St s' ((k : Int) + 1) (1048576 * (k : Int) + 1048576)) := anything_any hM1.box hb1.1 (by omega) hb1.2.2 HS.out (by omega) (by omega) raw sd tk
        clear hM1 hb1 hlt' hcell
        go_wp2_with fail
        refine HAN.out.mono ?_
        rintro e w5 ⟨rfl, v5, s5, hbx, hch, hst⟩
        have HM5 : Hid _ := HM.out.change hbx hch
        have HST5 : Hid (St s5 ((k : Int) + 1) (1048576 * (k : Int) + 1048576)) := hst
        clear hbx hch hst HAN hcw
        go_wp2_with fail
        go_roundw
        case rel =>
          refine ⟨k + 1, v5, s5, by omega, by omega, by go_num, ?_, HM5.out⟩
          have e1 : (((k + 1 : Nat) : Int)) = (k : Int) + 1 := by omega
          have e2 : 1048576 * ((k : Int) + 1) = 1048576 * (k : Int) + 1048576 := by omega
          rw [e1, e2]
          exact HST5.out
        case measure => simp [intOf]; omega
      · have hkI : (0 : Int) ≤ (k : Int) := by omega
        have hkN : (k : Int) < (np : Int) := by omega
        have hk2 : ¬ (k : Int) < 1024 := by omega
        go_wp2_with fail
        go_ret
        exact ⟨rfl, HBW.out⟩
    · have hkN : ¬ (k : Int) < (np : Int) := by omega
      go_wp2_with fail
      go_ret
      exact ⟨rfl, HBW.out⟩
end Go.Proofs.YtfkjobiapjhacabGreat
