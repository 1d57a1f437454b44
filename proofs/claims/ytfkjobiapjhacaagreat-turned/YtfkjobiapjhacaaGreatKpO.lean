/- Turned: the walk. Own work. -/
import Derived.Test.YtfkjobiapjhacaaGreatKpN
namespace Go.Proofs.YtfkjobiapjhacaaGreat
open Go.RowKit
attribute [local go_sem ↓] Go.wp_at_zero Go.wp_at_succ

set_option maxRecDepth 100000 in
set_option maxHeartbeats 4000000 in
theorem turned_any (a c : Int) (w : World) (ha0 : -9223372036854775808 ≤ a) (ha1 : a ≤ 9223372036854775807) (hc0 : -9223372036854775808 ≤ c) (hc1 : c ≤ 9223372036854775807) :
    Calls Tryz.prog 13 #[.int .i64 a, .int .i64 c] w fun e w' => e = .returned (.bool true) ∧ Below w.heap.size w w' := by
  have hk := pickI_bd a 200 (by decide)
  have hk2 := pickI_bd a 65535 (by decide)
  have hk3 := pickI_bd c 200 (by decide)
  have hk4 := pickI_bd c 65535 (by decide)
  have HHO : Hid (∀ w, Calls Tryz.prog 18 #[.int .i64 a] w fun e w' => e = .returned (.int .i64 (167772161 + pickI a 200)) ∧ w' = w) := fun w => host_any a w ha0 ha1
  have HHG : Hid (∀ w, Calls Tryz.prog 18 #[.int .i64 c] w fun e w' => e = .returned (.int .i64 (167772161 + pickI c 200)) ∧ w' = w) := fun w => host_any c w hc0 hc1
  have HPO : Hid (∀ w, Calls Tryz.prog 19 #[.int .i64 a] w fun e w' => e = .returned (.int .i64 (1 + pickI a 65535)) ∧ w' = w) := fun w => port_any a w ha0 ha1
  have HPQ : Hid (∀ w, Calls Tryz.prog 19 #[.int .i64 c] w fun e w' => e = .returned (.int .i64 (1 + pickI c 65535)) ∧ w' = w) := fun w => port_any c w hc0 hc1
  have HFA : Hid (∀ w, Calls Tryz.prog 20 #[.int .i64 0] w fun e w' => e = .returned (.int .i64 134744064) ∧ w' = w) := fun w => far_any 0 w (by decide) (by decide)
  have HTR : Hid (¬ (167772161 + pickI a 200 = 167772161 + pickI c 200 ∧ 1 + pickI a 65535 = 1 + pickI c 65535) → TR (167772161 + pickI a 200) (1 + pickI a 65535) (167772161 + pickI c 200) (1 + pickI c 65535)) := fun hne => ⟨by omega, by omega, by omega, by omega, by omega, by omega, by omega, by omega, hne⟩
  have hbx0 : box0 4 = stN 4 0 [0, 0, 0, 0, 0, 0, 0, 0, 0, 0, 0, 0, 0, 0, 0, 0, 0, 0] [] := rfl
  generalize 1 + pickI a 65535 = p at HPO HTR
  generalize 1 + pickI c 65535 = q at HPQ HTR
  generalize 167772161 + pickI a 200 = h at HHO HTR
  generalize 167772161 + pickI c 200 = g at HHG HTR
  clear hk hk2 hk3 hk4
  by_cases hne : h = g ∧ p = q
  · have e1 : (h == g) = true := by simp [hne.1]
    have e2 : (p == q) = true := by simp [hne.2]
    clear hne HTR
    go_enter Tryz.func13, Tryz.ntmps13
    go_wp2_with fail
    refine (box_any 4 _ (by decide) (by decide)).mono ?_
    rintro e w1 ⟨b, rfl, hbx, hle, hbl⟩
    have HB : Hid (Below w.heap.size w w1) := hbl
    clear hbx hle hbl hbx0
    go_wp2_with (first | (go_at_call 18; refine (HHO.out _).mono ?_; rintro e w' ⟨rfl, rfl⟩) | (go_at_call 18; refine (HHG.out _).mono ?_; rintro e w' ⟨rfl, rfl⟩) | (go_at_call 19; refine (HPO.out _).mono ?_; rintro e w' ⟨rfl, rfl⟩) | (go_at_call 19; refine (HPQ.out _).mono ?_; rintro e w' ⟨rfl, rfl⟩) | (go_at_call 20; refine (HFA.out _).mono ?_; rintro e w' ⟨rfl, rfl⟩))
    go_ret
    exact ⟨rfl, HB.out⟩
  · have hT := HTR.out hne
    have hg1 : (h == g) = false ∨ (h == g) = true ∧ (p == q) = false := by
      by_cases e : h = g
      · right; refine ⟨by simp [e], ?_⟩
        simp; intro e2; exact hne ⟨e, e2⟩
      · left; simp [e]
    have HT : Hid (TR h p g q) := hT
    clear HTR hne hT
    go_enter Tryz.func13, Tryz.ntmps13
    go_wp2_with fail
    refine (box_any 4 _ (by decide) (by decide)).mono ?_
    rintro e w1 ⟨b, rfl, hbx, hle, hbl⟩
    rw [hbx0] at hbx
    have H1 : Hid (RM w w1 b (.slice none 0 0) (stN 4 0 [0, 0, 0, 0, 0, 0, 0, 0, 0, 0, 0, 0, 0, 0, 0, 0, 0, 0] [])) := ⟨hbx, hle, fun k hk => absurd hk (by simp [Value.ownBlock]), hbl⟩
    clear hbx hle hbl hbx0
    go_upto_region 6 with (first | (go_at_call 18; refine (HHO.out _).mono ?_; rintro e w' ⟨rfl, rfl⟩) | (go_at_call 18; refine (HHG.out _).mono ?_; rintro e w' ⟨rfl, rfl⟩) | (go_at_call 19; refine (HPO.out _).mono ?_; rintro e w' ⟨rfl, rfl⟩) | (go_at_call 19; refine (HPQ.out _).mono ?_; rintro e w' ⟨rfl, rfl⟩) | (go_at_call 20; refine (HFA.out _).mono ?_; rintro e w' ⟨rfl, rfl⟩))
    go_cut [37] (fun s37 wx => s37 = .bool false ∧ RM w wx b (.slice none 0 0) (stN 4 0 [0, 0, 0, 0, 0, 0, 0, 0, 0, 0, 0, 0, 0, 0, 0, 0, 0, 0] []))
    case first =>
      rcases hg1 with e1 | ⟨e1, e2⟩
      · go_wp2_with fail; go_meet; exact ⟨rfl, H1.out⟩
      · go_wp2_with fail; go_meet; exact ⟨rfl, H1.out⟩
    case rest =>
      obtain ⟨rfl, h1c⟩ := hcut
      clear H1 hg1
      have H1 : Hid (RM w wc b (.slice none 0 0) (stN 4 0 [0, 0, 0, 0, 0, 0, 0, 0, 0, 0, 0, 0, 0, 0, 0, 0, 0, 0] [])) := h1c
      clear h1c
      go_wp2_with (first | (go_at_call 18; refine (HHO.out _).mono ?_; rintro e w' ⟨rfl, rfl⟩) | (go_at_call 18; refine (HHG.out _).mono ?_; rintro e w' ⟨rfl, rfl⟩) | (go_at_call 19; refine (HPO.out _).mono ?_; rintro e w' ⟨rfl, rfl⟩) | (go_at_call 19; refine (HPQ.out _).mono ?_; rintro e w' ⟨rfl, rfl⟩) | (go_at_call 20; refine (HFA.out _).mono ?_; rintro e w' ⟨rfl, rfl⟩))
      have HRQ : RQ h p 134744064 9 := ⟨HT.out.h0, by have := HT.out.h1; omega, HT.out.p0, HT.out.p1, by decide, by decide, by decide, by decide⟩
      refine (udpOne_yes H1.out.box 0 h p 134744064 9 ⟨#[120]⟩ 1 _ (by decide) (n_out b 4 0 _ h p 134744064 9 ⟨#[120]⟩ (by decide) (by decide) HRQ (by decide) (by decide) (by decide))).mono ?_
      rintro e w2 ⟨rfl, v2, hbx, hch⟩
      rw [val_mk]
      generalize udpB 3405803781 5000 134744064 9 ⟨#[120]⟩ = U1
      generalize bump _ 0 = C1 at hbx
      have K1 : Hid (Ks [S1 h p 134744064 9 5000 (0 + 30)] [((17, h, p, 134744064, 9, 5000) : KY)]) := List.Perm.refl _
      generalize [S1 h p 134744064 9 5000 (0 + 30)] = l1 at K1 hbx
      have H2 : Hid (RM w w2 b v2 (stN 4 0 C1 l1)) := H1.out.change hbx hch
      clear H1 hbx hch HRQ
      go_wp2_with fail
      obtain ⟨l2, k2, o2⟩ := s2 b C1 l1 HT.out K1.out
      refine (udpOne_yes (H2.out.alloc _).box 0 g q 134744064 9 ⟨#[120]⟩ 1 _ (by decide) o2).mono ?_
      rintro e w3 ⟨rfl, v3, hbx, hch⟩
      rw [val_mk]
      generalize udpB 3405803781 5001 134744064 9 ⟨#[120]⟩ = U2
      generalize bump C1 0 = C2 at hbx
      have K2 : Hid _ := k2
      have H3 : Hid (RM w w3 b v3 (stN 4 0 C2 l2)) := (H2.out.alloc _).change hbx hch
      clear H2 hbx hch k2 o2 K1
      go_wp2_with fail
      obtain ⟨l3, k3, o3⟩ := s3 b C2 l2 HT.out K2.out
      refine (udpNone_yes (H3.out.alloc _).box 0 h p 3405803781 5001 17 o3).mono ?_
      rintro e w4 ⟨rfl, v4, hbx, hch⟩
      generalize bump C2 17 = C3 at hbx
      have K3 : Hid _ := k3
      have H4 : Hid (RM w w4 b v4 (stN 4 0 C3 l3)) := (H3.out.alloc _).change hbx hch
      clear H3 hbx hch k3 o3 K2
      go_wp2_with fail
      obtain ⟨l4, k4, o4⟩ := s4 b C3 l3 HT.out K3.out ⟨#[116, 104, 101, 114, 101]⟩ (by decide)
      refine (udpOne_yes H4.out.box 0 g q 3405803781 5000 ⟨#[116, 104, 101, 114, 101]⟩ 0 _ (by decide) o4).mono ?_
      rintro e w5 ⟨rfl, v5, hbx, hch⟩
      rw [val_mk]
      have hxb := udpB_btw 7 0 0 8 17 3405803781 5001 h p ⟨#[116, 104, 101, 114, 101]⟩ (by decide) (by decide) (by have := HT.out.p0; omega) HT.out.p1
      have hxz := udpB_size 3405803781 5001 h p ⟨#[116, 104, 101, 114, 101]⟩
      generalize udpB 3405803781 5001 h p ⟨#[116, 104, 101, 114, 101]⟩ = X at hxb hxz ⊢
      have hxs : X.size ≤ 1000 := by rw [hxz]; decide
      have HXB : Hid (∀ w, Calls Tryz.prog 23 #[.agg #[.int .i64 7, .int .i64 0, .int .i64 0, .int .i64 8, .int .i64 17, .int .i64 3405803781, .int .i64 h, .string X], .int .i64 3405803781, .int .i64 5001, .int .i64 h, .int .i64 p] w fun e w' => e = .returned (.bool true) ∧ Below w.heap.size w w') := fun w => by
        have hbt := between_any ⟨7, 0, 0, 8, 17, 3405803781, h, X⟩ 3405803781 5001 h p w hxs
        rw [hxb] at hbt
        exact hbt
      generalize bump C3 0 = C4 at hbx
      have K4 : Hid _ := k4
      have h5 := (H4.out.change hbx hch).alloc (.cells #[.int .i64 7, .int .i64 0, .int .i64 0, .int .i64 8, .int .i64 17, .int .i64 3405803781, .int .i64 h, .string X] 31)
      have H5 : Hid _ := h5
      clear H4 hbx hch k4 o4 K3 hxb hxz hxs h5
      go_wp2_with (go_at_call 23; refine (HXB.out _).mono ?_; rintro e w6 ⟨rfl, hb6⟩; have h6 := H5.out.change (H5.out.box.call hb6) (Chg.of_below hb6); clear H5 hb6; have H5 : Hid _ := h6; clear h6)
      obtain ⟨l5, k5, o5⟩ := s5 b C4 l4 HT.out K4.out ⟨#[97, 103, 97, 105, 110]⟩ (by decide)
      refine (udpOne_yes H5.out.box 0 h p 3405803781 5001 ⟨#[97, 103, 97, 105, 110]⟩ 0 _ (by decide) o5).mono ?_
      rintro e w7 ⟨rfl, v7, hbx, hch⟩
      rw [val_mk]
      have hyb := udpB_btw 7 0 0 8 17 3405803781 5000 g q ⟨#[97, 103, 97, 105, 110]⟩ (by decide) (by decide) (by have := HT.out.q0; omega) HT.out.q1
      have hyz := udpB_size 3405803781 5000 g q ⟨#[97, 103, 97, 105, 110]⟩
      generalize udpB 3405803781 5000 g q ⟨#[97, 103, 97, 105, 110]⟩ = Y at hyb hyz ⊢
      have hys : Y.size ≤ 1000 := by rw [hyz]; decide
      have HYB : Hid (∀ w, Calls Tryz.prog 23 #[.agg #[.int .i64 7, .int .i64 0, .int .i64 0, .int .i64 8, .int .i64 17, .int .i64 3405803781, .int .i64 g, .string Y], .int .i64 3405803781, .int .i64 5000, .int .i64 g, .int .i64 q] w fun e w' => e = .returned (.bool true) ∧ Below w.heap.size w w') := fun w => by
        have hbt := between_any ⟨7, 0, 0, 8, 17, 3405803781, g, Y⟩ 3405803781 5000 g q w hys
        rw [hyb] at hbt
        exact hbt
      generalize bump C4 0 = C5 at hbx
      have K5 : Hid _ := k5
      have h7 := (H5.out.change hbx hch).alloc (.cells #[.int .i64 7, .int .i64 0, .int .i64 0, .int .i64 8, .int .i64 17, .int .i64 3405803781, .int .i64 g, .string Y] 31)
      have H7 : Hid _ := h7
      clear H5 hbx hch k5 o5 K4 hyb hyz hys h7
      go_wp2_with (go_at_call 23; refine (HYB.out _).mono ?_; rintro e w8 ⟨rfl, hb8⟩; have h8 := H7.out.change (H7.out.box.call hb8) (Chg.of_below hb8); clear H7 hb8; have H7 : Hid _ := h8; clear h8)
      refine (udpNone_yes H7.out.box 0 h p 3405803781 5002 16 (s6 b C5 l5 HT.out K5.out)).mono ?_
      rintro e w9 ⟨rfl, v9, hbx, hch⟩
      have H9 : Hid (Below w.heap.size w w9) := (H7.out.change hbx hch).bl
      clear H7 hbx hch
      go_wp2_with fail
      go_ret
      exact ⟨rfl, H9.out⟩
theorem Turned_any (a c : Int) (w : World) (ha0 : -9223372036854775808 ≤ a) (ha1 : a ≤ 9223372036854775807) (hc0 : -9223372036854775808 ≤ c) (hc1 : c ≤ 9223372036854775807) :
    Calls Tryz.prog 6 #[.int .i64 a, .int .i64 c] w fun e w' => e = .returned (.bool true) ∧ Below w.heap.size w w' := by
  have HR : Hid (∀ w, Calls Tryz.prog 13 #[.int .i64 a, .int .i64 c] w fun e w' => e = .returned (.bool true) ∧ Below w.heap.size w w') := fun w => turned_any a c w ha0 ha1 hc0 hc1
  go_enter Tryz.func6, Tryz.ntmps6
  go_wp2_with (go_at_call 13; refine (HR.out _).mono ?_; rintro e w1 ⟨rfl, hb1⟩)
  go_ret
  exact ⟨rfl, hb1⟩
end Go.Proofs.YtfkjobiapjhacaaGreat
