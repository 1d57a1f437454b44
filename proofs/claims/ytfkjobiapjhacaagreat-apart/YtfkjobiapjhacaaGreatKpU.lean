/- Apart: the walk. Own work. -/
import Derived.Test.YtfkjobiapjhacaaGreatKpT
namespace Go.Proofs.YtfkjobiapjhacaaGreat
open Go.RowKit
attribute [local go_sem ↓] Go.wp_at_zero Go.wp_at_succ

set_option maxRecDepth 100000 in
set_option maxHeartbeats 4000000 in
theorem apart_any (a : Int) (w : World) (ha0 : -9223372036854775808 ≤ a) (ha1 : a ≤ 9223372036854775807) :
    Calls Tryz.prog 11 #[.int .i64 a] w fun e w' => e = .returned (.bool true) ∧ Below w.heap.size w w' := by
  have hk := pickI_bd a 6 (by decide)
  have HPK : Hid (∀ w, Calls Tryz.prog 24 #[.int .i64 a, .int .i64 6] w fun e w' => e = .returned (.int .i64 (pickI a 6)) ∧ w' = w) := fun w => pick_any a 6 w ha0 ha1 (by decide) (by decide)
  have HF0 : Hid (∀ w, Calls Tryz.prog 20 #[.int .i64 0] w fun e w' => e = .returned (.int .i64 134744064) ∧ w' = w) := fun w => far_any 0 w (by decide) (by decide)
  have HF1 : Hid (∀ w, Calls Tryz.prog 20 #[.int .i64 1] w fun e w' => e = .returned (.int .i64 134744065) ∧ w' = w) := fun w => far_any 1 w (by decide) (by decide)
  generalize pickI a 6 = pk at hk HPK
  obtain ⟨m, rfl⟩ := Int.eq_ofNat_of_zero_le hk.1
  obtain ⟨n, hnm⟩ : ∃ n : Nat, n = m + 1 := ⟨_, rfl⟩
  have hn0 : 1 ≤ n := by omega
  have hn6 : n ≤ 6 := by omega
  have hpn : (1 : Int) + (m : Int) = (n : Int) := by omega
  have hbx0 : box0 n = stN n 0 [0, 0, 0, 0, 0, 0, 0, 0, 0, 0, 0, 0, 0, 0, 0, 0, 0, 0] [] := rfl
  have HB : Hid (∀ w, Calls Tryz.prog 17 #[.int .i64 (n : Int)] w fun e w' => ∃ b, e = .returned (.pointer (some ⟨b, 0, none⟩)) ∧ BoxAt w' b (.slice none 0 0) (box0 n) ∧ w.heap.size ≤ b ∧ Below w.heap.size w w') := fun w => box_any n w (by omega) (by omega)
  clear hk hnm
  go_enter Tryz.func11, Tryz.ntmps11
  go_wp2_with (go_at_call 24; refine (HPK.out _).mono ?_; rintro e w' ⟨rfl, hw'⟩; obtain rfl := hw'.symm)
  refine (HB.out _).mono ?_
  rintro e w1 ⟨b, rfl, hbx, hle, hbl⟩
  rw [hbx0] at hbx
  have H1 : Hid (RM w w1 b (.slice none 0 0) (stN n 0 [0, 0, 0, 0, 0, 0, 0, 0, 0, 0, 0, 0, 0, 0, 0, 0, 0, 0] [])) := ⟨hbx, hle, fun k hk => absurd hk (by simp [Value.ownBlock]), hbl⟩
  clear hbx hle hbl hbx0
  go_wp2_with fail
  refine (HF0.out _).mono ?_
  rintro e w2 ⟨rfl, hw2⟩
  obtain rfl := hw2.symm
  go_wp2_with fail
  refine (HF1.out _).mono ?_
  rintro e w3 ⟨rfl, hw3⟩
  obtain rfl := hw3.symm
  go_wp2_with fail
  go_loopw [7] (fun kk wr => ∃ k : Nat, k ≤ n ∧ kk = .int .i64 (k : Int) ∧ ∃ v C l, Ks l (KB k 0) ∧ RM w wr b v (stN n 0 C l)) (fun kk _ => ((n : Int) - intOf kk).toNat)
  case atStart => exact ⟨0, Nat.zero_le _, rfl, _, _, [], List.Perm.refl _, H1.out⟩
  case round =>
    obtain ⟨k, hkn, rfl, v, C, l, hK, hR⟩ := hrel
    have HR : Hid (RM w wr b v (stN n 0 C l)) := hR
    have HK : Hid (Ks l (KB k 0)) := hK
    clear hR hK H1
    have hq : (k : Int).tdiv 2 = (k : Int) / 2 := Int.tdiv_eq_ediv_of_nonneg (by omega)
    have hr : (k : Int).tmod 2 = (k : Int) % 2 := Int.tmod_eq_emod_of_nonneg (by omega)
    by_cases hlt : k < n
    · have hlti : (k : Int) < (n : Int) := by omega
      go_wp2_with fail
      obtain ⟨l', k', o'⟩ := a1 b C l n k hn6 hlt HK.out
      refine (udpOne_yes HR.out.box 0 _ _ 134744064 53 ⟨#[120]⟩ 1 _ (by decide) o').mono ?_
      rintro e w4 ⟨rfl, v4, hbx, hch⟩
      rw [val_mk]
      have hxb := udpB_btw 7 0 0 8 17 3405803781 (5000 + (k : Int)) 134744064 53 ⟨#[120]⟩ (by omega) (by omega) (by decide) (by decide)
      have hxz := udpB_size 3405803781 (5000 + (k : Int)) 134744064 53 ⟨#[120]⟩
      generalize udpB 3405803781 (5000 + (k : Int)) 134744064 53 ⟨#[120]⟩ = X at hxb hxz ⊢
      have hxs : X.size ≤ 1000 := by rw [hxz]; decide
      have HXB : Hid (∀ w, Calls Tryz.prog 23 #[.agg #[.int .i64 7, .int .i64 0, .int .i64 0, .int .i64 8, .int .i64 17, .int .i64 3405803781, .int .i64 134744064, .string X], .int .i64 3405803781, .int .i64 (5000 + (k : Int)), .int .i64 134744064, .int .i64 53] w fun e w' => e = .returned (.bool true) ∧ Below w.heap.size w w') := fun w => by
        have hbt := between_any ⟨7, 0, 0, 8, 17, 3405803781, 134744064, X⟩ 3405803781 (5000 + (k : Int)) 134744064 53 w hxs
        rw [hxb] at hbt
        exact hbt
      generalize bump C 0 = C2 at hbx
      have K2 : Hid _ := k'
      have h5 := (HR.out.change hbx hch).alloc (.cells #[.int .i64 7, .int .i64 0, .int .i64 0, .int .i64 8, .int .i64 17, .int .i64 3405803781, .int .i64 134744064, .string X] 31)
      have H5 : Hid _ := h5
      clear HR hbx hch k' o' HK hxb hxz hxs h5
      go_wp2_with fail
      refine (HXB.out _).mono ?_
      rintro e w6 ⟨rfl, hb6⟩
      have h6 := H5.out.change (H5.out.box.call hb6) (Chg.of_below hb6)
      clear H5 hb6
      have H6 : Hid _ := h6
      clear h6
      go_wp2_with fail
      go_roundw
      case rel => exact ⟨k + 1, by omega, by go_num, v4, C2, l', K2.out, H6.out⟩
      case measure => simp [intOf]; omega
    · have hkn' : k = n := by omega
      subst hkn'
      go_wp2_with fail
      go_loopw [10] (fun kk wr => ∃ j : Nat, j ≤ k ∧ k + j ≤ 10 ∧ kk = .int .i64 (j : Int) ∧ ∃ v C l, Ks l (KB k j) ∧ RM w wr b v (stN k 0 C l)) (fun kk _ => ((k : Int) - intOf kk).toNat)
      case atStart => exact ⟨0, Nat.zero_le _, by omega, rfl, v, C, l, HK.out, HR.out⟩
      case round =>
        clear HR HK hq hr
        clear hlt
        obtain ⟨n, hnk⟩ : ∃ n : Nat, n = k := ⟨_, rfl⟩
        subst hnk
        obtain ⟨k, hkn, hk10, rfl, v, C, l, hK, hR⟩ := hrel
        have HR : Hid (RM w wr b v (stN n 0 C l)) := hR
        have HK : Hid (Ks l (KB n k)) := hK
        clear hR hK
        have hq : (k : Int).tdiv 2 = (k : Int) / 2 := Int.tdiv_eq_ediv_of_nonneg (by omega)
        have hr : (k : Int).tmod 2 = (k : Int) % 2 := Int.tmod_eq_emod_of_nonneg (by omega)
        by_cases hlt : k < n
        · have hlti : (k : Int) < (n : Int) := by omega
          by_cases h10 : n + k = 10
          · have hge : (10 : Int) - (n : Int) ≤ (k : Int) := by omega
            go_wp2_with fail
            refine (udpNone_yes HR.out.box 0 _ _ 134744065 53 14 (a3 b C l n k hn6 hlt h10 HK.out)).mono ?_
            rintro e w4 ⟨rfl, v4, hbx, hch⟩
            have H5 : Hid (Below w.heap.size w w4) := (HR.out.change hbx hch).bl
            clear HR hbx hch HK
            go_wp2_with fail
            go_ret
            exact ⟨rfl, H5.out⟩
          · have hge : ¬ (10 : Int) - (n : Int) ≤ (k : Int) := by omega
            go_wp2_with fail
            obtain ⟨l', k', o'⟩ := a2 b C l n k hn6 hlt (by omega) HK.out
            refine (udpOne_yes HR.out.box 0 _ _ 134744065 53 ⟨#[120]⟩ 1 _ (by decide) o').mono ?_
            rintro e w4 ⟨rfl, v4, hbx, hch⟩
            rw [val_mk]
            have hxb := udpB_btw 7 0 0 8 17 3405803781 (5000 + (k : Int)) 134744065 53 ⟨#[120]⟩ (by omega) (by omega) (by decide) (by decide)
            have hxz := udpB_size 3405803781 (5000 + (k : Int)) 134744065 53 ⟨#[120]⟩
            generalize udpB 3405803781 (5000 + (k : Int)) 134744065 53 ⟨#[120]⟩ = X at hxb hxz ⊢
            have hxs : X.size ≤ 1000 := by rw [hxz]; decide
            have HXB : Hid (∀ w, Calls Tryz.prog 23 #[.agg #[.int .i64 7, .int .i64 0, .int .i64 0, .int .i64 8, .int .i64 17, .int .i64 3405803781, .int .i64 134744065, .string X], .int .i64 3405803781, .int .i64 (5000 + (k : Int)), .int .i64 134744065, .int .i64 53] w fun e w' => e = .returned (.bool true) ∧ Below w.heap.size w w') := fun w => by
              have hbt := between_any ⟨7, 0, 0, 8, 17, 3405803781, 134744065, X⟩ 3405803781 (5000 + (k : Int)) 134744065 53 w hxs
              rw [hxb] at hbt
              exact hbt
            generalize bump C 0 = C2 at hbx
            have K2 : Hid _ := k'
            have h5 := (HR.out.change hbx hch).alloc (.cells #[.int .i64 7, .int .i64 0, .int .i64 0, .int .i64 8, .int .i64 17, .int .i64 3405803781, .int .i64 134744065, .string X] 31)
            have H5 : Hid _ := h5
            clear HR hbx hch k' o' HK hxb hxz hxs h5
            go_wp2_with fail
            refine (HXB.out _).mono ?_
            rintro e w6 ⟨rfl, hb6⟩
            have h6 := H5.out.change (H5.out.box.call hb6) (Chg.of_below hb6)
            clear H5 hb6
            have H6 : Hid _ := h6
            clear h6
            go_wp2_with fail
            go_roundw
            case rel => exact ⟨k + 1, by omega, by omega, by go_num, v4, C2, l', K2.out, H6.out⟩
            case measure => simp [intOf]; omega
        · have hkn' : k = n := by omega
          subst hkn'
          by_cases h5 : k = 5
          · have h5i : (10 : Int) ≤ 2 * (k : Int) := by omega
            go_wp2_with fail
            go_ret
            exact ⟨rfl, HR.out.bl⟩
          · have h5i : ¬ (10 : Int) ≤ 2 * (k : Int) := by omega
            go_wp2_with fail
            refine (udpNone_yes HR.out.box 0 167772237 1000 134744064 53 15 (a4 b C l k hn0 (by omega) HK.out)).mono ?_
            rintro e w4 ⟨rfl, v4, hbx, hch⟩
            generalize bump C 15 = C2 at hbx
            have h4 := HR.out.change hbx hch
            have H4 : Hid _ := h4
            clear HR hbx hch h4
            go_wp2_with fail
            obtain ⟨l', o'⟩ := a5 b C2 l k hn0 (by omega) HK.out
            refine (tcpOne_yes H4.out.box 0 167772237 1000 134744064 53 2 1 _ o').mono ?_
            rintro e w5 ⟨rfl, v5, hbx, hch⟩
            rw [val_mk]
            have hxb := tcpB_btw 8 0 0 8 6 3405803781 5000 134744064 53 2 ⟨#[97, 98, 99]⟩ (by decide) (by decide) (by decide) (by decide)
            have hxz := tcpB_size 3405803781 5000 134744064 53 2 ⟨#[97, 98, 99]⟩
            generalize tcpB 3405803781 5000 134744064 53 2 ⟨#[97, 98, 99]⟩ = X at hxb hxz ⊢
            have hxs : X.size ≤ 1000 := by rw [hxz]; decide
            have HXB : Hid (∀ w, Calls Tryz.prog 23 #[.agg #[.int .i64 8, .int .i64 0, .int .i64 0, .int .i64 8, .int .i64 6, .int .i64 3405803781, .int .i64 134744064, .string X], .int .i64 3405803781, .int .i64 5000, .int .i64 134744064, .int .i64 53] w fun e w' => e = .returned (.bool true) ∧ Below w.heap.size w w') := fun w => by
              have hbt := between_any ⟨8, 0, 0, 8, 6, 3405803781, 134744064, X⟩ 3405803781 5000 134744064 53 w hxs
              rw [hxb] at hbt
              exact hbt
            have h6 := (H4.out.change hbx hch).alloc (.cells #[.int .i64 8, .int .i64 0, .int .i64 0, .int .i64 8, .int .i64 6, .int .i64 3405803781, .int .i64 134744064, .string X] 31)
            have H6 : Hid _ := h6
            clear H4 hbx hch o' HK hxb hxz hxs h6
            go_wp2_with fail
            refine (HXB.out _).mono ?_
            rintro e w7 ⟨rfl, hb7⟩
            have h8 := (H6.out.change (H6.out.box.call hb7) (Chg.of_below hb7)).bl
            clear H6 hb7
            have H8 : Hid _ := h8
            clear h8
            go_wp2_with fail
            go_ret
            exact ⟨rfl, H8.out⟩
theorem Apart_any (a : Int) (w : World) (ha0 : -9223372036854775808 ≤ a) (ha1 : a ≤ 9223372036854775807) :
    Calls Tryz.prog 4 #[.int .i64 a] w fun e w' => e = .returned (.bool true) ∧ Below w.heap.size w w' := by
  have HR : Hid (∀ w, Calls Tryz.prog 11 #[.int .i64 a] w fun e w' => e = .returned (.bool true) ∧ Below w.heap.size w w') := fun w => apart_any a w ha0 ha1
  go_enter Tryz.func4, Tryz.ntmps4
  go_wp2_with (go_at_call 11; refine (HR.out _).mono ?_; rintro e w1 ⟨rfl, hb1⟩)
  go_ret
  exact ⟨rfl, hb1⟩
end Go.Proofs.YtfkjobiapjhacaaGreat
