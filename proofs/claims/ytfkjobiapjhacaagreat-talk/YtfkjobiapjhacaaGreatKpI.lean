/- Rest: the walk. Own work. -/
import Derived.Test.YtfkjobiapjhacaaGreatKpH
namespace Go.Proofs.YtfkjobiapjhacaaGreat
open Go.RowKit
attribute [local go_sem ↓] Go.wp_at_zero Go.wp_at_succ

theorem val_mk (i1 i2 i3 i4 i5 i6 i7 : Int) (B : ByteArray) : (⟨i1, i2, i3, i4, i5, i6, i7, B⟩ : PK).val = .agg #[.int .i64 i1, .int .i64 i2, .int .i64 i3, .int .i64 i4, .int .i64 i5, .int .i64 i6, .int .i64 i7, .string B] := rfl
set_option maxRecDepth 100000 in
set_option maxHeartbeats 4000000 in
theorem rested_any (a : Int) (w : World) (ha0 : -9223372036854775808 ≤ a) (ha1 : a ≤ 9223372036854775807) :
    Calls Tryz.prog 14 #[.int .i64 a] w fun e w' => e = .returned (.bool true) ∧ Below w.heap.size w w' := by
  have hk := pickI_bd a 200 (by decide)
  have hk2 := pickI_bd a 65535 (by decide)
  have HRR : Hid (RR (167772161 + pickI a 200) (1 + pickI a 65535) (134744064 + pickI a 200)) := ⟨by omega, by omega, by omega, by omega, by omega, by omega⟩
  have HH : Hid (167772161 + pickI a 200 ≤ 167772400) := by show _ ≤ _; omega
  have hw3 : wrap64 (167772161 + pickI a 200 + 300) = 167772161 + pickI a 200 + 300 := g_wrap64 _ (by omega) (by omega)
  have HHO : Hid (∀ w, Calls Tryz.prog 18 #[.int .i64 a] w fun e w' => e = .returned (.int .i64 (167772161 + pickI a 200)) ∧ w' = w) := fun w => host_any a w ha0 ha1
  have HPO : Hid (∀ w, Calls Tryz.prog 19 #[.int .i64 a] w fun e w' => e = .returned (.int .i64 (1 + pickI a 65535)) ∧ w' = w) := fun w => port_any a w ha0 ha1
  have HFA : Hid (∀ w, Calls Tryz.prog 20 #[.int .i64 a] w fun e w' => e = .returned (.int .i64 (134744064 + pickI a 200)) ∧ w' = w) := fun w => far_any a w ha0 ha1
  have hbx0 : box0 1 = stR 0 [0, 0, 0, 0, 0, 0, 0, 0, 0, 0, 0, 0, 0, 0, 0, 0, 0, 0] [] := rfl
  generalize 1 + pickI a 65535 = p at HRR HPO
  generalize 134744064 + pickI a 200 = f at HRR HFA
  generalize 167772161 + pickI a 200 = h at HRR HHO hw3 HH
  clear hk hk2
  go_enter Tryz.func14, Tryz.ntmps14
  go_wp2_with fail
  refine (box_any 1 _ (by decide) (by decide)).mono ?_
  rintro e w1 ⟨b, rfl, hbx, hle, hbl⟩
  rw [hbx0] at hbx
  have H1 : Hid (RM w w1 b (.slice none 0 0) (stR 0 [0, 0, 0, 0, 0, 0, 0, 0, 0, 0, 0, 0, 0, 0, 0, 0, 0, 0] [])) := ⟨hbx, hle, fun k hk => absurd hk (by simp [Value.ownBlock]), hbl⟩
  clear hbx hle hbl hbx0
  go_wp2_with (first | (go_at_call 18; refine (HHO.out _).mono ?_; rintro e w' ⟨rfl, rfl⟩) | (go_at_call 19; refine (HPO.out _).mono ?_; rintro e w' ⟨rfl, rfl⟩) | (go_at_call 20; refine (HFA.out _).mono ?_; rintro e w' ⟨rfl, rfl⟩))
  refine (udpOne_yes H1.out.box 0 h p f 53 ⟨#[120]⟩ 1 _ (by decide) (r_out b 0 _ h p f ⟨#[120]⟩ HRR.out (by decide) (by decide) (by decide))).mono ?_
  rintro e w2 ⟨rfl, v2, hbx, hch⟩
  rw [val_mk]
  generalize bump _ 0 = C1 at hbx
  generalize udpB 3405803781 5000 f 53 ⟨#[120]⟩ = U1
  have H2 : Hid (RM w w2 b v2 (stR 0 C1 [S1 h p f 53 5000 (0 + 30)])) := H1.out.change hbx hch
  clear H1 hbx hch
  go_wp2_with fail
  refine (Tick_any (H2.out.alloc _).box (stR_one 0 _ h p f 53 5000 (0 + 30) (by decide) (by decide) (by have := HRR.out.h0; omega) (by have := HRR.out.h1; omega)) 29 (by decide) (by decide)).mono ?_
  rintro e w3 ⟨rfl, v3, hbx, hch⟩
  rw [tickR_stay 0 _ h p f 53 5000 (0 + 30) 29 (by decide)] at hbx
  have H3 : Hid (RM w w3 b v3 (stR (0 + 29) C1 [S1 h p f 53 5000 (0 + 30)])) := (H2.out.alloc _).change hbx hch
  clear H2 hbx hch
  go_wp2_with fail
  refine (udpOne_yes H3.out.box 1 f 53 3405803781 5000 ⟨#[121]⟩ 0 _ (by decide) (r_in b (0 + 29) _ h p f (0 + 30) ⟨#[121]⟩ HRR.out (by decide) (by decide) (by decide))).mono ?_
  rintro e w4 ⟨rfl, v4, hbx, hch⟩
  rw [val_mk]
  generalize udpB f 53 h p ⟨#[121]⟩ = U2
  generalize bump C1 0 = C2 at hbx
  have H4 : Hid (RM w w4 b v4 (stR (0 + 29) C2 [S1 h p f 53 5000 (0 + 29 + 30)])) := H3.out.change hbx hch
  clear H3 hbx hch
  go_wp2_with fail
  refine (Tick_any (H4.out.alloc _).box (stR_one (0 + 29) _ h p f 53 5000 (0 + 29 + 30) (by decide) (by decide) (by have := HRR.out.h0; omega) (by have := HRR.out.h1; omega)) 29 (by decide) (by decide)).mono ?_
  rintro e w5 ⟨rfl, v5, hbx, hch⟩
  rw [tickR_stay (0 + 29) _ h p f 53 5000 (0 + 29 + 30) 29 (by decide)] at hbx
  have H5 : Hid (RM w w5 b v5 (stR (0 + 29 + 29) C2 [S1 h p f 53 5000 (0 + 29 + 30)])) := (H4.out.alloc _).change hbx hch
  clear H4 hbx hch
  go_wp2_with fail
  refine (udpNone_yes H5.out.box 0 (h + 300) 9 f 53 15 (r_noport b (0 + 29 + 29) _ h p f (0 + 29 + 30) ⟨#[120]⟩ HRR.out (by decide) (by decide) (by decide))).mono ?_
  rintro e w6 ⟨rfl, v6, hbx, hch⟩
  generalize bump C2 15 = C3 at hbx
  have H6 : Hid (RM w w6 b v6 (stR (0 + 29 + 29) C3 [S1 h p f 53 5000 (0 + 29 + 30)])) := H5.out.change hbx hch
  clear H5 hbx hch
  go_wp2_with fail
  refine (Tick_any H6.out.box (stR_one (0 + 29 + 29) _ h p f 53 5000 (0 + 29 + 30) (by decide) (by decide) (by have := HRR.out.h0; omega) (by have := HRR.out.h1; omega)) 1 (by decide) (by decide)).mono ?_
  rintro e w7 ⟨rfl, v7, hbx, hch⟩
  rw [tickR_gone (0 + 29 + 29) _ h p f 53 5000 (0 + 29 + 30) 1 (by decide)] at hbx
  have H7 : Hid (RM w w7 b v7 (stR (0 + 29 + 29 + 1) C3 [])) := H6.out.change hbx hch
  clear H6 hbx hch
  go_wp2_with fail
  refine (udpNone_yes H7.out.box 1 f 53 3405803781 5000 16 (r_unasked b (0 + 29 + 29 + 1) _ f ⟨#[120]⟩ HRR.out.f0 HRR.out.f1 (by decide) (by decide) (by decide))).mono ?_
  rintro e w8 ⟨rfl, v8, hbx, hch⟩
  generalize bump C3 16 = C4 at hbx
  have H8 : Hid (RM w w8 b v8 (stR (0 + 29 + 29 + 1) C4 [])) := H7.out.change hbx hch
  clear H7 hbx hch
  go_wp2_with fail
  have HR2 : RR (h + 300) 9 f := ⟨by have := HRR.out.h0; omega, by have := HH.out; omega, by decide, by decide, HRR.out.f0, HRR.out.f1⟩
  refine (udpOne_yes H8.out.box 0 (h + 300) 9 f 53 ⟨#[120]⟩ 1 _ (by decide) (r_out b (0 + 29 + 29 + 1) _ (h + 300) 9 f ⟨#[120]⟩ HR2 (by decide) (by decide) (by decide))).mono ?_
  rintro e w9 ⟨rfl, v9, hbx, hch⟩
  rw [val_mk]
  generalize udpB 3405803781 5000 f 53 ⟨#[120]⟩ = U3
  have H9 := (H8.out.change hbx hch).bl
  have hsz := H9.size
  clear H8 hbx hch HR2 HRR
  have H10 : Hid (Below w.heap.size w w9) := H9
  clear H9
  go_wp2_with fail
  go_ret
  exact ⟨rfl, H10.out.alloc hsz _⟩
theorem Rest_any (a : Int) (w : World) (ha0 : -9223372036854775808 ≤ a) (ha1 : a ≤ 9223372036854775807) :
    Calls Tryz.prog 7 #[.int .i64 a] w fun e w' => e = .returned (.bool true) ∧ Below w.heap.size w w' := by
  have HR : Hid (∀ w, Calls Tryz.prog 14 #[.int .i64 a] w fun e w' => e = .returned (.bool true) ∧ Below w.heap.size w w') := fun w => rested_any a w ha0 ha1
  go_enter Tryz.func7, Tryz.ntmps7
  go_wp2_with (go_at_call 14; refine (HR.out _).mono ?_; rintro e w1 ⟨rfl, hb1⟩)
  go_ret
  exact ⟨rfl, hb1⟩
end Go.Proofs.YtfkjobiapjhacaaGreat
