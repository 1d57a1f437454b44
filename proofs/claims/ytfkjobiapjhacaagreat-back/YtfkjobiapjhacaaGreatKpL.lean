/- Back: the walk. Own work. -/
import Derived.Test.YtfkjobiapjhacaaGreatKpJ
namespace Go.Proofs.YtfkjobiapjhacaaGreat
open Go.RowKit
attribute [local go_sem ↓] Go.wp_at_zero Go.wp_at_succ

set_option maxRecDepth 100000 in
set_option maxHeartbeats 4000000 in
theorem back_any (a c : Int) (dd : ByteArray) (w : World) (ha0 : -9223372036854775808 ≤ a) (ha1 : a ≤ 9223372036854775807) (hc0 : -9223372036854775808 ≤ c) (hc1 : c ≤ 9223372036854775807) :
    Calls Tryz.prog 10 #[.int .i64 a, .int .i64 c, .string dd] w fun e w' => e = .returned (.bool true) ∧ Below w.heap.size w w' := by
  have hk := pickI_bd a 200 (by decide)
  have hk2 := pickI_bd a 65535 (by decide)
  have hk3 := pickI_bd c 200 (by decide)
  have hk4 := pickI_bd c 65535 (by decide)
  have HRR : Hid (RQ (167772161 + pickI a 200) (1 + pickI a 65535) (134744064 + pickI c 200) (1 + pickI c 65535)) := ⟨by omega, by omega, by omega, by omega, by omega, by omega, by omega, by omega⟩
  have HHO : Hid (∀ w, Calls Tryz.prog 18 #[.int .i64 a] w fun e w' => e = .returned (.int .i64 (167772161 + pickI a 200)) ∧ w' = w) := fun w => host_any a w ha0 ha1
  have HPO : Hid (∀ w, Calls Tryz.prog 19 #[.int .i64 a] w fun e w' => e = .returned (.int .i64 (1 + pickI a 65535)) ∧ w' = w) := fun w => port_any a w ha0 ha1
  have HFA : Hid (∀ w, Calls Tryz.prog 20 #[.int .i64 c] w fun e w' => e = .returned (.int .i64 (134744064 + pickI c 200)) ∧ w' = w) := fun w => far_any c w hc0 hc1
  have HPQ : Hid (∀ w, Calls Tryz.prog 19 #[.int .i64 c] w fun e w' => e = .returned (.int .i64 (1 + pickI c 65535)) ∧ w' = w) := fun w => port_any c w hc0 hc1
  have HCL : Hid (∀ w, Calls Tryz.prog 21 #[.string dd, .int .i64 100] w fun e w' => e = .returned (.string (clipB dd 100)) ∧ w' = w) := fun w => clipped_any dd 100 w (by decide)
  have hds := clipB_size dd 100
  generalize clipB dd 100 = data at HCL hds
  have hbx0 : box0 3 = stN 3 0 [0, 0, 0, 0, 0, 0, 0, 0, 0, 0, 0, 0, 0, 0, 0, 0, 0, 0] [] := rfl
  generalize 1 + pickI a 65535 = p at HRR HPO
  generalize 134744064 + pickI c 200 = f at HRR HFA
  generalize 1 + pickI c 65535 = q at HRR HPQ
  generalize 167772161 + pickI a 200 = h at HRR HHO
  clear hk hk2 hk3 hk4
  have HDS : Hid (data.size ≤ 100) := hds
  have hx8 : ¬ 9223372036854775807 < data.size + 1 := by omega
  clear hds
  go_enter Tryz.func10, Tryz.ntmps10
  go_wp2_with fail
  refine (box_any 3 _ (by decide) (by decide)).mono ?_
  rintro e w1 ⟨b, rfl, hbx, hle, hbl⟩
  rw [hbx0] at hbx
  have HL : Hid (w.heap.size ≤ b ∧ Below w.heap.size w w1) := ⟨hle, hbl⟩
  have hM : Hid (GMid w1 w1 b (.slice none 0 0) (.slice none 0 0) (stN 3 0 [0, 0, 0, 0, 0, 0, 0, 0, 0, 0, 0, 0, 0, 0, 0, 0, 0, 0] []) []) := GMid.start hbx
  clear hbx hle hbl hbx0
  go_wp2_with (first | (go_at_call 18; refine (HHO.out _).mono ?_; rintro e w' ⟨rfl, rfl⟩) | (go_at_call 19; refine (HPO.out _).mono ?_; rintro e w' ⟨rfl, rfl⟩) | (go_at_call 19; refine (HPQ.out _).mono ?_; rintro e w' ⟨rfl, rfl⟩) | (go_at_call 20; refine (HFA.out _).mono ?_; rintro e w' ⟨rfl, rfl⟩) | (go_at_call 21; refine (HCL.out _).mono ?_; rintro e w' ⟨rfl, rfl⟩))
  refine (udpOne_yes hM.out.box 0 h p f q data 1 _ (by have := HDS.out; omega) (n_out b 3 0 _ h p f q data (by decide) (by decide) HRR.out (by have := HDS.out; omega) (by decide) (by decide))).mono ?_
  rintro e w2 ⟨rfl, v2, hbx, hch⟩
  rw [val_mk]
  generalize bump _ 0 = C1 at hbx
  have hxb := udpB_btw 7 0 0 8 17 3405803781 5000 f q data (by decide) (by decide) (by have := HRR.out.q0; omega) HRR.out.q1
  have hxd := udpB_data 3405803781 5000 f q data
  have hxz := udpB_size 3405803781 5000 f q data
  generalize hX0 : udpB 3405803781 5000 f q data = X at hxb hxd hxz ⊢
  have HX : Hid (udpB 3405803781 5000 f q data = X) := hX0
  clear hX0
  have hxs : X.size ≤ 1000 := by have := HDS.out; omega
  have HXB : Hid (∀ w, Calls Tryz.prog 23 #[.agg #[.int .i64 7, .int .i64 0, .int .i64 0, .int .i64 8, .int .i64 17, .int .i64 3405803781, .int .i64 f, .string X], .int .i64 3405803781, .int .i64 5000, .int .i64 f, .int .i64 q] w fun e w' => e = .returned (.bool true) ∧ Below w.heap.size w w') := fun w => by
    have hbt := between_any ⟨7, 0, 0, 8, 17, 3405803781, f, X⟩ 3405803781 5000 f q w hxs
    rw [hxb] at hbt
    exact hbt
  have hz8 : (8 : Int) ≤ (X.size : Int) := by omega
  clear hxz hxb
  have hM1 := (hM.out.change hbx hch).alloc' #[.int .i64 7, .int .i64 0, .int .i64 0, .int .i64 8, .int .i64 17, .int .i64 3405803781, .int .i64 f, .string X] 31 w2.heap.size rfl
  clear hM hbx hch
  have hM : Hid _ := hM1
  clear hM1
  go_wp2_with (go_at_call 23; refine (HXB.out _).mono ?_; rintro e w3 ⟨rfl, hb3⟩; have hM1 := hM.out.call hb3; clear hM hb3; obtain ⟨⟨x0, x1, x2, x3, x4, x5, x6, x7⟩, xf⟩ := c8 hM1.at0; have hM : Hid _ := hM1; clear hM1)
  obtain ⟨d2, hd2e⟩ : ∃ d2 : ByteArray, d2 = data ++ ⟨#[33]⟩ := ⟨_, rfl⟩
  have hd2 : d2.size ≤ 120 := by rw [hd2e, ByteArray.size_append]; have := HDS.out; show data.size + 1 ≤ 120; omega
  rw [← hd2e]
  have hd3 : data ++ ⟨#[33]⟩ = d2 := hd2e.symm
  clear hd2e
  refine (udpOne_yes hM.out.box 1 f q 3405803781 5000 d2 0 _ (by omega) (n_in b 3 0 _ h p f q (0 + 30) d2 (by decide) (by decide) HRR.out hd2 (by decide) (by decide))).mono ?_
  rintro e w4 ⟨rfl, v4, hbx, hch⟩
  rw [val_mk]
  generalize bump C1 0 = C2 at hbx
  have hyb := udpB_btw 7 0 0 8 17 f q h p d2 (by have := HRR.out.q0; omega) HRR.out.q1 (by have := HRR.out.p0; omega) HRR.out.p1
  have hyd := udpB_data f q h p d2
  have hyz := udpB_size f q h p d2
  generalize udpB f q h p d2 = Y at hyb hyd hyz ⊢
  have hys : Y.size ≤ 1000 := by omega
  have HYB : Hid (∀ w, Calls Tryz.prog 23 #[.agg #[.int .i64 7, .int .i64 0, .int .i64 0, .int .i64 8, .int .i64 17, .int .i64 f, .int .i64 h, .string Y], .int .i64 f, .int .i64 q, .int .i64 h, .int .i64 p] w fun e w' => e = .returned (.bool true) ∧ Below w.heap.size w w') := fun w => by
    have hbt := between_any ⟨7, 0, 0, 8, 17, f, h, Y⟩ f q h p w hys
    rw [hyb] at hbt
    exact hbt
  have hy8 : (8 : Int) ≤ (Y.size : Int) := by omega
  clear hyz hyb hd2
  have hM1 := (hM.out.change hbx hch).alloc' #[.int .i64 7, .int .i64 0, .int .i64 0, .int .i64 8, .int .i64 17, .int .i64 f, .int .i64 h, .string Y] 31 w4.heap.size rfl
  clear hM hbx hch x0 x1 x2 x3 x4 x5 x6 x7 xf
  have hM : Hid _ := hM1
  clear hM1
  go_wp2_with (go_at_call 23; refine (HYB.out _).mono ?_; rintro e w5 ⟨rfl, hb5⟩; have hM1 := hM.out.call hb5; clear hM hb5; obtain ⟨⟨y0, y1, y2, y3, y4, y5, y6, y7⟩, yf⟩ := c8 hM1.at0; have hM : Hid _ := hM1; clear hM1)
  refine (udpOne_yes hM.out.box 0 h p f q data 1 _ (by have := HDS.out; omega) (n_again b 3 0 _ h p f q (0 + 30) data (by decide) (by decide) HRR.out (by have := HDS.out; omega) (by decide) (by decide))).mono ?_
  rintro e w6 ⟨rfl, v6, hbx, hch⟩
  rw [val_mk, HX.out]
  have hM1 := (hM.out.change hbx hch)
  clear hM hbx hch y0 y1 y2 y3 y4 y5 y6 y7 yf
  obtain ⟨⟨x0, x1, x2, x3, x4, x5, x6, x7⟩, xf⟩ := c8 hM1.at1
  have hlt6 := lt_of_block hM1.at1
  have hM2 := hM1.alloc' #[.int .i64 7, .int .i64 0, .int .i64 0, .int .i64 8, .int .i64 17, .int .i64 3405803781, .int .i64 f, .string X] 31 w6.heap.size rfl
  have hM : Hid _ := hM2
  clear hM1 hM2
  go_wp2_with fail
  go_ret
  refine ⟨rfl, ?_⟩
  obtain ⟨q1, -⟩ := hM.out.chg.low HL.out.1 (fun k hk => absurd hk (by simp [Value.ownBlock])) HL.out.2.size
  exact HL.out.2.trans q1
theorem Back_any (a c : Int) (dd : ByteArray) (w : World) (ha0 : -9223372036854775808 ≤ a) (ha1 : a ≤ 9223372036854775807) (hc0 : -9223372036854775808 ≤ c) (hc1 : c ≤ 9223372036854775807) :
    Calls Tryz.prog 3 #[.int .i64 a, .int .i64 c, .string dd] w fun e w' => e = .returned (.bool true) ∧ Below w.heap.size w w' := by
  have HR : Hid (∀ w, Calls Tryz.prog 10 #[.int .i64 a, .int .i64 c, .string dd] w fun e w' => e = .returned (.bool true) ∧ Below w.heap.size w w') := fun w => back_any a c dd w ha0 ha1 hc0 hc1
  go_enter Tryz.func3, Tryz.ntmps3
  go_wp2_with (go_at_call 10; refine (HR.out _).mono ?_; rintro e w1 ⟨rfl, hb1⟩)
  go_ret
  exact ⟨rfl, hb1⟩
end Go.Proofs.YtfkjobiapjhacaaGreat
