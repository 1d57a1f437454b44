/- Talk: the walk. Own work. -/
import Derived.Test.YtfkjobiapjhacaaGreatKpR
namespace Go.Proofs.YtfkjobiapjhacaaGreat
open Go.RowKit
attribute [local go_sem ↓] Go.wp_at_zero Go.wp_at_succ

theorem GMid.drop {w W : World} {b : Nat} {v0 v : Value} {s : BX} {pre bs : List (Nat × Array Value × TypeId)} (h : GMid w W b v0 v s (pre ++ bs)) : GMid w W b v0 v s bs :=
  ⟨h.box, h.chg, h.lt, fun p hp => h.bk p (List.mem_append.2 (Or.inr hp)), (List.pairwise_append.1 h.ord).2.1⟩
theorem c5h {w : World} {b : Nat} {v0 v1 v2 v3 v4 : Value} {t : TypeId} (h : w.heap[b]? = some (.cells #[v0, v1, v2, v3, v4] t (0, 0))) :
    (w.cell? ⟨b, 0, none⟩ = some v0 ∧ w.cell? ⟨b, 1, none⟩ = some v1 ∧ w.cell? ⟨b, 2, none⟩ = some v2 ∧ w.cell? ⟨b, 3, none⟩ = some v3 ∧ w.cell? ⟨b, 4, none⟩ = some v4) ∧ ∀ j, w.frozen? ⟨b, j, none⟩ = false := c5g h
def tmT : Nat → Int
  | 0 => 0
  | 1 => 0
  | _ => 59
def lT (h p f q : Int) : Nat → List SD
  | 0 => []
  | 1 => [T1 h p f q 5000 8 ⟨1, true, false, false⟩]
  | 2 => [T1 h p f q 5000 60 ⟨2, true, false, false⟩]
  | 3 => [T1 h p f q 5000 119 ⟨2, true, false, false⟩]
  | 4 => [T1 h p f q 5000 119 ⟨2, true, true, false⟩]
  | _ => [T1 h p f q 5000 64 ⟨3, false, false, false⟩]
set_option maxRecDepth 100000 in
set_option maxHeartbeats 4000000 in
theorem talk_any (a c : Int) (w : World) (ha0 : -9223372036854775808 ≤ a) (ha1 : a ≤ 9223372036854775807) (hc0 : -9223372036854775808 ≤ c) (hc1 : c ≤ 9223372036854775807) :
    Calls Tryz.prog 12 #[.int .i64 a, .int .i64 c] w fun e w' => e = .returned (.bool true) ∧ Below w.heap.size w w' := by
  have hk := pickI_bd a 200 (by decide)
  have hk2 := pickI_bd a 65535 (by decide)
  have hk3 := pickI_bd c 200 (by decide)
  have hk4 := pickI_bd c 65535 (by decide)
  have HRR : Hid (RQ (167772161 + pickI a 200) (1 + pickI a 65535) (134744064 + pickI c 200) (1 + pickI c 65535)) := ⟨by omega, by omega, by omega, by omega, by omega, by omega, by omega, by omega⟩
  have HHO : Hid (∀ w, Calls Tryz.prog 18 #[.int .i64 a] w fun e w' => e = .returned (.int .i64 (167772161 + pickI a 200)) ∧ w' = w) := fun w => host_any a w ha0 ha1
  have HPO : Hid (∀ w, Calls Tryz.prog 19 #[.int .i64 a] w fun e w' => e = .returned (.int .i64 (1 + pickI a 65535)) ∧ w' = w) := fun w => port_any a w ha0 ha1
  have HFA : Hid (∀ w, Calls Tryz.prog 20 #[.int .i64 c] w fun e w' => e = .returned (.int .i64 (134744064 + pickI c 200)) ∧ w' = w) := fun w => far_any c w hc0 hc1
  have HPQ : Hid (∀ w, Calls Tryz.prog 19 #[.int .i64 c] w fun e w' => e = .returned (.int .i64 (1 + pickI c 65535)) ∧ w' = w) := fun w => port_any c w hc0 hc1
  have HPK : Hid (∀ w, Calls Tryz.prog 24 #[.int .i64 c, .int .i64 2] w fun e w' => e = .returned (.int .i64 (pickI c 2)) ∧ w' = w) := fun w => pick_any c 2 w hc0 hc1 (by decide) (by decide)
  have hbx0 : box0 2 = stN 2 0 [0, 0, 0, 0, 0, 0, 0, 0, 0, 0, 0, 0, 0, 0, 0, 0, 0, 0] [] := rfl
  generalize 1 + pickI a 65535 = p at HRR HPO
  generalize 134744064 + pickI c 200 = f at HRR HFA
  generalize 1 + pickI c 65535 = q at HRR HPQ
  generalize 167772161 + pickI a 200 = h at HRR HHO
  generalize pickI c 2 = pk at HPK
  clear hk hk2 hk3 hk4
  go_enter Tryz.func12, Tryz.ntmps12
  go_wp2_with fail
  refine (box_any 2 _ (by decide) (by decide)).mono ?_
  rintro e w1 ⟨b, rfl, hbx, hle, hbl⟩
  rw [hbx0] at hbx
  have HL : Hid (w.heap.size ≤ b ∧ Below w.heap.size w w1) := ⟨hle, hbl⟩
  have hM : Hid (GMid w1 w1 b (.slice none 0 0) (.slice none 0 0) (stN 2 0 [0, 0, 0, 0, 0, 0, 0, 0, 0, 0, 0, 0, 0, 0, 0, 0, 0, 0] []) []) := GMid.start hbx
  clear hbx hle hbl hbx0
  go_wp2_with (first | (go_at_call 18; refine (HHO.out _).mono ?_; rintro e w' ⟨rfl, rfl⟩) | (go_at_call 19; refine (HPO.out _).mono ?_; rintro e w' ⟨rfl, rfl⟩) | (go_at_call 19; refine (HPQ.out _).mono ?_; rintro e w' ⟨rfl, rfl⟩) | (go_at_call 20; refine (HFA.out _).mono ?_; rintro e w' ⟨rfl, rfl⟩))
  refine (tcpNone_yes hM.out.box 0 h p f q 16 16 (c_unasked b 2 0 _ h p f q 16 ⟨#[]⟩ (by decide) (by decide) HRR.out (by decide) (by decide) (by decide) (by decide) (by decide) tk_steps.2.1)).mono ?_
  rintro e w2 ⟨rfl, v2, hbx, hch⟩
  generalize bump _ 16 = C1 at hbx
  have hM1 := (((hM.out.change hbx hch).alloc' #[.int .i64 2, .int .i64 16, .int .i64 16, .int .i64 17, .int .i64 16] 3 w2.heap.size rfl).alloc' #[.int .i64 18, .int .i64 16, .int .i64 16, .int .i64 16, .int .i64 17] 3 (w2.heap.size + 1) (by simp))
  have HM0 : Hid _ := (hM.out.change hbx hch).alloc' #[.int .i64 2, .int .i64 16, .int .i64 16, .int .i64 17, .int .i64 16] 3 w2.heap.size rfl
  clear hM hbx hch
  have hM : Hid _ := hM1
  clear hM1
  go_upto_if 41 with (go_at_call 24; refine (HPK.out _).mono ?_; rintro e w' ⟨rfl, rfl⟩)
  go_cut [10] (fun s10 wx => s10 = .bool true ∧ ∃ F4, (F4 = 17 ∨ F4 = 4) ∧ GMid w' wx b (.slice none 0 0) v2 (stN 2 0 C1 []) [(w2.heap.size + 1, #[.int .i64 18, .int .i64 16, .int .i64 16, .int .i64 16, .int .i64 F4], 3), (w2.heap.size, #[.int .i64 2, .int .i64 16, .int .i64 16, .int .i64 17, .int .i64 16], 3)])
  case first =>
    by_cases hpk : pk = 1
    · have hpb : (pk == 1) = true := by simp [hpk]
      clear hpk
      go_wp2_with fail
      go_meet
      exact ⟨rfl, 4, Or.inr rfl, HM0.out.alloc' _ _ _ (by simp)⟩
    · have hpb : (pk == 1) = false := by simp [hpk]
      clear hpk
      go_wp2_with fail
      go_meet
      exact ⟨rfl, 17, Or.inl rfl, hM.out⟩
  case rest =>
    obtain ⟨rfl, F4, hF4, hM1⟩ := hcut
    clear hM HM0
    have HIN : Hid (∃ v C, GMid w' wc b (.slice none 0 0) v (stN 2 (tmT 0) C (lT h p f q 0)) [(w2.heap.size + 1, #[.int .i64 18, .int .i64 16, .int .i64 16, .int .i64 16, .int .i64 F4], 3), (w2.heap.size, #[.int .i64 2, .int .i64 16, .int .i64 16, .int .i64 17, .int .i64 16], 3)]) := ⟨_, _, hM1⟩
    clear hM1
    have hf0 : 0 ≤ F4 := by omega
    have hf1 : F4 ≤ 255 := by omega
    have HF : Hid (tkBehind ⟨2, true, true, false⟩ 1 F4 = ⟨3, false, false, false⟩) := by rcases hF4 with rfl | rfl <;> rfl
    clear hF4
    go_wp2_with fail
    go_loopw [13, 10] (fun k ok wr => ∃ n : Nat, n ≤ 5 ∧ k = .int .i64 (n : Int) ∧ ok = .bool true ∧ ∃ v C, GMid w' wr b (.slice none 0 0) v (stN 2 (tmT n) C (lT h p f q n)) [(w2.heap.size + 1, #[.int .i64 18, .int .i64 16, .int .i64 16, .int .i64 16, .int .i64 F4], 3), (w2.heap.size, #[.int .i64 2, .int .i64 16, .int .i64 16, .int .i64 17, .int .i64 16], 3)]) (fun k _ _ => (5 - intOf k).toNat)
    case atStart => exact ⟨0, by decide, rfl, rfl, HIN.out⟩
    case round =>
      obtain ⟨n, hn, rfl, rfl, v, C, hM1⟩ := hrel
      clear HIN
      obtain ⟨s1, s2, s3, s4, s5, s6, s7, s8, s9, s10, s11, s12, s13⟩ := tk_steps
      have h5 : n = 0 ∨ n = 1 ∨ n = 2 ∨ n = 3 ∨ n = 4 ∨ n = 5 := by omega
      rcases h5 with rfl | rfl | rfl | rfl | rfl | rfl
      · have hM2 : GMid w' wr b (.slice none 0 0) v (stN 2 0 C []) [(w2.heap.size + 1, #[.int .i64 18, .int .i64 16, .int .i64 16, .int .i64 16, .int .i64 F4], 3), (w2.heap.size, #[.int .i64 2, .int .i64 16, .int .i64 16, .int .i64 17, .int .i64 16], 3)] := hM1
        clear hM1
        have E1 : Hid (T1 h p f q 5000 (0 + ticksI 6 (tkBehind ⟨1, false, false, false⟩ 0 2).st) (tkBehind ⟨1, false, false, false⟩ 0 2) = T1 h p f q 5000 8 ⟨1, false, false, false⟩) := by show _ = _; rw [s3]; rfl
        have E2 : Hid (T1 h p f q 5000 (0 + ticksI 6 (tkBehind ⟨1, false, false, false⟩ 1 18).st) (tkBehind ⟨1, false, false, false⟩ 1 18) = T1 h p f q 5000 8 ⟨1, true, false, false⟩) := by show _ = _; rw [s4]; rfl
        have HO1 : Hid (OneOK b (stN 2 0 C []) 0 (tcpP h p f q 2 ⟨#[97, 98, 99]⟩) 1 ⟨8, 0, 0, 8, 6, 3405803781, f, tcpB 3405803781 5000 f q 2 ⟨#[97, 98, 99]⟩⟩ (stN 2 0 (bump C 0) [T1 h p f q 5000 8 ⟨1, false, false, false⟩])) := by have := c_new b 2 0 C h p f q 2 ⟨#[97, 98, 99]⟩ (by decide) (by decide) HRR.out (by decide) (by decide) (by decide) (by decide) (by decide) s1; rw [E1.out] at this; exact this
        clear s1 s2 s3 s4 s5 s6 s7 s8 s9 s10 s11 s12 s13 hn
        obtain ⟨⟨i0, i1, i2, i3, i4⟩, iff0⟩ := c5h hM2.at0
        obtain ⟨⟨o0, o1, o2, o3, o4⟩, off0⟩ := c5h hM2.at1
        have hM : Hid _ := hM2
        clear hM2
        go_wp2_with fail
        refine (tcpOne_yes hM.out.box 0 h p f q 2 1 _ HO1.out).mono ?_
        rintro e w3 ⟨rfl, v3, hbx, hch⟩
        rw [val_mk]
        generalize bump C 0 = C2 at hbx
        have hxb := tcpB_btw 8 0 0 8 6 3405803781 5000 f q 2 ⟨#[97, 98, 99]⟩ (by decide) (by decide) (by have := HRR.out.q0; omega) HRR.out.q1
        have hxd := tcpB_data 3405803781 5000 f q 2 ⟨#[97, 98, 99]⟩
        have hxz := tcpB_size 3405803781 5000 f q 2 ⟨#[97, 98, 99]⟩
        generalize tcpB 3405803781 5000 f q 2 ⟨#[97, 98, 99]⟩ = X at hxb hxd hxz ⊢
        have hxs : X.size ≤ 1000 := by rw [hxz]; decide
        have hx20 : (20 : Int) ≤ (X.size : Int) := by rw [hxz]; decide
        have HXB : Hid (∀ w, Calls Tryz.prog 23 #[.agg #[.int .i64 8, .int .i64 0, .int .i64 0, .int .i64 8, .int .i64 6, .int .i64 3405803781, .int .i64 f, .string X], .int .i64 3405803781, .int .i64 5000, .int .i64 f, .int .i64 q] w fun e w' => e = .returned (.bool true) ∧ Below w.heap.size w w') := fun w => by
          have hbt := between_any ⟨8, 0, 0, 8, 6, 3405803781, f, X⟩ 3405803781 5000 f q w hxs
          rw [hxb] at hbt
          exact hbt
        have hM2 := (hM.out.change hbx hch).alloc' #[.int .i64 8, .int .i64 0, .int .i64 0, .int .i64 8, .int .i64 6, .int .i64 3405803781, .int .i64 f, .string X] 31 w3.heap.size rfl
        have hlt3 := lt_of_block (hM.out.change hbx hch).at0
        have hlt4 := lt_of_block (hM.out.change hbx hch).at1
        clear hM hbx hch i0 i1 i2 i3 i4 iff0 o0 o1 o2 o3 o4 off0 hxb hxz hxs
        obtain ⟨⟨i0, i1, i2, i3, i4⟩, iff0⟩ := c5h hM2.at1
        have hM : Hid _ := hM2
        clear hM2
        go_wp2_with fail
        have HO2 : OneOK b (stN 2 0 C2 [T1 h p f q 5000 8 ⟨1, false, false, false⟩]) 1 (tcpP f q 3405803781 5000 18 ⟨#[97, 98, 99]⟩) 0 ⟨8, 0, 0, 8, 6, f, h, tcpB f q h p 18 ⟨#[97, 98, 99]⟩⟩ (stN 2 0 (bump C2 0) [T1 h p f q 5000 8 ⟨1, true, false, false⟩]) := by have := c_in b 2 0 C2 h p f q 18 8 ⟨1, false, false, false⟩ ⟨#[97, 98, 99]⟩ (by decide) (by decide) HRR.out (by decide) (by decide) (by decide) (by decide) (by decide); rw [E2.out] at this; exact this
        refine (tcpOne_yes hM.out.box 1 f q 3405803781 5000 18 0 _ HO2).mono ?_
        rintro e w4 ⟨rfl, v4, hbx, hch⟩
        rw [val_mk]
        generalize bump C2 0 = C3 at hbx
        have hyb := tcpB_btw 8 0 0 8 6 f q h p 18 ⟨#[97, 98, 99]⟩ (by have := HRR.out.q0; omega) HRR.out.q1 (by have := HRR.out.p0; omega) HRR.out.p1
        have hyd := tcpB_data f q h p 18 ⟨#[97, 98, 99]⟩
        have hyz := tcpB_size f q h p 18 ⟨#[97, 98, 99]⟩
        generalize tcpB f q h p 18 ⟨#[97, 98, 99]⟩ = Y at hyb hyd hyz ⊢
        have hys : Y.size ≤ 1000 := by rw [hyz]; decide
        have hy20 : (20 : Int) ≤ (Y.size : Int) := by rw [hyz]; decide
        have HYB : Hid (∀ w, Calls Tryz.prog 23 #[.agg #[.int .i64 8, .int .i64 0, .int .i64 0, .int .i64 8, .int .i64 6, .int .i64 f, .int .i64 h, .string Y], .int .i64 f, .int .i64 q, .int .i64 h, .int .i64 p] w fun e w' => e = .returned (.bool true) ∧ Below w.heap.size w w') := fun w => by
          have hbt := between_any ⟨8, 0, 0, 8, 6, f, h, Y⟩ f q h p w hys
          rw [hyb] at hbt
          exact hbt
        have hM2 := (hM.out.change hbx hch).alloc' #[.int .i64 8, .int .i64 0, .int .i64 0, .int .i64 8, .int .i64 6, .int .i64 f, .int .i64 h, .string Y] 31 w4.heap.size rfl
        have hlt5 := lt_of_block (hM.out.change hbx hch).at0
        obtain ⟨⟨x0, x1, x2, x3, x4, x5, x6, x7⟩, xf⟩ := c8 (hM.out.change hbx hch).at0
        clear hM hbx hch i0 i1 i2 i3 i4 iff0 hyb hyz hys HO2
        have hM : Hid _ := hM2
        clear hM2
        go_wp2_with fail
        refine (HXB.out _).mono ?_
        rintro e w5 ⟨rfl, hb5⟩
        have hM2 := hM.out.call hb5
        clear hM hb5 x0 x1 x2 x3 x4 x5 x6 x7 xf
        obtain ⟨⟨x0, x1, x2, x3, x4, x5, x6, x7⟩, xf⟩ := c8 hM2.at1
        obtain ⟨⟨y0, y1, y2, y3, y4, y5, y6, y7⟩, yf⟩ := c8 hM2.at0
        have hM : Hid _ := hM2
        clear hM2
        go_wp2_with fail
        refine (HYB.out _).mono ?_
        rintro e w6 ⟨rfl, hb6⟩
        have hM2 := hM.out.call hb6
        clear hM hb6 x0 x1 x2 x3 x4 x5 x6 x7 xf y0 y1 y2 y3 y4 y5 y6 y7 yf
        obtain ⟨⟨x0, x1, x2, x3, x4, x5, x6, x7⟩, xf⟩ := c8 hM2.at1
        obtain ⟨⟨y0, y1, y2, y3, y4, y5, y6, y7⟩, yf⟩ := c8 hM2.at0
        have hM : Hid _ := hM2
        clear hM2
        go_wp2_with fail
        go_roundw
        case rel => exact ⟨1, by decide, rfl, rfl, v4, C3, GMid.drop (pre := [_, _]) hM.out⟩
        case measure => simp [intOf]
      · have hM2 : GMid w' wr b (.slice none 0 0) v (stN 2 0 C [T1 h p f q 5000 8 ⟨1, true, false, false⟩]) [(w2.heap.size + 1, #[.int .i64 18, .int .i64 16, .int .i64 16, .int .i64 16, .int .i64 F4], 3), (w2.heap.size, #[.int .i64 2, .int .i64 16, .int .i64 16, .int .i64 17, .int .i64 16], 3)] := hM1
        clear hM1
        have E1 : Hid (T1 h p f q 5000 (0 + ticksI 6 (tkBehind ⟨1, true, false, false⟩ 0 16).st) (tkBehind ⟨1, true, false, false⟩ 0 16) = T1 h p f q 5000 60 ⟨2, true, false, false⟩) := by show _ = _; rw [s5]; rfl
        have E2 : Hid (T1 h p f q 5000 (0 + ticksI 6 (tkBehind ⟨2, true, false, false⟩ 1 16).st) (tkBehind ⟨2, true, false, false⟩ 1 16) = T1 h p f q 5000 60 ⟨2, true, false, false⟩) := by show _ = _; rw [s6]; rfl
        have HO1 : Hid (OneOK b (stN 2 0 C [T1 h p f q 5000 8 ⟨1, true, false, false⟩]) 0 (tcpP h p f q 16 ⟨#[97, 98, 99]⟩) 1 ⟨8, 0, 0, 8, 6, 3405803781, f, tcpB 3405803781 5000 f q 16 ⟨#[97, 98, 99]⟩⟩ (stN 2 0 (bump C 0) [T1 h p f q 5000 60 ⟨2, true, false, false⟩])) := by have := c_again b 2 0 C h p f q 16 8 ⟨1, true, false, false⟩ ⟨#[97, 98, 99]⟩ (by decide) (by decide) HRR.out (by decide) (by decide) (by decide) (by decide) (by decide); rw [E1.out] at this; exact this
        clear s1 s2 s3 s4 s5 s6 s7 s8 s9 s10 s11 s12 s13 hn
        obtain ⟨⟨i0, i1, i2, i3, i4⟩, iff0⟩ := c5h hM2.at0
        obtain ⟨⟨o0, o1, o2, o3, o4⟩, off0⟩ := c5h hM2.at1
        have hM : Hid _ := hM2
        clear hM2
        go_wp2_with fail
        refine (tcpOne_yes hM.out.box 0 h p f q 16 1 _ HO1.out).mono ?_
        rintro e w3 ⟨rfl, v3, hbx, hch⟩
        rw [val_mk]
        generalize bump C 0 = C2 at hbx
        have hxb := tcpB_btw 8 0 0 8 6 3405803781 5000 f q 16 ⟨#[97, 98, 99]⟩ (by decide) (by decide) (by have := HRR.out.q0; omega) HRR.out.q1
        have hxd := tcpB_data 3405803781 5000 f q 16 ⟨#[97, 98, 99]⟩
        have hxz := tcpB_size 3405803781 5000 f q 16 ⟨#[97, 98, 99]⟩
        generalize tcpB 3405803781 5000 f q 16 ⟨#[97, 98, 99]⟩ = X at hxb hxd hxz ⊢
        have hxs : X.size ≤ 1000 := by rw [hxz]; decide
        have hx20 : (20 : Int) ≤ (X.size : Int) := by rw [hxz]; decide
        have HXB : Hid (∀ w, Calls Tryz.prog 23 #[.agg #[.int .i64 8, .int .i64 0, .int .i64 0, .int .i64 8, .int .i64 6, .int .i64 3405803781, .int .i64 f, .string X], .int .i64 3405803781, .int .i64 5000, .int .i64 f, .int .i64 q] w fun e w' => e = .returned (.bool true) ∧ Below w.heap.size w w') := fun w => by
          have hbt := between_any ⟨8, 0, 0, 8, 6, 3405803781, f, X⟩ 3405803781 5000 f q w hxs
          rw [hxb] at hbt
          exact hbt
        have hM2 := (hM.out.change hbx hch).alloc' #[.int .i64 8, .int .i64 0, .int .i64 0, .int .i64 8, .int .i64 6, .int .i64 3405803781, .int .i64 f, .string X] 31 w3.heap.size rfl
        have hlt3 := lt_of_block (hM.out.change hbx hch).at0
        have hlt4 := lt_of_block (hM.out.change hbx hch).at1
        clear hM hbx hch i0 i1 i2 i3 i4 iff0 o0 o1 o2 o3 o4 off0 hxb hxz hxs
        obtain ⟨⟨i0, i1, i2, i3, i4⟩, iff0⟩ := c5h hM2.at1
        have hM : Hid _ := hM2
        clear hM2
        go_wp2_with fail
        have HO2 : OneOK b (stN 2 0 C2 [T1 h p f q 5000 60 ⟨2, true, false, false⟩]) 1 (tcpP f q 3405803781 5000 16 ⟨#[97, 98, 99]⟩) 0 ⟨8, 0, 0, 8, 6, f, h, tcpB f q h p 16 ⟨#[97, 98, 99]⟩⟩ (stN 2 0 (bump C2 0) [T1 h p f q 5000 60 ⟨2, true, false, false⟩]) := by have := c_in b 2 0 C2 h p f q 16 60 ⟨2, true, false, false⟩ ⟨#[97, 98, 99]⟩ (by decide) (by decide) HRR.out (by decide) (by decide) (by decide) (by decide) (by decide); rw [E2.out] at this; exact this
        refine (tcpOne_yes hM.out.box 1 f q 3405803781 5000 16 0 _ HO2).mono ?_
        rintro e w4 ⟨rfl, v4, hbx, hch⟩
        rw [val_mk]
        generalize bump C2 0 = C3 at hbx
        have hyb := tcpB_btw 8 0 0 8 6 f q h p 16 ⟨#[97, 98, 99]⟩ (by have := HRR.out.q0; omega) HRR.out.q1 (by have := HRR.out.p0; omega) HRR.out.p1
        have hyd := tcpB_data f q h p 16 ⟨#[97, 98, 99]⟩
        have hyz := tcpB_size f q h p 16 ⟨#[97, 98, 99]⟩
        generalize tcpB f q h p 16 ⟨#[97, 98, 99]⟩ = Y at hyb hyd hyz ⊢
        have hys : Y.size ≤ 1000 := by rw [hyz]; decide
        have hy20 : (20 : Int) ≤ (Y.size : Int) := by rw [hyz]; decide
        have HYB : Hid (∀ w, Calls Tryz.prog 23 #[.agg #[.int .i64 8, .int .i64 0, .int .i64 0, .int .i64 8, .int .i64 6, .int .i64 f, .int .i64 h, .string Y], .int .i64 f, .int .i64 q, .int .i64 h, .int .i64 p] w fun e w' => e = .returned (.bool true) ∧ Below w.heap.size w w') := fun w => by
          have hbt := between_any ⟨8, 0, 0, 8, 6, f, h, Y⟩ f q h p w hys
          rw [hyb] at hbt
          exact hbt
        have hM2 := (hM.out.change hbx hch).alloc' #[.int .i64 8, .int .i64 0, .int .i64 0, .int .i64 8, .int .i64 6, .int .i64 f, .int .i64 h, .string Y] 31 w4.heap.size rfl
        have hlt5 := lt_of_block (hM.out.change hbx hch).at0
        obtain ⟨⟨x0, x1, x2, x3, x4, x5, x6, x7⟩, xf⟩ := c8 (hM.out.change hbx hch).at0
        clear hM hbx hch i0 i1 i2 i3 i4 iff0 hyb hyz hys HO2
        have hM : Hid _ := hM2
        clear hM2
        go_wp2_with fail
        refine (HXB.out _).mono ?_
        rintro e w5 ⟨rfl, hb5⟩
        have hM2 := hM.out.call hb5
        clear hM hb5 x0 x1 x2 x3 x4 x5 x6 x7 xf
        obtain ⟨⟨x0, x1, x2, x3, x4, x5, x6, x7⟩, xf⟩ := c8 hM2.at1
        obtain ⟨⟨y0, y1, y2, y3, y4, y5, y6, y7⟩, yf⟩ := c8 hM2.at0
        have hM : Hid _ := hM2
        clear hM2
        go_wp2_with fail
        refine (HYB.out _).mono ?_
        rintro e w6 ⟨rfl, hb6⟩
        have hM2 := hM.out.call hb6
        clear hM hb6 x0 x1 x2 x3 x4 x5 x6 x7 xf y0 y1 y2 y3 y4 y5 y6 y7 yf
        obtain ⟨⟨x0, x1, x2, x3, x4, x5, x6, x7⟩, xf⟩ := c8 hM2.at1
        obtain ⟨⟨y0, y1, y2, y3, y4, y5, y6, y7⟩, yf⟩ := c8 hM2.at0
        have hM : Hid _ := hM2
        clear hM2
        go_wp2_with fail
        refine (Tick_any hM.out.box (stT_one 2 0 C3 h p f q 5000 60 ⟨2, true, false, false⟩ (by decide) (by decide) (by decide) (by decide) (by have := HRR.out.h0; omega) (by have := HRR.out.h1; omega)) 59 (by decide) (by decide)).mono ?_
        rintro e w7 ⟨rfl, v7, hbx, hch⟩
        rw [tickT_stay 2 0 C3 h p f q 5000 60 59 ⟨2, true, false, false⟩ (by decide)] at hbx
        have hM2 := hM.out.change hbx hch
        clear hM hbx hch
        have hM : Hid _ := hM2
        clear hM2
        go_wp2_with fail
        go_roundw
        case rel => exact ⟨2, by decide, rfl, rfl, v7, C3, GMid.drop (pre := [_, _]) hM.out⟩
        case measure => simp [intOf]
      · have hM2 : GMid w' wr b (.slice none 0 0) v (stN 2 59 C [T1 h p f q 5000 60 ⟨2, true, false, false⟩]) [(w2.heap.size + 1, #[.int .i64 18, .int .i64 16, .int .i64 16, .int .i64 16, .int .i64 F4], 3), (w2.heap.size, #[.int .i64 2, .int .i64 16, .int .i64 16, .int .i64 17, .int .i64 16], 3)] := hM1
        clear hM1
        have E1 : Hid (T1 h p f q 5000 (59 + ticksI 6 (tkBehind ⟨2, true, false, false⟩ 0 16).st) (tkBehind ⟨2, true, false, false⟩ 0 16) = T1 h p f q 5000 119 ⟨2, true, false, false⟩) := by show _ = _; rw [s7]; rfl
        have E2 : Hid (T1 h p f q 5000 (59 + ticksI 6 (tkBehind ⟨2, true, false, false⟩ 1 16).st) (tkBehind ⟨2, true, false, false⟩ 1 16) = T1 h p f q 5000 119 ⟨2, true, false, false⟩) := by show _ = _; rw [s6]; rfl
        have HO1 : Hid (OneOK b (stN 2 59 C [T1 h p f q 5000 60 ⟨2, true, false, false⟩]) 0 (tcpP h p f q 16 ⟨#[97, 98, 99]⟩) 1 ⟨8, 0, 0, 8, 6, 3405803781, f, tcpB 3405803781 5000 f q 16 ⟨#[97, 98, 99]⟩⟩ (stN 2 59 (bump C 0) [T1 h p f q 5000 119 ⟨2, true, false, false⟩])) := by have := c_again b 2 59 C h p f q 16 60 ⟨2, true, false, false⟩ ⟨#[97, 98, 99]⟩ (by decide) (by decide) HRR.out (by decide) (by decide) (by decide) (by decide) (by decide); rw [E1.out] at this; exact this
        clear s1 s2 s3 s4 s5 s6 s7 s8 s9 s10 s11 s12 s13 hn
        obtain ⟨⟨i0, i1, i2, i3, i4⟩, iff0⟩ := c5h hM2.at0
        obtain ⟨⟨o0, o1, o2, o3, o4⟩, off0⟩ := c5h hM2.at1
        have hM : Hid _ := hM2
        clear hM2
        go_wp2_with fail
        refine (tcpOne_yes hM.out.box 0 h p f q 16 1 _ HO1.out).mono ?_
        rintro e w3 ⟨rfl, v3, hbx, hch⟩
        rw [val_mk]
        generalize bump C 0 = C2 at hbx
        have hxb := tcpB_btw 8 0 0 8 6 3405803781 5000 f q 16 ⟨#[97, 98, 99]⟩ (by decide) (by decide) (by have := HRR.out.q0; omega) HRR.out.q1
        have hxd := tcpB_data 3405803781 5000 f q 16 ⟨#[97, 98, 99]⟩
        have hxz := tcpB_size 3405803781 5000 f q 16 ⟨#[97, 98, 99]⟩
        generalize tcpB 3405803781 5000 f q 16 ⟨#[97, 98, 99]⟩ = X at hxb hxd hxz ⊢
        have hxs : X.size ≤ 1000 := by rw [hxz]; decide
        have hx20 : (20 : Int) ≤ (X.size : Int) := by rw [hxz]; decide
        have HXB : Hid (∀ w, Calls Tryz.prog 23 #[.agg #[.int .i64 8, .int .i64 0, .int .i64 0, .int .i64 8, .int .i64 6, .int .i64 3405803781, .int .i64 f, .string X], .int .i64 3405803781, .int .i64 5000, .int .i64 f, .int .i64 q] w fun e w' => e = .returned (.bool true) ∧ Below w.heap.size w w') := fun w => by
          have hbt := between_any ⟨8, 0, 0, 8, 6, 3405803781, f, X⟩ 3405803781 5000 f q w hxs
          rw [hxb] at hbt
          exact hbt
        have hM2 := (hM.out.change hbx hch).alloc' #[.int .i64 8, .int .i64 0, .int .i64 0, .int .i64 8, .int .i64 6, .int .i64 3405803781, .int .i64 f, .string X] 31 w3.heap.size rfl
        have hlt3 := lt_of_block (hM.out.change hbx hch).at0
        have hlt4 := lt_of_block (hM.out.change hbx hch).at1
        clear hM hbx hch i0 i1 i2 i3 i4 iff0 o0 o1 o2 o3 o4 off0 hxb hxz hxs
        obtain ⟨⟨i0, i1, i2, i3, i4⟩, iff0⟩ := c5h hM2.at1
        have hM : Hid _ := hM2
        clear hM2
        go_wp2_with fail
        have HO2 : OneOK b (stN 2 59 C2 [T1 h p f q 5000 119 ⟨2, true, false, false⟩]) 1 (tcpP f q 3405803781 5000 16 ⟨#[97, 98, 99]⟩) 0 ⟨8, 0, 0, 8, 6, f, h, tcpB f q h p 16 ⟨#[97, 98, 99]⟩⟩ (stN 2 59 (bump C2 0) [T1 h p f q 5000 119 ⟨2, true, false, false⟩]) := by have := c_in b 2 59 C2 h p f q 16 119 ⟨2, true, false, false⟩ ⟨#[97, 98, 99]⟩ (by decide) (by decide) HRR.out (by decide) (by decide) (by decide) (by decide) (by decide); rw [E2.out] at this; exact this
        refine (tcpOne_yes hM.out.box 1 f q 3405803781 5000 16 0 _ HO2).mono ?_
        rintro e w4 ⟨rfl, v4, hbx, hch⟩
        rw [val_mk]
        generalize bump C2 0 = C3 at hbx
        have hyb := tcpB_btw 8 0 0 8 6 f q h p 16 ⟨#[97, 98, 99]⟩ (by have := HRR.out.q0; omega) HRR.out.q1 (by have := HRR.out.p0; omega) HRR.out.p1
        have hyd := tcpB_data f q h p 16 ⟨#[97, 98, 99]⟩
        have hyz := tcpB_size f q h p 16 ⟨#[97, 98, 99]⟩
        generalize tcpB f q h p 16 ⟨#[97, 98, 99]⟩ = Y at hyb hyd hyz ⊢
        have hys : Y.size ≤ 1000 := by rw [hyz]; decide
        have hy20 : (20 : Int) ≤ (Y.size : Int) := by rw [hyz]; decide
        have HYB : Hid (∀ w, Calls Tryz.prog 23 #[.agg #[.int .i64 8, .int .i64 0, .int .i64 0, .int .i64 8, .int .i64 6, .int .i64 f, .int .i64 h, .string Y], .int .i64 f, .int .i64 q, .int .i64 h, .int .i64 p] w fun e w' => e = .returned (.bool true) ∧ Below w.heap.size w w') := fun w => by
          have hbt := between_any ⟨8, 0, 0, 8, 6, f, h, Y⟩ f q h p w hys
          rw [hyb] at hbt
          exact hbt
        have hM2 := (hM.out.change hbx hch).alloc' #[.int .i64 8, .int .i64 0, .int .i64 0, .int .i64 8, .int .i64 6, .int .i64 f, .int .i64 h, .string Y] 31 w4.heap.size rfl
        have hlt5 := lt_of_block (hM.out.change hbx hch).at0
        obtain ⟨⟨x0, x1, x2, x3, x4, x5, x6, x7⟩, xf⟩ := c8 (hM.out.change hbx hch).at0
        clear hM hbx hch i0 i1 i2 i3 i4 iff0 hyb hyz hys HO2
        have hM : Hid _ := hM2
        clear hM2
        go_wp2_with fail
        refine (HXB.out _).mono ?_
        rintro e w5 ⟨rfl, hb5⟩
        have hM2 := hM.out.call hb5
        clear hM hb5 x0 x1 x2 x3 x4 x5 x6 x7 xf
        obtain ⟨⟨x0, x1, x2, x3, x4, x5, x6, x7⟩, xf⟩ := c8 hM2.at1
        obtain ⟨⟨y0, y1, y2, y3, y4, y5, y6, y7⟩, yf⟩ := c8 hM2.at0
        have hM : Hid _ := hM2
        clear hM2
        go_wp2_with fail
        refine (HYB.out _).mono ?_
        rintro e w6 ⟨rfl, hb6⟩
        have hM2 := hM.out.call hb6
        clear hM hb6 x0 x1 x2 x3 x4 x5 x6 x7 xf y0 y1 y2 y3 y4 y5 y6 y7 yf
        obtain ⟨⟨x0, x1, x2, x3, x4, x5, x6, x7⟩, xf⟩ := c8 hM2.at1
        obtain ⟨⟨y0, y1, y2, y3, y4, y5, y6, y7⟩, yf⟩ := c8 hM2.at0
        have hM : Hid _ := hM2
        clear hM2
        go_wp2_with fail
        go_roundw
        case rel => exact ⟨3, by decide, rfl, rfl, v4, C3, GMid.drop (pre := [_, _]) hM.out⟩
        case measure => simp [intOf]
      · have hM2 : GMid w' wr b (.slice none 0 0) v (stN 2 59 C [T1 h p f q 5000 119 ⟨2, true, false, false⟩]) [(w2.heap.size + 1, #[.int .i64 18, .int .i64 16, .int .i64 16, .int .i64 16, .int .i64 F4], 3), (w2.heap.size, #[.int .i64 2, .int .i64 16, .int .i64 16, .int .i64 17, .int .i64 16], 3)] := hM1
        clear hM1
        have E1 : Hid (T1 h p f q 5000 (59 + ticksI 6 (tkBehind ⟨2, true, false, false⟩ 0 17).st) (tkBehind ⟨2, true, false, false⟩ 0 17) = T1 h p f q 5000 119 ⟨2, true, true, false⟩) := by show _ = _; rw [s8]; rfl
        have E2 : Hid (T1 h p f q 5000 (59 + ticksI 6 (tkBehind ⟨2, true, true, false⟩ 1 16).st) (tkBehind ⟨2, true, true, false⟩ 1 16) = T1 h p f q 5000 119 ⟨2, true, true, false⟩) := by show _ = _; rw [s9]; rfl
        have HO1 : Hid (OneOK b (stN 2 59 C [T1 h p f q 5000 119 ⟨2, true, false, false⟩]) 0 (tcpP h p f q 17 ⟨#[97, 98, 99]⟩) 1 ⟨8, 0, 0, 8, 6, 3405803781, f, tcpB 3405803781 5000 f q 17 ⟨#[97, 98, 99]⟩⟩ (stN 2 59 (bump C 0) [T1 h p f q 5000 119 ⟨2, true, true, false⟩])) := by have := c_again b 2 59 C h p f q 17 119 ⟨2, true, false, false⟩ ⟨#[97, 98, 99]⟩ (by decide) (by decide) HRR.out (by decide) (by decide) (by decide) (by decide) (by decide); rw [E1.out] at this; exact this
        clear s1 s2 s3 s4 s5 s6 s7 s8 s9 s10 s11 s12 s13 hn
        obtain ⟨⟨i0, i1, i2, i3, i4⟩, iff0⟩ := c5h hM2.at0
        obtain ⟨⟨o0, o1, o2, o3, o4⟩, off0⟩ := c5h hM2.at1
        have hM : Hid _ := hM2
        clear hM2
        go_wp2_with fail
        refine (tcpOne_yes hM.out.box 0 h p f q 17 1 _ HO1.out).mono ?_
        rintro e w3 ⟨rfl, v3, hbx, hch⟩
        rw [val_mk]
        generalize bump C 0 = C2 at hbx
        have hxb := tcpB_btw 8 0 0 8 6 3405803781 5000 f q 17 ⟨#[97, 98, 99]⟩ (by decide) (by decide) (by have := HRR.out.q0; omega) HRR.out.q1
        have hxd := tcpB_data 3405803781 5000 f q 17 ⟨#[97, 98, 99]⟩
        have hxz := tcpB_size 3405803781 5000 f q 17 ⟨#[97, 98, 99]⟩
        generalize tcpB 3405803781 5000 f q 17 ⟨#[97, 98, 99]⟩ = X at hxb hxd hxz ⊢
        have hxs : X.size ≤ 1000 := by rw [hxz]; decide
        have hx20 : (20 : Int) ≤ (X.size : Int) := by rw [hxz]; decide
        have HXB : Hid (∀ w, Calls Tryz.prog 23 #[.agg #[.int .i64 8, .int .i64 0, .int .i64 0, .int .i64 8, .int .i64 6, .int .i64 3405803781, .int .i64 f, .string X], .int .i64 3405803781, .int .i64 5000, .int .i64 f, .int .i64 q] w fun e w' => e = .returned (.bool true) ∧ Below w.heap.size w w') := fun w => by
          have hbt := between_any ⟨8, 0, 0, 8, 6, 3405803781, f, X⟩ 3405803781 5000 f q w hxs
          rw [hxb] at hbt
          exact hbt
        have hM2 := (hM.out.change hbx hch).alloc' #[.int .i64 8, .int .i64 0, .int .i64 0, .int .i64 8, .int .i64 6, .int .i64 3405803781, .int .i64 f, .string X] 31 w3.heap.size rfl
        have hlt3 := lt_of_block (hM.out.change hbx hch).at0
        have hlt4 := lt_of_block (hM.out.change hbx hch).at1
        clear hM hbx hch i0 i1 i2 i3 i4 iff0 o0 o1 o2 o3 o4 off0 hxb hxz hxs
        obtain ⟨⟨i0, i1, i2, i3, i4⟩, iff0⟩ := c5h hM2.at1
        have hM : Hid _ := hM2
        clear hM2
        go_wp2_with fail
        have HO2 : OneOK b (stN 2 59 C2 [T1 h p f q 5000 119 ⟨2, true, true, false⟩]) 1 (tcpP f q 3405803781 5000 16 ⟨#[97, 98, 99]⟩) 0 ⟨8, 0, 0, 8, 6, f, h, tcpB f q h p 16 ⟨#[97, 98, 99]⟩⟩ (stN 2 59 (bump C2 0) [T1 h p f q 5000 119 ⟨2, true, true, false⟩]) := by have := c_in b 2 59 C2 h p f q 16 119 ⟨2, true, true, false⟩ ⟨#[97, 98, 99]⟩ (by decide) (by decide) HRR.out (by decide) (by decide) (by decide) (by decide) (by decide); rw [E2.out] at this; exact this
        refine (tcpOne_yes hM.out.box 1 f q 3405803781 5000 16 0 _ HO2).mono ?_
        rintro e w4 ⟨rfl, v4, hbx, hch⟩
        rw [val_mk]
        generalize bump C2 0 = C3 at hbx
        have hyb := tcpB_btw 8 0 0 8 6 f q h p 16 ⟨#[97, 98, 99]⟩ (by have := HRR.out.q0; omega) HRR.out.q1 (by have := HRR.out.p0; omega) HRR.out.p1
        have hyd := tcpB_data f q h p 16 ⟨#[97, 98, 99]⟩
        have hyz := tcpB_size f q h p 16 ⟨#[97, 98, 99]⟩
        generalize tcpB f q h p 16 ⟨#[97, 98, 99]⟩ = Y at hyb hyd hyz ⊢
        have hys : Y.size ≤ 1000 := by rw [hyz]; decide
        have hy20 : (20 : Int) ≤ (Y.size : Int) := by rw [hyz]; decide
        have HYB : Hid (∀ w, Calls Tryz.prog 23 #[.agg #[.int .i64 8, .int .i64 0, .int .i64 0, .int .i64 8, .int .i64 6, .int .i64 f, .int .i64 h, .string Y], .int .i64 f, .int .i64 q, .int .i64 h, .int .i64 p] w fun e w' => e = .returned (.bool true) ∧ Below w.heap.size w w') := fun w => by
          have hbt := between_any ⟨8, 0, 0, 8, 6, f, h, Y⟩ f q h p w hys
          rw [hyb] at hbt
          exact hbt
        have hM2 := (hM.out.change hbx hch).alloc' #[.int .i64 8, .int .i64 0, .int .i64 0, .int .i64 8, .int .i64 6, .int .i64 f, .int .i64 h, .string Y] 31 w4.heap.size rfl
        have hlt5 := lt_of_block (hM.out.change hbx hch).at0
        obtain ⟨⟨x0, x1, x2, x3, x4, x5, x6, x7⟩, xf⟩ := c8 (hM.out.change hbx hch).at0
        clear hM hbx hch i0 i1 i2 i3 i4 iff0 hyb hyz hys HO2
        have hM : Hid _ := hM2
        clear hM2
        go_wp2_with fail
        refine (HXB.out _).mono ?_
        rintro e w5 ⟨rfl, hb5⟩
        have hM2 := hM.out.call hb5
        clear hM hb5 x0 x1 x2 x3 x4 x5 x6 x7 xf
        obtain ⟨⟨x0, x1, x2, x3, x4, x5, x6, x7⟩, xf⟩ := c8 hM2.at1
        obtain ⟨⟨y0, y1, y2, y3, y4, y5, y6, y7⟩, yf⟩ := c8 hM2.at0
        have hM : Hid _ := hM2
        clear hM2
        go_wp2_with fail
        refine (HYB.out _).mono ?_
        rintro e w6 ⟨rfl, hb6⟩
        have hM2 := hM.out.call hb6
        clear hM hb6 x0 x1 x2 x3 x4 x5 x6 x7 xf y0 y1 y2 y3 y4 y5 y6 y7 yf
        obtain ⟨⟨x0, x1, x2, x3, x4, x5, x6, x7⟩, xf⟩ := c8 hM2.at1
        obtain ⟨⟨y0, y1, y2, y3, y4, y5, y6, y7⟩, yf⟩ := c8 hM2.at0
        have hM : Hid _ := hM2
        clear hM2
        go_wp2_with fail
        go_roundw
        case rel => exact ⟨4, by decide, rfl, rfl, v4, C3, GMid.drop (pre := [_, _]) hM.out⟩
        case measure => simp [intOf]
      · have hM2 : GMid w' wr b (.slice none 0 0) v (stN 2 59 C [T1 h p f q 5000 119 ⟨2, true, true, false⟩]) [(w2.heap.size + 1, #[.int .i64 18, .int .i64 16, .int .i64 16, .int .i64 16, .int .i64 F4], 3), (w2.heap.size, #[.int .i64 2, .int .i64 16, .int .i64 16, .int .i64 17, .int .i64 16], 3)] := hM1
        clear hM1
        have E1 : Hid (T1 h p f q 5000 (59 + ticksI 6 (tkBehind ⟨2, true, true, false⟩ 0 16).st) (tkBehind ⟨2, true, true, false⟩ 0 16) = T1 h p f q 5000 119 ⟨2, true, true, false⟩) := by show _ = _; rw [s10]; rfl
        have E2 : Hid (T1 h p f q 5000 (59 + ticksI 6 (tkBehind ⟨2, true, true, false⟩ 1 F4).st) (tkBehind ⟨2, true, true, false⟩ 1 F4) = T1 h p f q 5000 64 ⟨3, false, false, false⟩) := by show _ = _; rw [HF.out]; rfl
        have HO1 : Hid (OneOK b (stN 2 59 C [T1 h p f q 5000 119 ⟨2, true, true, false⟩]) 0 (tcpP h p f q 16 ⟨#[97, 98, 99]⟩) 1 ⟨8, 0, 0, 8, 6, 3405803781, f, tcpB 3405803781 5000 f q 16 ⟨#[97, 98, 99]⟩⟩ (stN 2 59 (bump C 0) [T1 h p f q 5000 119 ⟨2, true, true, false⟩])) := by have := c_again b 2 59 C h p f q 16 119 ⟨2, true, true, false⟩ ⟨#[97, 98, 99]⟩ (by decide) (by decide) HRR.out (by decide) (by decide) (by decide) (by decide) (by decide); rw [E1.out] at this; exact this
        clear s1 s2 s3 s4 s5 s6 s7 s8 s9 s10 s11 s12 s13 hn
        obtain ⟨⟨i0, i1, i2, i3, i4⟩, iff0⟩ := c5h hM2.at0
        obtain ⟨⟨o0, o1, o2, o3, o4⟩, off0⟩ := c5h hM2.at1
        have hM : Hid _ := hM2
        clear hM2
        go_wp2_with fail
        refine (tcpOne_yes hM.out.box 0 h p f q 16 1 _ HO1.out).mono ?_
        rintro e w3 ⟨rfl, v3, hbx, hch⟩
        rw [val_mk]
        generalize bump C 0 = C2 at hbx
        have hxb := tcpB_btw 8 0 0 8 6 3405803781 5000 f q 16 ⟨#[97, 98, 99]⟩ (by decide) (by decide) (by have := HRR.out.q0; omega) HRR.out.q1
        have hxd := tcpB_data 3405803781 5000 f q 16 ⟨#[97, 98, 99]⟩
        have hxz := tcpB_size 3405803781 5000 f q 16 ⟨#[97, 98, 99]⟩
        generalize tcpB 3405803781 5000 f q 16 ⟨#[97, 98, 99]⟩ = X at hxb hxd hxz ⊢
        have hxs : X.size ≤ 1000 := by rw [hxz]; decide
        have hx20 : (20 : Int) ≤ (X.size : Int) := by rw [hxz]; decide
        have HXB : Hid (∀ w, Calls Tryz.prog 23 #[.agg #[.int .i64 8, .int .i64 0, .int .i64 0, .int .i64 8, .int .i64 6, .int .i64 3405803781, .int .i64 f, .string X], .int .i64 3405803781, .int .i64 5000, .int .i64 f, .int .i64 q] w fun e w' => e = .returned (.bool true) ∧ Below w.heap.size w w') := fun w => by
          have hbt := between_any ⟨8, 0, 0, 8, 6, 3405803781, f, X⟩ 3405803781 5000 f q w hxs
          rw [hxb] at hbt
          exact hbt
        have hM2 := (hM.out.change hbx hch).alloc' #[.int .i64 8, .int .i64 0, .int .i64 0, .int .i64 8, .int .i64 6, .int .i64 3405803781, .int .i64 f, .string X] 31 w3.heap.size rfl
        have hlt3 := lt_of_block (hM.out.change hbx hch).at0
        have hlt4 := lt_of_block (hM.out.change hbx hch).at1
        clear hM hbx hch i0 i1 i2 i3 i4 iff0 o0 o1 o2 o3 o4 off0 hxb hxz hxs
        obtain ⟨⟨i0, i1, i2, i3, i4⟩, iff0⟩ := c5h hM2.at1
        have hM : Hid _ := hM2
        clear hM2
        go_wp2_with fail
        have HO2 : OneOK b (stN 2 59 C2 [T1 h p f q 5000 119 ⟨2, true, true, false⟩]) 1 (tcpP f q 3405803781 5000 F4 ⟨#[97, 98, 99]⟩) 0 ⟨8, 0, 0, 8, 6, f, h, tcpB f q h p F4 ⟨#[97, 98, 99]⟩⟩ (stN 2 59 (bump C2 0) [T1 h p f q 5000 64 ⟨3, false, false, false⟩]) := by have := c_in b 2 59 C2 h p f q F4 119 ⟨2, true, true, false⟩ ⟨#[97, 98, 99]⟩ (by decide) (by decide) HRR.out (by decide) (by decide) (by decide) hf0 hf1; rw [E2.out] at this; exact this
        refine (tcpOne_yes hM.out.box 1 f q 3405803781 5000 F4 0 _ HO2).mono ?_
        rintro e w4 ⟨rfl, v4, hbx, hch⟩
        rw [val_mk]
        generalize bump C2 0 = C3 at hbx
        have hyb := tcpB_btw 8 0 0 8 6 f q h p F4 ⟨#[97, 98, 99]⟩ (by have := HRR.out.q0; omega) HRR.out.q1 (by have := HRR.out.p0; omega) HRR.out.p1
        have hyd := tcpB_data f q h p F4 ⟨#[97, 98, 99]⟩
        have hyz := tcpB_size f q h p F4 ⟨#[97, 98, 99]⟩
        generalize tcpB f q h p F4 ⟨#[97, 98, 99]⟩ = Y at hyb hyd hyz ⊢
        have hys : Y.size ≤ 1000 := by rw [hyz]; decide
        have hy20 : (20 : Int) ≤ (Y.size : Int) := by rw [hyz]; decide
        have HYB : Hid (∀ w, Calls Tryz.prog 23 #[.agg #[.int .i64 8, .int .i64 0, .int .i64 0, .int .i64 8, .int .i64 6, .int .i64 f, .int .i64 h, .string Y], .int .i64 f, .int .i64 q, .int .i64 h, .int .i64 p] w fun e w' => e = .returned (.bool true) ∧ Below w.heap.size w w') := fun w => by
          have hbt := between_any ⟨8, 0, 0, 8, 6, f, h, Y⟩ f q h p w hys
          rw [hyb] at hbt
          exact hbt
        have hM2 := (hM.out.change hbx hch).alloc' #[.int .i64 8, .int .i64 0, .int .i64 0, .int .i64 8, .int .i64 6, .int .i64 f, .int .i64 h, .string Y] 31 w4.heap.size rfl
        have hlt5 := lt_of_block (hM.out.change hbx hch).at0
        obtain ⟨⟨x0, x1, x2, x3, x4, x5, x6, x7⟩, xf⟩ := c8 (hM.out.change hbx hch).at0
        clear hM hbx hch i0 i1 i2 i3 i4 iff0 hyb hyz hys HO2
        have hM : Hid _ := hM2
        clear hM2
        go_wp2_with fail
        refine (HXB.out _).mono ?_
        rintro e w5 ⟨rfl, hb5⟩
        have hM2 := hM.out.call hb5
        clear hM hb5 x0 x1 x2 x3 x4 x5 x6 x7 xf
        obtain ⟨⟨x0, x1, x2, x3, x4, x5, x6, x7⟩, xf⟩ := c8 hM2.at1
        obtain ⟨⟨y0, y1, y2, y3, y4, y5, y6, y7⟩, yf⟩ := c8 hM2.at0
        have hM : Hid _ := hM2
        clear hM2
        go_wp2_with fail
        refine (HYB.out _).mono ?_
        rintro e w6 ⟨rfl, hb6⟩
        have hM2 := hM.out.call hb6
        clear hM hb6 x0 x1 x2 x3 x4 x5 x6 x7 xf y0 y1 y2 y3 y4 y5 y6 y7 yf
        obtain ⟨⟨x0, x1, x2, x3, x4, x5, x6, x7⟩, xf⟩ := c8 hM2.at1
        obtain ⟨⟨y0, y1, y2, y3, y4, y5, y6, y7⟩, yf⟩ := c8 hM2.at0
        have hM : Hid _ := hM2
        clear hM2
        go_wp2_with fail
        go_roundw
        case rel => exact ⟨5, by decide, rfl, rfl, v4, C3, GMid.drop (pre := [_, _]) hM.out⟩
        case measure => simp [intOf]
      · have hM2 : GMid w' wr b (.slice none 0 0) v (stN 2 59 C [T1 h p f q 5000 64 ⟨3, false, false, false⟩]) [(w2.heap.size + 1, #[.int .i64 18, .int .i64 16, .int .i64 16, .int .i64 16, .int .i64 F4], 3), (w2.heap.size, #[.int .i64 2, .int .i64 16, .int .i64 16, .int .i64 17, .int .i64 16], 3)] := hM1
        clear hM1
        have hh0 : 0 ≤ h := by have := HRR.out.h0; omega
        have hh1 : h ≤ 4294967295 := by have := HRR.out.h1; omega
        have HH : Hid (0 ≤ h ∧ h ≤ 4294967295) := ⟨hh0, hh1⟩
        have E1 : Hid (T1 h p f q 5000 (63 + ticksI 6 (tkBehind ⟨3, false, false, false⟩ 1 16).st) (tkBehind ⟨3, false, false, false⟩ 1 16) = T1 h p f q 5000 68 ⟨3, false, false, false⟩) := by show _ = _; rw [s13]; rfl
        have E2 : Hid (T1 h p f q 5000 (68 + ticksI 6 (tkBehind ⟨1, false, false, false⟩ 0 2).st) (tkBehind ⟨1, false, false, false⟩ 0 2) = T1 h p f q 5000 76 ⟨1, false, false, false⟩) := by show _ = _; rw [s3]; rfl
        have HS1 : Hid (fl 2 23 = 2) := s1
        clear s1 s2 s3 s4 s5 s6 s7 s8 s9 s10 s11 s12 s13 hn hh0 hh1
        have hM : Hid _ := hM2
        clear hM2
        go_wp2_with fail
        refine (Tick_any hM.out.box (stT_one 2 59 C h p f q 5000 64 ⟨3, false, false, false⟩ (by decide) (by decide) (by decide) (by decide) HH.out.1 HH.out.2) 4 (by decide) (by decide)).mono ?_
        rintro e w3 ⟨rfl, v3, hbx, hch⟩
        rw [tickT_stay 2 59 C h p f q 5000 64 4 ⟨3, false, false, false⟩ (by decide)] at hbx
        have hbx' : BoxAt w3 b v3 (stN 2 63 C [T1 h p f q 5000 64 ⟨3, false, false, false⟩]) := hbx
        have hM2 := hM.out.change hbx' hch
        clear hM hbx hbx' hch
        have hM : Hid _ := hM2
        clear hM2
        go_wp2_with fail
        have HO2 : OneOK b (stN 2 63 C [T1 h p f q 5000 64 ⟨3, false, false, false⟩]) 1 (tcpP f q 3405803781 5000 16 ⟨#[97, 98, 99]⟩) 0 ⟨8, 0, 0, 8, 6, f, h, tcpB f q h p 16 ⟨#[97, 98, 99]⟩⟩ (stN 2 63 (bump C 0) [T1 h p f q 5000 68 ⟨3, false, false, false⟩]) := by have := c_in b 2 63 C h p f q 16 64 ⟨3, false, false, false⟩ ⟨#[97, 98, 99]⟩ (by decide) (by decide) HRR.out (by decide) (by decide) (by decide) (by decide) (by decide); rw [E1.out] at this; exact this
        refine (tcpOne_yes hM.out.box 1 f q 3405803781 5000 16 0 _ HO2).mono ?_
        rintro e w4 ⟨rfl, v4, hbx, hch⟩
        rw [val_mk]
        generalize tcpB f q h p 16 ⟨#[97, 98, 99]⟩ = Y
        generalize bump C 0 = C2 at hbx
        have hM2 := hM.out.change hbx hch
        clear hM hbx hch HO2
        have hM : Hid _ := hM2
        clear hM2
        go_wp2_with fail
        refine (Tick_any hM.out.box (stT_one 2 63 C2 h p f q 5000 68 ⟨3, false, false, false⟩ (by decide) (by decide) (by decide) (by decide) HH.out.1 HH.out.2) 5 (by decide) (by decide)).mono ?_
        rintro e w5 ⟨rfl, v5, hbx, hch⟩
        rw [tickT_gone 2 63 C2 h p f q 5000 68 5 ⟨3, false, false, false⟩ (by decide)] at hbx
        have hbx' : BoxAt w5 b v5 (stN 2 68 C2 []) := hbx
        have hM2 := hM.out.change hbx' hch
        clear hM hbx hbx' hch
        have hM : Hid _ := hM2
        clear hM2
        go_wp2_with fail
        refine (tcpNone_yes hM.out.box 1 f q 3405803781 5000 16 16 (c_gone b 2 68 C2 f q 16 ⟨#[]⟩ (by decide) (by decide) HRR.out.f0 HRR.out.f1 HRR.out.q0 HRR.out.q1 (by decide) (by decide) (by decide))).mono ?_
        rintro e w6 ⟨rfl, v6, hbx, hch⟩
        generalize bump C2 16 = C3 at hbx
        have hM2 := hM.out.change hbx hch
        clear hM hbx hch
        have hM : Hid _ := hM2
        clear hM2
        go_wp2_with fail
        have HO3 : OneOK b (stN 2 68 C3 []) 0 (tcpP h p f q 2 ⟨#[97, 98, 99]⟩) 1 ⟨8, 0, 0, 8, 6, 3405803781, f, tcpB 3405803781 5000 f q 2 ⟨#[97, 98, 99]⟩⟩ (stN 2 68 (bump C3 0) [T1 h p f q 5000 76 ⟨1, false, false, false⟩]) := by have := c_new b 2 68 C3 h p f q 2 ⟨#[97, 98, 99]⟩ (by decide) (by decide) HRR.out (by decide) (by decide) (by decide) (by decide) (by decide) HS1.out; rw [E2.out] at this; exact this
        refine (tcpOne_yes hM.out.box 0 h p f q 2 1 _ HO3).mono ?_
        rintro e w7 ⟨rfl, v7, hbx, hch⟩
        rw [val_mk]
        generalize tcpB 3405803781 5000 f q 2 ⟨#[97, 98, 99]⟩ = X
        generalize bump C3 0 = C4 at hbx
        have hM2 := (hM.out.change hbx hch).alloc' #[.int .i64 8, .int .i64 0, .int .i64 0, .int .i64 8, .int .i64 6, .int .i64 3405803781, .int .i64 f, .string X] 31 w7.heap.size rfl
        clear hM hbx hch HO3
        have hM : Hid _ := hM2
        clear hM2
        go_wp2_with fail
        refine (Tick_any hM.out.box (stT_one 2 68 C4 h p f q 5000 76 ⟨1, false, false, false⟩ (by decide) (by decide) (by decide) (by decide) HH.out.1 HH.out.2) 8 (by decide) (by decide)).mono ?_
        rintro e w8 ⟨rfl, v8, hbx, hch⟩
        rw [tickT_gone 2 68 C4 h p f q 5000 76 8 ⟨1, false, false, false⟩ (by decide)] at hbx
        have hbx' : BoxAt w8 b v8 (stN 2 76 C4 []) := hbx
        have hM2 := hM.out.change hbx' hch
        clear hM hbx hbx' hch
        have hM : Hid _ := hM2
        clear hM2
        go_wp2_with fail
        refine (tcpNone_yes hM.out.box 1 f q 3405803781 5000 18 16 (c_gone b 2 76 C4 f q 18 ⟨#[]⟩ (by decide) (by decide) HRR.out.f0 HRR.out.f1 HRR.out.q0 HRR.out.q1 (by decide) (by decide) (by decide))).mono ?_
        rintro e w9 ⟨rfl, v9, hbx, hch⟩
        have hM2 := hM.out.change hbx hch
        clear hM hbx hch
        have hM : Hid _ := hM2
        clear hM2
        go_wp2_with fail
        go_ret
        refine ⟨rfl, ?_⟩
        obtain ⟨q1, -⟩ := hM.out.chg.low HL.out.1 (fun k hk => absurd hk (by simp [Value.ownBlock])) HL.out.2.size
        exact HL.out.2.trans q1
theorem Talk_any (a c : Int) (w : World) (ha0 : -9223372036854775808 ≤ a) (ha1 : a ≤ 9223372036854775807) (hc0 : -9223372036854775808 ≤ c) (hc1 : c ≤ 9223372036854775807) :
    Calls Tryz.prog 5 #[.int .i64 a, .int .i64 c] w fun e w' => e = .returned (.bool true) ∧ Below w.heap.size w w' := by
  have HR : Hid (∀ w, Calls Tryz.prog 12 #[.int .i64 a, .int .i64 c] w fun e w' => e = .returned (.bool true) ∧ Below w.heap.size w w') := fun w => talk_any a c w ha0 ha1 hc0 hc1
  go_enter Tryz.func5, Tryz.ntmps5
  go_wp2_with (go_at_call 12; refine (HR.out _).mono ?_; rintro e w1 ⟨rfl, hb1⟩)
  go_ret
  exact ⟨rfl, hb1⟩
end Go.Proofs.YtfkjobiapjhacaaGreat
