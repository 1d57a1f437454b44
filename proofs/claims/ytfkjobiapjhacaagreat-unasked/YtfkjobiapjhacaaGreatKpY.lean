/- Unasked: the walk. Own work. -/
import Derived.Test.YtfkjobiapjhacaaGreatKpX
namespace Go.Proofs.YtfkjobiapjhacaaGreat
open Go.RowKit
attribute [local go_sem ↓] Go.wp_at_zero Go.wp_at_succ

theorem w64_bd (x : Int) : -9223372036854775808 ≤ wrap64 x ∧ wrap64 x ≤ 9223372036854775807 := by unfold wrap64; omega
theorem may_no1 (s : BX) (src dst : Int) (h : ¬ dst = s.ou) : mayB s 1 src dst = false := by
  unfold mayB
  rw [if_neg (by decide)]
  simp [h]
theorem may_no2 (s : BX) (hn : s.ne = 167772160) (hb : s.bi = 8) (src dst : Int) (h0 : 167772160 ≤ src) (h1 : src < 184549376) : mayB s 1 src dst = false := by
  unfold mayB
  rw [if_neg (by decide), hn, hb, inn8, decide_eq_true ⟨h0, h1⟩]
  simp
theorem may_no3 (s : BX) (hn : s.ne = 167772160) (hb : s.bi = 8) (src dst : Int) (h2 : ¬ (167772160 ≤ src ∧ src < 184549376)) : mayB s 0 src dst = false := by
  unfold mayB
  rw [if_pos rfl, hn, hb, inn8, decide_eq_false h2]
  rfl
set_option maxRecDepth 100000 in
set_option maxHeartbeats 4000000 in
theorem unasked_any (a c d : Int) (w : World) (ha0 : -9223372036854775808 ≤ a) (ha1 : a ≤ 9223372036854775807) (hc0 : -9223372036854775808 ≤ c) (hc1 : c ≤ 9223372036854775807) (hd0 : -9223372036854775808 ≤ d) (hd1 : d ≤ 9223372036854775807) :
    Calls Tryz.prog 15 #[.int .i64 a, .int .i64 c, .int .i64 d] w fun e w' => e = .returned (.bool true) ∧ Below w.heap.size w w' := by
  have hk := pickI_bd a 200 (by decide)
  have hk2 := pickI_bd a 65535 (by decide)
  have hk3 := pickI_bd c 200 (by decide)
  have hk4 := pickI_bd c 65535 (by decide)
  have hk5 := pickI_bd d 65535 (by decide)
  have hk6 := pickI_bd (wrap64 (c + 1)) 200 (by decide)
  have hw := w64_bd (c + 1)
  have HRR : Hid (RQ (167772161 + pickI a 200) (1 + pickI a 65535) (134744064 + pickI c 200) (1 + pickI c 65535)) := ⟨by omega, by omega, by omega, by omega, by omega, by omega, by omega, by omega⟩
  have HG : Hid (134744064 ≤ 134744064 + pickI (wrap64 (c + 1)) 200 ∧ 134744064 + pickI (wrap64 (c + 1)) 200 ≤ 134744300) := ⟨by omega, by omega⟩
  have HO : Hid (1 ≤ 1 + pickI d 65535 ∧ 1 + pickI d 65535 ≤ 65535) := ⟨by omega, by omega⟩
  have HHO : Hid (∀ w, Calls Tryz.prog 18 #[.int .i64 a] w fun e w' => e = .returned (.int .i64 (167772161 + pickI a 200)) ∧ w' = w) := fun w => host_any a w ha0 ha1
  have HPO : Hid (∀ w, Calls Tryz.prog 19 #[.int .i64 a] w fun e w' => e = .returned (.int .i64 (1 + pickI a 65535)) ∧ w' = w) := fun w => port_any a w ha0 ha1
  have HFA : Hid (∀ w, Calls Tryz.prog 20 #[.int .i64 c] w fun e w' => e = .returned (.int .i64 (134744064 + pickI c 200)) ∧ w' = w) := fun w => far_any c w hc0 hc1
  have HFG : Hid (∀ w, Calls Tryz.prog 20 #[.int .i64 (wrap64 (c + 1))] w fun e w' => e = .returned (.int .i64 (134744064 + pickI (wrap64 (c + 1)) 200)) ∧ w' = w) := fun w => far_any _ w hw.1 hw.2
  have HPQ : Hid (∀ w, Calls Tryz.prog 19 #[.int .i64 c] w fun e w' => e = .returned (.int .i64 (1 + pickI c 65535)) ∧ w' = w) := fun w => port_any c w hc0 hc1
  have HPD : Hid (∀ w, Calls Tryz.prog 19 #[.int .i64 d] w fun e w' => e = .returned (.int .i64 (1 + pickI d 65535)) ∧ w' = w) := fun w => port_any d w hd0 hd1
  have hbx0 : box0 2 = stN 2 0 [0, 0, 0, 0, 0, 0, 0, 0, 0, 0, 0, 0, 0, 0, 0, 0, 0, 0] [] := rfl
  generalize 1 + pickI a 65535 = p at HRR HPO
  generalize 134744064 + pickI c 200 = f at HRR HFA
  generalize 1 + pickI c 65535 = q at HRR HPQ
  generalize 167772161 + pickI a 200 = h at HRR HHO
  generalize 1 + pickI d 65535 = o at HO HPD
  generalize 134744064 + pickI (wrap64 (c + 1)) 200 = g at HG HFG
  clear hk hk2 hk3 hk4 hk5 hk6 hw
  go_enter Tryz.func15, Tryz.ntmps15
  go_wp2_with fail
  refine (box_any 2 _ (by decide) (by decide)).mono ?_
  rintro e w1 ⟨b, rfl, hbx, hle, hbl⟩
  rw [hbx0] at hbx
  have H1 : Hid (RM w w1 b (.slice none 0 0) (stN 2 0 [0, 0, 0, 0, 0, 0, 0, 0, 0, 0, 0, 0, 0, 0, 0, 0, 0, 0] [])) := ⟨hbx, hle, fun k hk => absurd hk (by simp [Value.ownBlock]), hbl⟩
  clear hbx hle hbl hbx0
  go_wp2_with fail
  refine (HHO.out _).mono ?_; rintro e w' ⟨rfl, rfl⟩
  go_wp2_with fail
  refine (HPO.out _).mono ?_; rintro e w' ⟨rfl, rfl⟩
  go_wp2_with fail
  refine (HFA.out _).mono ?_; rintro e w' ⟨rfl, rfl⟩
  go_wp2_with fail
  refine (HFG.out _).mono ?_; rintro e w' ⟨rfl, rfl⟩
  go_wp2_with fail
  refine (HPQ.out _).mono ?_; rintro e w' ⟨rfl, rfl⟩
  go_wp2_with fail
  refine (udpNone_yes H1.out.box 1 f q 3405803781 5000 16 (q_first b _ f q HRR.out.f0 HRR.out.f1 HRR.out.q0 HRR.out.q1)).mono ?_
  rintro e w2 ⟨rfl, v2, hbx, hch⟩
  generalize bump _ 16 = C1 at hbx
  have H2 : Hid (RM w w2 b v2 (stN 2 0 C1 [])) := H1.out.change hbx hch
  clear H1 hbx hch
  go_wp2_with fail
  refine (udpOne_yes H2.out.box 0 h p f q ⟨#[120]⟩ 1 _ (by decide) (n_out b 2 0 _ h p f q ⟨#[120]⟩ (by decide) (by decide) HRR.out (by decide) (by decide) (by decide))).mono ?_
  rintro e w3 ⟨rfl, v3, hbx, hch⟩
  rw [val_mk]
  generalize bump _ 0 = C2 at hbx
  generalize udpB 3405803781 5000 f q ⟨#[120]⟩ = X
  have H3 : Hid (∃ C, RM w (w3.alloc (.cells #[.int .i64 7, .int .i64 0, .int .i64 0, .int .i64 8, .int .i64 17, .int .i64 3405803781, .int .i64 f, .string X] 31)) b v3 (stN 2 0 C [S1 h p f q 5000 (0 + 30)])) := ⟨_, (H2.out.change hbx hch).alloc _⟩
  clear H2 hbx hch
  go_upto_if 58 with (go_at_call 19; refine (HPD.out _).mono ?_; rintro e w' ⟨rfl, rfl⟩)
  go_cut [16] (fun s16 wx => ∃ o', s16 = .int .i64 o' ∧ 1 ≤ o' ∧ o' ≤ 65535 ∧ ¬ q = o' ∧ ∃ C, RM w wx b v3 (stN 2 0 C [S1 h p f q 5000 (0 + 30)]))
  case first =>
    by_cases hoq : o = q
    · have ko : (o == q) = true := by simp [hoq]
      have q0 := HRR.out.q0
      have q1 := HRR.out.q1
      clear hoq
      go_wp2_with fail
      go_meet
      exact ⟨1 + q % 65535, rfl, by omega, by omega, by omega, H3.out⟩
    · have ko : (o == q) = false := by simp [hoq]
      go_wp2_with fail
      go_meet
      exact ⟨o, rfl, HO.out.1, HO.out.2, fun e => hoq e.symm, H3.out⟩
  case rest =>
    obtain ⟨o', rfl, o0, o1, hoq, hC⟩ := hcut
    have HOQ : Hid (1 ≤ o' ∧ o' ≤ 65535 ∧ ¬ q = o') := ⟨o0, o1, hoq⟩
    have H4 : Hid (∃ C, RM w wc b v3 (stN 2 0 C [S1 h p f q 5000 (0 + 30)])) := hC
    clear H3 hC o0 o1 hoq HO
    go_upto_if 64 with fail
    go_cut [15] (fun s15 wx => s15 = .bool true ∧ ∃ v C, RM w wx b v (stN 2 0 C [S1 h p f q 5000 (0 + 30)]))
    case first =>
      obtain ⟨C4, hR⟩ := H4.out
      have H : Hid _ := hR
      clear hR H4
      by_cases hgf : g = f
      · have kg : (g != f) = false := by simp [hgf]
        clear hgf
        go_wp2_with fail
        go_meet
        exact ⟨rfl, _, _, H.out⟩
      · have kg : (g != f) = true := by simp [hgf]
        have HGF : Hid (¬ g = f) := hgf
        clear hgf
        go_wp2_with fail
        refine (udpNone_yes H.out.box 1 g q 3405803781 5000 16 (q_udp b _ h p f q (0 + 30) g q 5000 HRR.out HG.out.1 HG.out.2 HRR.out.q0 HRR.out.q1 (by decide) (by decide) (fun e => HGF.out e.2.1.symm))).mono ?_
        rintro e w5 ⟨rfl, v5, hbx, hch⟩
        have H5 : Hid (∃ v C, RM w w5 b v (stN 2 0 C [S1 h p f q 5000 (0 + 30)])) := ⟨_, _, H.out.change hbx hch⟩
        clear H hbx hch
        go_wp2_with fail
        go_meet
        exact ⟨rfl, H5.out⟩
    case rest =>
    obtain ⟨rfl, v4, C4, hR⟩ := hcut
    clear H4
    have H : Hid _ := hR
    clear hR
    go_wp2_with fail
    refine (udpNone_yes H.out.box 1 f o' 3405803781 5000 16 (q_udp b _ h p f q (0 + 30) f o' 5000 HRR.out HRR.out.f0 HRR.out.f1 HOQ.out.1 HOQ.out.2.1 (by decide) (by decide) (fun e => HOQ.out.2.2 e.2.2))).mono ?_
    rintro e w6 ⟨rfl, v6, hbx, hch⟩
    have H6 : Hid (∃ C, RM w w6 b v6 (stN 2 0 C [S1 h p f q 5000 (0 + 30)])) := ⟨_, H.out.change hbx hch⟩
    clear H hbx hch
    obtain ⟨C6, hR⟩ := H6.out
    have H : Hid _ := hR
    clear hR H6
    go_wp2_with fail
    refine (udpNone_yes H.out.box 1 f q 3405803781 5001 16 (q_udp b _ h p f q (0 + 30) f q 5001 HRR.out HRR.out.f0 HRR.out.f1 HRR.out.q0 HRR.out.q1 (by decide) (by decide) (fun e => absurd e.1 (by decide)))).mono ?_
    rintro e w7 ⟨rfl, v7, hbx, hch⟩
    have H7 : Hid (∃ C, RM w w7 b v7 (stN 2 0 C [S1 h p f q 5000 (0 + 30)])) := ⟨_, H.out.change hbx hch⟩
    clear H hbx hch
    obtain ⟨C7, hR⟩ := H7.out
    have H : Hid _ := hR
    clear hR H7
    go_wp2_with fail
    refine (tcpNone_yes H.out.box 1 f q 3405803781 5000 2 16 (q_tcp b _ h p f q (0 + 30) 2 HRR.out)).mono ?_
    rintro e w8 ⟨rfl, v8, hbx, hch⟩
    have H8 : Hid (∃ C, RM w w8 b v8 (stN 2 0 C [S1 h p f q 5000 (0 + 30)])) := ⟨_, H.out.change hbx hch⟩
    clear H hbx hch
    obtain ⟨C8, hR⟩ := H8.out
    have H : Hid _ := hR
    clear hR H8
    go_wp2_with fail
    refine (tcpNone_yes H.out.box 1 f q 3405803781 5000 16 16 (q_tcp b _ h p f q (0 + 30) 16 HRR.out)).mono ?_
    rintro e w9 ⟨rfl, v9, hbx, hch⟩
    have H9 : Hid (∃ C, RM w w9 b v9 (stN 2 0 C [S1 h p f q 5000 (0 + 30)])) := ⟨_, H.out.change hbx hch⟩
    clear H hbx hch
    obtain ⟨C9, hR⟩ := H9.out
    have H : Hid _ := hR
    clear hR H9
    go_wp2_with fail
    refine (echoNone_yes H.out.box 1 8 f 3405803781 5000 16 (q_echo b _ h p f q (0 + 30) HRR.out)).mono ?_
    rintro e w10 ⟨rfl, v10, hbx, hch⟩
    have H10 : Hid (∃ C, RM w w10 b v10 (stN 2 0 C [S1 h p f q 5000 (0 + 30)])) := ⟨_, H.out.change hbx hch⟩
    clear H hbx hch
    obtain ⟨C10, hR⟩ := H10.out
    have H : Hid _ := hR
    clear hR H10
    go_wp2_with fail
    refine (echoNone_yes H.out.box 1 0 f 3405803781 5000 16 (q_reply b _ h p f q (0 + 30) HRR.out)).mono ?_
    rintro e w11 ⟨rfl, v11, hbx, hch⟩
    have H11 : Hid (∃ C, RM w w11 b v11 (stN 2 0 C [S1 h p f q 5000 (0 + 30)])) := ⟨_, H.out.change hbx hch⟩
    clear H hbx hch
    obtain ⟨C11, hR⟩ := H11.out
    have H : Hid _ := hR
    clear hR H11
    go_wp2_with fail
    refine (udpNone_yes H.out.box 1 f q h p 6 (q_bad b _ h p f q (0 + 30) HRR.out 1 f q h p ⟨by have := HRR.out.f0; omega, by have := HRR.out.f1; omega, by have := HRR.out.h0; omega, by have := HRR.out.h1; omega, HRR.out.q0, HRR.out.q1, HRR.out.p0, HRR.out.p1, by decide⟩ (Or.inr rfl) (may_no1 _ _ _ (show ¬ h = 3405803781 by have := HRR.out.h1; omega)))).mono ?_
    rintro e w12 ⟨rfl, v12, hbx, hch⟩
    have H12 : Hid (∃ C, RM w w12 b v12 (stN 2 0 C [S1 h p f q 5000 (0 + 30)])) := ⟨_, H.out.change hbx hch⟩
    clear H hbx hch
    obtain ⟨C12, hR⟩ := H12.out
    have H : Hid _ := hR
    clear hR H12
    go_wp2_with fail
    refine (udpNone_yes H.out.box 1 h p 3405803781 5000 6 (q_bad b _ h p f q (0 + 30) HRR.out 1 h p 3405803781 5000 ⟨by have := HRR.out.h0; omega, by have := HRR.out.h1; omega, by decide, by decide, HRR.out.p0, HRR.out.p1, by decide, by decide, by decide⟩ (Or.inr rfl) (may_no2 _ rfl rfl h _ (by have := HRR.out.h0; omega) (by have := HRR.out.h1; omega)))).mono ?_
    rintro e w13 ⟨rfl, v13, hbx, hch⟩
    have H13 : Hid (∃ C, RM w w13 b v13 (stN 2 0 C [S1 h p f q 5000 (0 + 30)])) := ⟨_, H.out.change hbx hch⟩
    clear H hbx hch
    obtain ⟨C13, hR⟩ := H13.out
    have H : Hid _ := hR
    clear hR H13
    go_wp2_with fail
    refine (udpNone_yes H.out.box 0 f q g 9 6 (q_bad b _ h p f q (0 + 30) HRR.out 0 f q g 9 ⟨by have := HRR.out.f0; omega, by have := HRR.out.f1; omega, by have := HG.out.1; omega, by have := HG.out.2; omega, HRR.out.q0, HRR.out.q1, by decide, by decide, by decide⟩ (Or.inl rfl) (may_no3 _ rfl rfl f _ (by have := HRR.out.f1; omega)))).mono ?_
    rintro e w14 ⟨rfl, v14, hbx, hch⟩
    have H14 : Hid (∃ C, RM w w14 b v14 (stN 2 0 C [S1 h p f q 5000 (0 + 30)])) := ⟨_, H.out.change hbx hch⟩
    clear H hbx hch
    obtain ⟨C14, hR⟩ := H14.out
    have H : Hid _ := hR
    clear hR H14
    go_wp2_with fail
    refine (tcpNone_yes H.out.box 0 h p f q 16 16 (q_ack b _ h p f q (0 + 30) HRR.out)).mono ?_
    rintro e w15 ⟨rfl, v15, hbx, hch⟩
    have H15 : Hid (∃ C, RM w w15 b v15 (stN 2 0 C [S1 h p f q 5000 (0 + 30)])) := ⟨_, H.out.change hbx hch⟩
    clear H hbx hch
    obtain ⟨C15, hR⟩ := H15.out
    have H : Hid _ := hR
    clear hR H15
    have HE : Hid (Below w.heap.size w w15) := H.out.bl
    clear H
    go_wp2_with fail
    go_ret
    exact ⟨rfl, HE.out⟩
theorem Unasked_any (a c d : Int) (w : World) (ha0 : -9223372036854775808 ≤ a) (ha1 : a ≤ 9223372036854775807) (hc0 : -9223372036854775808 ≤ c) (hc1 : c ≤ 9223372036854775807) (hd0 : -9223372036854775808 ≤ d) (hd1 : d ≤ 9223372036854775807) :
    Calls Tryz.prog 8 #[.int .i64 a, .int .i64 c, .int .i64 d] w fun e w' => e = .returned (.bool true) ∧ Below w.heap.size w w' := by
  have HR : Hid (∀ w, Calls Tryz.prog 15 #[.int .i64 a, .int .i64 c, .int .i64 d] w fun e w' => e = .returned (.bool true) ∧ Below w.heap.size w w') := fun w => unasked_any a c d w ha0 ha1 hc0 hc1 hd0 hd1
  go_enter Tryz.func8, Tryz.ntmps8
  go_wp2_with (go_at_call 15; refine (HR.out _).mono ?_; rintro e w1 ⟨rfl, hb1⟩)
  go_ret
  exact ⟨rfl, hb1⟩
end Go.Proofs.YtfkjobiapjhacaaGreat
