/- Contracts of package wire: Retold. Own work. -/
import Derived.Test.YtfkjobiapjhacabGreatT1
namespace Go.Proofs.YtfkjobiapjhacabGreat
open Go.RowKit
attribute [local go_sem ↓] Go.wp_at_zero Go.wp_at_succ

theorem portsOf_bd (pr : Int) (b : ByteArray) : (0 ≤ (portsOf pr b).1 ∧ (portsOf pr b).1 ≤ 65535) ∧ (0 ≤ (portsOf pr b).2 ∧ (portsOf pr b).2 ≤ 65535) := by
  have h0 := wordAt_bd b 0
  have h2 := wordAt_bd b 2
  have h4 := wordAt_bd b 4
  unfold portsOf numb
  split
  · exact ⟨h0, h2⟩
  · split
    · exact ⟨h4, (by decide : (0 : Int) ≤ 0 ∧ (0 : Int) ≤ 65535)⟩
    · split
      · exact ⟨(by decide : (0 : Int) ≤ 0 ∧ (0 : Int) ≤ 65535), h4⟩
      · exact ⟨(by decide : (0 : Int) ≤ 0 ∧ (0 : Int) ≤ 65535), (by decide : (0 : Int) ≤ 0 ∧ (0 : Int) ≤ 65535)⟩
theorem shiftM_size (pr fa fp ta tp : Int) (m : ByteArray) (xa xp ya yp : Int) (h6 : 6 ≤ m.size) : (shiftM pr fa fp ta tp m xa xp ya yp).size = m.size := by
  unfold shiftM
  split
  · exact portM_size _ _ _ _ h6
  · rw [putW_size, portM_size _ _ _ _ h6]
theorem LMid.set5 {w W : World} {p0 p1 p2 p3 p4 : Nat × Array Value × TypeId} {post : List (Nat × Array Value × TypeId)} {k : Nat} {c : Array Value} {t : TypeId} (h : LMid w W (p0 :: p1 :: p2 :: p3 :: p4 :: (k, c, t) :: post)) (j : Nat) (u : Value) : LMid w (W.setCell ⟨k, j, none⟩ u) (p0 :: p1 :: p2 :: p3 :: p4 :: (k, c.setIfInBounds j u, t) :: post) := h.setAt (pre := [p0, p1, p2, p3, p4]) j u
theorem LMid.set6 {w W : World} {p0 p1 p2 p3 p4 p5 : Nat × Array Value × TypeId} {post : List (Nat × Array Value × TypeId)} {k : Nat} {c : Array Value} {t : TypeId} (h : LMid w W (p0 :: p1 :: p2 :: p3 :: p4 :: p5 :: (k, c, t) :: post)) (j : Nat) (u : Value) : LMid w (W.setCell ⟨k, j, none⟩ u) (p0 :: p1 :: p2 :: p3 :: p4 :: p5 :: (k, c.setIfInBounds j u, t) :: post) := h.setAt (pre := [p0, p1, p2, p3, p4, p5]) j u
set_option maxRecDepth 100000 in
set_option maxHeartbeats 1000000 in
theorem Retold_any (fa fp ta tp : Int) (m : ByteArray) (iq : Bool) (src dst xa xp ya yp : Int) (w : World) (hm : m.size ≤ 900) (h36 : 36 ≤ m.size) (s0 : 0 ≤ src) (s1 : src ≤ 4294967295) (t0 : 0 ≤ dst) (t1 : dst ≤ 4294967295)
    (a0 : 0 ≤ xa) (a1 : xa ≤ 4294967295) (q0 : 0 ≤ xp) (q1 : xp ≤ 65535) (b0 : 0 ≤ ya) (b1 : ya ≤ 4294967295) (r0 : 0 ≤ yp) (r1 : yp ≤ 65535) :
    Calls Tryz.prog 116 #[.agg #[.int .i64 1, .int .i64 fa, .int .i64 fp, .int .i64 ta, .int .i64 tp, .string m, .bool iq], .int .i64 src, .int .i64 dst, .agg #[.int .i64 xa, .int .i64 xp], .agg #[.int .i64 ya, .int .i64 yp]] w fun e w' => e = .returned (.agg #[.int .i64 1, .int .i64 src, .int .i64 fp, .int .i64 dst, .int .i64 tp, .string (retM m src dst xa xp ya yp), .bool iq]) ∧ Below w.heap.size w w' := by
  have hbs := abB_size m
  have hhs := abH_size m (by omega)
  have HTO : Hid (∀ W, Calls Tryz.prog 114 #[.agg #[.int .i64 1, .int .i64 fa, .int .i64 fp, .int .i64 ta, .int .i64 tp, .string m, .bool iq]] W fun e w' => e = .returned (.agg #[.string (abH m), .int .i64 (addrAt (abR m) 12), .int .i64 (addrAt (abR m) 16), .int .i64 (byteAt (abR m) 9), .string (abB m)]) ∧ Below W.heap.size W w') := fun W => told_any 1 fa fp ta tp m iq W (by omega) (by omega) _ (Or.inl ⟨by omega, rfl⟩)
  have HWH : Hid (∀ W g, W.heap[g]? = some (.cells #[.string (abH m), .int .i64 (addrAt (abR m) 12), .int .i64 (addrAt (abR m) 16), .int .i64 (byteAt (abR m) 9), .string (abB m)] 83 (0, 0)) → Calls Tryz.prog 60 #[.slice (some ⟨g, 0, none⟩) 1 1] W fun e w' => e = .returned (.agg #[.int .i64 (byteAt (abR m) 9), .int .i64 (addrAt (abR m) 12), .int .i64 (portsOf (byteAt (abR m) 9) (abB m)).1, .int .i64 (addrAt (abR m) 16), .int .i64 (portsOf (byteAt (abR m) 9) (abB m)).2, .string (abB m), .bool false]) ∧ Below W.heap.size W w') := fun W g hg => Whole_one _ _ _ _ _ W g 1 hg (by rw [abB_size]; omega)
  have hpb := portsOf_bd (byteAt (abR m) 9) (abB m)
  have hA1 := addrAt_bd (abR m) 12
  have hA2 := addrAt_bd (abR m) 16
  obtain ⟨R', hR⟩ : ∃ R', R' = retM m src dst xa xp ya yp := ⟨_, rfl⟩
  rw [← hR]
  unfold retM at hR
  generalize byteAt (abR m) 9 = q0' at HTO HWH hpb hR
  generalize addrAt (abR m) 12 = q1' at HTO HWH hA1 hR
  generalize addrAt (abR m) 16 = q3' at HTO HWH hA2 hR
  have HSH : Hid (∀ W, Calls Tryz.prog 126 #[.agg #[.int .i64 q0', .int .i64 q1', .int .i64 (portsOf q0' (abB m)).1, .int .i64 q3', .int .i64 (portsOf q0' (abB m)).2, .string (abB m), .bool false], .agg #[.int .i64 xa, .int .i64 xp], .agg #[.int .i64 ya, .int .i64 yp]] W fun e w' => e = .returned (.agg #[.int .i64 q0', .int .i64 xa, .int .i64 xp, .int .i64 ya, .int .i64 yp, .string (shiftM q0' q1' (portsOf q0' (abB m)).1 q3' (portsOf q0' (abB m)).2 (abB m) xa xp ya yp), .bool false]) ∧ Below W.heap.size W w') := fun W =>
    shifted_any q0' q1' _ q3' _ (abB m) false xa xp ya yp W (by omega) (by omega) hA1.1 hA1.2 hpb.1.1 hpb.1.2 hA2.1 hA2.2 hpb.2.1 hpb.2.2 a0 a1 q0 q1 b0 b1 r0 r1
  have hss := shiftM_size q0' q1' (portsOf q0' (abB m)).1 q3' (portsOf q0' (abB m)).2 (abB m) xa xp ya yp (by omega)
  generalize shiftM q0' q1' (portsOf q0' (abB m)).1 q3' (portsOf q0' (abB m)).2 (abB m) xa xp ya yp = SM at HSH hss hR
  generalize (portsOf q0' (abB m)).1 = q2' at HSH HWH
  generalize (portsOf q0' (abB m)).2 = q4' at HSH HWH
  have HAD : Hid (∀ W, Calls Tryz.prog 110 #[.string (abH m), .int .i64 xa, .int .i64 ya] W fun e w' => e = .returned (.string (addrHead (abH m) xa ya)) ∧ Below W.heap.size W w') := fun W => addressed_any (abH m) xa ya W hhs
  have has := size_addrHead (abH m) xa ya hhs
  generalize addrHead (abH m) xa ya = AH at HAD has hR
  generalize abH m = h0 at HTO HWH HAD
  generalize abB m = q5 at HTO HWH HSH hss hbs
  have hms : (m.extract 0 8 ++ AH ++ SM).size = m.size := by
    rw [ByteArray.size_append, ByteArray.size_append, ByteArray.size_extract, has, hss, hbs]
    omega
  have HSE : Hid (∀ W, Calls Tryz.prog 124 #[.agg #[.int .i64 1, .int .i64 src, .int .i64 fp, .int .i64 dst, .int .i64 tp, .string (m.extract 0 8 ++ AH ++ SM), .bool iq]] W fun e w' => e = .returned (.agg #[.int .i64 1, .int .i64 src, .int .i64 fp, .int .i64 dst, .int .i64 tp, .string R', .bool iq]) ∧ Below W.heap.size W w') := fun W => by
    rw [hR]
    exact sealed_any 1 src fp dst tp _ iq W (by omega) (by rw [hms]; show 2 + 2 ≤ m.size; omega) (by decide) (by decide) s0 s1 t0 t1
  have hc1 : ¬ 9223372036854775807 < min 8 m.size + AH.size := by omega
  have hc2 : ¬ 9223372036854775807 < min 8 m.size + AH.size + SM.size := by omega
  have h28 : ¬ (m.size : Int) < 28 := by omega
  have h8i : (8 : Int) ≤ (m.size : Int) := by omega
  clear hR hbs hhs hpb hA1 hA2 hss has hms hm h36 s0 s1 t0 t1 a0 a1 q0 q1 b0 b1 r0 r1
  have hM : Hid (LMid w ((((w.alloc (.cells #[.int .i64 1, .int .i64 fa, .int .i64 fp, .int .i64 ta, .int .i64 tp, .string m, .bool iq] 106)).alloc (.cells #[.int .i64 xa, .int .i64 xp] 98)).alloc (.cells #[.int .i64 ya, .int .i64 yp] 98)).alloc (.cells #[.int .i64 0, .int .i64 0, .int .i64 0, .int .i64 0, .int .i64 0, .string ⟨#[]⟩, .bool false] 106)) [(w.heap.size + 3, #[.int .i64 0, .int .i64 0, .int .i64 0, .int .i64 0, .int .i64 0, .string ⟨#[]⟩, .bool false], 106), (w.heap.size + 2, #[.int .i64 ya, .int .i64 yp], 98), (w.heap.size + 1, #[.int .i64 xa, .int .i64 xp], 98), (w.heap.size, #[.int .i64 1, .int .i64 fa, .int .i64 fp, .int .i64 ta, .int .i64 tp, .string m, .bool iq], 106)]) := ((((LMid.start w).alloc' _ _ _ rfl).alloc' _ _ _ (by simp)).alloc' _ _ _ (by simp)).alloc' _ _ _ (by simp)
  go_enter Tryz.func116, Tryz.ntmps116
  go_wp2_with fail
  refine (HTO.out _).mono ?_
  rintro e w1 ⟨rfl, hb1⟩
  have hM1 := (hM.out.call hb1).alloc' #[.string h0, .int .i64 q1', .int .i64 q3', .int .i64 q0', .string q5] 83 w1.heap.size rfl
  clear hM hb1
  have hM : Hid _ := hM1
  clear hM1
  go_wp2_with fail
  refine (HWH.out _ (w1.heap.size + 1) (by rw [hget_alloc, if_pos (by simp)])).mono ?_
  rintro e w2 ⟨rfl, hb2⟩
  have hM1 := (((hM.out.alloc' #[.string h0, .int .i64 q1', .int .i64 q3', .int .i64 q0', .string q5] 83 (w1.heap.size + 1) (by simp)).call hb2).tail).alloc' #[.int .i64 q0', .int .i64 q1', .int .i64 q2', .int .i64 q3', .int .i64 q4', .string q5, .bool false] 106 w2.heap.size rfl
  obtain ⟨⟨x0, x1⟩, xf⟩ := c2 (((hM.out.alloc' #[.string h0, .int .i64 q1', .int .i64 q3', .int .i64 q0', .string q5] 83 (w1.heap.size + 1) (by simp)).call hb2).tail).at3
  obtain ⟨⟨y0, y1⟩, yf⟩ := c2 (((hM.out.alloc' #[.string h0, .int .i64 q1', .int .i64 q3', .int .i64 q0', .string q5] 83 (w1.heap.size + 1) (by simp)).call hb2).tail).at2
  have n1 := lt_of_block (((hM.out.alloc' #[.string h0, .int .i64 q1', .int .i64 q3', .int .i64 q0', .string q5] 83 (w1.heap.size + 1) (by simp)).call hb2).tail).at3
  have n2 := lt_of_block (((hM.out.alloc' #[.string h0, .int .i64 q1', .int .i64 q3', .int .i64 q0', .string q5] 83 (w1.heap.size + 1) (by simp)).call hb2).tail).at2
  clear hM hb2
  have hM : Hid _ := hM1
  clear hM1
  go_wp2_with fail
  refine (HSH.out _).mono ?_
  rintro e w3 ⟨rfl, hb3⟩
  have hM1 := hM.out.call hb3
  obtain ⟨⟨d0, d1, d2, d3, d4, d5, d6⟩, df⟩ := c7 hM1.at5
  have n0 := lt_of_block hM1.at5
  clear hM hb3 x0 x1 xf y0 y1 yf n1 n2
  have hM : Hid _ := hM1
  clear hM1
  go_wp2_with fail
  have hM3 : LMid w (((w3.setCell ⟨w.heap.size, 1, none⟩ (.int .i64 src)).setCell ⟨w.heap.size, 3, none⟩ (.int .i64 dst)).alloc (.cells #[.int .i64 q0', .int .i64 xa, .int .i64 xp, .int .i64 ya, .int .i64 yp, .string SM, .bool false] 106)) [(w3.heap.size, #[.int .i64 q0', .int .i64 xa, .int .i64 xp, .int .i64 ya, .int .i64 yp, .string SM, .bool false], 106), (w2.heap.size, #[.int .i64 q0', .int .i64 q1', .int .i64 q2', .int .i64 q3', .int .i64 q4', .string q5, .bool false], 106), (w1.heap.size, #[.string h0, .int .i64 q1', .int .i64 q3', .int .i64 q0', .string q5], 83), (w.heap.size + 3, #[.int .i64 0, .int .i64 0, .int .i64 0, .int .i64 0, .int .i64 0, .string ⟨#[]⟩, .bool false], 106), (w.heap.size + 2, #[.int .i64 ya, .int .i64 yp], 98), (w.heap.size + 1, #[.int .i64 xa, .int .i64 xp], 98), (w.heap.size, #[.int .i64 1, .int .i64 src, .int .i64 fp, .int .i64 dst, .int .i64 tp, .string m, .bool iq], 106)] := ((hM.out.set5 1 (.int .i64 src)).set5 3 (.int .i64 dst)).alloc' _ _ _ (by simp)
  clear hM d0 d1 d2 d3 d4 d5 d6 df n0
  generalize ((w3.setCell ⟨w.heap.size, 1, none⟩ (.int .i64 src)).setCell ⟨w.heap.size, 3, none⟩ (.int .i64 dst)).alloc (.cells #[.int .i64 q0', .int .i64 xa, .int .i64 xp, .int .i64 ya, .int .i64 yp, .string SM, .bool false] 106) = W8 at hM3 ⊢
  have hM1 := hM3
  obtain ⟨⟨d0, d1, d2, d3, d4, d5, d6⟩, df⟩ := c7 hM1.at6; obtain ⟨⟨x0, x1⟩, xf⟩ := c2 hM1.at5; obtain ⟨⟨y0, y1⟩, yf⟩ := c2 hM1.at4; obtain ⟨⟨r0, r1, r2, r3, r4, r5, r6⟩, rf⟩ := c7 hM1.at3; obtain ⟨⟨k0, k1, k2, k3, k4⟩, kf⟩ := c5 hM1.at2; obtain ⟨⟨s0, s1, s2, s3, s4, s5⟩, sf⟩ := c7 hM1.at0
  have hM : Hid _ := hM1.drew
  clear hM1 hM3
  refine wp_region_held_drew (S := (fun w' => w'.cell? ⟨w1.heap.size, 0, none⟩ = some (.string h0) ∧ w'.cell? ⟨w.heap.size + 1, 0, none⟩ = some (.int .i64 xa) ∧ w'.cell? ⟨w.heap.size + 2, 0, none⟩ = some (.int .i64 ya) ∧ w'.cell? ⟨w3.heap.size, 5, none⟩ = some (.string SM))) (by kernel_rfl) (by simp [*]) (fun hHeld => ?_)
  refine wpAnyH_take (i := 0) (v := ?_) rfl (by kernel_rfl) (by kernel_rfl) (by kernel_rfl) (fun _ _ _ h => h) (Or.inl ⟨by rfl, ?_⟩) (by assumption) ?_
  rotate_left
  · intro w hSw
    (try dsimp only at hSw)
    go_simp
    (try with_reducible rfl)
  (try dsimp only [Act.put])
  refine wpAnyH_take (i := 3) (v := ?_) rfl (by kernel_rfl) (by kernel_rfl) (by kernel_rfl) (fun _ _ _ h => h) (Or.inl ⟨by rfl, ?_⟩) (by assumption) ?_
  rotate_left
  · intro w hSw
    (try dsimp only at hSw)
    go_simp
    (try with_reducible rfl)
  (try dsimp only [Act.put])
  refine wpAnyH_take (i := 4) (v := ?_) rfl (by kernel_rfl) (by kernel_rfl) (by kernel_rfl) (fun _ _ _ h => h) (Or.inl ⟨by rfl, ?_⟩) (by assumption) ?_
  rotate_left
  · intro w hSw
    (try dsimp only at hSw)
    go_simp
    (try with_reducible rfl)
  (try dsimp only [Act.put])
  refine wpAnyH_take (i := 5) (v := ?_) rfl (by kernel_rfl) (by kernel_rfl) (by kernel_rfl) (fun _ _ _ h => h) (Or.inl ⟨by rfl, ?_⟩) (by assumption) ?_
  rotate_left
  · intro w hSw
    (try dsimp only at hSw)
    go_simp
    (try with_reducible rfl)
  (try dsimp only [Act.put])
  refine wpAnyH_take (i := 6) (v := ?_) rfl (by kernel_rfl) (by kernel_rfl) (by kernel_rfl) (fun _ _ _ h => h) (Or.inl ⟨by rfl, ?_⟩) (by assumption) ?_
  rotate_left
  · intro w hSw
    (try dsimp only at hSw)
    go_simp
    (try with_reducible rfl)
  (try dsimp only [Act.put])
  refine wpAnyH_take (i := 7) (v := ?_) rfl (by kernel_rfl) (by kernel_rfl) (by kernel_rfl) (fun _ _ _ h => h) (Or.inl ⟨by rfl, ?_⟩) (by assumption) ?_
  rotate_left
  · intro w hSw
    (try dsimp only at hSw)
    go_simp
    (try with_reducible rfl)
  (try dsimp only [Act.put])
  refine wpAnyH_take (i := 8) (v := ?_) rfl (by kernel_rfl) (by kernel_rfl) (by kernel_rfl) (fun _ _ _ h => h) (Or.inl ⟨by rfl, ?_⟩) (by assumption) ?_
  rotate_left
  · intro w hSw
    (try dsimp only at hSw)
    go_simp
    (try with_reducible rfl)
  (try dsimp only [Act.put])
  refine wpAnyH_take (i := 11) (v := ?_) rfl (by kernel_rfl) (by kernel_rfl) (by kernel_rfl) (fun _ _ _ h => h) (Or.inl ⟨by rfl, ?_⟩) (by assumption) ?_
  rotate_left
  · intro w hSw
    (try dsimp only at hSw)
    go_simp
    (try with_reducible rfl)
  (try dsimp only [Act.put])
  refine wpAnyH_take (i := 12) (v := ?_) rfl (by kernel_rfl) (by kernel_rfl) (by kernel_rfl) (fun _ _ _ h => h) (Or.inl ⟨by rfl, ?_⟩) (by assumption) ?_
  rotate_left
  · intro w hSw
    (try dsimp only at hSw)
    go_simp
    (try with_reducible rfl)
  (try dsimp only [Act.put])
  refine wpAnyH_ready (rs := [1, 9]) (by kernel_rfl) (by simp) ?_
  refine AllReadyH.cons rfl (fun K hK => ?_) (AllReadyH.cons rfl (fun K hK => ?_) AllReadyH.nil)
  · go_simp
    refine hK.out _ _ ?_ (fun hHeld => ?_)
    · (try dsimp only)
      simp [*]
    clear hK K
    (try dsimp only [Act.put])
    refine wpAnyH_take (i := 2) (v := ?_) rfl (by kernel_rfl) (by kernel_rfl) (by kernel_rfl) (fun _ _ _ h => h) (Or.inl ⟨by rfl, ?_⟩) (by assumption) ?_
    rotate_left
    · intro w hSw
      (try dsimp only at hSw)
      go_simp
      (try with_reducible rfl)
    (try dsimp only [Act.put])
    refine wpAnyH_ready (rs := [9]) (by kernel_rfl) (by simp) ?_
    refine AllReadyH.cons rfl (fun K hK => ?_) AllReadyH.nil
    go_simp
    refine (HAD.out _).mono ?_
    rintro e w9 ⟨rfl, hb1⟩
    have hM1 := hM.out.call hb1
    clear hM hb1
    clear d0 d1 d2 d3 d4 d5 d6 df x0 x1 xf y0 y1 yf r0 r1 r2 r3 r4 r5 r6 rf k0 k1 k2 k3 k4 kf s0 s1 s2 s3 s4 s5 sf
    obtain ⟨⟨d0, d1, d2, d3, d4, d5, d6⟩, df⟩ := c7 hM1.at6; obtain ⟨⟨x0, x1⟩, xf⟩ := c2 hM1.at5; obtain ⟨⟨y0, y1⟩, yf⟩ := c2 hM1.at4; obtain ⟨⟨r0, r1, r2, r3, r4, r5, r6⟩, rf⟩ := c7 hM1.at3; obtain ⟨⟨k0, k1, k2, k3, k4⟩, kf⟩ := c5 hM1.at2; obtain ⟨⟨s0, s1, s2, s3, s4, s5⟩, sf⟩ := c7 hM1.at0
    have hM : Hid _ := hM1
    clear hM1
    refine hK.out _ _ ?_ (fun hHeld => ?_)
    · (try dsimp only)
      simp [*]
    clear hK K
    (try dsimp only [Act.put])
    refine wpAnyH_take (i := 10) (v := ?_) rfl (by kernel_rfl) (by kernel_rfl) (by kernel_rfl) (fun _ _ _ h => h) (Or.inl ⟨by rfl, ?_⟩) (by assumption) ?_
    rotate_left
    · intro w hSw
      (try dsimp only at hSw)
      go_simp
      (try with_reducible rfl)
    (try dsimp only [Act.put])
    refine wpAnyH_take (i := 13) (v := ?_) rfl (by kernel_rfl) (by kernel_rfl) (by kernel_rfl) (fun _ _ _ h => h) (Or.inl ⟨by rfl, ?_⟩) (by assumption) ?_
    rotate_left
    · intro w hSw
      (try dsimp only at hSw)
      go_simp
      (try with_reducible rfl)
    (try dsimp only [Act.put])
    refine wpAnyH_take (i := 14) (v := ?_) rfl (by kernel_rfl) (by kernel_rfl) (by kernel_rfl) (fun _ _ _ h => h) (Or.inl ⟨by rfl, ?_⟩) (by assumption) ?_
    rotate_left
    · intro w hSw
      (try dsimp only at hSw)
      go_simp
      (try with_reducible rfl)
    (try dsimp only [Act.put])
    refine wpAnyH_ready (rs := [15]) (by kernel_rfl) (by simp) ?_
    refine AllReadyH.cons rfl (fun K hK => ?_) AllReadyH.nil
    go_simp
    refine hK.out _ _ ?_ (fun hHeld => ?_)
    · have hE := hM.out.set6 5 (.string (m.extract 0 8 ++ AH ++ SM))
      exact ⟨(c5 hE.at2).1.1, (c2 hE.at5).1.1, (c2 hE.at4).1.1, (c7 hE.at0).1.2.2.2.2.2.1⟩
    clear hK K
    (try dsimp only [Act.put])
    refine wpAnyH_done (by kernel_rfl) ?_ _
    go_wp2_with fail
    refine (HSE.out _).mono ?_
    rintro e w10 ⟨rfl, hb1⟩
    have hM1 := (hM.out.set6 5 (.string (m.extract 0 8 ++ AH ++ SM))).call hb1
    clear hM hb1
    clear d0 d1 d2 d3 d4 d5 d6 df x0 x1 xf y0 y1 yf r0 r1 r2 r3 r4 r5 r6 rf k0 k1 k2 k3 k4 kf s0 s1 s2 s3 s4 s5 sf
    obtain ⟨⟨r0, r1, r2, r3, r4, r5, r6⟩, rf⟩ := c7 hM1.at3
    have hM : Hid _ := hM1
    clear hM1
    go_wp2_with fail
    refine bodyPost_ret (v := .agg #[.int .i64 1, .int .i64 src, .int .i64 fp, .int .i64 dst, .int .i64 tp, .string R', .bool iq]) (by simp [results, Tryz.results116, go_sem, r0, r1, r2, r3, r4, r5, r6]) rfl ⟨rfl, ?_⟩
    have hE := hM.out.bl
    exact ((((((hE.setCell (by simp; omega) _).setCell (by simp; omega) _).setCell (by simp; omega) _).setCell (by simp; omega) _).setCell (by simp; omega) _).setCell (by simp; omega) _).setCell (by simp; omega) _
  · go_simp
    refine (HAD.out _).mono ?_
    rintro e w9 ⟨rfl, hb1⟩
    have hM1 := hM.out.call hb1
    clear hM hb1
    clear d0 d1 d2 d3 d4 d5 d6 df x0 x1 xf y0 y1 yf r0 r1 r2 r3 r4 r5 r6 rf k0 k1 k2 k3 k4 kf s0 s1 s2 s3 s4 s5 sf
    obtain ⟨⟨d0, d1, d2, d3, d4, d5, d6⟩, df⟩ := c7 hM1.at6; obtain ⟨⟨x0, x1⟩, xf⟩ := c2 hM1.at5; obtain ⟨⟨y0, y1⟩, yf⟩ := c2 hM1.at4; obtain ⟨⟨r0, r1, r2, r3, r4, r5, r6⟩, rf⟩ := c7 hM1.at3; obtain ⟨⟨k0, k1, k2, k3, k4⟩, kf⟩ := c5 hM1.at2; obtain ⟨⟨s0, s1, s2, s3, s4, s5⟩, sf⟩ := c7 hM1.at0
    have hM : Hid _ := hM1
    clear hM1
    refine hK.out _ _ ?_ (fun hHeld => ?_)
    · (try dsimp only)
      simp [*]
    clear hK K
    (try dsimp only [Act.put])
    refine wpAnyH_ready (rs := [1]) (by kernel_rfl) (by simp) ?_
    refine AllReadyH.cons rfl (fun K hK => ?_) AllReadyH.nil
    go_simp
    refine hK.out _ _ ?_ (fun hHeld => ?_)
    · (try dsimp only)
      simp [*]
    clear hK K
    (try dsimp only [Act.put])
    refine wpAnyH_take (i := 2) (v := ?_) rfl (by kernel_rfl) (by kernel_rfl) (by kernel_rfl) (fun _ _ _ h => h) (Or.inl ⟨by rfl, ?_⟩) (by assumption) ?_
    rotate_left
    · intro w hSw
      (try dsimp only at hSw)
      go_simp
      (try with_reducible rfl)
    (try dsimp only [Act.put])
    refine wpAnyH_take (i := 10) (v := ?_) rfl (by kernel_rfl) (by kernel_rfl) (by kernel_rfl) (fun _ _ _ h => h) (Or.inl ⟨by rfl, ?_⟩) (by assumption) ?_
    rotate_left
    · intro w hSw
      (try dsimp only at hSw)
      go_simp
      (try with_reducible rfl)
    (try dsimp only [Act.put])
    refine wpAnyH_take (i := 13) (v := ?_) rfl (by kernel_rfl) (by kernel_rfl) (by kernel_rfl) (fun _ _ _ h => h) (Or.inl ⟨by rfl, ?_⟩) (by assumption) ?_
    rotate_left
    · intro w hSw
      (try dsimp only at hSw)
      go_simp
      (try with_reducible rfl)
    (try dsimp only [Act.put])
    refine wpAnyH_take (i := 14) (v := ?_) rfl (by kernel_rfl) (by kernel_rfl) (by kernel_rfl) (fun _ _ _ h => h) (Or.inl ⟨by rfl, ?_⟩) (by assumption) ?_
    rotate_left
    · intro w hSw
      (try dsimp only at hSw)
      go_simp
      (try with_reducible rfl)
    (try dsimp only [Act.put])
    refine wpAnyH_ready (rs := [15]) (by kernel_rfl) (by simp) ?_
    refine AllReadyH.cons rfl (fun K hK => ?_) AllReadyH.nil
    go_simp
    refine hK.out _ _ ?_ (fun hHeld => ?_)
    · have hE := hM.out.set6 5 (.string (m.extract 0 8 ++ AH ++ SM))
      exact ⟨(c5 hE.at2).1.1, (c2 hE.at5).1.1, (c2 hE.at4).1.1, (c7 hE.at0).1.2.2.2.2.2.1⟩
    clear hK K
    (try dsimp only [Act.put])
    refine wpAnyH_done (by kernel_rfl) ?_ _
    go_wp2_with fail
    refine (HSE.out _).mono ?_
    rintro e w10 ⟨rfl, hb1⟩
    have hM1 := (hM.out.set6 5 (.string (m.extract 0 8 ++ AH ++ SM))).call hb1
    clear hM hb1
    clear d0 d1 d2 d3 d4 d5 d6 df x0 x1 xf y0 y1 yf r0 r1 r2 r3 r4 r5 r6 rf k0 k1 k2 k3 k4 kf s0 s1 s2 s3 s4 s5 sf
    obtain ⟨⟨r0, r1, r2, r3, r4, r5, r6⟩, rf⟩ := c7 hM1.at3
    have hM : Hid _ := hM1
    clear hM1
    go_wp2_with fail
    refine bodyPost_ret (v := .agg #[.int .i64 1, .int .i64 src, .int .i64 fp, .int .i64 dst, .int .i64 tp, .string R', .bool iq]) (by simp [results, Tryz.results116, go_sem, r0, r1, r2, r3, r4, r5, r6]) rfl ⟨rfl, ?_⟩
    have hE := hM.out.bl
    exact ((((((hE.setCell (by simp; omega) _).setCell (by simp; omega) _).setCell (by simp; omega) _).setCell (by simp; omega) _).setCell (by simp; omega) _).setCell (by simp; omega) _).setCell (by simp; omega) _
end Go.Proofs.YtfkjobiapjhacabGreat
