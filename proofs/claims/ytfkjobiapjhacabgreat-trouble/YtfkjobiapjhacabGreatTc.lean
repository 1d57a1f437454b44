/- Contracts of package wire: shifted. Own work. -/
import Derived.Test.YtfkjobiapjhacabGreatTb
namespace Go.Proofs.YtfkjobiapjhacabGreat
open Go.RowKit
attribute [local go_sem ↓] Go.wp_at_zero Go.wp_at_succ

theorem chgI_bd (pr fa fp ta tp : Int) (m o : ByteArray) (xa xp ya yp : Int) (f0 : 0 ≤ fa) (f1 : fa ≤ 4294967295) (p0 : 0 ≤ fp) (p1 : fp ≤ 65535) (t0 : 0 ≤ ta) (t1 : ta ≤ 4294967295) (u0 : 0 ≤ tp) (u1 : tp ≤ 65535)
    (a0 : 0 ≤ xa) (a1 : xa ≤ 4294967295) (q0 : 0 ≤ xp) (q1 : xp ≤ 65535) (b0 : 0 ≤ ya) (b1 : ya ≤ 4294967295) (r0 : 0 ≤ yp) (r1 : yp ≤ 65535) : 0 ≤ chgI pr fa fp ta tp m o xa xp ya yp ∧ chgI pr fa fp ta tp m o xa xp ya yp ≤ 1000000 := by
  have e0 := endChg_bd fa fp xa xp f0 f1 p0 p1 a0 a1 q0 q1
  have e1 := endChg_bd ta tp ya yp t0 t1 u0 u1 b0 b1 r0 r1
  have w0 := wordAt_bd m 4
  have w1 := wordAt_bd o 4
  unfold chgI
  split <;> omega
set_option maxRecDepth 100000 in
set_option maxHeartbeats 1000000 in
theorem shifted_any (pr fa fp ta tp : Int) (m : ByteArray) (iq : Bool) (xa xp ya yp : Int) (w : World) (hm : m.size ≤ 1000) (h6 : 6 ≤ m.size) (f0 : 0 ≤ fa) (f1 : fa ≤ 4294967295) (p0 : 0 ≤ fp) (p1 : fp ≤ 65535) (t0 : 0 ≤ ta) (t1 : ta ≤ 4294967295) (u0 : 0 ≤ tp) (u1 : tp ≤ 65535)
    (a0 : 0 ≤ xa) (a1 : xa ≤ 4294967295) (q0 : 0 ≤ xp) (q1 : xp ≤ 65535) (b0 : 0 ≤ ya) (b1 : ya ≤ 4294967295) (r0 : 0 ≤ yp) (r1 : yp ≤ 65535) :
    Calls Tryz.prog 126 #[.agg #[.int .i64 pr, .int .i64 fa, .int .i64 fp, .int .i64 ta, .int .i64 tp, .string m, .bool iq], .agg #[.int .i64 xa, .int .i64 xp], .agg #[.int .i64 ya, .int .i64 yp]] w fun e w' => e = .returned (.agg #[.int .i64 pr, .int .i64 xa, .int .i64 xp, .int .i64 ya, .int .i64 yp, .string (shiftM pr fa fp ta tp m xa xp ya yp), .bool false]) ∧ Below w.heap.size w w' := by
  have hos := portM_size pr m xp yp h6
  have HPO : Hid (∀ W, Calls Tryz.prog 123 #[.agg #[.int .i64 pr, .int .i64 fa, .int .i64 fp, .int .i64 ta, .int .i64 tp, .string m, .bool iq], .agg #[.int .i64 xa, .int .i64 xp], .agg #[.int .i64 ya, .int .i64 yp]] W fun e w' => e = .returned (.string (portM pr m xp yp)) ∧ Below W.heap.size W w') := fun W => ported_any pr fa fp ta tp m iq xa xp ya yp W hm h6
  have HHS : Hid (∀ W, Calls Tryz.prog 93 #[.agg #[.int .i64 pr, .int .i64 fa, .int .i64 fp, .int .i64 ta, .int .i64 tp, .string m, .bool iq]] W fun e w' => e = .returned (.bool (hasSumB pr m)) ∧ Below W.heap.size W w') := fun W => hasSum_any pr fa fp ta tp m iq W
  have HSA : Hid (∀ W, Calls Tryz.prog 132 #[.agg #[.int .i64 pr, .int .i64 fa, .int .i64 fp, .int .i64 ta, .int .i64 tp, .string m, .bool iq]] W fun e w' => e = .returned (.int .i64 (sumAtI pr : Int)) ∧ Below W.heap.size W w') := fun W => sumAt_any pr fa fp ta tp m iq W
  have HCH : Hid (∀ W, Calls Tryz.prog 134 #[.agg #[.int .i64 pr, .int .i64 fa, .int .i64 fp, .int .i64 ta, .int .i64 tp, .string m, .bool iq], .agg #[.int .i64 pr, .int .i64 xa, .int .i64 xp, .int .i64 ya, .int .i64 yp, .string (portM pr m xp yp), .bool false]] W fun e w' => e = .returned (.int .i64 (chgI pr fa fp ta tp m (portM pr m xp yp) xa xp ya yp)) ∧ Below W.heap.size W w') := fun W => change_any pr fa fp ta tp m iq (portM pr m xp yp) xa xp ya yp W f0 f1 p0 p1 t0 t1 u0 u1 a0 a1 q0 q1 b0 b1 r0 r1
  have hcb := chgI_bd pr fa fp ta tp m (portM pr m xp yp) xa xp ya yp f0 f1 p0 p1 t0 t1 u0 u1 a0 a1 q0 q1 b0 b1 r0 r1
  obtain ⟨F, hF⟩ : ∃ F, F = shiftM pr fa fp ta tp m xa xp ya yp := ⟨_, rfl⟩
  rw [← hF]
  unfold shiftM at hF
  generalize portM pr m xp yp = o at HPO HCH hcb hos hF
  generalize chgI pr fa fp ta tp m o xa xp ya yp = CH at HCH hcb hF
  have hwb := wordAt_bd m (sumAtI pr : Nat)
  have sa0 : (0 : Int) ≤ (sumAtI pr : Int) := by omega
  have sa2 : sumAtI pr ≤ 16 := sumAtI_le pr
  have sa1 : (sumAtI pr : Int) ≤ 1000000000000000000 := by omega
  have HFO : Hid (∀ W, Calls Tryz.prog 90 #[.int .i64 (65535 - wordAt m (sumAtI pr : Nat) + CH)] W fun e w' => e = .returned (.int .i64 (foldI (65535 - wordAt m (sumAtI pr : Nat) + CH))) ∧ w' = W) := fun W => Fold_any _ W (by omega) (by omega)
  have HCK : Hid (∀ W, Calls Tryz.prog 133 #[.agg #[.int .i64 pr, .int .i64 fa, .int .i64 fp, .int .i64 ta, .int .i64 tp, .string m, .bool iq], .int .i64 (foldI (65535 - wordAt m (sumAtI pr : Nat) + CH))] W fun e w' => e = .returned (.int .i64 (ckI pr (foldI (65535 - wordAt m (sumAtI pr : Nat) + CH)))) ∧ Below W.heap.size W w') := fun W => checksum_any pr fa fp ta tp m iq _ W (foldI_bd _).1 (foldI_bd _).2
  have HPU : Hid (hasSumB pr m = true → ∀ W, Calls Tryz.prog 109 #[.string o, .int .i64 (sumAtI pr : Int), .int .i64 (ckI pr (foldI (65535 - wordAt m (sumAtI pr : Nat) + CH)))] W fun e w' => e = .returned (.string F) ∧ Below W.heap.size W w') := fun h W => by
    rw [hF, if_neg (by rw [h]; decide)]
    exact PutWord_w o (sumAtI pr) _ W (by omega) (by omega)
  have HNO : Hid (hasSumB pr m = false → F = o) := fun h => by rw [hF, if_pos h]
  clear hF hos sa2 f0 f1 p0 p1 t0 t1 u0 u1 a0 a1 q0 q1 b0 b1 r0 r1
  generalize foldI (65535 - wordAt m (sumAtI pr : Nat) + CH) = FO at HFO HCK HPU
  generalize ckI pr FO = CK at HCK HPU
  have hM1 : LMid w ((((w.alloc (.cells #[.int .i64 pr, .int .i64 fa, .int .i64 fp, .int .i64 ta, .int .i64 tp, .string m, .bool iq] 106)).alloc (.cells #[.int .i64 xa, .int .i64 xp] 98)).alloc (.cells #[.int .i64 ya, .int .i64 yp] 98)).alloc (.cells #[.int .i64 0, .int .i64 0, .int .i64 0, .int .i64 0, .int .i64 0, .string ⟨#[]⟩, .bool false] 106)) [(w.heap.size + 3, #[.int .i64 0, .int .i64 0, .int .i64 0, .int .i64 0, .int .i64 0, .string ⟨#[]⟩, .bool false], 106), (w.heap.size + 2, #[.int .i64 ya, .int .i64 yp], 98), (w.heap.size + 1, #[.int .i64 xa, .int .i64 xp], 98), (w.heap.size, #[.int .i64 pr, .int .i64 fa, .int .i64 fp, .int .i64 ta, .int .i64 tp, .string m, .bool iq], 106)] := ((((LMid.start w).alloc' _ _ _ rfl).alloc' _ _ _ (by simp)).alloc' _ _ _ (by simp)).alloc' _ _ _ (by simp)
  obtain ⟨⟨d0, d1, d2, d3, d4, d5, d6⟩, df⟩ := c7 hM1.at3; obtain ⟨⟨x0, x1⟩, xf⟩ := c2 hM1.at2; obtain ⟨⟨y0, y1⟩, yf⟩ := c2 hM1.at1
  have hM : Hid _ := hM1
  clear hM1
  go_enter Tryz.func126, Tryz.ntmps126
  go_upto_region 1 with fail
  go_cut [7] (fun s7 wx => ∃ k, s7 = .pointer (some ⟨k, 0, none⟩) ∧ LMid w wx ((k, #[.int .i64 pr, .int .i64 xa, .int .i64 xp, .int .i64 ya, .int .i64 yp, .string o, .bool false], 106) :: [(w.heap.size + 3, #[.int .i64 0, .int .i64 0, .int .i64 0, .int .i64 0, .int .i64 0, .string ⟨#[]⟩, .bool false], 106), (w.heap.size + 2, #[.int .i64 ya, .int .i64 yp], 98), (w.heap.size + 1, #[.int .i64 xa, .int .i64 xp], 98), (w.heap.size, #[.int .i64 pr, .int .i64 fa, .int .i64 fp, .int .i64 ta, .int .i64 tp, .string m, .bool iq], 106)]))
  case first =>
    go_region_held3 (fun w' => w'.cell? ⟨w.heap.size, 0, none⟩ = some (.int .i64 pr) ∧ w'.cell? ⟨w.heap.size, 1, none⟩ = some (.int .i64 fa) ∧ w'.cell? ⟨w.heap.size, 2, none⟩ = some (.int .i64 fp) ∧ w'.cell? ⟨w.heap.size, 3, none⟩ = some (.int .i64 ta) ∧ w'.cell? ⟨w.heap.size, 4, none⟩ = some (.int .i64 tp) ∧ w'.cell? ⟨w.heap.size, 5, none⟩ = some (.string m) ∧ w'.cell? ⟨w.heap.size, 6, none⟩ = some (.bool iq) ∧ w'.cell? ⟨w.heap.size + 1, 0, none⟩ = some (.int .i64 xa) ∧ w'.cell? ⟨w.heap.size + 1, 1, none⟩ = some (.int .i64 xp) ∧ w'.cell? ⟨w.heap.size + 2, 0, none⟩ = some (.int .i64 ya) ∧ w'.cell? ⟨w.heap.size + 2, 1, none⟩ = some (.int .i64 yp)) (first | (simp [*]; done) | (have hne := lt_of_block hM.out.at3; have hne1 := lt_of_block hM.out.at2; have hne2 := lt_of_block hM.out.at1; simp only [cell_alloc_lt hne, cell_alloc_lt hne1, cell_alloc_lt hne2]; simp [*]; done) | (simp only [cell_set_lt (show w.heap.size < w.heap.size + 4 by omega), cell_set_lt (show w.heap.size + 1 < w.heap.size + 4 by omega), cell_set_lt (show w.heap.size + 2 < w.heap.size + 4 by omega)]; simp [*]; done) | (have hne := lt_of_block hM.out.at3; have hne1 := lt_of_block hM.out.at2; have hne2 := lt_of_block hM.out.at1; simp only [cell_set_lt hne, cell_set_lt hne1, cell_set_lt hne2, cell_alloc_lt hne, cell_alloc_lt hne1, cell_alloc_lt hne2]; simp [*]; done) | go_keep) (first | (go_at_call 123; refine (HPO.out _).mono ?_; rintro e w1 ⟨rfl, hb1⟩; have hM1 := hM.out.drew.call hb1; clear hM hb1; clear d0 d1 d2 d3 d4 d5 d6 df x0 x1 xf y0 y1 yf; obtain ⟨⟨d0, d1, d2, d3, d4, d5, d6⟩, df⟩ := c7 hM1.at3; obtain ⟨⟨x0, x1⟩, xf⟩ := c2 hM1.at2; obtain ⟨⟨y0, y1⟩, yf⟩ := c2 hM1.at1; have hM : Hid _ := hM1; clear hM1) | (go_at_call 123; refine (HPO.out _).mono ?_; rintro e w1 ⟨rfl, hb1⟩; have hM1 := (hM.out.alloc' #[.int .i64 0, .int .i64 0, .int .i64 0, .int .i64 0, .int .i64 0, .string ⟨#[]⟩, .bool false] 106 (w.heap.size + 4) (by simp)).drew.call hb1; clear hM hb1; clear d0 d1 d2 d3 d4 d5 d6 df x0 x1 xf y0 y1 yf; obtain ⟨⟨r0, r1, r2, r3, r4, r5, r6⟩, rf⟩ := c7 hM1.at1; obtain ⟨⟨o0, o1, o2, o3, o4, o5, o6⟩, of⟩ := c7 hM1.at0; obtain ⟨⟨d0, d1, d2, d3, d4, d5, d6⟩, df⟩ := c7 hM1.at4; obtain ⟨⟨x0, x1⟩, xf⟩ := c2 hM1.at3; obtain ⟨⟨y0, y1⟩, yf⟩ := c2 hM1.at2; have hM : Hid _ := hM1; clear hM1))
    · go_wp2_with fail; go_meet; exact ⟨w1.heap.size, rfl, hM.out.alloc' _ _ _ rfl⟩
    · go_wp2_with fail; go_meet; exact ⟨w.heap.size + 4, rfl, ((((((hM.out.set0 0 (.int .i64 pr)).set0 1 (.int .i64 xa)).set0 2 (.int .i64 xp)).set0 3 (.int .i64 ya)).set0 4 (.int .i64 yp)).set0 5 (.string o)).set0 6 (.bool false)⟩
  case rest =>
    obtain ⟨k, rfl, hM1⟩ := hcut
    clear hM
    clear d0 d1 d2 d3 d4 d5 d6 df x0 x1 xf y0 y1 yf
    obtain ⟨⟨r0, r1, r2, r3, r4, r5, r6⟩, rf⟩ := c7 hM1.at1; obtain ⟨⟨o0, o1, o2, o3, o4, o5, o6⟩, of⟩ := c7 hM1.at0; obtain ⟨⟨d0, d1, d2, d3, d4, d5, d6⟩, df⟩ := c7 hM1.at4; obtain ⟨⟨x0, x1⟩, xf⟩ := c2 hM1.at3; obtain ⟨⟨y0, y1⟩, yf⟩ := c2 hM1.at2
    have hlt : w.heap.size + 3 < k := (List.pairwise_cons.1 hM1.ord).1 _ List.mem_cons_self
    have hkn : k ≠ w.heap.size + 3 := by omega
    have hkm : w.heap.size + 3 ≠ k := by omega
    have hM : Hid _ := hM1
    clear hM1
    cases hs : hasSumB pr m
    · have hFo := HNO.out hs
      rw [hs] at HHS
      clear HNO HPU hs
      go_wp2_with (go_at_call 93; refine (HHS.out _).mono ?_; rintro e w2 ⟨rfl, hb1⟩; have hM1 := hM.out.call hb1; clear hM hb1; clear r0 r1 r2 r3 r4 r5 r6 rf o0 o1 o2 o3 o4 o5 o6 of d0 d1 d2 d3 d4 d5 d6 df x0 x1 xf y0 y1 yf; obtain ⟨⟨r0, r1, r2, r3, r4, r5, r6⟩, rf⟩ := c7 hM1.at1; obtain ⟨⟨o0, o1, o2, o3, o4, o5, o6⟩, of⟩ := c7 hM1.at0; obtain ⟨⟨d0, d1, d2, d3, d4, d5, d6⟩, df⟩ := c7 hM1.at4; obtain ⟨⟨x0, x1⟩, xf⟩ := c2 hM1.at3; obtain ⟨⟨y0, y1⟩, yf⟩ := c2 hM1.at2; have hM : Hid _ := hM1; clear hM1)
      refine bodyPost_ret (v := .agg #[.int .i64 pr, .int .i64 xa, .int .i64 xp, .int .i64 ya, .int .i64 yp, .string F, .bool false]) (by simp [results, Tryz.results126, go_sem, r0, r1, r2, r3, r4, r5, r6, hFo]) rfl ⟨rfl, ?_⟩
      have hE := hM.out.bl
      exact ((((((hE.setCell (by simp; omega) _).setCell (by simp; omega) _).setCell (by simp; omega) _).setCell (by simp; omega) _).setCell (by simp; omega) _).setCell (by simp; omega) _).setCell (by simp; omega) _
    · have HP := HPU.out hs
      rw [hs] at HHS
      have HPV : Hid _ := HP
      clear HNO HPU hs HP
      go_upto_region 5 with (first | (go_at_call 93; refine (HHS.out _).mono ?_; rintro e w2 ⟨rfl, hb1⟩; have hM1 := hM.out.call hb1; clear hM hb1; clear r0 r1 r2 r3 r4 r5 r6 rf o0 o1 o2 o3 o4 o5 o6 of d0 d1 d2 d3 d4 d5 d6 df x0 x1 xf y0 y1 yf; obtain ⟨⟨r0, r1, r2, r3, r4, r5, r6⟩, rf⟩ := c7 hM1.at1; obtain ⟨⟨o0, o1, o2, o3, o4, o5, o6⟩, of⟩ := c7 hM1.at0; obtain ⟨⟨d0, d1, d2, d3, d4, d5, d6⟩, df⟩ := c7 hM1.at4; obtain ⟨⟨x0, x1⟩, xf⟩ := c2 hM1.at3; obtain ⟨⟨y0, y1⟩, yf⟩ := c2 hM1.at2; have hM : Hid _ := hM1; clear hM1) | (go_at_call 132; refine (HSA.out _).mono ?_; rintro e w3 ⟨rfl, hb1⟩; have hM1 := hM.out.call hb1; clear hM hb1; clear r0 r1 r2 r3 r4 r5 r6 rf o0 o1 o2 o3 o4 o5 o6 of d0 d1 d2 d3 d4 d5 d6 df x0 x1 xf y0 y1 yf; obtain ⟨⟨r0, r1, r2, r3, r4, r5, r6⟩, rf⟩ := c7 hM1.at1; obtain ⟨⟨o0, o1, o2, o3, o4, o5, o6⟩, of⟩ := c7 hM1.at0; obtain ⟨⟨d0, d1, d2, d3, d4, d5, d6⟩, df⟩ := c7 hM1.at4; obtain ⟨⟨x0, x1⟩, xf⟩ := c2 hM1.at3; obtain ⟨⟨y0, y1⟩, yf⟩ := c2 hM1.at2; have hM : Hid _ := hM1; clear hM1))
      go_cut [9] (fun s9 wx => s9 = .int .i64 (65535 - wordAt m (sumAtI pr : Nat) + CH) ∧ LMid w wx ((k, #[.int .i64 pr, .int .i64 xa, .int .i64 xp, .int .i64 ya, .int .i64 yp, .string o, .bool false], 106) :: [(w.heap.size + 3, #[.int .i64 0, .int .i64 0, .int .i64 0, .int .i64 0, .int .i64 0, .string ⟨#[]⟩, .bool false], 106), (w.heap.size + 2, #[.int .i64 ya, .int .i64 yp], 98), (w.heap.size + 1, #[.int .i64 xa, .int .i64 xp], 98), (w.heap.size, #[.int .i64 pr, .int .i64 fa, .int .i64 fp, .int .i64 ta, .int .i64 tp, .string m, .bool iq], 106)]))
      case first =>
        have hM1 := hM.out.drew
        clear hM
        have hM : Hid _ := hM1
        clear hM1
        go_region_held3 (fun w' => w'.cell? ⟨w.heap.size, 0, none⟩ = some (.int .i64 pr) ∧ w'.cell? ⟨w.heap.size, 1, none⟩ = some (.int .i64 fa) ∧ w'.cell? ⟨w.heap.size, 2, none⟩ = some (.int .i64 fp) ∧ w'.cell? ⟨w.heap.size, 3, none⟩ = some (.int .i64 ta) ∧ w'.cell? ⟨w.heap.size, 4, none⟩ = some (.int .i64 tp) ∧ w'.cell? ⟨w.heap.size, 5, none⟩ = some (.string m) ∧ w'.cell? ⟨w.heap.size, 6, none⟩ = some (.bool iq) ∧ w'.cell? ⟨k, 0, none⟩ = some (.int .i64 pr) ∧ w'.cell? ⟨k, 1, none⟩ = some (.int .i64 xa) ∧ w'.cell? ⟨k, 2, none⟩ = some (.int .i64 xp) ∧ w'.cell? ⟨k, 3, none⟩ = some (.int .i64 ya) ∧ w'.cell? ⟨k, 4, none⟩ = some (.int .i64 yp) ∧ w'.cell? ⟨k, 5, none⟩ = some (.string o) ∧ w'.cell? ⟨k, 6, none⟩ = some (.bool false)) (simp [*]) (first | (go_at_call 74; refine (Word_any _ _ _ (by first | assumption | decide) (by first | assumption | decide)).mono ?_; rintro e w' ⟨rfl, rfl⟩) | (go_at_call 134; refine (HCH.out _).mono ?_; rintro e w4 ⟨rfl, hb1⟩; have hM1 := hM.out.call hb1; clear hM hb1; clear r0 r1 r2 r3 r4 r5 r6 rf o0 o1 o2 o3 o4 o5 o6 of d0 d1 d2 d3 d4 d5 d6 df x0 x1 xf y0 y1 yf; obtain ⟨⟨r0, r1, r2, r3, r4, r5, r6⟩, rf⟩ := c7 hM1.at1; obtain ⟨⟨o0, o1, o2, o3, o4, o5, o6⟩, of⟩ := c7 hM1.at0; obtain ⟨⟨d0, d1, d2, d3, d4, d5, d6⟩, df⟩ := c7 hM1.at4; obtain ⟨⟨x0, x1⟩, xf⟩ := c2 hM1.at3; obtain ⟨⟨y0, y1⟩, yf⟩ := c2 hM1.at2; have hM : Hid _ := hM1; clear hM1))
        go_wp2_with fail
        go_meet
        refine ⟨?_, hM.out⟩
        simp only [IntKind.wrap_i64]
        first | rfl | (refine congrArg _ ?_; omega)
      case rest =>
        obtain ⟨rfl, hM1⟩ := hcut
        clear hM
        clear r0 r1 r2 r3 r4 r5 r6 rf o0 o1 o2 o3 o4 o5 o6 of d0 d1 d2 d3 d4 d5 d6 df x0 x1 xf y0 y1 yf
        obtain ⟨⟨r0, r1, r2, r3, r4, r5, r6⟩, rf⟩ := c7 hM1.at1; obtain ⟨⟨o0, o1, o2, o3, o4, o5, o6⟩, of⟩ := c7 hM1.at0; obtain ⟨⟨d0, d1, d2, d3, d4, d5, d6⟩, df⟩ := c7 hM1.at4; obtain ⟨⟨x0, x1⟩, xf⟩ := c2 hM1.at3; obtain ⟨⟨y0, y1⟩, yf⟩ := c2 hM1.at2
        have hM : Hid _ := hM1.drew
        clear hM1
        go_wp2_with fail
        go_region_with (first | (go_at_call 90; refine (HFO.out _).mono ?_; rintro e w' ⟨rfl, rfl⟩) | (go_at_call 133; refine (HCK.out _).mono ?_; rintro e w5 ⟨rfl, hb1⟩; have hM1 := hM.out.call hb1; clear hM hb1; clear r0 r1 r2 r3 r4 r5 r6 rf o0 o1 o2 o3 o4 o5 o6 of d0 d1 d2 d3 d4 d5 d6 df x0 x1 xf y0 y1 yf; obtain ⟨⟨r0, r1, r2, r3, r4, r5, r6⟩, rf⟩ := c7 hM1.at1; obtain ⟨⟨o0, o1, o2, o3, o4, o5, o6⟩, of⟩ := c7 hM1.at0; obtain ⟨⟨d0, d1, d2, d3, d4, d5, d6⟩, df⟩ := c7 hM1.at4; obtain ⟨⟨x0, x1⟩, xf⟩ := c2 hM1.at3; obtain ⟨⟨y0, y1⟩, yf⟩ := c2 hM1.at2; have hM : Hid _ := hM1; clear hM1) | (go_at_call 109; refine (HPV.out _).mono ?_; rintro e w6 ⟨rfl, hb1⟩; have hM1 := hM.out.call hb1; clear hM hb1; clear r0 r1 r2 r3 r4 r5 r6 rf o0 o1 o2 o3 o4 o5 o6 of d0 d1 d2 d3 d4 d5 d6 df x0 x1 xf y0 y1 yf; obtain ⟨⟨r0, r1, r2, r3, r4, r5, r6⟩, rf⟩ := c7 hM1.at1; obtain ⟨⟨o0, o1, o2, o3, o4, o5, o6⟩, of⟩ := c7 hM1.at0; obtain ⟨⟨d0, d1, d2, d3, d4, d5, d6⟩, df⟩ := c7 hM1.at4; obtain ⟨⟨x0, x1⟩, xf⟩ := c2 hM1.at3; obtain ⟨⟨y0, y1⟩, yf⟩ := c2 hM1.at2; have hM : Hid _ := hM1; clear hM1))
        all_goals
          go_wp2_with fail
          refine bodyPost_ret (v := .agg #[.int .i64 pr, .int .i64 xa, .int .i64 xp, .int .i64 ya, .int .i64 yp, .string F, .bool false]) (by simp [results, Tryz.results126, go_sem, r0, r1, r2, r3, r4, r5, r6]) rfl ⟨rfl, ?_⟩
          have hE := hM.out.bl
          exact (((((((hE.setCell (by show w.heap.size ≤ k; omega) _).setCell (by simp; omega) _).setCell (by simp; omega) _).setCell (by simp; omega) _).setCell (by simp; omega) _).setCell (by simp; omega) _).setCell (by simp; omega) _).setCell (by simp; omega) _
end Go.Proofs.YtfkjobiapjhacabGreat
