/- Contracts under News: the step that makes a box. Own work. -/
import Derived.Test.YtfkjobiapjhacaaGreatDoorNewsE
namespace Go.Proofs.YtfkjobiapjhacaaGreatDoor
open Go.RowKit
attribute [local go_sem ↓] Go.wp_at_zero Go.wp_at_succ

theorem config_of {B : Nat} {w : World} {v : Value} (h : NumsOk B w v) : ∃ n0 n1 n2 n3 n4 n5 n6, ∀ W, Below w.heap.size w W → Calls Tryz.prog 14 #[v] W fun e w' => e = .returned (.agg #[.int .i64 n0, .int .i64 n1, .int .i64 n2, .int .i64 n3, .int .i64 n4, .int .i64 n5, .int .i64 n6]) ∧ Below W.heap.size W w' := by
  rcases h with rfl | ⟨g, n0, n1, n2, n3, n4, n5, n6, rfl, _, h3⟩
  · exact ⟨0, 0, 0, 0, 0, 0, 0, fun W _ => config_nil W⟩
  · exact ⟨n0, n1, n2, n3, n4, n5, n6, fun W hb => config_row W g n0 n1 n2 n3 n4 n5 n6 (by rw [hb.block g (lt_of_block h3)]; exact h3)⟩

theorem cells2 {w : World} {b : Nat} {v0 v1 : Value} {t : TypeId} (h : w.heap[b]? = some (.cells #[v0, v1] t (0, 0))) : w.cell? ⟨b, 0, none⟩ = some v0 ∧ w.cell? ⟨b, 1, none⟩ = some v1 := by simp [World.cell?, h]
theorem owns_far {w : World} {wb B n : Nat} {xs : List Value} {bs : Value} {cs : Array Value} (h : w.heap[wb]? = some (.cells cs 33 (0, 0))) (ho : w.ownsRow B 46 2 bs n xs) : some wb ≠ bs.ownBlock := by
  obtain ⟨_, h2⟩ := ho
  rcases h2 with ⟨rfl, _⟩ | ⟨g', cap, cur, rfl, _, hh', _⟩
  · simp [Value.ownBlock]
  · intro e
    simp [Value.ownBlock] at e
    subst e
    rw [h] at hh'; simp at hh'
theorem grown_block {W w4 : World} {row : Option Nat} {wb : Nat} {o : Obj} (hg : W.grownBy w4 row) (hW : W.heap[wb]? = some o) (hne : some wb ≠ row) : w4.heap[wb]? = some o := by
  rw [hg.block wb (lt_of_block hW) hne]; exact hW
theorem NumsOk.alloc' {B : Nat} {w : World} {v : Value} (h : NumsOk B w v) (o : Obj) : NumsOk B (w.alloc o) v := h.keep ((Below.refl w.heap.size w).alloc (Nat.le_refl _) o) (Nat.le_refl _)
theorem NumsOk.grow {B n : Nat} {W w4 : World} {nums bs : Value} {xs : List Value} (h : NumsOk B W nums) (hg : W.drew.grownBy w4 bs.ownBlock) (ho : W.ownsRow B 46 2 bs n xs) : NumsOk B w4 nums := by
  rcases h with h | ⟨g, n0, n1, n2, n3, n4, n5, n6, h1, h2, h3⟩
  · exact Or.inl h
  · refine Or.inr ⟨g, n0, n1, n2, n3, n4, n5, n6, h1, h2, grown_block hg h3 ?_⟩
    obtain ⟨_, hq⟩ := ho
    rcases hq with ⟨rfl, _⟩ | ⟨g', cap, cur, rfl, _, hh', _⟩
    · simp [Value.ownBlock]
    · intro e
      simp [Value.ownBlock] at e
      subst e
      rw [h3] at hh'; simp at hh'
theorem NumsOk.set {B wb : Nat} {w4 : World} {nums u : Value} {cs : Array Value} {j : Nat} (h : NumsOk B w4 nums) (hw : w4.heap[wb]? = some (.cells cs 33 (0, 0))) : NumsOk B (w4.setCell ⟨wb, j, none⟩ u) nums := by
  rcases h with h | ⟨g, n0, n1, n2, n3, n4, n5, n6, h1, h2, h3⟩
  · exact Or.inl h
  · refine Or.inr ⟨g, n0, n1, n2, n3, n4, n5, n6, h1, h2, ?_⟩
    rw [Below.heap_setCell _ _ _ _ (by intro e; simp at e; subst e; rw [h3] at hw; simp at hw)]; exact h3
theorem info_box : (Tryz.prog.info? 46).map (fun i => (i.zero, i.size, i.bytes)) = some (some (.agg #[.pointer none, .pointer none]), 2, 16) := by kernel_rfl

set_option maxRecDepth 100000 in
set_option maxHeartbeats 1000000 in
theorem step_box (B wb n : Nat) (a b c : Int) (s t : ByteArray) (w : World) (hi : NInv B w wb n) (hBw : B ≤ w.heap.size) (hn : n ≤ 20000) :
    Calls Tryz.prog 11 #[.pointer (some ⟨wb, 0, none⟩), .agg #[.int .i64 2, .int .i64 a, .int .i64 b, .int .i64 c, .string s, .string t]] w fun e w' => e = .returned (.bool true) ∧ (∃ n', n' ≤ n + 1 ∧ NInv B w' wb n') ∧ Below B w w' := by
  have HI : Hid (NInv B w wb n) := hi
  obtain ⟨nums, bs, xs, h1, h2, h3, h4⟩ := hi
  obtain ⟨n0, n1, n2, n3, n4, n5, n6, hcfg⟩ := config_of h3
  have HC : Hid (∀ W, Below w.heap.size w W → Calls Tryz.prog 14 #[nums] W fun e w' => e = .returned (.agg #[.int .i64 n0, .int .i64 n1, .int .i64 n2, .int .i64 n3, .int .i64 n4, .int .i64 n5, .int .i64 n6]) ∧ Below W.heap.size W w') := hcfg
  clear hcfg
  obtain ⟨⟨c0, c1, c2, c3, c4⟩, cf⟩ := cells5 h2
  have hlt := lt_of_block h2
  have H2 : Hid (w.heap[wb]? = some (.cells #[nums, bs, .slice none 0 0, .slice none 0 0, .int .i64 2] 33 (0, 0))) := h2
  have H3 : Hid (NumsOk B w nums) := h3
  have H4 : Hid (w.ownsRow B 46 2 bs n xs) := h4
  clear h2 h3 h4
  cases hv : validB n0 n1 n2 n3 n4 n5 n6
  · go_enter Tryz.func11, Tryz.ntmps11
    go_wp2_with (first
      | (go_at_call 14; refine (HC.out _ ((Below.refl _ _).alloc (Nat.le_refl _) _)).mono ?_; rintro e w1 ⟨rfl, hb1⟩; obtain ⟨hc1, hf1⟩ := bcell hb1; have hz1 : w.heap.size < w1.heap.size := below_lt hb1)
      | (go_at_call 15; refine (made_no n0 n1 n2 n3 n4 n5 n6 _ hv).mono ?_; rintro e w2 ⟨rfl, hb2⟩))
    go_ret
    have hX : Below w.heap.size w w2 := ((Below.refl _ _).alloc (Nat.le_refl _) _).trans ((hb1.mono (by simp)).trans (((Below.refl _ _).alloc (by omega) _).trans (hb2.mono (by simp; omega))))
    exact ⟨rfl, ⟨n, by omega, HI.out.keep hX (Nat.le_refl _)⟩, hX.mono hBw⟩
  · go_enter Tryz.func11, Tryz.ntmps11
    go_wp2_with (first
      | (go_at_call 14; refine (HC.out _ ((Below.refl _ _).alloc (Nat.le_refl _) _)).mono ?_; rintro e w1 ⟨rfl, hb1⟩; obtain ⟨hc1, hf1⟩ := bcell hb1; have hz1 : w.heap.size < w1.heap.size := below_lt hb1)
      | (go_at_call 15; refine (made_ok n0 n1 n2 n3 n4 n5 n6 _ hv).mono ?_; rintro e w2 ⟨bb, x, m, rfl, hbb1, hbb2, hbb3, hb2⟩))
    have hX : Below w.heap.size w w2 := ((Below.refl _ _).alloc (Nat.le_refl _) _).trans ((hb1.mono (by simp)).trans (((Below.refl _ _).alloc (by omega) _).trans (hb2.mono (by simp; omega))))
    have K2 : w2.heap[wb]? = some (.cells #[nums, bs, .slice none 0 0, .slice none 0 0, .int .i64 2] 33 (0, 0)) := by rw [hX.block wb hlt]; exact H2.out
    have O2 := owns_keep H4.out hX (Nat.le_refl _)
    have N2 := H3.out.keep hX (Nat.le_refl _)
    have hw1 : wb < w2.heap.size := lt_of_block K2
    have hBw2 : B ≤ w2.heap.size := by have := hX.size; omega
    clear hc1 hf1 c0 c1 c2 c3 c4 cf hb1 hb2 hbb1 HI HC H2 H3 H4
    obtain ⟨⟨c0, c1, c2, c3, c4⟩, cf⟩ := cells5 K2
    obtain ⟨e0, e1⟩ := cells2 hbb3
    have hne := owns_far K2 O2
    have KK : Hid (w2.heap[wb]? = some (.cells #[nums, bs, .slice none 0 0, .slice none 0 0, .int .i64 2] 33 (0, 0))) := K2
    have OO : Hid (w2.ownsRow B 46 2 bs n xs) := O2
    have NN : Hid (NumsOk B w2 nums) := N2
    have XX : Hid (Below w.heap.size w w2) := hX
    have NE : Hid (some wb ≠ bs.ownBlock) := hne
    clear K2 O2 N2 hX hbb3 hne
    obtain ⟨i0, hi0, hz0, hz1, hz2⟩ := info_parts info_box
    go_region_law ((refine step_append_lies _ (by rfl) (.tmp 63) (.tmp 67) 30 (by rfl) B 46 i0 _ 2 16 Tryz.underlying30 hi0 hz0 hz1 hz2 (by rfl) (by decide) bs n xs (by simp [Act.eval]) (by exact OO.out.alloc _) ⟨w2.heap.size, 0, none⟩ 1 1 [.pointer (some ⟨x, 0, none⟩), .pointer (some ⟨m, 0, none⟩)] (by simp [Act.eval]) (by rfl) (by exact World.news_of_block (heap_alloc_new w2 _)) (by intro u hu; simp at hu; rcases hu with rfl | rfl <;> rfl) (by decide) (by unfold maxLen; omega) (by omega) (by simp; omega) (w2.heap.size + 1) (by simp) ?_; intro g cap w4 hown4 hgrow hat hlt4; have K4 := grown_block hgrow (wb := wb) (by exact (Below.heap_alloc w2 _ _ hw1).trans KK.out) NE.out; obtain ⟨⟨f0, f1, f2, f3, f4⟩, ff⟩ := cells5 K4; clear f0 f2 f3 f4; have KW : Hid (w4.heap[wb]? = some (.cells #[nums, bs, .slice none 0 0, .slice none 0 0, .int .i64 2] 33 (0, 0))) := K4; clear K4))
    all_goals
      go_wp2
      go_ret
      refine ⟨rfl, ⟨n + 1, by omega, nums, .slice (some ⟨g, 0, none⟩) (n + 1) cap, xs ++ [.pointer (some ⟨x, 0, none⟩), .pointer (some ⟨m, 0, none⟩)], h1, ?_, ?_, ?_⟩, ?_⟩
      · rw [heap_set _ _ _ _ _ _ _ KW.out]; rfl
      · exact ((NN.out.alloc' _).grow hgrow (OO.out.alloc _)).set KW.out
      · exact ownsRow_setCell_other hown4 (by have := owns_far KW.out hown4; exact fun e => this e.symm) _
      · exact (((XX.out.mono hBw).alloc hBw2 _).drew.grown hgrow (by simp; omega) (fun k e => ((OO.out.lt) k e).1)).setCell h1 _
end Go.Proofs.YtfkjobiapjhacaaGreatDoor
