/- Contracts under News: step, for the kinds that News plays. Own work. -/
--%def OP(k) .agg #[.int .i64 k, .int .i64 a, .int .i64 b, .int .i64 c, .string s, .string t]
import Derived.Test.YtfkjobiapjhacaaGreatDoorNewsD
import Derived.Deep.RegionLaw
namespace Go.Proofs.YtfkjobiapjhacaaGreatDoor
open Go.RowKit
attribute [local go_sem ↓] Go.wp_at_zero Go.wp_at_succ

/-- The numbers of a configuration in memory: none yet, or seven. -/
def NumsOk (B : Nat) (w : World) (v : Value) : Prop :=
  v = .slice none 0 0 ∨ ∃ g n0 n1 n2 n3 n4 n5 n6, v = .slice (some ⟨g, 0, none⟩) 7 7 ∧ B ≤ g ∧ w.heap[g]? = some (.cells #[.int .i64 n0, .int .i64 n1, .int .i64 n2, .int .i64 n3, .int .i64 n4, .int .i64 n5, .int .i64 n6] 3 (0, 0))

/-- What News knows of its world's block: no list was handed out; n boxes. -/
def NInv (B : Nat) (w : World) (wb n : Nat) : Prop :=
  ∃ nums bs xs, B ≤ wb ∧ w.heap[wb]? = some (.cells #[nums, bs, .slice none 0 0, .slice none 0 0, .int .i64 2] 33 (0, 0)) ∧ NumsOk B w nums ∧ w.ownsRow B 46 2 bs n xs

theorem cells5 {w : World} {b : Nat} {v0 v1 v2 v3 v4 : Value} {t : TypeId} (h : w.heap[b]? = some (.cells #[v0, v1, v2, v3, v4] t (0, 0))) :
    (w.cell? ⟨b, 0, none⟩ = some v0 ∧ w.cell? ⟨b, 1, none⟩ = some v1 ∧ w.cell? ⟨b, 2, none⟩ = some v2 ∧ w.cell? ⟨b, 3, none⟩ = some v3 ∧ w.cell? ⟨b, 4, none⟩ = some v4) ∧ (∀ j, w.frozen? ⟨b, j, none⟩ = false) := by
  constructor
  · simp [World.cell?, h]
  · intro j; simp [World.frozen?, h]

theorem NumsOk.keep {B B' : Nat} {w w' : World} {v : Value} (h : NumsOk B w v) (hb : Below B' w w') (hB : w.heap.size ≤ B') : NumsOk B w' v := by
  rcases h with h | ⟨g, n0, n1, n2, n3, n4, n5, n6, h1, h2, h3⟩
  · exact Or.inl h
  · exact Or.inr ⟨g, n0, n1, n2, n3, n4, n5, n6, h1, h2, by rw [hb.block g (by have := lt_of_block h3; omega)]; exact h3⟩
theorem owns_keep {B B' : Nat} {w w' : World} {e : TypeId} {size n : Nat} {v : Value} {xs : List Value} (h : w.ownsRow B e size v n xs) (hb : Below B' w w') (hB : w.heap.size ≤ B') : w'.ownsRow B e size v n xs := by
  obtain ⟨h1, h2⟩ := h
  refine ⟨h1, ?_⟩
  rcases h2 with h2 | ⟨g, cap, cur, hv, hg, hh, r⟩
  · exact Or.inl h2
  · exact Or.inr ⟨g, cap, cur, hv, hg, by rw [hb.block g (by have := lt_of_block hh; omega)]; exact hh, r⟩
theorem NInv.keep {B B' : Nat} {w w' : World} {wb n : Nat} (h : NInv B w wb n) (hb : Below B' w w') (hB : w.heap.size ≤ B') : NInv B w' wb n := by
  obtain ⟨nums, bs, xs, h1, h2, h3, h4⟩ := h
  exact ⟨nums, bs, xs, h1, by rw [hb.block wb (by have := lt_of_block h2; omega)]; exact h2, h3.keep hb hB, owns_keep h4 hb hB⟩

set_option maxRecDepth 100000 in
set_option maxHeartbeats 1000000 in
theorem step_put (B wb n : Nat) (a b c : Int) (s t : ByteArray) (w : World) (hi : NInv B w wb n) (hBw : B ≤ w.heap.size) :
    Calls Tryz.prog 11 #[.pointer (some ⟨wb, 0, none⟩), .agg #[.int .i64 8, .int .i64 a, .int .i64 b, .int .i64 c, .string s, .string t]] w fun e w' => e = .returned (.bool true) ∧ NInv B w' wb n ∧ Below B w w' := by
  have HI : Hid (NInv B w wb n) := hi
  obtain ⟨nums, bs, xs, h1, h2, h3, h4⟩ := hi
  obtain ⟨⟨c0, c1, c2, c3, c4⟩, cf⟩ := cells5 h2
  have hlt := lt_of_block h2
  clear h2 h3 h4
  go_enter Tryz.func11, Tryz.ntmps11
  go_wp2
  go_ret
  have hb : Below w.heap.size w (w.alloc (.cells #[.int .i64 8, .int .i64 a, .int .i64 b, .int .i64 c, .string s, .string t] 27)) := (Below.refl _ _).alloc (Nat.le_refl _) _
  exact ⟨rfl, HI.out.keep hb (Nat.le_refl _), hb.mono hBw⟩

/-- Seven numbers in a block, by index. -/
def Row7 (w : World) (g : Nat) : Prop := ∃ arr : Array Value, arr.size = 7 ∧ (∀ i, i < 7 → ∃ n, arr[i]? = some (.int .i64 n)) ∧ w.heap[g]? = some (.cells arr 3 (0, 0))
theorem Row7.lits {w : World} {g : Nat} (h : Row7 w g) : ∃ n0 n1 n2 n3 n4 n5 n6, w.heap[g]? = some (.cells #[.int .i64 n0, .int .i64 n1, .int .i64 n2, .int .i64 n3, .int .i64 n4, .int .i64 n5, .int .i64 n6] 3 (0, 0)) := by
  obtain ⟨arr, hs, hi, hh⟩ := h
  obtain ⟨n0, e0⟩ := hi 0 (by decide)
  obtain ⟨n1, e1⟩ := hi 1 (by decide)
  obtain ⟨n2, e2⟩ := hi 2 (by decide)
  obtain ⟨n3, e3⟩ := hi 3 (by decide)
  obtain ⟨n4, e4⟩ := hi 4 (by decide)
  obtain ⟨n5, e5⟩ := hi 5 (by decide)
  obtain ⟨n6, e6⟩ := hi 6 (by decide)
  refine ⟨n0, n1, n2, n3, n4, n5, n6, ?_⟩
  rw [hh]
  congr 2
  apply Array.ext_getElem?
  intro i
  match i with
  | 0 => exact e0
  | 1 => exact e1
  | 2 => exact e2
  | 3 => exact e3
  | 4 => exact e4
  | 5 => exact e5
  | 6 => exact e6
  | k + 7 => rw [Array.getElem?_eq_none (by omega), Array.getElem?_eq_none (by simp)]
theorem row7_of {w : World} {g : Nat} {n0 n1 n2 n3 n4 n5 n6 : Int} (h : w.heap[g]? = some (.cells #[.int .i64 n0, .int .i64 n1, .int .i64 n2, .int .i64 n3, .int .i64 n4, .int .i64 n5, .int .i64 n6] 3 (0, 0))) : Row7 w g := by
  refine ⟨_, rfl, ?_, h⟩
  intro i hi
  match i, hi with
  | 0, _ => exact ⟨_, rfl⟩
  | 1, _ => exact ⟨_, rfl⟩
  | 2, _ => exact ⟨_, rfl⟩
  | 3, _ => exact ⟨_, rfl⟩
  | 4, _ => exact ⟨_, rfl⟩
  | 5, _ => exact ⟨_, rfl⟩
  | 6, _ => exact ⟨_, rfl⟩
  | k + 7, h => omega
theorem Row7.cell {w : World} {g j : Nat} (h : Row7 w g) (hj : j < 7) : ∃ n, w.cell? ⟨g, j, none⟩ = some (.int .i64 n) := by
  obtain ⟨arr, hs, hi, hh⟩ := h
  obtain ⟨n, e⟩ := hi j hj
  exact ⟨n, by simp [World.cell?, hh, e]⟩
theorem Row7.free {w : World} {g : Nat} (h : Row7 w g) (j : Nat) : w.frozen? ⟨g, j, none⟩ = false := by
  obtain ⟨arr, hs, hi, hh⟩ := h
  simp [World.frozen?, hh]
theorem heap_set (w : World) (g j : Nat) (u : Value) (cur : Array Value) (t : TypeId) (fr : Nat × Nat) (h : w.heap[g]? = some (.cells cur t fr)) : (w.setCell ⟨g, j, none⟩ u).heap[g]? = some (.cells (cur.setIfInBounds j u) t fr) := by
  rw [setCell_eq_setRow w g j cur t fr u h]; exact setRow_heap w g cur _ t fr h
theorem Row7.set {w : World} {g j : Nat} (h : Row7 w g) (n : Int) : Row7 (w.setCell ⟨g, j, none⟩ (.int .i64 n)) g := by
  obtain ⟨arr, hs, hi, hh⟩ := h
  refine ⟨_, by simpa using hs, ?_, heap_set w g j _ arr _ _ hh⟩
  intro i hi'
  rw [Array.getElem?_setIfInBounds]
  split
  · split
    · exact ⟨_, rfl⟩
    · omega
  · exact hi i hi'

theorem op_cells {w : World} {b : Nat} {v0 v1 v2 v3 v4 v5 : Value} {t : TypeId} (h : w.heap[b]? = some (.cells #[v0, v1, v2, v3, v4, v5] t (0, 0))) :
    w.cell? ⟨b, 1, none⟩ = some v1 ∧ w.cell? ⟨b, 2, none⟩ = some v2 := by simp [World.cell?, h]
/-- In the midst of a step that sets a number: the world's block, the seven numbers, the boxes, the step itself in a block of its own. -/
structure Mid (B : Nat) (w W : World) (wb g n : Nat) (bs : Value) (xs : List Value) (op : Array Value) : Prop where
  hB : B ≤ wb
  hBw : B ≤ w.heap.size
  world : W.heap[wb]? = some (.cells #[.slice (some ⟨g, 0, none⟩) 7 7, bs, .slice none 0 0, .slice none 0 0, .int .i64 2] 33 (0, 0))
  row : Row7 W g
  hg : B ≤ g
  owns : W.ownsRow B 46 2 bs n xs
  below : Below B w W
  op : W.heap[w.heap.size]? = some (.cells op 27 (0, 0))

theorem Mid.apart {B : Nat} {w W : World} {wb g n : Nat} {bs : Value} {xs : List Value} {op : Array Value} (h : Mid B w W wb g n bs xs op) : g ≠ wb ∧ g ≠ w.heap.size := by
  obtain ⟨arr, hs, hi, hh⟩ := h.row
  constructor
  · intro e; subst e; rw [h.world] at hh; simp at hh
  · intro e; subst e; rw [h.op] at hh; simp at hh

theorem Mid.set {B : Nat} {w W : World} {wb g n : Nat} {bs : Value} {xs : List Value} {op : Array Value} (h : Mid B w W wb g n bs xs op) (j : Nat) (b : Int) :
    NInv B (W.drew.setCell ⟨g, j, none⟩ (.int .i64 b)) wb n ∧ Below B w (W.drew.setCell ⟨g, j, none⟩ (.int .i64 b)) := by
  obtain ⟨arr, hs, hi, hh⟩ := h.row
  have hne : wb ≠ g := by
    intro e; subst e; rw [h.world] at hh; simp at hh
  have hrow : Row7 (W.drew.setCell ⟨g, j, none⟩ (.int .i64 b)) g := Row7.set (w := W.drew) h.row b
  obtain ⟨n0, n1, n2, n3, n4, n5, n6, hl⟩ := hrow.lits
  refine ⟨⟨_, bs, xs, h.hB, ?_, Or.inr ⟨g, n0, n1, n2, n3, n4, n5, n6, rfl, h.hg, hl⟩, ?_⟩, h.below.drew.setCell h.hg _⟩
  · rw [Below.heap_setCell _ _ _ _ hne]; exact h.world
  · refine ownsRow_setCell_other (w := W.drew) h.owns ?_ _
    obtain ⟨_, h2⟩ := h.owns
    rcases h2 with ⟨rfl, _⟩ | ⟨g', cap, cur, rfl, _, hh', _⟩
    · simp [Value.ownBlock]
    · intro e
      simp [Value.ownBlock] at e
      subst e
      rw [hh] at hh'; simp at hh'

set_option maxRecDepth 100000 in
set_option maxHeartbeats 1000000 in
theorem step_num (B wb n : Nat) (a b c : Int) (s t : ByteArray) (w : World) (hi : NInv B w wb n) (hBw : B ≤ w.heap.size) (ha0 : -9223372036854775808 ≤ a) (ha1 : a ≤ 9223372036854775807) :
    Calls Tryz.prog 11 #[.pointer (some ⟨wb, 0, none⟩), .agg #[.int .i64 1, .int .i64 a, .int .i64 b, .int .i64 c, .string s, .string t]] w fun e w' => e = .returned (.bool true) ∧ NInv B w' wb n ∧ Below B w w' := by
  have hmk : ∀ w, (Instr.makeSlice 24 (.int .i64 7) (.int .i64 7)).run Tryz.prog w = .ok (.slice (some ⟨w.heap.size, 0, none⟩) 7 7) (w.alloc (.cells #[.int .i64 0, .int .i64 0, .int .i64 0, .int .i64 0, .int .i64 0, .int .i64 0, .int .i64 0] 3)) := fun _ => by kernel_rfl
  obtain ⟨j, hj, hj7⟩ : ∃ j : Nat, pickI a 7 = j ∧ j < 7 := by
    obtain ⟨p1, p2⟩ := pickI_bd a 7 (by decide)
    obtain ⟨j, e⟩ := Int.eq_ofNat_of_zero_le p1
    exact ⟨j, e, by omega⟩
  have hpk : ∀ w, Calls Tryz.prog 13 #[.int .i64 a, .int .i64 7] w fun e w' => e = .returned (.int .i64 (j : Int)) ∧ w' = w := fun w => by
    rw [← hj]; exact pick_any a 7 w ha0 ha1 (by decide) (by decide)
  have HP : Hid (∀ w, Calls Tryz.prog 13 #[.int .i64 a, .int .i64 7] w fun e w' => e = .returned (.int .i64 (j : Int)) ∧ w' = w) := hpk
  clear hpk hj
  have hj0 : (0 : Int) ≤ (j : Int) := by omega
  have hj1 : (j : Int) < 7 := by omega
  obtain ⟨nums, bs, xs, h1, h2, h3, h4⟩ := hi
  obtain ⟨⟨c0, c1, c2, c3, c4⟩, cf⟩ := cells5 h2
  have hlt := lt_of_block h2
  have H2 : Hid (w.heap[wb]? = some (.cells #[nums, bs, .slice none 0 0, .slice none 0 0, .int .i64 2] 33 (0, 0))) := h2
  have H3 : Hid (NumsOk B w nums) := h3
  have H4 : Hid (w.ownsRow B 46 2 bs n xs) := h4
  clear h2 h4
  rcases h3 with rfl | ⟨g, n0, n1, n2, n3, n4, n5, n6, rfl, hg1, hg2⟩
  · obtain ⟨W, hW, hM⟩ : ∃ W, W = ((w.setCell ⟨wb, 0, none⟩ (.slice (some ⟨w.heap.size + 1, 0, none⟩) 7 7)).alloc (.cells #[.int .i64 1, .int .i64 a, .int .i64 b, .int .i64 c, .string s, .string t] 27)).alloc (.cells #[.int .i64 0, .int .i64 0, .int .i64 0, .int .i64 0, .int .i64 0, .int .i64 0, .int .i64 0] 3) ∧
        Mid B w W wb (w.heap.size + 1) n bs xs #[.int .i64 1, .int .i64 a, .int .i64 b, .int .i64 c, .string s, .string t] := by
      refine ⟨_, rfl, h1, hBw, ?_, ?_, by omega, ?_, ?_, ?_⟩
      · rw [Below.heap_alloc _ _ _ (by simp; omega), Below.heap_alloc _ _ _ (by simpa using hlt), heap_set _ _ _ _ _ _ _ H2.out]; rfl
      · have := heap_alloc_new ((w.setCell ⟨wb, 0, none⟩ (.slice (some ⟨w.heap.size + 1, 0, none⟩) 7 7)).alloc (.cells #[.int .i64 1, .int .i64 a, .int .i64 b, .int .i64 c, .string s, .string t] 27)) (.cells #[.int .i64 0, .int .i64 0, .int .i64 0, .int .i64 0, .int .i64 0, .int .i64 0, .int .i64 0] 3)
        simp only [World.size_alloc, World.size_setCell] at this
        exact row7_of this
      · refine World.ownsRow.alloc (World.ownsRow.alloc (ownsRow_setCell_other H4.out ?_ _) _) _
        obtain ⟨_, hq⟩ := H4.out
        rcases hq with ⟨rfl, _⟩ | ⟨g', cap, cur, rfl, _, hh', _⟩
        · simp [Value.ownBlock]
        · intro e
          simp [Value.ownBlock] at e
          subst e
          have := H2.out
          rw [hh'] at this; simp at this
      · exact (((Below.refl B w).setCell h1 _).alloc (by simpa using hBw) _).alloc (by simp; omega) _
      · rw [Below.heap_alloc _ _ _ (by simp)]
        have := heap_alloc_new (w.setCell ⟨wb, 0, none⟩ (.slice (some ⟨w.heap.size + 1, 0, none⟩) 7 7)) (.cells #[.int .i64 1, .int .i64 a, .int .i64 b, .int .i64 c, .string s, .string t] 27)
        simpa using this
    have HM : Hid (Mid B w W wb (w.heap.size + 1) n bs xs #[.int .i64 1, .int .i64 a, .int .i64 b, .int .i64 c, .string s, .string t]) := hM
    have HW : Hid (W = ((w.setCell ⟨wb, 0, none⟩ (.slice (some ⟨w.heap.size + 1, 0, none⟩) 7 7)).alloc (.cells #[.int .i64 1, .int .i64 a, .int .i64 b, .int .i64 c, .string s, .string t] 27)).alloc (.cells #[.int .i64 0, .int .i64 0, .int .i64 0, .int .i64 0, .int .i64 0, .int .i64 0, .int .i64 0] 3)) := hW
    clear hW hM
    go_enter Tryz.func11, Tryz.ntmps11
    go_wp2_with fail
    rw [← HW.out]
    clear c0 c1 c2 c3 c4 cf HW H2 H3 H4 hmk hlt
    obtain ⟨⟨c0, c1, c2, c3, c4⟩, cf⟩ := cells5 HM.out.world
    obtain ⟨nj, hcj⟩ := HM.out.row.cell hj7
    have hfj := HM.out.row.free j
    obtain ⟨d1, d2⟩ := op_cells HM.out.op
    obtain ⟨hx1, hx2⟩ := HM.out.apart
    go_region_held3 (fun w' => w'.cell? ⟨wb, 0, none⟩ = W.cell? ⟨wb, 0, none⟩ ∧ w'.cell? ⟨w.heap.size, 1, none⟩ = some (.int .i64 a) ∧ w'.cell? ⟨w.heap.size, 2, none⟩ = some (.int .i64 b)) (simp [*, World.cell?_setCell_far]) ((go_at_call 13; refine (HP.out _).mono ?_; rintro e w' ⟨rfl, rfl⟩)); go_wp2
    go_ret
    exact ⟨rfl, HM.out.set j b⟩
  · obtain ⟨W, hW, hM⟩ : ∃ W, W = w.alloc (.cells #[.int .i64 1, .int .i64 a, .int .i64 b, .int .i64 c, .string s, .string t] 27) ∧
        Mid B w W wb g n bs xs #[.int .i64 1, .int .i64 a, .int .i64 b, .int .i64 c, .string s, .string t] := by
      refine ⟨_, rfl, h1, hBw, ?_, ?_, hg1, H4.out.alloc _, (Below.refl B w).alloc hBw _, heap_alloc_new _ _⟩
      · rw [Below.heap_alloc _ _ _ hlt]; exact H2.out
      · exact row7_of (by rw [Below.heap_alloc _ _ _ (lt_of_block hg2)]; exact hg2)
    have HM : Hid (Mid B w W wb g n bs xs #[.int .i64 1, .int .i64 a, .int .i64 b, .int .i64 c, .string s, .string t]) := hM
    have HW : Hid (W = w.alloc (.cells #[.int .i64 1, .int .i64 a, .int .i64 b, .int .i64 c, .string s, .string t] 27)) := hW
    clear hW hM hg2
    go_enter Tryz.func11, Tryz.ntmps11
    go_wp2_with fail
    rw [← HW.out]
    clear c0 c1 c2 c3 c4 cf HW H2 H3 H4 hmk hlt
    obtain ⟨⟨c0, c1, c2, c3, c4⟩, cf⟩ := cells5 HM.out.world
    obtain ⟨nj, hcj⟩ := HM.out.row.cell hj7
    have hfj := HM.out.row.free j
    obtain ⟨d1, d2⟩ := op_cells HM.out.op
    obtain ⟨hx1, hx2⟩ := HM.out.apart
    go_region_held3 (fun w' => w'.cell? ⟨wb, 0, none⟩ = W.cell? ⟨wb, 0, none⟩ ∧ w'.cell? ⟨w.heap.size, 1, none⟩ = some (.int .i64 a) ∧ w'.cell? ⟨w.heap.size, 2, none⟩ = some (.int .i64 b)) (simp [*, World.cell?_setCell_far]) ((go_at_call 13; refine (HP.out _).mono ?_; rintro e w' ⟨rfl, rfl⟩)); go_wp2
    go_ret
    exact ⟨rfl, HM.out.set j b⟩
end Go.Proofs.YtfkjobiapjhacaaGreatDoor
