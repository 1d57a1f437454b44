/- Common facts of worlds and blocks. Own work. -/
import Derived.Test.YtfkjobiapjhacabGreatGwB
namespace Go.Proofs.YtfkjobiapjhacabGreat
open Go.RowKit
attribute [local go_sem ↓] Go.wp_at_zero Go.wp_at_succ

theorem bcell' {W w1 : World} (hb : Below W.heap.size W w1) : (∀ b o, b < W.heap.size → w1.cell? ⟨b, o, none⟩ = W.cell? ⟨b, o, none⟩) ∧ (∀ b o, b < W.heap.size → w1.frozen? ⟨b, o, none⟩ = W.frozen? ⟨b, o, none⟩) :=
  ⟨fun b o h => hb.cell (p := ⟨b, o, none⟩) h, fun b o h => hb.frozen (p := ⟨b, o, none⟩) h⟩
theorem below_lt' {w W w1 : World} (hb : Below W.heap.size W w1) (h : w.heap.size < W.heap.size := by simp) : w.heap.size < w1.heap.size := Nat.lt_of_lt_of_le h hb.size

theorem g_bool {a b : Bool} (h : a = b) : Ending.returned (.bool a) = .returned (.bool b) := by rw [h]
theorem foldI_bd (n : Int) : 0 ≤ foldI n ∧ foldI n ≤ 65535 := by
  unfold foldI; split
  · omega
  · have := Int.emod_nonneg (n - 1) (b := 65535) (by decide); have := Int.emod_lt_of_pos (n - 1) (b := 65535) (by decide); omega
theorem sumI_bd (s : ByteArray) : 0 ≤ sumI s ∧ sumI s ≤ 65535 := foldI_bd _

theorem size_addr (s : ByteArray) (i : Nat) (a : Int) (h : i + 4 ≤ s.size) : (putAddr s i a).size = s.size := by
  unfold putAddr
  have := size_put s i (a / 65536) (by omega)
  rw [size_put _ _ _ (by omega), this]

/-! Blocks of a world, by what was done to it. -/
theorem hget_alloc (w : World) (o : Obj) (k : Nat) : (w.alloc o).heap[k]? = if k = w.heap.size then some o else w.heap[k]? := by
  show (w.heap.push o)[k]? = _
  rw [Array.getElem?_push]
theorem hget_set (w : World) (g j k : Nat) (u : Value) (c : Array Value) (t : TypeId) (h : w.heap[g]? = some (.cells c t (0, 0))) : (w.setCell ⟨g, j, none⟩ u).heap[k]? = if k = g then some (.cells (c.setIfInBounds j u) t (0, 0)) else w.heap[k]? := by
  by_cases e : k = g
  · subst e
    rw [if_pos rfl, setCell_eq_setRow w k j c t (0, 0) u h]; exact setRow_heap w k c _ t (0, 0) h
  · rw [if_neg e, Below.heap_setCell _ _ _ _ e]
theorem blk {W w1 : World} {B : Nat} {o : Obj} (hb : Below W.heap.size W w1) (h : W.heap[B]? = some o) : w1.heap[B]? = some o := by
  rw [hb.block B (lt_of_block h)]; exact h
theorem c6 {w : World} {b : Nat} {v0 v1 v2 v3 v4 v5 : Value} {t : TypeId} (h : w.heap[b]? = some (.cells #[v0, v1, v2, v3, v4, v5] t (0, 0))) :
    (w.cell? ⟨b, 0, none⟩ = some v0 ∧ w.cell? ⟨b, 1, none⟩ = some v1 ∧ w.cell? ⟨b, 2, none⟩ = some v2 ∧ w.cell? ⟨b, 3, none⟩ = some v3 ∧ w.cell? ⟨b, 4, none⟩ = some v4 ∧ w.cell? ⟨b, 5, none⟩ = some v5) ∧ (∀ j, w.frozen? ⟨b, j, none⟩ = false) := by
  constructor
  · simp [World.cell?, h]
  · intro j; simp [World.frozen?, h]

theorem c7 {w : World} {b : Nat} {v0 v1 v2 v3 v4 v5 v6 : Value} {t : TypeId} (h : w.heap[b]? = some (.cells #[v0, v1, v2, v3, v4, v5, v6] t (0, 0))) :
    (w.cell? ⟨b, 0, none⟩ = some v0 ∧ w.cell? ⟨b, 1, none⟩ = some v1 ∧ w.cell? ⟨b, 2, none⟩ = some v2 ∧ w.cell? ⟨b, 3, none⟩ = some v3 ∧ w.cell? ⟨b, 4, none⟩ = some v4 ∧ w.cell? ⟨b, 5, none⟩ = some v5 ∧ w.cell? ⟨b, 6, none⟩ = some v6) ∧ (∀ j, w.frozen? ⟨b, j, none⟩ = false) := by
  constructor
  · simp [World.cell?, h]
  · intro j; simp [World.frozen?, h]

/-- What sealed knows of its memory between two calls. -/
structure SealMid (w w1 : World) (d : Array Value) : Prop where
  dg : w1.heap[w.heap.size]? = some (.cells d 106 (0, 0))
  rs : w1.heap[w.heap.size + 1]? = some (.cells #[.int .i64 0, .int .i64 0, .int .i64 0, .int .i64 0, .int .i64 0, .string ⟨#[]⟩, .bool false] 106 (0, 0))
  bl : Below w.heap.size w w1
theorem SealMid.call {w w1 w2 : World} {d : Array Value} (h : SealMid w w1 d) (hb : Below w1.heap.size w1 w2) : SealMid w w2 d :=
  ⟨blk hb h.dg, blk hb h.rs, h.bl.trans (hb.mono h.bl.size)⟩
theorem SealMid.start (w : World) (d : Array Value) : SealMid w ((w.alloc (.cells d 106)).alloc (.cells #[.int .i64 0, .int .i64 0, .int .i64 0, .int .i64 0, .int .i64 0, .string ⟨#[]⟩, .bool false] 106)) d :=
  ⟨by rw [hget_alloc, if_neg (by simp), hget_alloc, if_pos rfl], by rw [hget_alloc, if_pos (by simp)], ((Below.refl _ _).alloc (Nat.le_refl _) _).alloc (by simp) _⟩
theorem SealMid.store {w w1 : World} {d : Array Value} (h : SealMid w w1 d) (j : Nat) (u : Value) : SealMid w (w1.setCell ⟨w.heap.size, j, none⟩ u) (d.setIfInBounds j u) :=
  ⟨by rw [hget_set _ _ _ _ _ _ _ h.dg, if_pos rfl], by rw [hget_set _ _ _ _ _ _ _ h.dg, if_neg (by omega)]; exact h.rs, h.bl.setCell (Nat.le_refl _) _⟩

theorem SealMid.drew {w w1 : World} {d : Array Value} (h : SealMid w w1 d) : SealMid w w1.drew d := ⟨h.dg, h.rs, h.bl.drew⟩
theorem c5 {w : World} {b : Nat} {v0 v1 v2 v3 v4 : Value} {t : TypeId} (h : w.heap[b]? = some (.cells #[v0, v1, v2, v3, v4] t (0, 0))) :
    (w.cell? ⟨b, 0, none⟩ = some v0 ∧ w.cell? ⟨b, 1, none⟩ = some v1 ∧ w.cell? ⟨b, 2, none⟩ = some v2 ∧ w.cell? ⟨b, 3, none⟩ = some v3 ∧ w.cell? ⟨b, 4, none⟩ = some v4) ∧ (∀ j, w.frozen? ⟨b, j, none⟩ = false) := by
  constructor
  · simp [World.cell?, h]
  · intro j; simp [World.frozen?, h]


theorem c2 {w : World} {b : Nat} {v0 v1 : Value} {t : TypeId} (h : w.heap[b]? = some (.cells #[v0, v1] t (0, 0))) :
    (w.cell? ⟨b, 0, none⟩ = some v0 ∧ w.cell? ⟨b, 1, none⟩ = some v1) ∧ (∀ j, w.frozen? ⟨b, j, none⟩ = false) := by
  constructor
  · simp [World.cell?, h]
  · intro j; simp [World.frozen?, h]

end Go.Proofs.YtfkjobiapjhacabGreat
