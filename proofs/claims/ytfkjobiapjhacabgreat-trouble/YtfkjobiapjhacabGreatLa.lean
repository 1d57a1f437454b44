/- Lists in memory, and packets. Own work. -/
import Derived.Test.YtfkjobiapjhacabGreatGwZ
namespace Go.Proofs.YtfkjobiapjhacabGreat
open Go.RowKit
attribute [local go_sem ↓] Go.wp_at_zero Go.wp_at_succ

theorem fcells_length {α : Type} {n : Nat} {cells : α → List Value} (hc : ∀ a, (cells a).length = n) (l : List α) : (l.flatMap cells).length = l.length * n := by
  induction l with
  | nil => simp
  | cons o r ih => rw [List.flatMap_cons, List.length_append, ih, hc, List.length_cons, Nat.succ_mul]; omega
theorem fcells_at {α : Type} {n : Nat} {cells : α → List Value} (hc : ∀ a, (cells a).length = n) (l : List α) (i j : Nat) (h : i < l.length) (hj : j < n) : (l.flatMap cells)[i * n + j]? = (cells l[i])[j]? := by
  induction l generalizing i with
  | nil => simp at h
  | cons o r ih =>
    rw [List.flatMap_cons]
    cases i with
    | zero => rw [List.getElem?_append_left (by rw [hc]; omega)]; simp
    | succ i =>
      have e : (i + 1) * n + j = (cells o).length + (i * n + j) := by rw [hc, Nat.succ_mul]; omega
      rw [e, List.getElem?_append_right (by omega), Nat.add_sub_cancel_left, ih i (by simpa using h)]
      simp
theorem cell_set_lt {w : World} {k j b o : Nat} {u : Value} (h : b < k) : (w.setCell ⟨k, j, none⟩ u).cell? ⟨b, o, none⟩ = w.cell? ⟨b, o, none⟩ := ((Below.refl k w).setCell (Nat.le_refl k) u).cell (p := ⟨b, o, none⟩) h
theorem cell_alloc_lt {w : World} {b o : Nat} {ob : Obj} (h : b < w.heap.size) : (w.alloc ob).cell? ⟨b, o, none⟩ = w.cell? ⟨b, o, none⟩ := ((Below.refl w.heap.size w).alloc (Nat.le_refl _) ob).cell (p := ⟨b, o, none⟩) h
/-- A list lies in memory, n cells a thing. -/
def LsAt {α : Type} (w : World) (t : TypeId) (n : Nat) (cells : α → List Value) (v : Value) (l : List α) : Prop :=
  ∃ ao cap, v = .slice ao l.length cap ∧ (l ≠ [] → ∃ g cur, ao = some ⟨g, 0, none⟩ ∧ w.heap[g]? = some (.cells cur t (0, 0)) ∧ ∀ (i : Nat) (h : i < l.length) (j : Nat), j < n → cur[i * n + j]? = (cells l[i])[j]?)
theorem LsAt.nil {α : Type} {w : World} {t : TypeId} {n : Nat} {cells : α → List Value} : LsAt w t n cells (.slice none 0 0) ([] : List α) := ⟨none, 0, rfl, fun h => absurd rfl h⟩
theorem LsAt.of_owns {α : Type} {w : World} {base : Nat} {t : TypeId} {n : Nat} {cells : α → List Value} {v : Value} {l : List α} (hc : ∀ a, (cells a).length = n) (h : w.ownsRow base t n v l.length (l.flatMap cells)) : LsAt w t n cells v l := by
  obtain ⟨h1, h2⟩ := h
  rcases h2 with ⟨rfl, h0⟩ | ⟨g, cap, cur, rfl, _, hh, _, _, hs, ht⟩
  · have : l = [] := List.eq_nil_of_length_eq_zero h0
    subst this
    exact LsAt.nil
  · refine ⟨some ⟨g, 0, none⟩, cap, rfl, fun _ => ⟨g, cur, rfl, hh, ?_⟩⟩
    intro i hi j hj
    rw [← fcells_at hc l i j hi hj, ← ht]
    have : (i + 1) * n ≤ l.length * n := Nat.mul_le_mul_right _ hi
    rw [Nat.succ_mul] at this
    rw [List.getElem?_take_of_lt (by omega)]
    simp
/-- Blocks of a kind are kept. -/
def KeptT (t : TypeId) (w w' : World) : Prop := ∀ (k : Nat) (c : Array Value), w.heap[k]? = some (Obj.cells c t (0, 0)) → w'.heap[k]? = some (Obj.cells c t (0, 0))
theorem KeptT.of_below {t : TypeId} {w w' : World} (hb : Below w.heap.size w w') : KeptT t w w' := fun _ _ h => blk hb h
theorem KeptT.trans {t : TypeId} {w w' w'' : World} (h : KeptT t w w') (h2 : KeptT t w' w'') : KeptT t w w'' := fun k c hk => h2 k c (h k c hk)
theorem LsAt.kept {α : Type} {w w' : World} {t : TypeId} {n : Nat} {cells : α → List Value} {v : Value} {l : List α} (h : LsAt w t n cells v l) (hk : KeptT t w w') : LsAt w' t n cells v l := by
  obtain ⟨ao, cap, e, hc⟩ := h
  refine ⟨ao, cap, e, fun hne => ?_⟩
  obtain ⟨g, cur, e1, e2, e3⟩ := hc hne
  exact ⟨g, cur, e1, hk g cur e2, e3⟩
theorem LsAt.keep {α : Type} {w w' : World} {t : TypeId} {n : Nat} {cells : α → List Value} {v : Value} {l : List α} (h : LsAt w t n cells v l) (hb : Below w.heap.size w w') : LsAt w' t n cells v l := h.kept (KeptT.of_below hb)
theorem LsAt.get {α : Type} {w : World} {t : TypeId} {n : Nat} {cells : α → List Value} {v : Value} {l : List α} (h : LsAt w t n cells v l) (hne : l ≠ []) : ∃ g cap, v = .slice (some ⟨g, 0, none⟩) l.length cap ∧ g < w.heap.size ∧ ∀ (i : Nat) (h : i < l.length) (j : Nat), j < n → w.cell? ⟨g, i * n + j, none⟩ = (cells l[i])[j]? := by
  obtain ⟨ao, cap, e, hc⟩ := h
  obtain ⟨g, cur, rfl, e2, e3⟩ := hc hne
  refine ⟨g, cap, e, lt_of_block e2, fun i hi j hj => ?_⟩
  rw [← e3 i hi j hj]
  simp [World.cell?, e2]

/-- A packet, as data: header, addresses, protocol, body. -/
structure KP where
  h : ByteArray
  sr : Int
  ds : Int
  pr : Int
  b : ByteArray
def KP.cells (p : KP) : List Value := [.string p.h, .int .i64 p.sr, .int .i64 p.ds, .int .i64 p.pr, .string p.b]
theorem KP.len (p : KP) : p.cells.length = 5 := rfl
/-- A list of packets lies in memory. -/
def KsAt (w : World) (v : Value) (l : List KP) : Prop := LsAt w 83 5 KP.cells v l
theorem kp5 {w : World} {g f : Nat} {p : KP} (h : ∀ j, j < 5 → w.cell? ⟨g, f + j, none⟩ = p.cells[j]?) : w.cell? ⟨g, f, none⟩ = some (.string p.h) ∧ w.cell? ⟨g, f + 1, none⟩ = some (.int .i64 p.sr) ∧ w.cell? ⟨g, f + 2, none⟩ = some (.int .i64 p.ds) ∧ w.cell? ⟨g, f + 3, none⟩ = some (.int .i64 p.pr) ∧ w.cell? ⟨g, f + 4, none⟩ = some (.string p.b) :=
  ⟨h 0 (by decide), h 1 (by decide), h 2 (by decide), h 3 (by decide), h 4 (by decide)⟩
theorem KsAt.get {w : World} {v : Value} {l : List KP} (h : KsAt w v l) (k : Nat) (hk : k < l.length) : ∃ g cap, v = .slice (some ⟨g, 0, none⟩) l.length cap ∧ g < w.heap.size ∧ w.cell? ⟨g, k * 5, none⟩ = some (.string l[k].h) ∧ w.cell? ⟨g, k * 5 + 1, none⟩ = some (.int .i64 l[k].sr) ∧ w.cell? ⟨g, k * 5 + 2, none⟩ = some (.int .i64 l[k].ds) ∧ w.cell? ⟨g, k * 5 + 3, none⟩ = some (.int .i64 l[k].pr) ∧ w.cell? ⟨g, k * 5 + 4, none⟩ = some (.string l[k].b) := by
  obtain ⟨g, cap, e, hg, hc⟩ := LsAt.get h (by intro e; rw [e] at hk; simp at hk)
  exact ⟨g, cap, e, hg, kp5 (fun j hj => hc k hk j hj)⟩
theorem LsAt.shape {α : Type} {w : World} {t : TypeId} {n : Nat} {cells : α → List Value} {v : Value} {l : List α} (h : LsAt w t n cells v l) : ∃ ao cap, v = .slice ao l.length cap := by
  obtain ⟨ao, cap, e, _⟩ := h
  exact ⟨ao, cap, e⟩
/-- A list of one packet. -/
theorem KsAt.one {w : World} {g cap : Nat} {p : KP} (h : w.heap[g]? = some (.cells p.cells.toArray 83 (0, 0))) : KsAt w (.slice (some ⟨g, 0, none⟩) 1 cap) [p] := by
  refine ⟨some ⟨g, 0, none⟩, cap, rfl, fun _ => ⟨g, _, rfl, h, fun i hi j _ => ?_⟩⟩
  have : i = 0 := by simpa using hi
  subst this
  simp
/-- Blocks of a call's own, the younger first. -/
structure LMid (w W : World) (bs : List (Nat × Array Value × TypeId)) : Prop where
  bl : Below w.heap.size w W
  bk : ∀ p ∈ bs, W.heap[p.1]? = some (.cells p.2.1 p.2.2 (0, 0)) ∧ w.heap.size ≤ p.1
  ord : bs.Pairwise (fun p q => q.1 < p.1)
theorem LMid.start (w : World) : LMid w w [] := ⟨Below.refl _ _, fun p hp => absurd hp (by simp), List.Pairwise.nil⟩
theorem LMid.call {w W W' : World} {bs : List (Nat × Array Value × TypeId)} (h : LMid w W bs) (hb : Below W.heap.size W W') : LMid w W' bs :=
  ⟨h.bl.trans (hb.mono h.bl.size), fun p hp => ⟨blk hb (h.bk p hp).1, (h.bk p hp).2⟩, h.ord⟩
theorem LMid.drew {w W : World} {bs : List (Nat × Array Value × TypeId)} (h : LMid w W bs) : LMid w W.drew bs := h.call (Below.refl _ _).drew
theorem LMid.alloc' {w W : World} {bs : List (Nat × Array Value × TypeId)} (h : LMid w W bs) (c : Array Value) (t : TypeId) (k : Nat) (hk : W.heap.size = k) : LMid w (W.alloc (.cells c t)) ((k, c, t) :: bs) := by
  subst hk
  have hb : Below W.heap.size W (W.alloc (.cells c t)) := (Below.refl _ _).alloc (Nat.le_refl _) _
  have h' := h.call hb
  refine ⟨h'.bl, fun p hp => ?_, List.Pairwise.cons (fun q hq => lt_of_block (h.bk q hq).1) h.ord⟩
  rcases List.mem_cons.1 hp with rfl | hp
  · exact ⟨heap_alloc_new W _, h.bl.size⟩
  · exact h'.bk p hp
theorem LMid.setAt {w W : World} {pre post : List (Nat × Array Value × TypeId)} {k : Nat} {c : Array Value} {t : TypeId} (h : LMid w W (pre ++ (k, c, t) :: post)) (j : Nat) (u : Value) : LMid w (W.setCell ⟨k, j, none⟩ u) (pre ++ (k, c.setIfInBounds j u, t) :: post) := by
  obtain ⟨h1, h2⟩ := h.bk (k, c, t) (by simp)
  have hh : ∀ x, (W.setCell ⟨k, j, none⟩ u).heap[x]? = if x = k then some (.cells (c.setIfInBounds j u) t (0, 0)) else W.heap[x]? := fun x => hget_set _ _ _ _ _ _ _ h1
  have hord := h.ord
  rw [List.pairwise_append] at hord
  obtain ⟨o1, o2, o3⟩ := hord
  rw [List.pairwise_cons] at o2
  have hne : ∀ p ∈ pre ++ post, p.1 ≠ k := by
    intro p hp
    rcases List.mem_append.1 hp with hp | hp
    · have := o3 p hp (k, c, t) (by simp); simp only at this; omega
    · have := o2.1 p hp; simp only at this; omega
  refine ⟨h.bl.setCell h2 _, ?_, ?_⟩
  · intro p hp
    rcases List.mem_append.1 hp with hp | hp
    · obtain ⟨a1, a2⟩ := h.bk p (List.mem_append.2 (Or.inl hp))
      exact ⟨by rw [hh, if_neg (hne p (List.mem_append.2 (Or.inl hp)))]; exact a1, a2⟩
    · rcases List.mem_cons.1 hp with rfl | hp
      · exact ⟨by rw [hh, if_pos rfl], h2⟩
      · obtain ⟨a1, a2⟩ := h.bk p (List.mem_append.2 (Or.inr (List.mem_cons_of_mem _ hp)))
        exact ⟨by rw [hh, if_neg (hne p (List.mem_append.2 (Or.inr hp)))]; exact a1, a2⟩
  · rw [List.pairwise_append]
    refine ⟨o1, ?_, ?_⟩
    · rw [List.pairwise_cons]; exact ⟨fun q hq => o2.1 q hq, o2.2⟩
    · intro p hp q hq
      rcases List.mem_cons.1 hq with rfl | hq
      · exact o3 p hp (k, c, t) (by simp)
      · exact o3 p hp q (List.mem_cons_of_mem _ hq)
theorem LMid.at0 {w W : World} {k : Nat} {c : Array Value} {t : TypeId} {post : List (Nat × Array Value × TypeId)} (h : LMid w W ((k, c, t) :: post)) : W.heap[k]? = some (.cells c t (0, 0)) := (h.bk (k, c, t) (by simp)).1
theorem LMid.at1 {w W : World} {k : Nat} {c : Array Value} {t : TypeId} {p0 : Nat × Array Value × TypeId} {post : List (Nat × Array Value × TypeId)} (h : LMid w W (p0 :: (k, c, t) :: post)) : W.heap[k]? = some (.cells c t (0, 0)) := (h.bk (k, c, t) (by simp)).1
theorem LMid.at2 {w W : World} {k : Nat} {c : Array Value} {t : TypeId} {p0 p1 : Nat × Array Value × TypeId} {post : List (Nat × Array Value × TypeId)} (h : LMid w W (p0 :: p1 :: (k, c, t) :: post)) : W.heap[k]? = some (.cells c t (0, 0)) := (h.bk (k, c, t) (by simp)).1
theorem LMid.at3 {w W : World} {k : Nat} {c : Array Value} {t : TypeId} {p0 p1 p2 : Nat × Array Value × TypeId} {post : List (Nat × Array Value × TypeId)} (h : LMid w W (p0 :: p1 :: p2 :: (k, c, t) :: post)) : W.heap[k]? = some (.cells c t (0, 0)) := (h.bk (k, c, t) (by simp)).1
theorem LMid.at4 {w W : World} {k : Nat} {c : Array Value} {t : TypeId} {p0 p1 p2 p3 : Nat × Array Value × TypeId} {post : List (Nat × Array Value × TypeId)} (h : LMid w W (p0 :: p1 :: p2 :: p3 :: (k, c, t) :: post)) : W.heap[k]? = some (.cells c t (0, 0)) := (h.bk (k, c, t) (by simp)).1
theorem LMid.at5 {w W : World} {k : Nat} {c : Array Value} {t : TypeId} {p0 p1 p2 p3 p4 : Nat × Array Value × TypeId} {post : List (Nat × Array Value × TypeId)} (h : LMid w W (p0 :: p1 :: p2 :: p3 :: p4 :: (k, c, t) :: post)) : W.heap[k]? = some (.cells c t (0, 0)) := (h.bk (k, c, t) (by simp)).1
theorem LMid.at6 {w W : World} {k : Nat} {c : Array Value} {t : TypeId} {p0 p1 p2 p3 p4 p5 : Nat × Array Value × TypeId} {post : List (Nat × Array Value × TypeId)} (h : LMid w W (p0 :: p1 :: p2 :: p3 :: p4 :: p5 :: (k, c, t) :: post)) : W.heap[k]? = some (.cells c t (0, 0)) := (h.bk (k, c, t) (by simp)).1

theorem filt_snoc {α : Type} (p : α → Bool) (l : List α) (k : Nat) (h : k < l.length) : (l.take (k + 1)).filter p = (l.take k).filter p ++ (if p l[k] then [l[k]] else []) := by
  rw [List.take_succ_eq_append_getElem h, List.filter_append]
  congr 1
  by_cases hk : p l[k] = true
  · simp [hk]
  · simp [hk]

theorem owns_shape {w : World} {base : Nat} {e : TypeId} {size n : Nat} {v : Value} {xs : List Value} (h : w.ownsRow base e size v n xs) : ∃ la cp, v = .slice la n cp := by
  obtain ⟨_, h2⟩ := h
  rcases h2 with ⟨rfl, h0⟩ | ⟨g, cap, cur, rfl, _⟩
  · exact ⟨none, 0, by rw [h0]⟩
  · exact ⟨_, _, rfl⟩
theorem owns_empty (w : World) (e : TypeId) (size : Nat) : (w.alloc (.cells #[] e)).ownsRow w.heap.size e size (.slice (some ⟨w.heap.size, 0, none⟩) 0 0) 0 [] :=
  ⟨by simp, Or.inr ⟨w.heap.size, 0, #[], rfl, Nat.le_refl _, by rw [hget_alloc, if_pos rfl], Nat.le_refl _, by unfold maxLen; omega, by simp, by simp⟩⟩

theorem owns_call {w1 w2 : World} {B : Nat} {e : TypeId} {size n : Nat} {v : Value} {xs : List Value} (h : w1.ownsRow B e size v n xs) (hb : Below w1.heap.size w1 w2) : w2.ownsRow B e size v n xs := by
  obtain ⟨h1, h2⟩ := h
  refine ⟨h1, ?_⟩
  rcases h2 with h2 | ⟨g, cap, cur, hv, hg, hh, r⟩
  · exact Or.inl h2
  · exact Or.inr ⟨g, cap, cur, hv, hg, by rw [hb.block g (lt_of_block hh)]; exact hh, r⟩
/-- Blocks of a call's own, and a list that it makes. -/
structure QMid (w W : World) (bs : List (Nat × Array Value × TypeId)) (t : TypeId) (n : Nat) (lv : Value) (k : Nat) (xs : List Value) : Prop where
  mid : LMid w W bs
  own : W.ownsRow w.heap.size t n lv k xs
  far : ∀ p ∈ bs, lv.ownBlock ≠ some p.1
theorem LMid.tail {w W : World} {p : Nat × Array Value × TypeId} {bs : List (Nat × Array Value × TypeId)} (h : LMid w W (p :: bs)) : LMid w W bs := ⟨h.bl, fun q hq => h.bk q (List.mem_cons_of_mem _ hq), (List.pairwise_cons.1 h.ord).2⟩
theorem LMid.set0 {w W : World} {post : List (Nat × Array Value × TypeId)} {k : Nat} {c : Array Value} {t : TypeId} (h : LMid w W ((k, c, t) :: post)) (j : Nat) (u : Value) : LMid w (W.setCell ⟨k, j, none⟩ u) ((k, c.setIfInBounds j u, t) :: post) := h.setAt (pre := []) j u
theorem LMid.set1 {w W : World} {p0 : Nat × Array Value × TypeId} {post : List (Nat × Array Value × TypeId)} {k : Nat} {c : Array Value} {t : TypeId} (h : LMid w W (p0 :: (k, c, t) :: post)) (j : Nat) (u : Value) : LMid w (W.setCell ⟨k, j, none⟩ u) (p0 :: (k, c.setIfInBounds j u, t) :: post) := h.setAt (pre := [p0]) j u
theorem LMid.set2 {w W : World} {p0 p1 : Nat × Array Value × TypeId} {post : List (Nat × Array Value × TypeId)} {k : Nat} {c : Array Value} {t : TypeId} (h : LMid w W (p0 :: p1 :: (k, c, t) :: post)) (j : Nat) (u : Value) : LMid w (W.setCell ⟨k, j, none⟩ u) (p0 :: p1 :: (k, c.setIfInBounds j u, t) :: post) := h.setAt (pre := [p0, p1]) j u
theorem LMid.set3 {w W : World} {p0 p1 p2 : Nat × Array Value × TypeId} {post : List (Nat × Array Value × TypeId)} {k : Nat} {c : Array Value} {t : TypeId} (h : LMid w W (p0 :: p1 :: p2 :: (k, c, t) :: post)) (j : Nat) (u : Value) : LMid w (W.setCell ⟨k, j, none⟩ u) (p0 :: p1 :: p2 :: (k, c.setIfInBounds j u, t) :: post) := h.setAt (pre := [p0, p1, p2]) j u
theorem QMid.call {w W : World} {bs : List (Nat × Array Value × TypeId)} {t : TypeId} {n : Nat} {lv : Value} {k : Nat} {xs : List Value} {W' : World} (h : QMid w W bs t n lv k xs) (hb : Below W.heap.size W W') : QMid w W' bs t n lv k xs := ⟨h.mid.call hb, owns_call h.own hb, h.far⟩
theorem QMid.drew {w W : World} {bs : List (Nat × Array Value × TypeId)} {t : TypeId} {n : Nat} {lv : Value} {k : Nat} {xs : List Value} (h : QMid w W bs t n lv k xs) : QMid w W.drew bs t n lv k xs := h.call (Below.refl _ _).drew
theorem QMid.alloc' {w W : World} {bs : List (Nat × Array Value × TypeId)} {t : TypeId} {n : Nat} {lv : Value} {k : Nat} {xs : List Value} (h : QMid w W bs t n lv k xs) (c : Array Value) (t' : TypeId) (j : Nat) (hj : W.heap.size = j) : QMid w (W.alloc (.cells c t')) ((j, c, t') :: bs) t n lv k xs :=
  ⟨h.mid.alloc' c t' j hj, h.own.alloc _, fun p hp => by
    rcases List.mem_cons.1 hp with rfl | hp
    · intro e; have := (h.own.lt _ e).2; simp only at this; omega
    · exact h.far p hp⟩
theorem QMid.tail {p : Nat × Array Value × TypeId} {w W : World} {bs : List (Nat × Array Value × TypeId)} {t : TypeId} {n : Nat} {lv : Value} {k : Nat} {xs : List Value} (h : QMid w W (p :: bs) t n lv k xs) : QMid w W bs t n lv k xs := ⟨h.mid.tail, h.own, fun q hq => h.far q (List.mem_cons_of_mem _ hq)⟩
theorem QMid.app {w W : World} {bs : List (Nat × Array Value × TypeId)} {t : TypeId} {n : Nat} {lv : Value} {k : Nat} {xs : List Value} {W2 : World} {g k' cap : Nat} {xs' : List Value} (h : QMid w W bs t n lv k xs) (hg : W.grownBy W2 lv.ownBlock) (ho : W2.ownsRow w.heap.size t n (.slice (some ⟨g, 0, none⟩) k' cap) k' xs') (H : Nat) (hat : lv.ownBlock = some g ∨ g = H) (hH : W.heap.size = H) : QMid w W2 bs t n (.slice (some ⟨g, 0, none⟩) k' cap) k' xs' := by
  have hbl : Below w.heap.size w W2 := h.mid.bl.grown hg h.mid.bl.size (fun q e => (h.own.lt q e).1)
  refine ⟨⟨hbl, fun p hp => ?_, h.mid.ord⟩, ho, fun p hp e => ?_⟩
  · obtain ⟨a1, a2⟩ := h.mid.bk p hp
    exact ⟨by rw [hg.block p.1 (lt_of_block a1) (fun e => h.far p hp e.symm)]; exact a1, a2⟩
  · have a1 := lt_of_block (h.mid.bk p hp).1
    simp [Value.ownBlock] at e
    rcases hat with h1 | h1
    · exact h.far p hp (by rw [h1, e])
    · omega
theorem QMid.start {w W : World} {bs : List (Nat × Array Value × TypeId)} (h : LMid w W bs) (t : TypeId) (n : Nat) (j : Nat) (hj : W.heap.size = j) : QMid w (W.alloc (.cells #[] t)) bs t n (.slice (some ⟨j, 0, none⟩) 0 0) 0 [] := by
  subst hj
  refine ⟨h.call ((Below.refl _ _).alloc (Nat.le_refl _) _), ?_, fun p hp e => ?_⟩
  · obtain ⟨a, b⟩ := owns_empty W t n
    refine ⟨a, ?_⟩
    rcases b with b | ⟨g, cp, cur, h1, h2, h3⟩
    · simp at b
    · exact Or.inr ⟨g, cp, cur, h1, Nat.le_trans h.bl.size h2, h3⟩
  · have a1 := lt_of_block (h.bk p hp).1
    simp [Value.ownBlock] at e
    omega
end Go.Proofs.YtfkjobiapjhacabGreat
