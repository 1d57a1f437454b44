/- News: a script that came in, opened; the walk of News; the row; the card. Own work. -/
import Derived.Test.YtfkjobiapjhacaaGreatDoorNewsH
import Derived.ProofKit
import Derived.OpenShut
import Derived.ChangeOld
import Derived.SizedLaws
import Derived.Deep.Slices
namespace Go.Proofs.YtfkjobiapjhacaaGreatDoor
open Go.ChangeShapes Go.WideShapes Go.ChangeAt Go.RowKit Go.Deep
attribute [local go_sem ↓] Go.wp_at_zero Go.wp_at_succ

set_option maxRecDepth 100000 in
set_option maxHeartbeats 1000000 in
theorem News_walk (v : Value) (ops : List OpD) (w : World) (hv : OpsAt w v ops) (hlm : ops.length ≤ 9223372036854775807) (hok : ∀ o ∈ ops, o.ok) (hss : ∀ o ∈ ops, o.s.size ≤ 140737488355328 ∧ o.t.size ≤ 140737488355328) :
    Calls Tryz.prog 3 #[v] w fun e w' => e = .returned (.bool true) ∧ Below w.heap.size w w' := by
  have HP : Hid (∀ W, OpsAt W v ops → W.cell? ⟨w.heap.size, 0, none⟩ = some (.int .i64 2) → w.heap.size < W.heap.size → Calls Tryz.prog 8 #[v, .int .i64 2, .slice (some ⟨w.heap.size, 0, none⟩) 1 1] W fun e w' => e = .returned (.bool true) ∧ Below W.heap.size W w') := by
    intro W hW hc hlt
    refine plays_any v ops 2 w.heap.size 1 [2] W hW hlm hss ?_ hlt (by decide) ?_
    · intro i hi
      obtain rfl : i = 0 := by simpa using hi
      exact hc
    · intro u W' hu hl _
      refine upTo_any u _ W' hu hl ?_
      intro o ho
      rw [List.mem_filter] at ho
      refine ⟨hok o ho.1, ?_⟩
      have hk := ho.2
      simp [keeps, keepTo] at hk
      omega
  clear hlm hok hss
  have hv' : OpsAt (w.alloc (.cells #[.int .i64 2] 3)) v ops := by
    obtain ⟨ao, cap, e, hc⟩ := hv
    refine ⟨ao, cap, e, fun hne => ?_⟩
    obtain ⟨g, off, e1, e2, e3⟩ := hc hne
    exact ⟨g, off, e1, by simp; omega, fun i hi => (e3 i hi).keep ((Below.refl w.heap.size w).alloc (Nat.le_refl _) _) e2⟩
  have HV : Hid (OpsAt (w.alloc (.cells #[.int .i64 2] 3)) v ops) := hv'
  clear hv hv'
  go_enter Tryz.func3, Tryz.ntmps3
  go_wp2_with (go_at_call 8; refine (HP.out _ HV.out (by simp) (by simp)).mono ?_; rintro e w1 ⟨rfl, hb1⟩)
  go_ret
  exact ⟨rfl, ((Below.refl _ _).alloc (Nat.le_refl _) _).trans (hb1.mono (by simp))⟩

theorem cells_op : Tryz.prog.cellsOf 27 = 6 := by kernel_rfl
theorem cells_int : Tryz.prog.cellsOf 3 = 1 := by kernel_rfl
theorem cells_str : Tryz.prog.cellsOf 9 = 1 := by kernel_rfl

set_option maxRecDepth 100000 in
theorem op_open {H : Type} {enc : TypeId × Value → H} {W : World} {sp : Nat → Bool} {held : Bool} {n : Nat} {cs : List Value} {D : DataW H} {Pl : List MemPlace} (h : DataW.trod enc Tryz.prog W 0 sp held n 27 cs = some (D, Pl)) :
    ∃ o : OpD, cs = [.int .i64 o.k, .int .i64 o.a, .int .i64 o.b, .int .i64 o.c, .string o.s, .string o.t] ∧ o.ok ∧ D = .agg [.lit (.int .i64 o.k), .lit (.int .i64 o.a), .lit (.int .i64 o.b), .lit (.int .i64 o.c), .lit (.string o.s.data.toList), .lit (.string o.t.data.toList)] := by
  obtain ⟨xs, m, rfl, hx, hlen, hxl, hf⟩ := DataW.trod_struct Tryz.underlying27 h
  rw [cells_op] at hlen
  match xs, hxl, cs, hlen with
  | [y0, y1, y2, y3, y4, y5], _, [v0, v1, v2, v3, v4, v5], _ =>
    have g0 := hf 0 _ rfl
    have g1 := hf 1 _ rfl
    have g2 := hf 2 _ rfl
    have g3 := hf 3 _ rfl
    have g4 := hf 4 _ rfl
    have g5 := hf 5 _ rfl
    simp [cells_int, cells_str] at g0 g1 g2 g3 g4 g5
    obtain ⟨k, e0, f0, _⟩ := DataW.trod_int Tryz.underlying3 g0
    obtain ⟨a, e1, f1, wa⟩ := DataW.trod_int Tryz.underlying3 g1
    obtain ⟨b, e2, f2, _⟩ := DataW.trod_int Tryz.underlying3 g2
    obtain ⟨c, e3, f3, _⟩ := DataW.trod_int Tryz.underlying3 g3
    obtain ⟨s, e4, f4, _⟩ := DataW.trod_string Tryz.underlying9 g4
    obtain ⟨t, e5, f5, _⟩ := DataW.trod_string Tryz.underlying9 g5
    simp only [List.cons.injEq, and_true] at e0 e1 e2 e3 e4 e5
    subst e0 e1 e2 e3 e4 e5
    subst f0 f1 f2 f3 f4 f5
    simp only [Prod.mk.injEq] at hx
    refine ⟨⟨k, a, b, c, s, t⟩, rfl, ?_, by simpa using hx.1⟩
    simp [Lit.wf, IntKind.min, IntKind.max, IntKind.signed, IntKind.bits] at wa
    exact ⟨by simp only; omega, by simp only; omega⟩

theorem add_block (a : Addr) (n : Nat) : (a.add n).block = a.block := by unfold Addr.add; split <;> simp_all
theorem add_none (b off n : Nat) : (⟨b, off, none⟩ : Addr).add n = ⟨b, off + n, none⟩ := by unfold Addr.add; split <;> simp_all
theorem weights_all {H : Type} {P : Program} {e : TypeId} : ∀ {l : List (DataW H)} {d : DataW H}, d ∈ l → ∀ n ∈ d.weights P e, n ∈ DataW.weightsAll P e l
  | x :: r, d, hd, n, hn => by
    simp only [DataW.weightsAll, List.mem_append]
    rcases List.mem_cons.1 hd with rfl | h
    · exact Or.inl hn
    · exact Or.inr (weights_all h n hn)

theorem script_open {H : Type} {enc : TypeId × Value → H} {W : World} {v : Value} {d : DataW H} {p : List MemPlace} (h : DataW.Trod enc Tryz.prog W 0 (fun _ => true) true 22 v d p) (hs : ∃ ao len cap, v = .slice ao len cap)
    (hsz : ∀ n ∈ d.weights Tryz.prog 22, n ≤ reachBytes) :
    ∃ ops, OpsAt W v ops ∧ ops.length ≤ 9223372036854775807 ∧ (∀ o ∈ ops, o.ok) ∧ (∀ o ∈ ops, o.s.size ≤ 140737488355328 ∧ o.t.size ≤ 140737488355328) := by
  obtain ⟨ao, len, cap, rfl⟩ := hs
  obtain ⟨fuel, hf⟩ := h
  rcases open_slice Tryz.underlying22 hf with ⟨hcs, hx⟩ | ⟨a, len', cap', m, n, D, Pl, hcs, hb, hl, hm, hmm, hx, hel⟩
  · simp [Value.cells] at hcs
    obtain ⟨rfl, rfl, rfl⟩ := hcs
    exact ⟨[], ⟨none, 0, rfl, fun h => absurd rfl h⟩, by simp, by simp, by simp⟩
  · simp [Value.cells] at hcs
    obtain ⟨rfl, rfl, rfl⟩ := hcs
    simp at hmm
    subst hmm
    rw [cells_op] at hel
    have each : ∀ i, i < m → ∃ o : OpD, (∀ j, j < 6 → W.cell? ((a.add (i * 6)).add j) = ([.int .i64 o.k, .int .i64 o.a, .int .i64 o.b, .int .i64 o.c, .string o.s, .string o.t] : List Value)[j]?) ∧ a.block < W.heap.size ∧ o.ok ∧ D i = .agg [.lit (.int .i64 o.k), .lit (.int .i64 o.a), .lit (.int .i64 o.b), .lit (.int .i64 o.c), .lit (.string o.s.data.toList), .lit (.string o.t.data.toList)] := by
      intro i hi
      obtain ⟨cs', h1, h2⟩ := hel i hi
      have hblk := World.cells?_block h1 (by decide)
      obtain ⟨_, hlen, hcell⟩ := World.cells?_some h1
      obtain ⟨o, rfl, hok, hD⟩ := op_open h2
      exact ⟨o, hcell, by rw [add_block] at hblk; exact hblk, hok, hD⟩
    haveI : Inhabited OpD := ⟨⟨0, 0, 0, 0, ⟨#[]⟩, ⟨#[]⟩⟩⟩
    obtain ⟨q, hq⟩ := choose_lt each
    refine ⟨(List.range len).map q, ⟨some a, m, by simp, fun hne => ?_⟩, ?_, ?_, ?_⟩
    · have h0 : 0 < len := by
        rcases Nat.eq_zero_or_pos len with h | h
        · subst h; simp at hne
        · exact h
      obtain ⟨b, off, spot⟩ := a
      have hc0 := (hq 0 (by omega)).1 0 (by decide)
      have hspot : spot = none := by
        have h1 := World.cell?_spot hc0
        simpa [Addr.add] using h1
      subst hspot
      refine ⟨b, off, rfl, (hq 0 (by omega)).2.1, fun i hi => ?_⟩
      have hi' : i < len := by simpa using hi
      have hc := (hq i (by omega)).1
      rw [List.getElem_map, List.getElem_range]
      have key : ∀ j, j < 6 → W.cell? ⟨b, off + i * 6 + j, none⟩ = ([.int .i64 (q i).k, .int .i64 (q i).a, .int .i64 (q i).b, .int .i64 (q i).c, .string (q i).s, .string (q i).t] : List Value)[j]? := fun j hj => by
        have := hc j hj
        rw [add_none, add_none] at this
        exact this
      exact ⟨key 0 (by decide), key 1 (by decide), key 2 (by decide), key 3 (by decide), key 4 (by decide), key 5 (by decide)⟩
    · simp [maxLen] at hm ⊢; omega
    · intro o ho
      obtain ⟨i, hi, rfl⟩ := List.mem_map.1 ho
      exact (hq i (by have := List.mem_range.1 hi; omega)).2.2.1
    · intro o ho
      obtain ⟨i, hi, rfl⟩ := List.mem_map.1 ho
      have hi' := List.mem_range.1 hi
      have hD := (hq i (by omega)).2.2.2
      simp only [Prod.mk.injEq] at hx
      have hw : ∀ n ∈ (D i).weights Tryz.prog 27, n ≤ reachBytes := by
        intro n hn
        refine hsz n ?_
        rw [hx.1]
        simp only [DataW.weights, Tryz.underlying22, List.mem_cons, List.mem_append]
        exact Or.inr (Or.inl (weights_all (List.mem_map.2 ⟨i, List.mem_range.2 hi', rfl⟩) n hn))
      rw [hD] at hw
      simp only [DataW.weights, Tryz.underlying27] at hw
      have hs1 := hw (q i).s.data.toList.length (by simp [DataW.weightsEach, DataW.weights])
      have ht1 := hw (q i).t.data.toList.length (by simp [DataW.weightsEach, DataW.weights])
      simp [reachBytes] at hs1 ht1
      exact ⟨by omega, by omega⟩
end Go.Proofs.YtfkjobiapjhacaaGreatDoor
