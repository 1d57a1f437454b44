/- Contracts under News: looks, upTo. Own work. -/
import Derived.Test.YtfkjobiapjhacaaGreatDoorNewsF
namespace Go.Proofs.YtfkjobiapjhacaaGreatDoor
open Go.RowKit
attribute [local go_sem ↓] Go.wp_at_zero Go.wp_at_succ

set_option maxRecDepth 100000 in
set_option maxHeartbeats 1000000 in
theorem looks_none (wb : Nat) (w : World) (c2 : w.cell? ⟨wb, 2, none⟩ = some (.slice none 0 0)) :
    Calls Tryz.prog 12 #[.pointer (some ⟨wb, 0, none⟩)] w fun e w' => e = .returned (.bool true) ∧ w' = w := by
  go_enter Tryz.func12, Tryz.ntmps12
  go_wp2
  refine wp_loop_rounds 1 ?_
  rw [rounds_succ]
  go_wp2
  go_ret
  exact ⟨rfl, rfl⟩

/-- One step of a script, as data. -/
structure OpD where
  k : Int
  a : Int
  b : Int
  c : Int
  s : ByteArray
  t : ByteArray
def OpD.val (o : OpD) : Value := .agg #[.int .i64 o.k, .int .i64 o.a, .int .i64 o.b, .int .i64 o.c, .string o.s, .string o.t]
def OpD.ok (o : OpD) : Prop := -9223372036854775808 ≤ o.a ∧ o.a ≤ 9223372036854775807

/-- The cells of step i of a list of steps in memory. -/
def OpAt (w : World) (g f : Nat) (o : OpD) : Prop :=
  w.cell? ⟨g, f, none⟩ = some (.int .i64 o.k) ∧ w.cell? ⟨g, f + 1, none⟩ = some (.int .i64 o.a) ∧ w.cell? ⟨g, f + 2, none⟩ = some (.int .i64 o.b) ∧ w.cell? ⟨g, f + 3, none⟩ = some (.int .i64 o.c) ∧ w.cell? ⟨g, f + 4, none⟩ = some (.string o.s) ∧ w.cell? ⟨g, f + 5, none⟩ = some (.string o.t)
def OpsAt (w : World) (v : Value) (ops : List OpD) : Prop :=
  ∃ ao cap, v = .slice ao ops.length cap ∧ (ops ≠ [] → ∃ g off, ao = some ⟨g, off, none⟩ ∧ g < w.heap.size ∧ ∀ (i : Nat) (h : i < ops.length), OpAt w g (off + i * 6) ops[i])
theorem OpAt.keep {w w' : World} {g f B : Nat} {o : OpD} (h : OpAt w g f o) (hb : Below B w w') (hg : g < B) : OpAt w' g f o := by
  obtain ⟨h0, h1, h2, h3, h4, h5⟩ := h
  exact ⟨(hb.cell hg).trans h0, (hb.cell hg).trans h1, (hb.cell hg).trans h2, (hb.cell hg).trans h3, (hb.cell hg).trans h4, (hb.cell hg).trans h5⟩

theorem NInv.cell2 {B wb n : Nat} {w : World} (h : NInv B w wb n) : w.cell? ⟨wb, 2, none⟩ = some (.slice none 0 0) := by
  obtain ⟨_, _, _, _, h2, _⟩ := h
  exact (cells5 h2).1.2.2.1

theorem step_any (B wb n : Nat) (o : OpD) (ho : o.ok) (hk : o.k = 1 ∨ o.k = 2 ∨ o.k = 8) (w : World) (hi : NInv B w wb n) (hBw : B ≤ w.heap.size) (hn : n ≤ 20000) :
    Calls Tryz.prog 11 #[.pointer (some ⟨wb, 0, none⟩), .agg #[.int .i64 o.k, .int .i64 o.a, .int .i64 o.b, .int .i64 o.c, .string o.s, .string o.t]] w fun e w' => e = .returned (.bool true) ∧ (∃ n', n' ≤ n + 1 ∧ NInv B w' wb n') ∧ Below B w w' := by
  obtain ⟨k, a, b, c, s, t⟩ := o
  simp only at hk
  rcases hk with rfl | rfl | rfl
  · exact (step_num B wb n a b c s t w hi hBw ho.1 ho.2).mono fun e w' ⟨h1, h2, h3⟩ => ⟨h1, ⟨n, by omega, h2⟩, h3⟩
  · exact step_box B wb n a b c s t w hi hBw hn
  · exact (step_put B wb n a b c s t w hi hBw).mono fun e w' ⟨h1, h2, h3⟩ => ⟨h1, ⟨n, by omega, h2⟩, h3⟩

set_option maxRecDepth 100000 in
set_option maxHeartbeats 1000000 in
theorem upTo_any (v : Value) (ops : List OpD) (w : World) (hv : OpsAt w v ops) (hl : ops.length ≤ 16384) (hok : ∀ o ∈ ops, o.ok ∧ (o.k = 1 ∨ o.k = 2 ∨ o.k = 8)) :
    Calls Tryz.prog 10 #[v, .int .i64 2] w fun e w' => e = .returned (.int .i64 (-1)) ∧ Below w.heap.size w w' := by
  obtain ⟨ao, cap, rfl, hc⟩ := hv
  have HC : Hid (ops ≠ [] → ∃ g off, ao = some ⟨g, off, none⟩ ∧ g < w.heap.size ∧ ∀ (i : Nat) (h : i < ops.length), OpAt w g (off + i * 6) ops[i]) := hc
  have HO : Hid (∀ o ∈ ops, o.ok ∧ (o.k = 1 ∨ o.k = 2 ∨ o.k = 8)) := hok
  clear hc hok
  generalize hlen : ops.length = len
  have HL : Hid (ops.length = len) := hlen
  have hl' : len ≤ 16384 := by omega
  clear hlen hl
  go_enter Tryz.func10, Tryz.ntmps10
  go_wp2
  go_loopw [6, 7] (fun i ok wr => ∃ k : Nat, k ≤ len ∧ i = .int .i64 k ∧ (∃ n, n ≤ k ∧ NInv w.heap.size wr w.heap.size n) ∧ Below w.heap.size w wr) (fun i _ _ => len - (intOf i).toNat)
  case atStart =>
    refine ⟨0, Nat.zero_le _, rfl, ⟨0, Nat.le_refl _, _, _, [], Nat.le_refl _, heap_alloc_new _ _, Or.inl rfl, World.ownsRow_nil _ _ _ _⟩, (Below.refl _ _).alloc (Nat.le_refl _) _⟩
  case round =>
    obtain ⟨k, hk, rfl, ⟨n, hn, hN⟩, hb⟩ := hrel
    by_cases hlt : k < len
    · have hlo : k < ops.length := by have := HL.out; omega
      obtain ⟨g, off, rfl, hg, hat⟩ := HC.out (by intro e; rw [e] at hlo; simp at hlo)
      have hop := (hat k hlo).keep hb hg
      obtain ⟨hO1, hO2⟩ := HO.out ops[k] (List.getElem_mem hlo)
      clear hat
      generalize ops[k] = o at hop hO1 hO2
      obtain ⟨q0, q1, q2, q3, q4, q5⟩ := hop
      have hsz := hb.size
      have hkI : (0 : Int) ≤ (k : Int) := by omega
      have hkL : (k : Int) < (len : Int) := by omega
      have HN : Hid (NInv w.heap.size wr w.heap.size n) := hN
      have HB : Hid (Below w.heap.size w wr) := hb
      clear hN hb
      go_wp2_with (first
        | (go_at_call 11; refine (step_any w.heap.size w.heap.size n o hO1 hO2 _ HN.out hsz (by omega)).mono ?_; rintro e w1 ⟨rfl, ⟨n', hn', hN'⟩, hb'⟩; have c2 := hN'.cell2; have HN' : Hid (NInv w.heap.size w1 w.heap.size n') := hN'; clear hN')
        | (go_at_call 12; refine (looks_none _ _ c2).mono ?_; rintro e w2 ⟨rfl, rfl⟩))
      go_roundw
      case rel => exact ⟨k + 1, by omega, by go_num, ⟨n', by omega, HN'.out⟩, HB.out.trans hb'⟩
      case measure => simp [intOf]; omega
    · go_wp2
      go_ret
      exact ⟨rfl, hb⟩
end Go.Proofs.YtfkjobiapjhacaaGreatDoor
