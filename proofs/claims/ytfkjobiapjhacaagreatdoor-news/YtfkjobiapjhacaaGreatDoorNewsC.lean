/- Contracts under News: valid, New, Fresh, made. Own work. -/
import Derived.Test.YtfkjobiapjhacaaGreatDoorNewsB
namespace Go.Proofs.YtfkjobiapjhacaaGreatDoor
open Go.RowKit
attribute [local go_sem ↓] Go.wp_at_zero Go.wp_at_succ

set_option maxRecDepth 100000 in
set_option maxHeartbeats 1000000 in
theorem valid_any (ou ne bi lo hi ps gl : Int) (w : World) :
    Calls Tryz.prog 31 #[.agg #[.int .i64 ou, .int .i64 ne, .int .i64 bi, .int .i64 lo, .int .i64 hi, .int .i64 ps, .int .i64 gl]] w fun e w' => e = .returned (.bool (validB ou ne bi lo hi ps gl)) ∧ Below w.heap.size w w' := by
  have HV : Hid (validB ou ne bi lo hi ps gl = (validNetB ou ne bi && validPortsB lo hi && validQuotaB ps gl)) := rfl
  cases hN : validNetB ou ne bi <;> cases hP : validPortsB lo hi
  all_goals
    go_enter Tryz.func31, Tryz.ntmps31
    go_wp2_with (first
      | (go_at_call 41; refine (validNet_any ou ne bi lo hi ps gl _).mono ?_; rintro e w1 ⟨rfl, hb1⟩; obtain ⟨hc1, hf1⟩ := bcell hb1; have hz1 : w.heap.size < w1.heap.size := below_lt hb1)
      | (go_at_call 42; refine (validPorts_any ou ne bi lo hi ps gl _).mono ?_; rintro e w2 ⟨rfl, hb2⟩; obtain ⟨hc2, hf2⟩ := bcell hb2; have hz2 : w.heap.size < w2.heap.size := below_lt hb2 hz1)
      | (go_at_call 43; refine (validQuota_any ou ne bi lo hi ps gl _).mono ?_; rintro e w3 ⟨rfl, hb3⟩))
  all_goals go_ret
  all_goals
    refine ⟨ret_bool ?_, ?_⟩
    · rw [HV.out, hN]; simp [*]
    · first
        | exact ((Below.refl _ _).alloc (Nat.le_refl _) _).trans ((hb1.mono (by simp)).trans ((hb2.mono (by omega)).trans (hb3.mono (by omega))))
        | exact ((Below.refl _ _).alloc (Nat.le_refl _) _).trans ((hb1.mono (by simp)).trans (hb2.mono (by omega)))
        | exact ((Below.refl _ _).alloc (Nat.le_refl _) _).trans (hb1.mono (by simp))

set_option maxRecDepth 100000 in
set_option maxHeartbeats 1000000 in
theorem New_ok (ou ne bi lo hi ps gl : Int) (w : World) (hv : validB ou ne bi lo hi ps gl = true) :
    Calls Tryz.prog 21 #[.agg #[.int .i64 ou, .int .i64 ne, .int .i64 bi, .int .i64 lo, .int .i64 hi, .int .i64 ps, .int .i64 gl]] w fun e w' => ∃ b, e = .returned (.tuple #[.pointer (some ⟨b, 0, none⟩), .int .i64 0]) ∧ w.heap.size < b ∧ b < w'.heap.size ∧ w'.heap[b]? = some (.cells #[.int .i64 ou, .int .i64 ne, .int .i64 bi, .int .i64 lo, .int .i64 hi, .int .i64 ps, .int .i64 gl, .int .i64 0, .int .i64 0, .int .i64 0, .int .i64 0, .int .i64 0, .int .i64 0, .int .i64 0, .int .i64 0, .int .i64 0, .int .i64 0, .int .i64 0, .int .i64 0, .int .i64 0, .int .i64 0, .int .i64 0, .int .i64 0, .int .i64 0, .int .i64 0, .int .i64 0, .slice none 0 0, .slice none 0 0] 78 (0, 0)) ∧ Below w.heap.size w w' := by
  go_enter Tryz.func21, Tryz.ntmps21
  go_wp2_with (go_at_call 31; refine (valid_any ou ne bi lo hi ps gl _).mono ?_; rintro e w1 ⟨rfl, hb1⟩; obtain ⟨hc1, hf1⟩ := bcell hb1; have hz1 : w.heap.size < w1.heap.size := below_lt hb1)
  go_ret2
  exact ⟨w1.heap.size, rfl, hz1, by simp, heap_alloc_new _ _, (((Below.refl _ _).alloc (Nat.le_refl _) _).trans (hb1.mono (by simp))).alloc (by omega) _⟩

set_option maxRecDepth 100000 in
set_option maxHeartbeats 1000000 in
theorem New_no (ou ne bi lo hi ps gl : Int) (w : World) (hv : validB ou ne bi lo hi ps gl = false) :
    Calls Tryz.prog 21 #[.agg #[.int .i64 ou, .int .i64 ne, .int .i64 bi, .int .i64 lo, .int .i64 hi, .int .i64 ps, .int .i64 gl]] w fun e w' => e = .returned (.tuple #[.pointer none, .int .i64 1]) ∧ Below w.heap.size w w' := by
  go_enter Tryz.func21, Tryz.ntmps21
  go_wp2_with (go_at_call 31; refine (valid_any ou ne bi lo hi ps gl _).mono ?_; rintro e w1 ⟨rfl, hb1⟩)
  go_ret2
  exact ⟨rfl, ((Below.refl _ _).alloc (Nat.le_refl _) _).trans (hb1.mono (by simp))⟩

set_option maxRecDepth 100000 in
set_option maxHeartbeats 1000000 in
theorem Fresh_any (ou ne bi lo hi ps gl : Int) (w : World) :
    Calls Tryz.prog 23 #[.agg #[.int .i64 ou, .int .i64 ne, .int .i64 bi, .int .i64 lo, .int .i64 hi, .int .i64 ps, .int .i64 gl]] w fun e w' => ∃ b, e = .returned (.pointer (some ⟨b, 0, none⟩)) ∧ w.heap.size < b ∧ b < w'.heap.size ∧ Below w.heap.size w w' := by
  have hmk : ∀ w, (Instr.makeSlice 24 (.int .i64 18) (.int .i64 18)).run Tryz.prog w = .ok (.slice (some ⟨w.heap.size, 0, none⟩) 18 18) (w.alloc (.cells #[.int .i64 0, .int .i64 0, .int .i64 0, .int .i64 0, .int .i64 0, .int .i64 0, .int .i64 0, .int .i64 0, .int .i64 0, .int .i64 0, .int .i64 0, .int .i64 0, .int .i64 0, .int .i64 0, .int .i64 0, .int .i64 0, .int .i64 0, .int .i64 0] 3)) := fun _ => by kernel_rfl
  go_enter Tryz.func23, Tryz.ntmps23
  go_wp2
  go_region
  all_goals go_wp2
  all_goals go_ret
  all_goals exact ⟨w.heap.size + 2, rfl, by omega, by simp, by repeat (first | exact Below.refl _ _ | refine Below.drew ?_ | (refine Below.alloc ?_ (by simp <;> omega) _))⟩


set_option maxRecDepth 100000 in
set_option maxHeartbeats 1000000 in
theorem made_no (ou ne bi lo hi ps gl : Int) (w : World) (hv : validB ou ne bi lo hi ps gl = false) :
    Calls Tryz.prog 15 #[.agg #[.int .i64 ou, .int .i64 ne, .int .i64 bi, .int .i64 lo, .int .i64 hi, .int .i64 ps, .int .i64 gl]] w fun e w' => e = .returned (.tuple #[.pointer none, .bool true]) ∧ Below w.heap.size w w' := by
  have hm : mayI ou ne bi lo hi ps gl = false := (may_valid ou ne bi lo hi ps gl).trans hv
  go_enter Tryz.func15, Tryz.ntmps15
  go_wp2_with (first
    | (go_at_call 21; refine (New_no ou ne bi lo hi ps gl _ hv).mono ?_; rintro e w1 ⟨rfl, hb1⟩; obtain ⟨hc1, hf1⟩ := bcell hb1; have hz1 : w.heap.size < w1.heap.size := below_lt hb1)
    | (go_at_call 22; refine (May_any ou ne bi lo hi ps gl _).mono ?_; rintro e w2 ⟨rfl, hb2⟩; obtain ⟨hc2, hf2⟩ := bcell hb2; have hz2 : w.heap.size < w2.heap.size := below_lt hb2 hz1))
  go_ret2
  exact ⟨rfl, ((Below.refl _ _).alloc (Nat.le_refl _) _).trans ((hb1.mono (by simp)).trans (hb2.mono (by omega)))⟩

set_option maxRecDepth 100000 in
set_option maxHeartbeats 1000000 in
theorem made_ok (ou ne bi lo hi ps gl : Int) (w : World) (hv : validB ou ne bi lo hi ps gl = true) :
    Calls Tryz.prog 15 #[.agg #[.int .i64 ou, .int .i64 ne, .int .i64 bi, .int .i64 lo, .int .i64 hi, .int .i64 ps, .int .i64 gl]] w fun e w' => ∃ b x m, e = .returned (.tuple #[.pointer (some ⟨b, 0, none⟩), .bool true]) ∧ w.heap.size < b ∧ b < w'.heap.size ∧ w'.heap[b]? = some (.cells #[.pointer (some ⟨x, 0, none⟩), .pointer (some ⟨m, 0, none⟩)] 46 (0, 0)) ∧ Below w.heap.size w w' := by
  have hm : mayI ou ne bi lo hi ps gl = true := (may_valid ou ne bi lo hi ps gl).trans hv
  go_enter Tryz.func15, Tryz.ntmps15
  go_wp2_with (first
    | (go_at_call 21; refine (New_ok ou ne bi lo hi ps gl _ hv).mono ?_; rintro e w1 ⟨x, rfl, hx1, hx2, hx3, hb1⟩; obtain ⟨hc1, hf1⟩ := bcell hb1; have hz1 : w.heap.size < w1.heap.size := below_lt hb1)
    | (go_at_call 22; refine (May_any ou ne bi lo hi ps gl _).mono ?_; rintro e w2 ⟨rfl, hb2⟩; obtain ⟨hc2, hf2⟩ := bcell hb2; have hz2 : w.heap.size < w2.heap.size := below_lt hb2 hz1)
    | (go_at_call 23; refine (Fresh_any ou ne bi lo hi ps gl _).mono ?_; rintro e w3 ⟨m, rfl, hm1, hm2, hb3⟩; have hz3 : w.heap.size < w3.heap.size := below_lt hb3 hz2))
  go_ret2
  exact ⟨w3.heap.size, x, m, rfl, by omega, by simp, heap_alloc_new _ _, (((Below.refl _ _).alloc (Nat.le_refl _) _).trans ((hb1.mono (by simp)).trans ((hb2.mono (by omega)).trans (hb3.mono (by omega))))).alloc (by omega) _⟩
end Go.Proofs.YtfkjobiapjhacaaGreatDoor
