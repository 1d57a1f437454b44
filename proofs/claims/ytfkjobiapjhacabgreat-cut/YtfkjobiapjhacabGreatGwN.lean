/- Contracts of package gateway: configurations, New. Own work. -/
import Derived.Test.YtfkjobiapjhacabGreatS2
import Derived.Test.YtfkjobiapjhacabGreatS3
import Derived.Test.YtfkjobiapjhacabGreatA3
namespace Go.Proofs.YtfkjobiapjhacabGreat
open Go.RowKit
attribute [local go_sem ↓] Go.wp_at_zero Go.wp_at_succ

theorem bcell {W w1 : World} (hb : Below W.heap.size W w1) : (∀ b o, b < W.heap.size → w1.cell? ⟨b, o, none⟩ = W.cell? ⟨b, o, none⟩) ∧ (∀ b o, b < W.heap.size → w1.frozen? ⟨b, o, none⟩ = W.frozen? ⟨b, o, none⟩) :=
  ⟨fun b o h => hb.cell (p := ⟨b, o, none⟩) h, fun b o h => hb.frozen (p := ⟨b, o, none⟩) h⟩

theorem below_lt {w W w1 : World} (hb : Below W.heap.size W w1) (h : w.heap.size < W.heap.size := by simp) : w.heap.size < w1.heap.size := Nat.lt_of_lt_of_le h hb.size
theorem ret_int {k : IntKind} {a b : Int} (h : a = b) : Ending.returned (.int k a) = .returned (.int k b) := by rw [h]
theorem wrapIn (x : Int) (h0 : -9223372036854775808 ≤ x) (h1 : x ≤ 9223372036854775807) : IntKind.i64.wrap x = x := by
  rw [IntKind.wrap_i64]; omega
theorem ret_bool {a b : Bool} (h : a = b) : Ending.returned (.bool a) = .returned (.bool b) := by rw [h]

def pow2 (n : Nat) : Int := 2 ^ n
theorem pow2_succ (n : Nat) : pow2 (n + 1) = 2 * pow2 n := by unfold pow2; rw [Int.pow_succ]; omega
theorem pow2_bd (n : Nat) (h : n ≤ 40) : 1 ≤ pow2 n ∧ pow2 n ≤ 1099511627776 := by
  unfold pow2
  constructor
  · have := Int.pow_pos (n := (2 : Int)) (m := n) (by decide); omega
  · have : (2 : Int) ^ n ≤ 2 ^ 40 := by exact_mod_cast Nat.pow_le_pow_right (by decide) h
    omega

def netSizeI (bi : Int) : Int := if bi < 0 ∨ 32 < bi then 1 else pow2 (32 - bi).toNat

theorem netSizeI_pos (bi : Int) : 1 ≤ netSizeI bi ∧ netSizeI bi ≤ 1099511627776 := by
  unfold netSizeI; split
  · omega
  · exact pow2_bd _ (by omega)
theorem wrap_pow2 (k : Nat) (h : k ≤ 40) : wrap64 (2 ^ k) = pow2 k := by
  have := pow2_bd k h
  have e : (2 : Int) ^ k = pow2 k := rfl
  rw [e]; exact Go.IntWalk.wrap64_in _ ⟨by omega, by omega⟩

set_option maxHeartbeats 400000 in
theorem netSize_any (ou ne bi lo hi ps gl : Int) (w : World) :
    Calls Tryz.prog 71 #[.agg #[.int .i64 ou, .int .i64 ne, .int .i64 bi, .int .i64 lo, .int .i64 hi, .int .i64 ps, .int .i64 gl]] w fun e w' => e = .returned (.int .i64 (netSizeI bi)) ∧ Below w.heap.size w w' := by
  by_cases h1 : bi < 0
  · go_enter Tryz.func71, Tryz.ntmps71
    go_wp2
    go_ret
    refine ⟨ret_int ?_, (Below.refl _ _).alloc (Nat.le_refl _) _⟩
    unfold netSizeI; rw [if_pos (Or.inl h1)]
  · by_cases h2 : 32 < bi
    · go_enter Tryz.func71, Tryz.ntmps71
      go_wp2
      go_ret
      refine ⟨ret_int ?_, (Below.refl _ _).alloc (Nat.le_refl _) _⟩
      unfold netSizeI; rw [if_pos (Or.inr h2)]
    · go_enter Tryz.func71, Tryz.ntmps71
      go_wp2
      go_ret
      refine ⟨ret_int ?_, (Below.refl _ _).alloc (Nat.le_refl _) _⟩
      unfold netSizeI; rw [if_neg (by omega)]
      exact wrap_pow2 _ (by omega)

def innerB (ne bi a : Int) : Bool := decide (ne ≤ a ∧ a - ne < netSizeI bi)
set_option maxHeartbeats 400000 in
theorem inner_any (ou ne bi lo hi ps gl a : Int) (w : World) (h0 : 0 ≤ a) (h1 : a ≤ 4294967296) (h2 : 0 ≤ ne) (h3 : ne ≤ 4294967296) :
    Calls Tryz.prog 57 #[.agg #[.int .i64 ou, .int .i64 ne, .int .i64 bi, .int .i64 lo, .int .i64 hi, .int .i64 ps, .int .i64 gl], .int .i64 a] w fun e w' => e = .returned (.bool (innerB ne bi a)) ∧ Below w.heap.size w w' := by
  have hp := netSizeI_pos bi
  by_cases h : ne ≤ a
  · have hd : decide (ne ≤ a) = true := by simpa using h
    go_enter Tryz.func57, Tryz.ntmps57
    go_wp2
    go_region_held3 (fun w' => w'.cell? ⟨w.heap.size, 0, none⟩ = some (.int .i64 ou) ∧ w'.cell? ⟨w.heap.size, 1, none⟩ = some (.int .i64 ne) ∧ w'.cell? ⟨w.heap.size, 2, none⟩ = some (.int .i64 bi) ∧ w'.cell? ⟨w.heap.size, 3, none⟩ = some (.int .i64 lo) ∧ w'.cell? ⟨w.heap.size, 4, none⟩ = some (.int .i64 hi) ∧ w'.cell? ⟨w.heap.size, 5, none⟩ = some (.int .i64 ps) ∧ w'.cell? ⟨w.heap.size, 6, none⟩ = some (.int .i64 gl)) (simp [*]) ((go_at_call 71; refine (netSize_any ou ne bi lo hi ps gl _).mono ?_; rintro e w' ⟨rfl, hb⟩; obtain ⟨hc, hf⟩ := bcell hb))
    go_wp2
    go_ret
    refine ⟨ret_bool ?_, ((Below.refl _ _).alloc (Nat.le_refl _) _).drew.trans (hb.mono (by simp))⟩
    unfold innerB; rw [wrapIn _ (by omega) (by omega)]
    refine decide_eq_decide.mpr ?_; omega
  · have hd : decide (ne ≤ a) = false := by simpa using h
    go_enter Tryz.func57, Tryz.ntmps57
    go_wp2
    go_region
    go_wp2
    go_ret
    refine ⟨ret_bool ?_, ((Below.refl _ _).alloc (Nat.le_refl _) _).drew⟩
    unfold innerB; refine (decide_eq_false ?_).symm; omega

def validNetB (ou ne bi : Int) : Bool := decide (1 ≤ ou ∧ ou ≤ 4294967294 ∧ 8 ≤ bi ∧ bi ≤ 30 ∧ 0 ≤ ne ∧ ne < 4294967296) && decide (ne % netSizeI bi = 0) && !innerB ne bi ou
set_option maxHeartbeats 1000000 in
theorem validNet_any (ou ne bi lo hi ps gl : Int) (w : World) :
    Calls Tryz.prog 52 #[.agg #[.int .i64 ou, .int .i64 ne, .int .i64 bi, .int .i64 lo, .int .i64 hi, .int .i64 ps, .int .i64 gl]] w fun e w' => e = .returned (.bool (validNetB ou ne bi)) ∧ Below w.heap.size w w' := by
  by_cases h : 1 ≤ ou ∧ ou ≤ 4294967294 ∧ 8 ≤ bi ∧ bi ≤ 30 ∧ 0 ≤ ne ∧ ne < 4294967296
  · obtain ⟨g1, g2, g3, g4, g5, g6⟩ := h
    have hp := netSizeI_pos bi
    go_enter Tryz.func52, Tryz.ntmps52
    have hz0 : ¬ netSizeI bi = 0 := by omega
    by_cases hz : ne % netSizeI bi = 0
    · have hz2 : (ne.tmod (netSizeI bi) == 0) = true := by rw [Int.tmod_eq_emod_of_nonneg g5]; simpa using hz
      have HZ : Hid (ne % netSizeI bi = 0) := hz
      clear hz
      go_wp2
      go_region_held3 (fun w' => w'.cell? ⟨w.heap.size, 0, none⟩ = some (.int .i64 ou) ∧ w'.cell? ⟨w.heap.size, 1, none⟩ = some (.int .i64 ne) ∧ w'.cell? ⟨w.heap.size, 2, none⟩ = some (.int .i64 bi) ∧ w'.cell? ⟨w.heap.size, 3, none⟩ = some (.int .i64 lo) ∧ w'.cell? ⟨w.heap.size, 4, none⟩ = some (.int .i64 hi) ∧ w'.cell? ⟨w.heap.size, 5, none⟩ = some (.int .i64 ps) ∧ w'.cell? ⟨w.heap.size, 6, none⟩ = some (.int .i64 gl)) (simp [*])
        (first
          | (go_at_call 71; refine (netSize_any ou ne bi lo hi ps gl _).mono ?_; rintro e w' ⟨rfl, hb1⟩; obtain ⟨hc1, hf1⟩ := bcell hb1; have hz1 : w.heap.size < w'.heap.size := below_lt hb1)
          | (go_at_call 57; refine (inner_any ou ne bi lo hi ps gl _ _ (by omega) (by omega) (by omega) (by omega)).mono ?_; rintro e w' ⟨rfl, hb2⟩; obtain ⟨hc2, hf2⟩ := bcell hb2))
      go_wp2
      go_ret
      refine ⟨ret_bool ?_, ((Below.refl _ _).alloc (Nat.le_refl _) _).drew.trans ((hb1.mono (by simp)).trans (hb2.mono ?_))⟩
      · unfold validNetB; rw [decide_eq_true HZ.out, decide_eq_true ⟨g1, g2, g3, g4, g5, g6⟩]; simp
      · have := hb1.size; simp at this; omega
    · have hz2 : (ne.tmod (netSizeI bi) == 0) = false := by rw [Int.tmod_eq_emod_of_nonneg g5]; simpa using hz
      go_wp2
      first | go_region_with ((go_at_call 71; refine (netSize_any ou ne bi lo hi ps gl _).mono ?_; rintro e w' ⟨rfl, hb1⟩; obtain ⟨hc1, hf1⟩ := bcell hb1)) | fail
      go_wp2
      all_goals
        go_ret
        refine ⟨ret_bool ?_, ((Below.refl _ _).alloc (Nat.le_refl _) _).drew.trans (hb1.mono (by simp))⟩
        unfold validNetB; rw [decide_eq_false hz]; simp
  · have hF : validNetB ou ne bi = false := by unfold validNetB; rw [decide_eq_false h]; rfl
    have HF : Hid (validNetB ou ne bi = false) := hF
    clear hF
    go_enter Tryz.func52, Tryz.ntmps52
    go_wp2
    all_goals (go_ret; exact ⟨ret_bool HF.out.symm, (Below.refl _ _).alloc (Nat.le_refl _) _⟩)

def validPortsB (lo hi : Int) : Bool := decide (1 ≤ lo ∧ lo ≤ hi ∧ hi ≤ 65535 ∧ hi - lo < 12)
set_option maxHeartbeats 400000 in
theorem validPorts_any (ou ne bi lo hi ps gl : Int) (w : World) :
    Calls Tryz.prog 53 #[.agg #[.int .i64 ou, .int .i64 ne, .int .i64 bi, .int .i64 lo, .int .i64 hi, .int .i64 ps, .int .i64 gl]] w fun e w' => e = .returned (.bool (validPortsB lo hi)) ∧ Below w.heap.size w w' := by
  go_enter Tryz.func53, Tryz.ntmps53
  go_wp2
  all_goals
    go_ret
    refine ⟨ret_bool ?_, (Below.refl _ _).alloc (Nat.le_refl _) _⟩
    unfold validPortsB
    first | (refine decide_eq_decide.mpr ?_; omega) | (refine (decide_eq_false ?_).symm; omega)

def validQuotaB (ps gl : Int) : Bool := decide (1 ≤ ps ∧ ps ≤ gl ∧ gl ≤ 4096)
set_option maxHeartbeats 400000 in
theorem validQuota_any (ou ne bi lo hi ps gl : Int) (w : World) :
    Calls Tryz.prog 54 #[.agg #[.int .i64 ou, .int .i64 ne, .int .i64 bi, .int .i64 lo, .int .i64 hi, .int .i64 ps, .int .i64 gl]] w fun e w' => e = .returned (.bool (validQuotaB ps gl)) ∧ Below w.heap.size w w' := by
  go_enter Tryz.func54, Tryz.ntmps54
  go_wp2
  all_goals
    go_ret
    refine ⟨ret_bool ?_, (Below.refl _ _).alloc (Nat.le_refl _) _⟩
    unfold validQuotaB
    first | (refine decide_eq_decide.mpr ?_; omega) | (refine (decide_eq_false ?_).symm; omega)
def validB (ou ne bi lo hi ps gl : Int) : Bool := validNetB ou ne bi && validPortsB lo hi && validQuotaB ps gl
set_option maxRecDepth 100000 in
set_option maxHeartbeats 1000000 in
theorem valid_any (ou ne bi lo hi ps gl : Int) (w : World) :
    Calls Tryz.prog 44 #[.agg #[.int .i64 ou, .int .i64 ne, .int .i64 bi, .int .i64 lo, .int .i64 hi, .int .i64 ps, .int .i64 gl]] w fun e w' => e = .returned (.bool (validB ou ne bi lo hi ps gl)) ∧ Below w.heap.size w w' := by
  have HV : Hid (validB ou ne bi lo hi ps gl = (validNetB ou ne bi && validPortsB lo hi && validQuotaB ps gl)) := rfl
  cases hN : validNetB ou ne bi <;> cases hP : validPortsB lo hi
  all_goals
    go_enter Tryz.func44, Tryz.ntmps44
    go_wp2_with (first
      | (go_at_call 52; refine (validNet_any ou ne bi lo hi ps gl _).mono ?_; rintro e w1 ⟨rfl, hb1⟩; obtain ⟨hc1, hf1⟩ := bcell hb1; have hz1 : w.heap.size < w1.heap.size := below_lt hb1)
      | (go_at_call 53; refine (validPorts_any ou ne bi lo hi ps gl _).mono ?_; rintro e w2 ⟨rfl, hb2⟩; obtain ⟨hc2, hf2⟩ := bcell hb2; have hz2 : w.heap.size < w2.heap.size := below_lt hb2 hz1)
      | (go_at_call 54; refine (validQuota_any ou ne bi lo hi ps gl _).mono ?_; rintro e w3 ⟨rfl, hb3⟩))
  all_goals go_ret
  all_goals
    refine ⟨ret_bool ?_, ?_⟩
    · rw [HV.out, hN]; simp [*]
    · first
        | exact ((Below.refl _ _).alloc (Nat.le_refl _) _).trans ((hb1.mono (by simp)).trans ((hb2.mono (by omega)).trans (hb3.mono (by omega))))
        | exact ((Below.refl _ _).alloc (Nat.le_refl _) _).trans ((hb1.mono (by simp)).trans (hb2.mono (by omega)))
        | exact ((Below.refl _ _).alloc (Nat.le_refl _) _).trans (hb1.mono (by simp))

set_option maxRecDepth 100000 in
set_option maxHeartbeats 1000000 in
theorem New_ok (ou ne bi lo hi ps gl : Int) (w : World) (hv : validB ou ne bi lo hi ps gl = true) :
    Calls Tryz.prog 34 #[.agg #[.int .i64 ou, .int .i64 ne, .int .i64 bi, .int .i64 lo, .int .i64 hi, .int .i64 ps, .int .i64 gl]] w fun e w' => ∃ b, e = .returned (.tuple #[.pointer (some ⟨b, 0, none⟩), .int .i64 0]) ∧ w.heap.size < b ∧ b < w'.heap.size ∧ w'.heap[b]? = some (.cells #[.int .i64 ou, .int .i64 ne, .int .i64 bi, .int .i64 lo, .int .i64 hi, .int .i64 ps, .int .i64 gl, .int .i64 0, .int .i64 0, .int .i64 0, .int .i64 0, .int .i64 0, .int .i64 0, .int .i64 0, .int .i64 0, .int .i64 0, .int .i64 0, .int .i64 0, .int .i64 0, .int .i64 0, .int .i64 0, .int .i64 0, .int .i64 0, .int .i64 0, .int .i64 0, .int .i64 0, .slice none 0 0, .slice none 0 0] 78 (0, 0)) ∧ Below w.heap.size w w' := by
  go_enter Tryz.func34, Tryz.ntmps34
  go_wp2_with (go_at_call 44; refine (valid_any ou ne bi lo hi ps gl _).mono ?_; rintro e w1 ⟨rfl, hb1⟩; obtain ⟨hc1, hf1⟩ := bcell hb1; have hz1 : w.heap.size < w1.heap.size := below_lt hb1)
  go_ret2
  exact ⟨w1.heap.size, rfl, hz1, by simp, heap_alloc_new _ _, (((Below.refl _ _).alloc (Nat.le_refl _) _).trans (hb1.mono (by simp))).alloc (by omega) _⟩

set_option maxRecDepth 100000 in
set_option maxHeartbeats 1000000 in
theorem New_no (ou ne bi lo hi ps gl : Int) (w : World) (hv : validB ou ne bi lo hi ps gl = false) :
    Calls Tryz.prog 34 #[.agg #[.int .i64 ou, .int .i64 ne, .int .i64 bi, .int .i64 lo, .int .i64 hi, .int .i64 ps, .int .i64 gl]] w fun e w' => e = .returned (.tuple #[.pointer none, .int .i64 1]) ∧ Below w.heap.size w w' := by
  go_enter Tryz.func34, Tryz.ntmps34
  go_wp2_with (go_at_call 44; refine (valid_any ou ne bi lo hi ps gl _).mono ?_; rintro e w1 ⟨rfl, hb1⟩)
  go_ret2
  exact ⟨rfl, ((Below.refl _ _).alloc (Nat.le_refl _) _).trans (hb1.mono (by simp))⟩

end Go.Proofs.YtfkjobiapjhacabGreat
