/- Contracts under News: valid, New, May, Fresh. Own work. -/
import Derived.Test.YtfkjobiapjhacaaGreatDoorNewsA
import Derived.Deep.QuietTactic
import Derived.BigQuiet
import Derived.Deep.DeepCutAuto
namespace Go.Proofs.YtfkjobiapjhacaaGreatDoor
open Go.RowKit
attribute [local go_sem ↓] Go.wp_at_zero Go.wp_at_succ

theorem power32 (w : World) : Calls Tryz.prog 32 #[.int .i64 32] w fun e w' => e = .returned (.int .i64 4294967296) ∧ w' = w :=
  (power_any 32 w (by decide) (by decide)).mono fun e w' h => ⟨h.1.trans (ret_int (by decide)), h.2⟩

def mayA (ne s : Int) : Bool := decide (0 ≤ ne ∧ ne < 4294967296) && decide (ne % s = 0)
def mayB (ou ne s : Int) : Bool := decide (0 < ou ∧ ou < 4294967295) && (ou / s != wrap64 (ne.tdiv s))

def mayI (ou ne bi lo hi ps gl : Int) : Bool := decide (8 ≤ bi ∧ bi ≤ 30) && mayA ne (netSizeI bi) && mayB ou ne (netSizeI bi) && validPortsB lo hi && validQuotaB ps gl

theorem bdrewN {B : Nat} {a w : World} (h : Below B a w) (n : Nat) : Below B a (w.drewN n) := ⟨h.os, h.tape, h.output, h.size, h.block⟩

theorem powerNet (bi : Int) (w : World) (b1 : 8 ≤ bi) (b2 : bi ≤ 30) : Calls Tryz.prog 32 #[.int .i64 (32 - bi)] w fun e w' => e = .returned (.int .i64 (netSizeI bi)) ∧ w' = w := by
  refine (power_any (32 - bi) w (by omega) (by omega)).mono fun e w' h => ⟨h.1.trans (ret_int ?_), h.2⟩
  unfold netSizeI; rw [if_neg (by omega)]

theorem mayA_0 {ne s : Int} (h : ¬ 0 ≤ ne) : mayA ne s = false := by unfold mayA; rw [decide_eq_false (by omega)]; rfl
theorem mayA_1 {ne s : Int} (h : ¬ ne < 4294967296) : mayA ne s = false := by unfold mayA; rw [decide_eq_false (by omega)]; rfl
theorem mayA_2 {ne s : Int} (h : 0 ≤ ne) (h2 : ne < 4294967296) : mayA ne s = (ne % s == 0) := by
  unfold mayA; rw [decide_eq_true ⟨h, h2⟩, Bool.true_and]; rfl
theorem mayB_0 {ou ne s : Int} (h : ¬ 0 < ou) : mayB ou ne s = false := by unfold mayB; rw [decide_eq_false (by omega)]; rfl
theorem mayB_2 {ou ne s : Int} (h : 0 < ou) (h2 : ou < 4294967295) : mayB ou ne s = (ou / s != wrap64 (ne.tdiv s)) := by
  unfold mayB; rw [decide_eq_true ⟨h, h2⟩, Bool.true_and]
theorem mayB_1 {ou ne s : Int} (h : ¬ ou < 4294967295) : mayB ou ne s = false := by unfold mayB; rw [decide_eq_false (by omega)]; rfl

set_option maxRecDepth 100000 in
set_option maxHeartbeats 1000000 in
theorem May_any (ou ne bi lo hi ps gl : Int) (w : World) :
    Calls Tryz.prog 22 #[.agg #[.int .i64 ou, .int .i64 ne, .int .i64 bi, .int .i64 lo, .int .i64 hi, .int .i64 ps, .int .i64 gl]] w fun e w' => e = .returned (.bool (mayI ou ne bi lo hi ps gl)) ∧ Below w.heap.size w w' := by
  by_cases hb : 8 ≤ bi ∧ bi ≤ 30
  · obtain ⟨b1, b2⟩ := hb
    have hp := netSizeI_pos bi
    have hs0 : ¬ netSizeI bi = 0 := by omega
    go_enter Tryz.func22, Tryz.ntmps22
    go_wp2_with (go_at_call 32; refine (powerNet bi _ b1 b2).mono ?_; rintro e w' ⟨rfl, rfl⟩)
    go_cut [4] (fun a w2 => a = .bool (mayA ne (netSizeI bi)) ∧ (fun w' => w'.cell? ⟨w.heap.size, 0, none⟩ = some (.int .i64 ou) ∧ w'.cell? ⟨w.heap.size, 1, none⟩ = some (.int .i64 ne) ∧ w'.cell? ⟨w.heap.size, 2, none⟩ = some (.int .i64 bi) ∧ w'.cell? ⟨w.heap.size, 3, none⟩ = some (.int .i64 lo) ∧ w'.cell? ⟨w.heap.size, 4, none⟩ = some (.int .i64 hi) ∧ w'.cell? ⟨w.heap.size, 5, none⟩ = some (.int .i64 ps) ∧ w'.cell? ⟨w.heap.size, 6, none⟩ = some (.int .i64 gl)) w2 ∧ Below w.heap.size w w2)
    case first =>
      by_cases h1 : 0 ≤ ne
      · have h1d : decide (0 ≤ ne) = true := by simpa using h1
        by_cases h2 : ne < 4294967296
        · have h2d : decide (ne < 4294967296) = true := by simpa using h2
          go_quiet ((go_at_call 32; exact Calls.quiet_of_same (power32 _)))
          go_wp2_with fail
          go_meet
          case rel => exact ⟨congrArg Value.bool (mayA_2 h1 h2).symm, (by simp [*]), (by first | exact bdrewN ((Below.refl _ _).alloc (Nat.le_refl _) _) _ | exact bdrewN hbl _)⟩
        · have h2d : decide (ne < 4294967296) = false := by simpa using h2
          go_quiet ((go_at_call 32; exact Calls.quiet_of_same (power32 _)))
          go_wp2_with fail
          go_meet
          case rel => exact ⟨congrArg Value.bool (mayA_1 (by omega)).symm, (by simp [*]), (by first | exact bdrewN ((Below.refl _ _).alloc (Nat.le_refl _) _) _ | exact bdrewN hbl _)⟩
      · have h1d : decide (0 ≤ ne) = false := by simpa using h1
        go_quiet (fail)
        go_wp2_with fail
        go_meet
        case rel => exact ⟨congrArg Value.bool (mayA_0 (by omega)).symm, (by simp [*]), (by first | exact bdrewN ((Below.refl _ _).alloc (Nat.le_refl _) _) _ | exact bdrewN hbl _)⟩
    case rest =>
      obtain ⟨rfl, ⟨c0, c1, c2, c3, c4, c5, c6⟩, hbl⟩ := hcut
      go_wp2_with fail
      go_cut [5] (fun a w2 => a = .bool (mayB ou ne (netSizeI bi)) ∧ (fun w' => w'.cell? ⟨w.heap.size, 0, none⟩ = some (.int .i64 ou) ∧ w'.cell? ⟨w.heap.size, 1, none⟩ = some (.int .i64 ne) ∧ w'.cell? ⟨w.heap.size, 2, none⟩ = some (.int .i64 bi) ∧ w'.cell? ⟨w.heap.size, 3, none⟩ = some (.int .i64 lo) ∧ w'.cell? ⟨w.heap.size, 4, none⟩ = some (.int .i64 hi) ∧ w'.cell? ⟨w.heap.size, 5, none⟩ = some (.int .i64 ps) ∧ w'.cell? ⟨w.heap.size, 6, none⟩ = some (.int .i64 gl)) w2 ∧ Below w.heap.size w w2)
      case first =>
        by_cases h1 : 0 < ou
        · have h1d : decide (0 < ou) = true := by simpa using h1
          by_cases h2 : ou < 4294967295
          · have h2d : decide (ou < 4294967295) = true := by simpa using h2
            go_quiet ((go_at_call 32; exact Calls.quiet_of_same (power32 _)))
            go_wp2_with fail
            go_meet
            case rel => exact ⟨congrArg Value.bool (mayB_2 h1 h2).symm, (by simp [*]), (by first | exact bdrewN ((Below.refl _ _).alloc (Nat.le_refl _) _) _ | exact bdrewN hbl _)⟩
          · have h2d : decide (ou < 4294967295) = false := by simpa using h2
            go_quiet ((go_at_call 32; exact Calls.quiet_of_same (power32 _)))
            go_wp2_with fail
            go_meet
            case rel => exact ⟨congrArg Value.bool (mayB_1 (by omega)).symm, (by simp [*]), (by first | exact bdrewN ((Below.refl _ _).alloc (Nat.le_refl _) _) _ | exact bdrewN hbl _)⟩
        · have h1d : decide (0 < ou) = false := by simpa using h1
          go_quiet (fail)
          go_wp2_with fail
          go_meet
          case rel => exact ⟨congrArg Value.bool (mayB_0 (by omega)).symm, (by simp [*]), (by first | exact bdrewN ((Below.refl _ _).alloc (Nat.le_refl _) _) _ | exact bdrewN hbl _)⟩
      case rest =>
        clear c0 c1 c2 c3 c4 c5 c6 hbl
        obtain ⟨rfl, ⟨c0, c1, c2, c3, c4, c5, c6⟩, hbl⟩ := hcut
        go_upto_region 6 with fail
        go_cut [6] (fun a w2 => a = .bool (validPortsB lo hi) ∧ w2 = wc)
        case first =>
          go_wp2_with fail
          all_goals go_meet
          all_goals
            refine ⟨congrArg Value.bool ?_, rfl⟩
            unfold validPortsB
            first | (refine decide_eq_decide.mpr ?_; omega) | (refine (decide_eq_false ?_).symm; omega)
        case rest =>
          obtain ⟨rfl, rfl⟩ := hcut
          cases hA : mayA ne (netSizeI bi) <;> cases hB : mayB ou ne (netSizeI bi) <;> cases hD : validPortsB lo hi
          all_goals go_wp2_with fail
          all_goals
            go_ret
            refine ⟨ret_bool ?_, hbl⟩
            unfold mayI
            simp only [hA, hB, hD, decide_eq_true (And.intro b1 b2), Bool.true_and, Bool.and_true, Bool.false_and, Bool.and_false]
            try (unfold validQuotaB; first | (refine decide_eq_decide.mpr ?_; omega) | (refine (decide_eq_false ?_).symm; omega))
  · have HF : Hid (mayI ou ne bi lo hi ps gl = false) := by unfold mayI; rw [decide_eq_false hb]; rfl
    go_enter Tryz.func22, Tryz.ntmps22
    go_wp2
    all_goals (go_ret; exact ⟨ret_bool HF.out.symm, (Below.refl _ _).alloc (Nat.le_refl _) _⟩)

/-- The document's configurations are the code's. -/
def validB (ou ne bi lo hi ps gl : Int) : Bool := validNetB ou ne bi && validPortsB lo hi && validQuotaB ps gl
theorem div_ne_iff (ou ne s : Int) (hs : 0 < s) (hm : ne % s = 0) : ou / s ≠ ne / s ↔ ¬ (ne ≤ ou ∧ ou - ne < s) := by
  have e : ne = s * (ne / s) := by have := Int.mul_ediv_add_emod ne s; omega
  have k := Int.mul_ediv_add_emod ou s
  have k1 := Int.emod_nonneg ou (b := s) (by omega)
  have k2 := Int.emod_lt_of_pos ou hs
  generalize ne / s = q at *
  generalize ou / s = p at *
  generalize ou % s = r at *
  subst e
  constructor
  · intro h hh
    apply h
    have a1 : s * q ≤ s * p + r := by omega
    have a2 : s * p + r < s * q + s := by omega
    have b1 : q < p + 1 := by
      apply Int.lt_of_mul_lt_mul_left (a := s) _ (by omega)
      rw [Int.mul_add]; omega
    have b2 : p < q + 1 := by
      apply Int.lt_of_mul_lt_mul_left (a := s) _ (by omega)
      rw [Int.mul_add]; omega
    omega
  · intro h e2
    subst e2
    apply h
    omega
theorem may_valid (ou ne bi lo hi ps gl : Int) : mayI ou ne bi lo hi ps gl = validB ou ne bi lo hi ps gl := by
  have hp := netSizeI_pos bi
  unfold mayI validB validNetB
  by_cases hb : 8 ≤ bi ∧ bi ≤ 30
  · by_cases ho : 1 ≤ ou ∧ ou ≤ 4294967294
    · by_cases hn : 0 ≤ ne ∧ ne < 4294967296
      · by_cases hm : ne % netSizeI bi = 0
        · have e1 : wrap64 (ne.tdiv (netSizeI bi)) = ne / netSizeI bi := by
            rw [Int.tdiv_eq_ediv_of_nonneg hn.1]
            refine Go.IntWalk.wrap64_in _ ⟨?_, ?_⟩
            · have := Int.ediv_nonneg hn.1 (b := netSizeI bi) (by omega); omega
            · have := Int.ediv_le_self (netSizeI bi) hn.1; omega
          have e2 : (ou / netSizeI bi != ne / netSizeI bi) = !innerB ne bi ou := by
            have := div_ne_iff ou ne (netSizeI bi) (by omega) hm
            unfold innerB
            by_cases hi : ne ≤ ou ∧ ou - ne < netSizeI bi
            · rw [decide_eq_true hi]
              have hx : ou / netSizeI bi = ne / netSizeI bi := by
                rcases Classical.em (ou / netSizeI bi = ne / netSizeI bi) with h | h
                · exact h
                · exact absurd hi (this.1 h)
              simp [hx]
            · rw [decide_eq_false hi]
              have hx := this.2 hi
              simp [hx]
          unfold mayA mayB
          rw [e1, e2, decide_eq_true hb, decide_eq_true hn, decide_eq_true hm, decide_eq_true (show 0 < ou ∧ ou < 4294967295 by omega), decide_eq_true (show 1 ≤ ou ∧ ou ≤ 4294967294 ∧ 8 ≤ bi ∧ bi ≤ 30 ∧ 0 ≤ ne ∧ ne < 4294967296 by omega)]
          simp
        · have e1 : mayA ne (netSizeI bi) = false := by unfold mayA; rw [decide_eq_false hm]; simp
          rw [e1, decide_eq_false hm]; simp
      · have e1 : mayA ne (netSizeI bi) = false := by unfold mayA; rw [decide_eq_false hn]; simp
        rw [e1, decide_eq_false (show ¬ (1 ≤ ou ∧ ou ≤ 4294967294 ∧ 8 ≤ bi ∧ bi ≤ 30 ∧ 0 ≤ ne ∧ ne < 4294967296) by omega)]; simp
    · have e1 : mayB ou ne (netSizeI bi) = false := by unfold mayB; rw [decide_eq_false (by omega)]; simp
      rw [e1, decide_eq_false (show ¬ (1 ≤ ou ∧ ou ≤ 4294967294 ∧ 8 ≤ bi ∧ bi ≤ 30 ∧ 0 ≤ ne ∧ ne < 4294967296) by omega)]; simp
  · rw [decide_eq_false hb, decide_eq_false (show ¬ (1 ≤ ou ∧ ou ≤ 4294967294 ∧ 8 ≤ bi ∧ bi ≤ 30 ∧ 0 ≤ ne ∧ ne < 4294967296) by omega)]; simp
end Go.Proofs.YtfkjobiapjhacaaGreatDoor
