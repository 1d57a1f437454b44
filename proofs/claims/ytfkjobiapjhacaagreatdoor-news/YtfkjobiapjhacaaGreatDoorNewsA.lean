/- Contracts of the leaves under New and May. Own work. -/
import Derived.Test.YtfkjobiapjhacaaGreatDoorRows
import Derived.WalkKit
import Derived.WalkSpells
import Derived.WalkLawsBesides
import Derived.Deep.RegionHeld3
import Derived.Deep.DrawnRows
import Derived.Deep.RegionWith
namespace Go.Proofs.YtfkjobiapjhacaaGreatDoor
open Go.RowKit
attribute [local go_sem ↓] Go.wp_at_zero Go.wp_at_succ

theorem bcell {W w1 : World} (hb : Below W.heap.size W w1) : (∀ b o, b < W.heap.size → w1.cell? ⟨b, o, none⟩ = W.cell? ⟨b, o, none⟩) ∧ (∀ b o, b < W.heap.size → w1.frozen? ⟨b, o, none⟩ = W.frozen? ⟨b, o, none⟩) :=
  ⟨fun b o h => hb.cell (p := ⟨b, o, none⟩) h, fun b o h => hb.frozen (p := ⟨b, o, none⟩) h⟩

theorem below_lt {w W w1 : World} (hb : Below W.heap.size W w1) (h : w.heap.size < W.heap.size := by simp) : w.heap.size < w1.heap.size := Nat.lt_of_lt_of_le h hb.size
theorem ret_int {k : IntKind} {a b : Int} (h : a = b) : Ending.returned (.int k a) = .returned (.int k b) := by rw [h]
theorem wrapIn (x : Int) (h0 : -9223372036854775808 ≤ x) (h1 : x ≤ 9223372036854775807) : IntKind.i64.wrap x = x := by
  rw [IntKind.wrap_i64]; omega
theorem ret_bool {a b : Bool} (h : a = b) : Ending.returned (.bool a) = .returned (.bool b) := by rw [h]

def pickI (c n : Int) : Int := (if c < 0 then -(c + 1) else c) % n
theorem pickI_bd (c n : Int) (hn : 0 < n) : 0 ≤ pickI c n ∧ pickI c n < n := by
  unfold pickI; exact ⟨Int.emod_nonneg _ (by omega), Int.emod_lt_of_pos _ hn⟩

set_option maxHeartbeats 400000 in
theorem pick_any (c n : Int) (w : World) (h0 : -9223372036854775808 ≤ c) (h1 : c ≤ 9223372036854775807) (hn : 0 < n) (hn2 : n ≤ 9223372036854775807) :
    Calls Tryz.prog 13 #[.int .i64 c, .int .i64 n] w fun e w' => e = .returned (.int .i64 (pickI c n)) ∧ w' = w := by
  by_cases hc : c < 0
  · go_enter Tryz.func13, Tryz.ntmps13
    go_wp2
    go_ret
    refine ⟨ret_int ?_, rfl⟩
    unfold pickI
    rw [if_pos hc, ← Int.neg_tmod, Int.tmod_eq_emod_of_nonneg (by omega)]
  · go_enter Tryz.func13, Tryz.ntmps13
    go_wp2
    go_ret
    refine ⟨ret_int ?_, rfl⟩
    unfold pickI
    rw [if_neg (by omega)]

def pow2 (n : Nat) : Int := 2 ^ n
theorem pow2_succ (n : Nat) : pow2 (n + 1) = 2 * pow2 n := by unfold pow2; rw [Int.pow_succ]; omega
theorem pow2_bd (n : Nat) (h : n ≤ 40) : 1 ≤ pow2 n ∧ pow2 n ≤ 1099511627776 := by
  unfold pow2
  constructor
  · have := Int.pow_pos (n := (2 : Int)) (m := n) (by decide); omega
  · have : (2 : Int) ^ n ≤ 2 ^ 40 := by exact_mod_cast Nat.pow_le_pow_right (by decide) h
    omega

set_option maxHeartbeats 400000 in
theorem power_any (n : Int) (w : World) (h0 : 0 ≤ n) (h1 : n ≤ 40) :
    Calls Tryz.prog 32 #[.int .i64 n] w fun e w' => e = .returned (.int .i64 (pow2 n.toNat)) ∧ w' = w := by
  obtain ⟨m, rfl⟩ := Int.eq_ofNat_of_zero_le h0
  rw [Int.toNat_natCast]
  go_enter Tryz.func32, Tryz.ntmps32
  go_wp2
  go_loop [0, 3] (fun i v => ∃ k : Nat, k ≤ m ∧ i = .int .i64 ((m - k : Nat) : Int) ∧ v = .int .i64 (pow2 k)) (fun i _ => (intOf i).toNat)
  case atStart => exact ⟨0, Nat.zero_le _, rfl, rfl⟩
  case round =>
    obtain ⟨k, hk, rfl, rfl⟩ := hrel
    have hb := pow2_bd k (by omega)
    have HS : Hid (pow2 (k + 1) = 2 * pow2 k) := pow2_succ k
    by_cases hlt : k < m
    · go_wp2
      go_round
      case rel => exact ⟨k + 1, by omega, by go_num, by rw [HS.out]⟩
      case measure => simp [intOf]; omega
    · go_wp2
      go_ret
      have : k = m := by omega
      subst this
      exact ⟨rfl, rfl⟩

def netSizeI (bi : Int) : Int := if bi < 0 ∨ 32 < bi then 1 else pow2 (32 - bi).toNat

theorem netSizeI_pos (bi : Int) : 1 ≤ netSizeI bi ∧ netSizeI bi ≤ 1099511627776 := by
  unfold netSizeI; split
  · omega
  · exact pow2_bd _ (by omega)
theorem wrap_pow2 (k : Nat) (h : k ≤ 40) : wrap64 (2 ^ k) = pow2 k := by
  have := pow2_bd k h
  have e : (2 : Int) ^ k = pow2 k := rfl
  rw [e]; exact Go.IntWalk.wrap64_in _ ⟨by omega, by omega⟩

set_option maxHeartbeats 400000 in
theorem netSize_any (ou ne bi lo hi ps gl : Int) (w : World) :
    Calls Tryz.prog 63 #[.agg #[.int .i64 ou, .int .i64 ne, .int .i64 bi, .int .i64 lo, .int .i64 hi, .int .i64 ps, .int .i64 gl]] w fun e w' => e = .returned (.int .i64 (netSizeI bi)) ∧ Below w.heap.size w w' := by
  by_cases h1 : bi < 0
  · go_enter Tryz.func63, Tryz.ntmps63
    go_wp2
    go_ret
    refine ⟨ret_int ?_, (Below.refl _ _).alloc (Nat.le_refl _) _⟩
    unfold netSizeI; rw [if_pos (Or.inl h1)]
  · by_cases h2 : 32 < bi
    · go_enter Tryz.func63, Tryz.ntmps63
      go_wp2
      go_ret
      refine ⟨ret_int ?_, (Below.refl _ _).alloc (Nat.le_refl _) _⟩
      unfold netSizeI; rw [if_pos (Or.inr h2)]
    · go_enter Tryz.func63, Tryz.ntmps63
      go_wp2
      go_ret
      refine ⟨ret_int ?_, (Below.refl _ _).alloc (Nat.le_refl _) _⟩
      unfold netSizeI; rw [if_neg (by omega)]
      exact wrap_pow2 _ (by omega)

def innerB (ne bi a : Int) : Bool := decide (ne ≤ a ∧ a - ne < netSizeI bi)
set_option maxHeartbeats 400000 in
theorem inner_any (ou ne bi lo hi ps gl a : Int) (w : World) (h0 : 0 ≤ a) (h1 : a ≤ 4294967296) (h2 : 0 ≤ ne) (h3 : ne ≤ 4294967296) :
    Calls Tryz.prog 64 #[.agg #[.int .i64 ou, .int .i64 ne, .int .i64 bi, .int .i64 lo, .int .i64 hi, .int .i64 ps, .int .i64 gl], .int .i64 a] w fun e w' => e = .returned (.bool (innerB ne bi a)) ∧ Below w.heap.size w w' := by
  have hp := netSizeI_pos bi
  by_cases h : ne ≤ a
  · have hd : decide (ne ≤ a) = true := by simpa using h
    go_enter Tryz.func64, Tryz.ntmps64
    go_wp2
    go_region_held3 (fun w' => w'.cell? ⟨w.heap.size, 0, none⟩ = some (.int .i64 ou) ∧ w'.cell? ⟨w.heap.size, 1, none⟩ = some (.int .i64 ne) ∧ w'.cell? ⟨w.heap.size, 2, none⟩ = some (.int .i64 bi) ∧ w'.cell? ⟨w.heap.size, 3, none⟩ = some (.int .i64 lo) ∧ w'.cell? ⟨w.heap.size, 4, none⟩ = some (.int .i64 hi) ∧ w'.cell? ⟨w.heap.size, 5, none⟩ = some (.int .i64 ps) ∧ w'.cell? ⟨w.heap.size, 6, none⟩ = some (.int .i64 gl)) (simp [*]) ((go_at_call 63; refine (netSize_any ou ne bi lo hi ps gl _).mono ?_; rintro e w' ⟨rfl, hb⟩; obtain ⟨hc, hf⟩ := bcell hb))
    go_wp2
    go_ret
    refine ⟨ret_bool ?_, ((Below.refl _ _).alloc (Nat.le_refl _) _).drew.trans (hb.mono (by simp))⟩
    unfold innerB; rw [wrapIn _ (by omega) (by omega)]
    refine decide_eq_decide.mpr ?_; omega
  · have hd : decide (ne ≤ a) = false := by simpa using h
    go_enter Tryz.func64, Tryz.ntmps64
    go_wp2
    go_region
    go_wp2
    go_ret
    refine ⟨ret_bool ?_, ((Below.refl _ _).alloc (Nat.le_refl _) _).drew⟩
    unfold innerB; refine (decide_eq_false ?_).symm; omega

def validNetB (ou ne bi : Int) : Bool := decide (1 ≤ ou ∧ ou ≤ 4294967294 ∧ 8 ≤ bi ∧ bi ≤ 30 ∧ 0 ≤ ne ∧ ne < 4294967296) && decide (ne % netSizeI bi = 0) && !innerB ne bi ou
set_option maxHeartbeats 1000000 in
theorem validNet_any (ou ne bi lo hi ps gl : Int) (w : World) :
    Calls Tryz.prog 41 #[.agg #[.int .i64 ou, .int .i64 ne, .int .i64 bi, .int .i64 lo, .int .i64 hi, .int .i64 ps, .int .i64 gl]] w fun e w' => e = .returned (.bool (validNetB ou ne bi)) ∧ Below w.heap.size w w' := by
  by_cases h : 1 ≤ ou ∧ ou ≤ 4294967294 ∧ 8 ≤ bi ∧ bi ≤ 30 ∧ 0 ≤ ne ∧ ne < 4294967296
  · obtain ⟨g1, g2, g3, g4, g5, g6⟩ := h
    have hp := netSizeI_pos bi
    go_enter Tryz.func41, Tryz.ntmps41
    have hz0 : ¬ netSizeI bi = 0 := by omega
    by_cases hz : ne % netSizeI bi = 0
    · have hz2 : (ne.tmod (netSizeI bi) == 0) = true := by rw [Int.tmod_eq_emod_of_nonneg g5]; simpa using hz
      have HZ : Hid (ne % netSizeI bi = 0) := hz
      clear hz
      go_wp2
      go_region_held3 (fun w' => w'.cell? ⟨w.heap.size, 0, none⟩ = some (.int .i64 ou) ∧ w'.cell? ⟨w.heap.size, 1, none⟩ = some (.int .i64 ne) ∧ w'.cell? ⟨w.heap.size, 2, none⟩ = some (.int .i64 bi) ∧ w'.cell? ⟨w.heap.size, 3, none⟩ = some (.int .i64 lo) ∧ w'.cell? ⟨w.heap.size, 4, none⟩ = some (.int .i64 hi) ∧ w'.cell? ⟨w.heap.size, 5, none⟩ = some (.int .i64 ps) ∧ w'.cell? ⟨w.heap.size, 6, none⟩ = some (.int .i64 gl)) (simp [*])
        (first
          | (go_at_call 63; refine (netSize_any ou ne bi lo hi ps gl _).mono ?_; rintro e w' ⟨rfl, hb1⟩; obtain ⟨hc1, hf1⟩ := bcell hb1; have hz1 : w.heap.size < w'.heap.size := below_lt hb1)
          | (go_at_call 64; refine (inner_any ou ne bi lo hi ps gl _ _ (by omega) (by omega) (by omega) (by omega)).mono ?_; rintro e w' ⟨rfl, hb2⟩; obtain ⟨hc2, hf2⟩ := bcell hb2))
      go_wp2
      go_ret
      refine ⟨ret_bool ?_, ((Below.refl _ _).alloc (Nat.le_refl _) _).drew.trans ((hb1.mono (by simp)).trans (hb2.mono ?_))⟩
      · unfold validNetB; rw [decide_eq_true HZ.out, decide_eq_true ⟨g1, g2, g3, g4, g5, g6⟩]; simp
      · have := hb1.size; simp at this; omega
    · have hz2 : (ne.tmod (netSizeI bi) == 0) = false := by rw [Int.tmod_eq_emod_of_nonneg g5]; simpa using hz
      go_wp2
      first | go_region_with ((go_at_call 63; refine (netSize_any ou ne bi lo hi ps gl _).mono ?_; rintro e w' ⟨rfl, hb1⟩; obtain ⟨hc1, hf1⟩ := bcell hb1)) | fail
      go_wp2
      all_goals
        go_ret
        refine ⟨ret_bool ?_, ((Below.refl _ _).alloc (Nat.le_refl _) _).drew.trans (hb1.mono (by simp))⟩
        unfold validNetB; rw [decide_eq_false hz]; simp
  · have hF : validNetB ou ne bi = false := by unfold validNetB; rw [decide_eq_false h]; rfl
    have HF : Hid (validNetB ou ne bi = false) := hF
    clear hF
    go_enter Tryz.func41, Tryz.ntmps41
    go_wp2
    all_goals (go_ret; exact ⟨ret_bool HF.out.symm, (Below.refl _ _).alloc (Nat.le_refl _) _⟩)

def validPortsB (lo hi : Int) : Bool := decide (1 ≤ lo ∧ lo ≤ hi ∧ hi ≤ 65535 ∧ hi - lo < 12)
set_option maxHeartbeats 400000 in
theorem validPorts_any (ou ne bi lo hi ps gl : Int) (w : World) :
    Calls Tryz.prog 42 #[.agg #[.int .i64 ou, .int .i64 ne, .int .i64 bi, .int .i64 lo, .int .i64 hi, .int .i64 ps, .int .i64 gl]] w fun e w' => e = .returned (.bool (validPortsB lo hi)) ∧ Below w.heap.size w w' := by
  go_enter Tryz.func42, Tryz.ntmps42
  go_wp2
  all_goals
    go_ret
    refine ⟨ret_bool ?_, (Below.refl _ _).alloc (Nat.le_refl _) _⟩
    unfold validPortsB
    first | (refine decide_eq_decide.mpr ?_; omega) | (refine (decide_eq_false ?_).symm; omega)

def validQuotaB (ps gl : Int) : Bool := decide (1 ≤ ps ∧ ps ≤ gl ∧ gl ≤ 4096)
set_option maxHeartbeats 400000 in
theorem validQuota_any (ou ne bi lo hi ps gl : Int) (w : World) :
    Calls Tryz.prog 43 #[.agg #[.int .i64 ou, .int .i64 ne, .int .i64 bi, .int .i64 lo, .int .i64 hi, .int .i64 ps, .int .i64 gl]] w fun e w' => e = .returned (.bool (validQuotaB ps gl)) ∧ Below w.heap.size w w' := by
  go_enter Tryz.func43, Tryz.ntmps43
  go_wp2
  all_goals
    go_ret
    refine ⟨ret_bool ?_, (Below.refl _ _).alloc (Nat.le_refl _) _⟩
    unfold validQuotaB
    first | (refine decide_eq_decide.mpr ?_; omega) | (refine (decide_eq_false ?_).symm; omega)
end Go.Proofs.YtfkjobiapjhacaaGreatDoor
