/- Own work. -/
import Derived.Test.YtfkjobiapjhacabGreatA3
/- Contracts of package gatewaykeep: numbers, bytes, sums. Own work. -/
namespace Go.Proofs.YtfkjobiapjhacabGreat
open Go.RowKit
attribute [local go_sem ↓] Go.wp_at_zero Go.wp_at_succ

theorem or_i64_nat (a b : Nat) (ha : a < 2 ^ 62) (hb : b < 2 ^ 62) : bits .or .i64 (a : Int) (b : Int) = ((a ||| b : Nat) : Int) := by
  have hx : a ||| b < 2 ^ 62 := Nat.or_lt_two_pow ha hb
  show IntKind.i64.wrap ((BitVec.ofInt 64 (a : Int) ||| BitVec.ofInt 64 (b : Int)).toNat : Int) = _
  have ea : (BitVec.ofInt 64 (a : Int)).toNat = a := by rw [BitVec.toNat_ofInt]; omega
  have eb : (BitVec.ofInt 64 (b : Int)).toNat = b := by rw [BitVec.toNat_ofInt]; omega
  rw [BitVec.toNat_or, ea, eb, IntKind.wrap_i64]
  omega
theorem or_byte (v b : Int) (hv : 0 ≤ v) (hv2 : v < 2 ^ 50) (hb : 0 ≤ b) (hb2 : b < 256) : bits .or .i64 (v * 256) b = v * 256 + b := by
  obtain ⟨x, rfl⟩ := Int.eq_ofNat_of_zero_le hv
  obtain ⟨y, rfl⟩ := Int.eq_ofNat_of_zero_le hb
  have h := or_i64_nat (2 ^ 8 * x) y (by omega) (by omega)
  rw [← Nat.two_pow_add_eq_or_of_lt (by omega) x] at h
  have e : ((2 ^ 8 * x : Nat) : Int) = (x : Int) * 256 := by omega
  rw [e] at h
  rw [h]
  omega

/-- The number that n bytes from a place on are. -/
def atN (s : ByteArray) (p : Int) : Nat → Int
  | 0 => 0
  | k + 1 => atN s p k * 256 + byteAt s (p + k)
theorem atN_bd (s : ByteArray) (p : Int) (k : Nat) : 0 ≤ atN s p k ∧ atN s p k < 256 ^ k := by
  induction k with
  | zero => simp [atN]
  | succ k ih => have := byteAt_bd s (p + k); unfold atN; rw [Int.pow_succ]; omega
theorem atN_one (s : ByteArray) (p : Int) : atN s p 1 = byteAt s p := by simp [atN]
theorem atN_two (s : ByteArray) (p : Int) : atN s p 2 = wordAt s p := by simp [atN, wordAt]
theorem atN_four (s : ByteArray) (p : Int) : atN s p 4 = addrAt s p := by
  simp [atN, addrAt, wordAt]
  have : p + 2 + 1 = p + 3 := by omega
  rw [this]; omega

set_option maxHeartbeats 400000 in
theorem at_any (s : ByteArray) (p : Int) (n : Nat) (w : World) (h0 : 0 ≤ p) (h1 : p ≤ 1000000) (hn : n ≤ 4) (hs : s.size ≤ 1000000) :
    Calls Tryz.prog 37 #[.string s, .int .i64 p, .int .i64 n] w fun e w' => e = .returned (.int .i64 (atN s p n)) ∧ w' = w := by
  go_enter Tryz.func37, Tryz.ntmps37
  go_wp2
  go_loop [7, 8] (fun v i => ∃ k : Nat, k ≤ n ∧ i = .int .i64 (p + k) ∧ v = .int .i64 (atN s p k)) (fun _ i => n + p.toNat - (intOf i).toNat)
  case atStart => exact ⟨0, Nat.zero_le _, by simp, rfl⟩
  case round =>
    obtain ⟨k, hk, rfl, rfl⟩ := hrel
    have hb := atN_bd s p k
    have hS : Hid (atN s p (k + 1) = atN s p k * 256 + byteAt s (p + k)) := rfl
    have hbb := byteAt_bd s (p + k)
    have hlt4 : atN s p k < 4294967296 := by
      rcases (by omega : k = 0 ∨ k = 1 ∨ k = 2 ∨ k = 3 ∨ k = 4) with rfl | rfl | rfl | rfl | rfl <;> omega
    clear hb
    have hb0 := (atN_bd s p k).1
    by_cases hlt : k < n
    · by_cases hin : p + k < s.size
      · obtain ⟨q, hq⟩ := Int.eq_ofNat_of_zero_le (show 0 ≤ p + k by omega)
        have hqs : q < s.size := by omega
        have HB : Hid (byteAt s (p + k) = (s[q].toNat : Int)) := by show _ = _; rw [hq]; exact byteAt_nat s q hqs
        have hu := s[q].toNat_lt
        go_wp2
        go_round
        case rel => exact ⟨k + 1, by omega, by go_num, by rw [hS.out, HB.out, or_byte _ _ hb0 (by omega) (by omega) (by omega)]⟩
        case measure => simp [intOf]; omega
      · have HB : Hid (byteAt s (p + k) = 0) := byteAt_out s _ (by omega)
        go_wp2
        go_round
        case rel => exact ⟨k + 1, by omega, by go_num, by rw [hS.out, HB.out]; simp⟩
        case measure => simp [intOf]; omega
    · have e : k = n := by omega
      subst e
      go_wp2
      go_ret
      exact ⟨rfl, rfl⟩

theorem fold_add (a b : Int) (ha : 0 ≤ a) (hb : 0 ≤ b) (hb2 : b ≤ 65535) : foldI (a + b) = if foldI a + b > 65535 then foldI a + b - 65535 else foldI a + b := by
  unfold foldI
  by_cases h1 : a = 0
  · subst h1
    by_cases h2 : b = 0
    · subst h2; simp
    · rw [if_neg (by omega), if_pos rfl, if_neg (by omega)]; omega
  · rw [if_neg (by omega), if_neg h1]
    split <;> omega
theorem fold_fold (a b : Int) (ha : 0 ≤ a) (hb : 0 ≤ b) : foldI (a + foldI b) = foldI (a + b) := by
  unfold foldI
  by_cases h1 : b = 0
  · subst h1; simp
  · rw [if_neg h1, if_neg (by omega), if_neg (by omega)]
    omega

set_option maxHeartbeats 400000 in
theorem words_any (s : ByteArray) (w : World) (hs : s.size ≤ 1000000) :
    Calls Tryz.prog 40 #[.string s] w fun e w' => e = .returned (.int .i64 (sumI s)) ∧ w' = w := by
  go_enter Tryz.func40, Tryz.ntmps40
  go_wp2
  go_loop [3, 4] (fun t i => ∃ k : Nat, k ≤ (s.size + 1) / 2 ∧ i = .int .i64 ((2 * k : Nat) : Int) ∧ t = .int .i64 (foldI (sumTo s k))) (fun _ i => s.size + 2 - (intOf i).toNat)
  case atStart => exact ⟨0, Nat.zero_le _, rfl, rfl⟩
  case round =>
    obtain ⟨k, hk, rfl, rfl⟩ := hrel
    have hb := foldI_bd (sumTo s k)
    have hw := wordAt_bd s (2 * k)
    have HS : Hid (foldI (sumTo s (k + 1)) = if foldI (sumTo s k) + wordAt s (2 * k) > 65535 then foldI (sumTo s k) + wordAt s (2 * k) - 65535 else foldI (sumTo s k) + wordAt s (2 * k)) := fold_add _ _ (sumTo_bd s k).1 hw.1 hw.2
    have HA : Hid (∀ w, Calls Tryz.prog 37 #[.string s, .int .i64 (2 * (k : Int)), .int .i64 2] w fun e w' => e = .returned (.int .i64 (wordAt s (2 * k))) ∧ w' = w) := fun w => by
      rw [← atN_two]; exact at_any s (2 * k) 2 w (by omega) (by omega) (by decide) hs
    by_cases hlt : 2 * k < s.size
    · go_wp2_with (go_at_call 37; refine (HA.out _).mono ?_; rintro e w' ⟨rfl, rfl⟩)
      all_goals
        go_round
        case rel => exact ⟨k + 1, by omega, by go_num, by rw [HS.out]; first | rw [if_pos (by omega)] | rw [if_neg (by omega)]⟩
        case measure => simp [intOf]; omega
    · have e : k = (s.size + 1) / 2 := by omega
      have HE : Hid (foldI (sumTo s k) = sumI s) := by unfold sumI; rw [← e]; rfl
      clear e
      go_wp2
      go_ret
      exact ⟨g_int HE.out, rfl⟩

/-- The low n bytes of a number, the high one first. -/
def wbytes (v : Int) : Nat → List UInt8
  | 0 => []
  | k + 1 => byteOf (v / 256 ^ k) :: wbytes v k
theorem wbytes_length (v : Int) (n : Nat) : (wbytes v n).length = n := by
  induction n with
  | zero => rfl
  | succ n ih => simp [wbytes, ih]
def wideB (v : Int) (n : Nat) : ByteArray := ⟨(wbytes v n).toArray⟩
/-- The cells of a slice of n bytes of which the last k are laid. -/
def wcells (v : Int) (n k : Nat) : Array Value := (List.replicate (n - k) (Value.int .u8 0) ++ (wbytes v k).map (fun b => Value.int .u8 (b.toNat : Int))).toArray

theorem wcells_size (v : Int) (n k : Nat) (h : k ≤ n) : (wcells v n k).size = n := by simp [wcells, wbytes_length]; omega
theorem wcells_set (v : Int) (n k : Nat) (h : k < n) : (wcells v n k).setIfInBounds (n - 1 - k) (.int .u8 ((byteOf (v / 256 ^ k)).toNat : Int)) = wcells v n (k + 1) := by
  unfold wcells
  obtain ⟨m, hm⟩ : ∃ m, n - k = m + 1 := ⟨n - k - 1, by omega⟩
  have h1 : n - (k + 1) = m := by omega
  have h2 : n - 1 - k = m := by omega
  rw [hm, h1, h2]
  apply Array.toList_inj.1
  simp [List.replicate_succ', wbytes]
theorem cellsN {w : World} {b : Nat} {cur : Array Value} {t : TypeId} (h : w.heap[b]? = some (.cells cur t (0, 0))) : (∀ j, w.cell? ⟨b, j, none⟩ = cur[j]?) ∧ ∀ j, w.frozen? ⟨b, j, none⟩ = false := by
  refine ⟨fun j => by simp [World.cell?, h], fun j => by simp [World.frozen?, h]⟩
theorem mk_wide (v : Int) (n : Nat) (h1 : 1 ≤ n) (hn : n ≤ 4) (w : World) : (Instr.makeSlice 59 (.int .i64 n) (.int .i64 n)).run Tryz.prog w = .ok (.slice (some ⟨w.heap.size, 0, none⟩) n n) (w.alloc (.cells (wcells v n 0) 5)) := by
  rcases (by omega : n = 1 ∨ n = 2 ∨ n = 3 ∨ n = 4) with rfl | rfl | rfl | rfl <;> kernel_rfl

set_option maxRecDepth 100000 in
set_option maxHeartbeats 400000 in
theorem wide_any (v : Int) (n : Nat) (w : World) (h1 : 1 ≤ n) (hn : n ≤ 4) :
    Calls Tryz.prog 22 #[.int .i64 v, .int .i64 n] w fun e w' => e = .returned (.string (wideB v n)) ∧ Below w.heap.size w w' := by
  have hmk := mk_wide v n h1 hn
  go_enter Tryz.func22, Tryz.ntmps22
  go_wp2
  go_loopw [0, 6] (fun x i wr => ∃ k : Nat, k ≤ n ∧ i = .int .i64 ((n : Int) - k - 1) ∧ x = .int .i64 (v / 256 ^ k) ∧ wr.heap[w.heap.size]? = some (.cells (wcells v n k) 5 (0, 0)) ∧ Below w.heap.size w wr) (fun _ i _ => (intOf i + 1).toNat)
  case atStart => exact ⟨0, Nat.zero_le _, by simp, by simp, by rw [hget_alloc, if_pos rfl], (Below.refl _ _).alloc (Nat.le_refl _) _⟩
  case round =>
    obtain ⟨k, hk, rfl, rfl, hH, hB⟩ := hrel
    have HH : Hid (wr.heap[w.heap.size]? = some (.cells (wcells v n k) 5 (0, 0))) := hH
    have HB : Hid (Below w.heap.size w wr) := hB
    have hlB := lt_of_block hH
    clear hB
    by_cases hlt : k < n
    · obtain ⟨m, hm⟩ : ∃ m : Nat, (n : Int) - k - 1 = m := ⟨n - 1 - k, by omega⟩
      have hmn : Hid (m = n - 1 - k) := by show _ = _; omega
      have hmm : m < n := by omega
      have hc := (cellsN hH).1 m
      rw [Array.getElem?_eq_getElem (by rw [wcells_size v n k hk]; omega)] at hc
      have hf := (cellsN hH).2 m
      have HD : Hid (v / 256 ^ k / 256 = v / 256 ^ (k + 1)) := by show _ = _; rw [Int.pow_succ, Int.ediv_ediv_of_nonneg (by exact Int.pow_nonneg (by decide))]
      clear hH
      rw [hm]
      go_wp2
      go_roundw
      case rel =>
        refine ⟨k + 1, by omega, by go_num, by rw [HD.out], ?_, HB.out.setCell (Nat.le_refl _) _⟩
        rw [hget_set _ _ _ _ _ _ _ HH.out, if_pos rfl, ← wcells_set v n k hlt, hmn.out]
        have e : (v / 256 ^ k) % 256 = ((byteOf (v / 256 ^ k)).toNat : Int) := by rw [← wrap_u8_byte, IntKind.wrap_u8']
        rw [e]
      case measure => simp [intOf]
    · have e : k = n := by omega
      subst e
      have hm : (k : Int) - k - 1 = -1 := by omega
      have hcv : (convert 59 9 (.slice (some ⟨w.heap.size, 0, none⟩) k k)).run Tryz.prog wr = .ok (.string (wideB v k)) wr := by
        have h := run_convert_bytes_back (P := Tryz.prog) wr 59 9 5 ⟨w.heap.size, 0, none⟩ k (wbytes v k) Tryz.underlying59 Tryz.underlying5 Tryz.underlying9 ?_
        · rw [wbytes_length] at h; exact h
        · intro j hj
          have h := (cellsN hH).1 j
          simp [wcells, hj] at h
          have e : (⟨w.heap.size, 0, none⟩ : Addr).add j = ⟨w.heap.size, j, none⟩ := by unfold Addr.add; split <;> simp_all
          rw [e]; exact h
      clear hH
      rw [hm]
      go_wp2
      go_ret
      exact ⟨rfl, HB.out⟩

/-- Which of n things a raw number speaks of. -/
def pickI (c n : Int) : Int := (if c < 0 then -(c + 1) else c) % n
theorem pickI_bd (c n : Int) (hn : 0 < n) : 0 ≤ pickI c n ∧ pickI c n < n := ⟨Int.emod_nonneg _ (by omega), Int.emod_lt_of_pos _ hn⟩
set_option maxHeartbeats 400000 in
theorem pick_any (c n : Int) (w : World) (h0 : -9223372036854775808 ≤ c) (h1 : c ≤ 9223372036854775807) (hn : 0 < n) (hn2 : n ≤ 9223372036854775807) :
    Calls Tryz.prog 12 #[.int .i64 c, .int .i64 n] w fun e w' => e = .returned (.int .i64 (pickI c n)) ∧ w' = w := by
  have hn0 : ¬ n = 0 := by omega
  by_cases hc : c < 0
  · have HP : Hid (pickI c n = (-(c + 1)).tmod n) := by show _ = _; unfold pickI; rw [if_pos hc, Int.tmod_eq_emod_of_nonneg (by omega)]
    go_enter Tryz.func12, Tryz.ntmps12
    go_wp2
    go_ret
    refine ⟨g_int ?_, rfl⟩
    rw [HP.out, Int.neg_tmod]
  · have HP : Hid (pickI c n = c % n) := by show _ = _; unfold pickI; rw [if_neg hc]
    go_enter Tryz.func12, Tryz.ntmps12
    go_wp2
    go_ret
    refine ⟨g_int ?_, rfl⟩
    rw [HP.out]
set_option maxHeartbeats 400000 in
theorem host_any (c : Int) (w : World) (h0 : -9223372036854775808 ≤ c) (h1 : c ≤ 9223372036854775807) :
    Calls Tryz.prog 15 #[.int .i64 c] w fun e w' => e = .returned (.int .i64 (167772161 + pickI c 200)) ∧ w' = w := by
  have hb := pickI_bd c 200 (by decide)
  go_enter Tryz.func15, Tryz.ntmps15
  go_wp2_with (go_at_call 12; refine (pick_any _ _ _ (by omega) (by omega) (by omega) (by omega)).mono ?_; rintro e w' ⟨rfl, rfl⟩)
  go_ret
  exact ⟨g_int (by omega), rfl⟩
set_option maxHeartbeats 400000 in
theorem far_any (c : Int) (w : World) (h0 : -9223372036854775808 ≤ c) (h1 : c ≤ 9223372036854775807) :
    Calls Tryz.prog 16 #[.int .i64 c] w fun e w' => e = .returned (.int .i64 (134744064 + pickI c 200)) ∧ w' = w := by
  have hb := pickI_bd c 200 (by decide)
  go_enter Tryz.func16, Tryz.ntmps16
  go_wp2_with (go_at_call 12; refine (pick_any _ _ _ (by omega) (by omega) (by omega) (by omega)).mono ?_; rintro e w' ⟨rfl, rfl⟩)
  go_ret
  exact ⟨g_int (by omega), rfl⟩
set_option maxHeartbeats 400000 in
theorem port_any (c : Int) (w : World) (h0 : -9223372036854775808 ≤ c) (h1 : c ≤ 9223372036854775807) :
    Calls Tryz.prog 17 #[.int .i64 c] w fun e w' => e = .returned (.int .i64 (1 + pickI c 65535)) ∧ w' = w := by
  have hb := pickI_bd c 65535 (by decide)
  go_enter Tryz.func17, Tryz.ntmps17
  go_wp2_with (go_at_call 12; refine (pick_any _ _ _ (by omega) (by omega) (by omega) (by omega)).mono ?_; rintro e w' ⟨rfl, rfl⟩)
  go_ret
  exact ⟨g_int (by omega), rfl⟩

def clipB (s : ByteArray) (n : Nat) : ByteArray := if n < s.size then s.extract 0 n else s
theorem clipB_size (s : ByteArray) (n : Nat) : (clipB s n).size ≤ n := by
  unfold clipB
  split
  · rw [ByteArray.size_extract]; omega
  · omega
set_option maxHeartbeats 400000 in
theorem clipped_any (s : ByteArray) (n : Nat) (w : World) (hn : n ≤ 1000) :
    Calls Tryz.prog 29 #[.string s, .int .i64 n] w fun e w' => e = .returned (.string (clipB s n)) ∧ w' = w := by
  by_cases hc : n < s.size
  · have HP : Hid (clipB s n = s.extract 0 n) := if_pos hc
    go_enter Tryz.func29, Tryz.ntmps29
    go_wp2
    go_ret
    refine ⟨g_str ?_, rfl⟩
    rw [HP.out]
  · have HP : Hid (clipB s n = s) := if_neg hc
    go_enter Tryz.func29, Tryz.ntmps29
    go_wp2
    go_ret
    refine ⟨g_str ?_, rfl⟩
    rw [HP.out]

/-- A text with a checksum at a place that makes its sum, and that of more, all ones. -/
def ksealT (s : ByteArray) (p : Nat) (more : ByteArray) : Int := foldI (sumI (putWord s p 0) + sumI more)
def kseal (s : ByteArray) (p : Nat) (more : ByteArray) : ByteArray := putWord s p (65535 - ksealT s p more)
theorem wideB_two (v : Int) : wideB v 2 = ⟨#[byteOf (v / 256), byteOf v]⟩ := by simp [wideB, wbytes]
set_option maxRecDepth 100000 in
set_option maxHeartbeats 400000 in
theorem ksealed_any (s : ByteArray) (p : Nat) (more : ByteArray) (w : World) (hp : p + 2 ≤ s.size) (hs : s.size ≤ 1000000) (hm : more.size ≤ 1000000) :
    Calls Tryz.prog 23 #[.string s, .int .i64 p, .string more] w fun e w' => e = .returned (.string (kseal s p more)) ∧ Below w.heap.size w w' := by
  have hb1 := sumI_bd (putWord s p 0)
  have hb2 := sumI_bd more
  have hz := size_put s p 0 hp
  have HT : Hid (ksealT s p more = if sumI (putWord s p 0) + sumI more > 65535 then sumI (putWord s p 0) + sumI more - 65535 else sumI (putWord s p 0) + sumI more) := by
    have h := fold_add (sumI (putWord s p 0)) (sumI more) hb1.1 hb2.1 hb2.2
    have e : foldI (sumI (putWord s p 0)) = sumI (putWord s p 0) := by
      have := fold_fold 0 (sumTo (putWord s p 0) (((putWord s p 0).size + 1) / 2)) (by decide) (sumTo_bd _ _).1
      simpa [sumI] using this
    rw [e] at h
    exact h
  have HW1 : Hid (∀ w, Calls Tryz.prog 40 #[.string (s.extract 0 p ++ ⟨#[0, 0]⟩ ++ s.extract (p + 2) s.size)] w fun e w' => e = .returned (.int .i64 (sumI (putWord s p 0))) ∧ w' = w) := fun w => words_any (putWord s p 0) w (by omega)
  have HW2 : Hid (∀ w, Calls Tryz.prog 40 #[.string more] w fun e w' => e = .returned (.int .i64 (sumI more)) ∧ w' = w) := fun w => words_any more w hm
  have HK : Hid (kseal s p more = s.extract 0 p ++ wideB (65535 - ksealT s p more) 2 ++ s.extract (p + 2) s.size) := by show _ = _; rw [wideB_two]; rfl
  have HWD : Hid (∀ (v : Int) (w : World), Calls Tryz.prog 22 #[.int .i64 v, .int .i64 2] w fun e w' => e = .returned (.string (wideB v 2)) ∧ Below w.heap.size w w') := fun v w => wide_any v 2 w (by decide) (by decide)
  have h1 : (0 : Int) ≤ (p : Int) := by omega
  have h2 : (p : Int) + 2 ≤ (s.size : Int) := by omega
  have h3 : (p : Int) ≤ (s.size : Int) := by omega
  have h4 : (0 : Int) ≤ (p : Int) + 2 := by omega
  have h5 : IntKind.i64.wrap ((p : Int) + 2) = (p : Int) + 2 := g_wrap _ (by omega) (by omega)
  have hm1 : ¬ 9223372036854775807 < min p s.size + 2 := by omega
  have hm2 : ∀ v, (wideB v 2).size = 2 := fun v => rfl
  generalize sumI (putWord s p 0) = a at hb1 HT HW1
  generalize sumI more = b at hb2 HT HW2
  clear hz
  go_enter Tryz.func23, Tryz.ntmps23
  go_wp2_with fail
  first | go_region_with (go_at_call 40; refine (HW1.out _).mono ?_; rintro e w' ⟨rfl, rfl⟩) | fail
  by_cases hgt : 65535 < a + b
  · have e : Hid (ksealT s p more = a + b - 65535) := by show _ = _; rw [HT.out, if_pos (by omega)]
    go_wp2_with (first | (go_at_call 40; refine (HW2.out _).mono ?_; rintro e w' ⟨rfl, rfl⟩) | (go_at_call 22; refine (HWD.out _ _).mono ?_; rintro e w1 ⟨rfl, hbel⟩))
    go_region
    go_wp2
    go_ret
    exact ⟨g_str (by rw [HK.out, e.out]), ((Below.refl _ _).drew.trans (hbel.mono (Nat.le_refl _))).drew⟩
  · have e : Hid (ksealT s p more = a + b) := by show _ = _; rw [HT.out, if_neg (by omega)]
    go_wp2_with (first | (go_at_call 40; refine (HW2.out _).mono ?_; rintro e w' ⟨rfl, rfl⟩) | (go_at_call 22; refine (HWD.out _ _).mono ?_; rintro e w1 ⟨rfl, hbel⟩))
    go_region
    go_wp2
    go_ret
    exact ⟨g_str (by rw [HK.out, e.out]), ((Below.refl _ _).drew.trans (hbel.mono (Nat.le_refl _))).drew⟩
end Go.Proofs.YtfkjobiapjhacabGreat
/- Contracts of package gatewaykeep: packets. Own work. -/
namespace Go.Proofs.YtfkjobiapjhacabGreat
open Go.RowKit
attribute [local go_sem ↓] Go.wp_at_zero Go.wp_at_succ

/-- A packet of the law's own, as data. -/
structure PK where
  id : Int
  fl : Int
  off : Int
  ttl : Int
  pr : Int
  src : Int
  dst : Int
  body : ByteArray
def PK.val (p : PK) : Value := .agg #[.int .i64 p.id, .int .i64 p.fl, .int .i64 p.off, .int .i64 p.ttl, .int .i64 p.pr, .int .i64 p.src, .int .i64 p.dst, .string p.body]
theorem c8 {w : World} {b : Nat} {v0 v1 v2 v3 v4 v5 v6 v7 : Value} {t : TypeId} (h : w.heap[b]? = some (.cells #[v0, v1, v2, v3, v4, v5, v6, v7] t (0, 0))) :
    (w.cell? ⟨b, 0, none⟩ = some v0 ∧ w.cell? ⟨b, 1, none⟩ = some v1 ∧ w.cell? ⟨b, 2, none⟩ = some v2 ∧ w.cell? ⟨b, 3, none⟩ = some v3 ∧ w.cell? ⟨b, 4, none⟩ = some v4 ∧ w.cell? ⟨b, 5, none⟩ = some v5 ∧ w.cell? ⟨b, 6, none⟩ = some v6 ∧ w.cell? ⟨b, 7, none⟩ = some v7) ∧ ∀ j, w.frozen? ⟨b, j, none⟩ = false :=
  ⟨⟨(cellsN h).1 0, (cellsN h).1 1, (cellsN h).1 2, (cellsN h).1 3, (cellsN h).1 4, (cellsN h).1 5, (cellsN h).1 6, (cellsN h).1 7⟩, (cellsN h).2⟩
/-- A block that stands, and what lay below. -/
structure KMid (w W : World) (b : Nat) (c : Array Value) (t : TypeId) : Prop where
  bk : W.heap[b]? = some (.cells c t (0, 0))
  bl : Below w.heap.size w W
theorem KMid.call {w W W' : World} {b : Nat} {c : Array Value} {t : TypeId} (h : KMid w W b c t) (hb : Below W.heap.size W W') : KMid w W' b c t := ⟨blk hb h.bk, h.bl.trans (hb.mono h.bl.size)⟩
theorem KMid.alloc {w W : World} {b : Nat} {c : Array Value} {t : TypeId} (h : KMid w W b c t) (o : Obj) : KMid w (W.alloc o) b c t := ⟨by rw [hget_alloc, if_neg (by have := lt_of_block h.bk; omega)]; exact h.bk, h.bl.alloc h.bl.size _⟩
theorem KMid.start (w : World) (c : Array Value) (t : TypeId) : KMid w (w.alloc (.cells c t)) w.heap.size c t := ⟨by rw [hget_alloc, if_pos rfl], (Below.refl _ _).alloc (Nat.le_refl _) _⟩

theorem wideB_size (v : Int) (n : Nat) : (wideB v n).size = n := by simp [wideB, ByteArray.size, wbytes_length]
def wideI (v n : Int) : ByteArray := wideB v n.toNat
theorem wideI_size (v n : Int) : (wideI v n).size = n.toNat := wideB_size v n.toNat
theorem wideI_any (v n : Int) (w : World) (h1 : 1 ≤ n) (h2 : n ≤ 4) : Calls Tryz.prog 22 #[.int .i64 v, .int .i64 n] w fun e w' => e = .returned (.string (wideI v n)) ∧ Below w.heap.size w w' := by
  obtain ⟨k, rfl⟩ := Int.eq_ofNat_of_zero_le (show 0 ≤ n by omega)
  exact wide_any v k w (by omega) (by omega)

/-- What TCP and UDP sum besides. -/
def befM (pr src dst n : Int) : ByteArray := wideI src 4 ++ wideI dst 4 ++ wideI pr 2 ++ wideI n 2
theorem befM_size (a b c d : Int) : (befM a b c d).size = 12 := by simp only [befM, ByteArray.size_append, wideI_size]; rfl
set_option maxRecDepth 100000 in
set_option maxHeartbeats 400000 in
theorem kbefore_any (p : PK) (w : World) :
    Calls Tryz.prog 38 #[.agg #[.int .i64 p.id, .int .i64 p.fl, .int .i64 p.off, .int .i64 p.ttl, .int .i64 p.pr, .int .i64 p.src, .int .i64 p.dst, .string p.body]] w fun e w' => e = .returned (.string (befM p.pr p.src p.dst p.body.size)) ∧ Below w.heap.size w w' := by
  have HE : Hid (befM p.pr p.src p.dst p.body.size = wideI p.src 4 ++ wideI p.dst 4 ++ wideI p.pr 2 ++ wideI p.body.size 2) := rfl
  have hM : Hid (KMid w (w.alloc (.cells #[.int .i64 p.id, .int .i64 p.fl, .int .i64 p.off, .int .i64 p.ttl, .int .i64 p.pr, .int .i64 p.src, .int .i64 p.dst, .string p.body] 37)) w.heap.size #[.int .i64 p.id, .int .i64 p.fl, .int .i64 p.off, .int .i64 p.ttl, .int .i64 p.pr, .int .i64 p.src, .int .i64 p.dst, .string p.body] 37) := KMid.start w _ _
  obtain ⟨⟨p0, p1, p2, p3, p4, p5, p6, p7⟩, pf⟩ := c8 hM.out.bk
  have hz2 : ∀ v, (wideI v 2).size = 2 := fun v => wideI_size v 2
  have hz4 : ∀ v, (wideI v 4).size = 4 := fun v => wideI_size v 4
  go_enter Tryz.func38, Tryz.ntmps38
  go_wp2_with (go_at_call 22; refine (wideI_any _ _ _ (by decide) (by decide)).mono ?_; rintro e w1 ⟨rfl, hb1⟩; have hM1 := hM.out.call hb1; clear hM hb1 p0 p1 p2 p3 p4 p5 p6 p7 pf; obtain ⟨⟨p0, p1, p2, p3, p4, p5, p6, p7⟩, pf⟩ := c8 hM1.bk; have hM : Hid _ := hM1; clear hM1)
  go_ret
  exact ⟨g_str HE.out.symm, hM.out.bl⟩

def flagW (fl off : Int) : Int := bits .or .i64 (fl * 8192) (off / 8)
/-- A header without its checksum. -/
def hdr0 (p : PK) : ByteArray := ⟨#[69, 0]⟩ ++ wideI (20 + (p.body.size : Int)) 2 ++ wideI p.id 2 ++ wideI (flagW p.fl p.off) 2 ++ wideI p.ttl 1 ++ wideI p.pr 1 ++ ⟨#[0, 0]⟩ ++ wideI p.src 4 ++ wideI p.dst 4
theorem hdr0_size (p : PK) : (hdr0 p).size = 20 := by
  simp only [hdr0, ByteArray.size_append, wideI_size]; rfl
def rawP (p : PK) : ByteArray := kseal (hdr0 p) 10 ⟨#[]⟩ ++ p.body
set_option maxRecDepth 100000 in
set_option maxHeartbeats 1000000 in
theorem raw_any (p : PK) (w : World) (hs : p.body.size ≤ 1000000) (hf0 : 0 ≤ p.fl) (hf1 : p.fl ≤ 7) (ho0 : 0 ≤ p.off) (ho1 : p.off ≤ 65535) :
    Calls Tryz.prog 20 #[.agg #[.int .i64 p.id, .int .i64 p.fl, .int .i64 p.off, .int .i64 p.ttl, .int .i64 p.pr, .int .i64 p.src, .int .i64 p.dst, .string p.body]] w fun e w' => e = .returned (.string (rawP p)) ∧ Below w.heap.size w w' := by
  have HE : Hid (rawP p = kseal (hdr0 p) 10 ⟨#[]⟩ ++ p.body) := rfl
  have HS : Hid (∀ w, Calls Tryz.prog 23 #[.string (⟨#[69, 0]⟩ ++ wideI (20 + (p.body.size : Int)) 2 ++ wideI p.id 2 ++ wideI (bits .or .i64 (p.fl * 8192) (p.off / 8)) 2 ++ wideI p.ttl 1 ++ wideI p.pr 1 ++ ⟨#[0, 0]⟩ ++ wideI p.src 4 ++ wideI p.dst 4), .int .i64 10, .string ⟨#[]⟩] w fun e w' => e = .returned (.string (kseal (hdr0 p) 10 ⟨#[]⟩)) ∧ Below w.heap.size w w') := fun w =>
    ksealed_any (hdr0 p) 10 ⟨#[]⟩ w (by rw [hdr0_size]; decide) (by rw [hdr0_size]; decide) (by decide)
  have hM : Hid (KMid w (w.alloc (.cells #[.int .i64 p.id, .int .i64 p.fl, .int .i64 p.off, .int .i64 p.ttl, .int .i64 p.pr, .int .i64 p.src, .int .i64 p.dst, .string p.body] 37)) w.heap.size #[.int .i64 p.id, .int .i64 p.fl, .int .i64 p.off, .int .i64 p.ttl, .int .i64 p.pr, .int .i64 p.src, .int .i64 p.dst, .string p.body] 37) := KMid.start w _ _
  obtain ⟨⟨p0, p1, p2, p3, p4, p5, p6, p7⟩, pf⟩ := c8 hM.out.bk
  have hz1 : ∀ v, (wideI v 1).size = 1 := fun v => wideI_size v 1
  have hz2 : ∀ v, (wideI v 2).size = 2 := fun v => wideI_size v 2
  have hz4 : ∀ v, (wideI v 4).size = 4 := fun v => wideI_size v 4
  have hzk : (kseal (hdr0 p) 10 ⟨#[]⟩).size = 20 := by unfold kseal; rw [size_put _ _ _ (by rw [hdr0_size]; decide), hdr0_size]
  go_enter Tryz.func20, Tryz.ntmps20
  go_wp2_with (first | (go_at_call 22; refine (wideI_any _ _ _ (by decide) (by decide)).mono ?_; rintro e w1 ⟨rfl, hb1⟩; have hM1 := hM.out.call hb1; clear hM hb1 p0 p1 p2 p3 p4 p5 p6 p7 pf; obtain ⟨⟨p0, p1, p2, p3, p4, p5, p6, p7⟩, pf⟩ := c8 hM1.bk; have hM : Hid _ := hM1; clear hM1) | (go_at_call 23; refine (HS.out _).mono ?_; rintro e w1 ⟨rfl, hb1⟩; have hM1 := hM.out.call hb1; clear hM hb1 p0 p1 p2 p3 p4 p5 p6 p7 pf; obtain ⟨⟨p0, p1, p2, p3, p4, p5, p6, p7⟩, pf⟩ := c8 hM1.bk; have hM : Hid _ := hM1; clear hM1))
  go_ret
  exact ⟨g_str HE.out.symm, hM.out.bl⟩

def atNI (s : ByteArray) (p n : Int) : Int := atN s p n.toNat
theorem atNI_one (s : ByteArray) (p : Int) : atNI s p 1 = byteAt s p := atN_one s p
theorem atNI_two (s : ByteArray) (p : Int) : atNI s p 2 = wordAt s p := atN_two s p
theorem atNI_four (s : ByteArray) (p : Int) : atNI s p 4 = addrAt s p := atN_four s p
theorem atI_any (s : ByteArray) (p n : Int) (w : World) (h0 : 0 ≤ p) (h1 : p ≤ 1000000) (hn0 : 0 ≤ n) (hn : n ≤ 4) (hs : s.size ≤ 1000000) :
    Calls Tryz.prog 37 #[.string s, .int .i64 p, .int .i64 n] w fun e w' => e = .returned (.int .i64 (atNI s p n)) ∧ w' = w := by
  obtain ⟨k, rfl⟩ := Int.eq_ofNat_of_zero_le hn0
  exact at_any s p k w h0 h1 (by omega) hs

theorem and_1fff (x : Int) (h0 : 0 ≤ x) (h1 : x < 2 ^ 62) : bits .and .i64 x 8191 = x % 8192 := by
  have h := bits_mask .i64 62 (by decide) wraps_i64_62 13 (by decide) x h0 h1
  simpa using h
/-- The packet that bytes are. -/
def parP (s : ByteArray) : PK := ⟨wordAt s 4, wordAt s 6 / 8192, wordAt s 6 % 8192 * 8, byteAt s 8, byteAt s 9, addrAt s 12, addrAt s 16, s.extract 20 s.size⟩
set_option maxRecDepth 100000 in
set_option maxHeartbeats 1000000 in
theorem parsed_yes (s : ByteArray) (w : World) (h21 : 21 ≤ s.size) (hs : s.size ≤ 1000) (h2 : wordAt s 2 = s.size) (h0 : byteAt s 0 = 69) (h1 : byteAt s 1 = 0) (hsum : sumI (s.extract 0 20) = 65535) :
    Calls Tryz.prog 25 #[.string s] w fun e w' => e = .returned (.tuple #[(parP s).val, .bool true]) ∧ Below w.heap.size w w' := by
  have a2 : atNI s 2 2 = s.size := by rw [atNI_two]; exact h2
  have hz0 : 0 < s.size := by clear h2 a2; omega
  have hz1 : 1 < s.size := by clear h2 a2; omega
  have b0 : ((s[0]'hz0).toNat : Int) = 69 := by rw [← byteAt_nat s 0 hz0]; exact h0
  have b1 : ((s[1]'hz1).toNat : Int) = 0 := by rw [← byteAt_nat s 1 hz1]; exact h1
  have hw6 := wordAt_bd s 6
  rw [← atNI_two] at hw6
  have he6 : bits .and .i64 (atNI s 6 2) 8191 = atNI s 6 2 % 8192 := and_1fff _ (by omega) (by omega)
  have HE : Hid ((parP s).val = .agg #[.int .i64 (wordAt s 4), .int .i64 (wordAt s 6 / 8192), .int .i64 (wordAt s 6 % 8192 * 8), .int .i64 (byteAt s 8), .int .i64 (byteAt s 9), .int .i64 (addrAt s 12), .int .i64 (addrAt s 16), .string (s.extract 20 s.size)]) := rfl
  have HW : Hid (∀ w, Calls Tryz.prog 40 #[.string (s.extract 0 20)] w fun e w' => e = .returned (.int .i64 65535) ∧ w' = w) := fun w => by
    have h := words_any (s.extract 0 20) w (by rw [ByteArray.size_extract]; omega)
    rw [hsum] at h; exact h
  have hw6a := hw6.1
  have hw6b := hw6.2
  clear h0 h1 h2 hsum hw6
  go_enter Tryz.func25, Tryz.ntmps25
  go_wp2_with (first | (go_at_call 37; refine (atI_any _ _ _ _ (by decide) (by decide) (by decide) (by decide) (by omega)).mono ?_; rintro e w' ⟨rfl, rfl⟩) | (go_at_call 40; refine (HW.out _).mono ?_; rintro e w' ⟨rfl, rfl⟩))
  refine bodyPost_ret (v := .tuple #[.agg #[.int .i64 (atNI s 4 2), .int .i64 (atNI s 6 2 / 8192), .int .i64 (atNI s 6 2 % 8192 * 8), .int .i64 (atNI s 8 1), .int .i64 (atNI s 9 1), .int .i64 (atNI s 12 4), .int .i64 (atNI s 16 4), .string (s.extract 20 s.size)], .bool true]) (by simp [results, Tryz.results25, go_sem]) rfl ⟨?_, ?_⟩
  · rw [HE.out, atNI_two, atNI_two, atNI_one, atNI_one, atNI_four, atNI_four]
  · repeat first | exact Below.refl _ _ | refine Below.setCell ?_ (by simp) _ | refine Below.alloc ?_ (by simp) _

/-- Is the message's checksum right? -/
def honB (p : PK) : Bool := if p.pr = 17 ∧ wordAt p.body 6 = 0 then true else if p.pr = 1 then (sumI p.body == 65535) else (sumI p.body + sumI (befM p.pr p.src p.dst p.body.size) == 65535 || sumI p.body + sumI (befM p.pr p.src p.dst p.body.size) == 131070)
theorem sumI_nil : sumI ⟨#[]⟩ = 0 := rfl
set_option maxRecDepth 100000 in
set_option maxHeartbeats 1000000 in
theorem honest_any (p : PK) (w : World) (hs : p.body.size ≤ 1000) :
    Calls Tryz.prog 26 #[.agg #[.int .i64 p.id, .int .i64 p.fl, .int .i64 p.off, .int .i64 p.ttl, .int .i64 p.pr, .int .i64 p.src, .int .i64 p.dst, .string p.body]] w fun e w' => e = .returned (.bool (honB p)) ∧ Below w.heap.size w w' := by
  have HB0 : ∀ w, Calls Tryz.prog 38 #[.agg #[.int .i64 p.id, .int .i64 p.fl, .int .i64 p.off, .int .i64 p.ttl, .int .i64 p.pr, .int .i64 p.src, .int .i64 p.dst, .string p.body]] w fun e w' => e = .returned (.string (befM p.pr p.src p.dst p.body.size)) ∧ Below w.heap.size w w' := fun w => kbefore_any p w
  have HH0 : honB p = if p.pr = 17 ∧ wordAt p.body 6 = 0 then true else if p.pr = 1 then (sumI p.body == 65535) else (sumI p.body + sumI (befM p.pr p.src p.dst p.body.size) == 65535 || sumI p.body + sumI (befM p.pr p.src p.dst p.body.size) == 131070) := rfl
  have hbz : (befM p.pr p.src p.dst p.body.size).size ≤ 1000 := by rw [befM_size]; decide
  generalize befM p.pr p.src p.dst p.body.size = bm at HB0 HH0 hbz
  have HB : Hid (∀ w, Calls Tryz.prog 38 #[.agg #[.int .i64 p.id, .int .i64 p.fl, .int .i64 p.off, .int .i64 p.ttl, .int .i64 p.pr, .int .i64 p.src, .int .i64 p.dst, .string p.body]] w fun e w' => e = .returned (.string bm) ∧ Below w.heap.size w w') := HB0
  clear HB0
  have HA : Hid (∀ w, Calls Tryz.prog 37 #[.string p.body, .int .i64 6, .int .i64 2] w fun e w' => e = .returned (.int .i64 (wordAt p.body 6)) ∧ w' = w) := fun w => by rw [← atNI_two]; exact atI_any _ _ _ w (by decide) (by decide) (by decide) (by decide) (by omega)
  have HW : Hid (∀ (s : ByteArray) w, s.size ≤ 1000 → Calls Tryz.prog 40 #[.string s] w fun e w' => e = .returned (.int .i64 (sumI s)) ∧ w' = w) := fun s w h => words_any s w (by omega)
  have hM : Hid (KMid w (w.alloc (.cells #[.int .i64 p.id, .int .i64 p.fl, .int .i64 p.off, .int .i64 p.ttl, .int .i64 p.pr, .int .i64 p.src, .int .i64 p.dst, .string p.body] 37)) w.heap.size #[.int .i64 p.id, .int .i64 p.fl, .int .i64 p.off, .int .i64 p.ttl, .int .i64 p.pr, .int .i64 p.src, .int .i64 p.dst, .string p.body] 37) := KMid.start w _ _
  have HB1 : Hid (∀ w, Calls Tryz.prog 38 #[.agg #[.int .i64 p.id, .int .i64 p.fl, .int .i64 p.off, .int .i64 p.ttl, .int .i64 p.pr, .int .i64 p.src, .int .i64 p.dst, .string p.body]] w fun e w' => e = .returned (.string bm) ∧ Below w.heap.size w w') := HB
  clear HB
  generalize p.pr = q at HB1 HH0 hM ⊢
  have HB := HB1
  clear HB1
  obtain ⟨⟨p0, p1, p2, p3, p4, p5, p6, p7⟩, pf⟩ := c8 hM.out.bk
  have hb1 := sumI_bd p.body
  have hb2 := sumI_bd bm
  have hnil := sumI_nil
  generalize wordAt p.body 6 = c at HA HH0
  by_cases hA : q = 17 ∧ c = 0
  · have HH : Hid (honB p = true) := by rw [if_pos hA] at HH0; exact HH0
    obtain ⟨rfl, rfl⟩ := hA
    clear HH0
    go_enter Tryz.func26, Tryz.ntmps26
    go_wp2_with (first | (go_at_call 38; refine (HB.out _).mono ?_; rintro e w1 ⟨rfl, hb1⟩; have hM1 := hM.out.call hb1; clear hM hb1 p0 p1 p2 p3 p4 p5 p6 p7 pf; obtain ⟨⟨p0, p1, p2, p3, p4, p5, p6, p7⟩, pf⟩ := c8 hM1.bk; have hM : Hid _ := hM1; clear hM1) | (go_at_call 37; refine (HA.out _).mono ?_; rintro e w' ⟨rfl, rfl⟩) | (go_at_call 40; refine (HW.out _ _ (by first | assumption | decide)).mono ?_; rintro e w' ⟨rfl, rfl⟩))
    all_goals
      go_ret
      exact ⟨g_bool HH.out.symm, hM.out.bl⟩
  · rw [if_neg hA] at HH0
    have hA' : q = 17 → ¬ c = 0 := fun h1 h2 => hA ⟨h1, h2⟩
    by_cases h1 : q = 1
    · have HH : Hid (honB p = (sumI p.body == 65535)) := by rw [if_pos h1] at HH0; exact HH0
      clear HH0 hA hA'
      subst h1
      go_enter Tryz.func26, Tryz.ntmps26
      go_wp2_with (first | (go_at_call 38; refine (HB.out _).mono ?_; rintro e w1 ⟨rfl, hb1⟩; have hM1 := hM.out.call hb1; clear hM hb1 p0 p1 p2 p3 p4 p5 p6 p7 pf; obtain ⟨⟨p0, p1, p2, p3, p4, p5, p6, p7⟩, pf⟩ := c8 hM1.bk; have hM : Hid _ := hM1; clear hM1) | (go_at_call 37; refine (HA.out _).mono ?_; rintro e w' ⟨rfl, rfl⟩) | (go_at_call 40; refine (HW.out _ _ (by first | assumption | decide)).mono ?_; rintro e w' ⟨rfl, rfl⟩))
      all_goals
        go_ret
        refine ⟨g_bool ?_, hM.out.bl⟩
        rw [HH.out] <;> first | (simp [*]; done) | (simp [*]; omega)
    · have HH : Hid (honB p = (sumI p.body + sumI bm == 65535 || sumI p.body + sumI bm == 131070)) := by rw [if_neg h1] at HH0; exact HH0
      clear HH0 hA
      by_cases h17 : q = 17
      · have hc0 := hA' h17
        clear hA' h1
        subst h17
        go_enter Tryz.func26, Tryz.ntmps26
        go_wp2_with (first | (go_at_call 38; refine (HB.out _).mono ?_; rintro e w1 ⟨rfl, hb1⟩; have hM1 := hM.out.call hb1; clear hM hb1 p0 p1 p2 p3 p4 p5 p6 p7 pf; obtain ⟨⟨p0, p1, p2, p3, p4, p5, p6, p7⟩, pf⟩ := c8 hM1.bk; have hM : Hid _ := hM1; clear hM1) | (go_at_call 37; refine (HA.out _).mono ?_; rintro e w' ⟨rfl, rfl⟩) | (go_at_call 40; refine (HW.out _ _ (by first | assumption | decide)).mono ?_; rintro e w' ⟨rfl, rfl⟩))
        all_goals
          go_ret
          refine ⟨g_bool ?_, hM.out.bl⟩
          rw [HH.out] <;> first | (simp [*]; done) | (simp [*]; omega)
      · clear hA'
        go_enter Tryz.func26, Tryz.ntmps26
        go_wp2_with (first | (go_at_call 38; refine (HB.out _).mono ?_; rintro e w1 ⟨rfl, hb1⟩; have hM1 := hM.out.call hb1; clear hM hb1 p0 p1 p2 p3 p4 p5 p6 p7 pf; obtain ⟨⟨p0, p1, p2, p3, p4, p5, p6, p7⟩, pf⟩ := c8 hM1.bk; have hM : Hid _ := hM1; clear hM1) | (go_at_call 37; refine (HA.out _).mono ?_; rintro e w' ⟨rfl, rfl⟩) | (go_at_call 40; refine (HW.out _ _ (by first | assumption | decide)).mono ?_; rintro e w' ⟨rfl, rfl⟩))
        all_goals
          go_ret
          refine ⟨g_bool ?_, hM.out.bl⟩
          rw [HH.out] <;> first | (simp [*]; done) | (simp [*]; omega)
end Go.Proofs.YtfkjobiapjhacabGreat
