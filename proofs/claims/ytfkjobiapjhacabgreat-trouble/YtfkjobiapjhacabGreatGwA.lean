/- Contracts of package wire: bytes, words, sums. Own work. -/
import Derived.Test.YtfkjobiapjhacabGreatRows
import Derived.WalkKit
import Derived.WalkSpells
import Derived.WalkLawsBesides
import Derived.Deep.RegionHeld3
import Derived.Deep.DrawnRows
import Derived.Deep.RegionWith
import Derived.Deep.QuietTactic
import Derived.BigQuiet
import Derived.Deep.DeepCutAuto
import Derived.Deep.AppendLies
import Derived.Laws.BitsAllLaws
namespace Go.Proofs.YtfkjobiapjhacabGreat
open Go.RowKit
attribute [local go_sem ↓] Go.wp_at_zero Go.wp_at_succ

theorem g_int {k : IntKind} {a b : Int} (h : a = b) : Ending.returned (.int k a) = .returned (.int k b) := by rw [h]
theorem g_str {a b : ByteArray} (h : a = b) : Ending.returned (.string a) = .returned (.string b) := by rw [h]
theorem g_wrap (x : Int) (h0 : -9223372036854775808 ≤ x) (h1 : x ≤ 9223372036854775807) : IntKind.i64.wrap x = x := by
  rw [IntKind.wrap_i64]; omega
theorem g_wrap64 (x : Int) (h0 : -9223372036854775808 ≤ x) (h1 : x ≤ 9223372036854775807) : wrap64 x = x := Go.IntWalk.wrap64_in x ⟨h0, h1⟩

/-- The byte at a place; 0 where there is none. -/
def byteAt (s : ByteArray) (i : Int) : Int := if 0 ≤ i then ((s.data.toList.getD i.toNat 0).toNat : Int) else 0
theorem byteAt_bd (s : ByteArray) (i : Int) : 0 ≤ byteAt s i ∧ byteAt s i ≤ 255 := by
  unfold byteAt
  split
  · have := (s.data.toList.getD i.toNat 0).toNat_lt; omega
  · omega
theorem byteAt_nat (s : ByteArray) (k : Nat) (h : k < s.size) : byteAt s k = (s[k].toNat : Int) := by
  unfold byteAt
  rw [if_pos (by omega), Int.toNat_natCast]
  have h' : k < s.data.toList.length := by simpa using h
  rw [List.getD_eq_getElem?_getD, List.getElem?_eq_getElem h']
  rfl
theorem byteAt_out (s : ByteArray) (i : Int) (h : i < 0 ∨ (s.size : Int) ≤ i) : byteAt s i = 0 := by
  unfold byteAt
  split
  · have : s.data.toList.length ≤ i.toNat := by simp; omega
    rw [List.getD_eq_getElem?_getD, List.getElem?_eq_none this]; rfl
  · rfl

set_option maxHeartbeats 400000 in
theorem Byte_any (s : ByteArray) (i : Int) (w : World) :
    Calls Tryz.prog 73 #[.string s, .int .i64 i] w fun e w' => e = .returned (.int .i64 (byteAt s i)) ∧ w' = w := by
  by_cases h : 0 ≤ i ∧ i < s.size
  · obtain ⟨h0, h1⟩ := h
    obtain ⟨k, rfl⟩ := Int.eq_ofNat_of_zero_le h0
    have hk : k < s.size := by omega
    have HB : Hid (byteAt s k = (s[k].toNat : Int)) := byteAt_nat s k hk
    go_enter Tryz.func73, Tryz.ntmps73
    go_wp2
    go_ret
    refine ⟨g_int ?_, rfl⟩
    rw [HB.out, g_wrap64 _ (by omega) (by have := s[k].toNat_lt; omega)]
  · have HB : Hid (byteAt s i = 0) := byteAt_out s i (by omega)
    go_enter Tryz.func73, Tryz.ntmps73
    go_wp2
    all_goals (go_ret; exact ⟨g_int HB.out.symm, rfl⟩)

def wordAt (s : ByteArray) (i : Int) : Int := byteAt s i * 256 + byteAt s (i + 1)
theorem wordAt_bd (s : ByteArray) (i : Int) : 0 ≤ wordAt s i ∧ wordAt s i ≤ 65535 := by
  have := byteAt_bd s i; have := byteAt_bd s (i + 1); unfold wordAt; omega

set_option maxHeartbeats 400000 in
theorem Word_any (s : ByteArray) (i : Int) (w : World) (h0 : 0 ≤ i) (h1 : i ≤ 1000000000000000000) :
    Calls Tryz.prog 74 #[.string s, .int .i64 i] w fun e w' => e = .returned (.int .i64 (wordAt s i)) ∧ w' = w := by
  have HW : Hid (wordAt s i = byteAt s i * 256 + byteAt s (i + 1)) := rfl
  have b0 := byteAt_bd s i
  have b1 := byteAt_bd s (i + 1)
  go_enter Tryz.func74, Tryz.ntmps74
  go_wp2_with (go_at_call 73; refine (Byte_any _ _ _).mono ?_; rintro e w' ⟨rfl, rfl⟩)
  go_ret
  refine ⟨g_int ?_, rfl⟩
  rw [HW.out]

def addrAt (s : ByteArray) (i : Int) : Int := wordAt s i * 65536 + wordAt s (i + 2)
theorem addrAt_bd (s : ByteArray) (i : Int) : 0 ≤ addrAt s i ∧ addrAt s i ≤ 4294967295 := by
  have := wordAt_bd s i; have := wordAt_bd s (i + 2); unfold addrAt; omega

/-- What passes a word is added at the low end again, till it is a word. -/
def foldI (n : Int) : Int := if n = 0 then 0 else (n - 1) % 65535 + 1

theorem wraps_i64_62 (n : Int) (h₀ : 0 ≤ n) (h₁ : n < 2 ^ 62) : IntKind.i64.wrap n = n := by rw [IntKind.wrap_i64]; omega
theorem and_ffff (x : Int) (h0 : 0 ≤ x) (h1 : x < 2 ^ 62) : bits .and .i64 x 65535 = x % 65536 := by
  have h := bits_mask .i64 62 (by decide) wraps_i64_62 16 (by decide) x h0 h1
  simpa using h
theorem fold_step (m : Int) (h : 65535 < m) : foldI (m % 65536 + m / 65536) = foldI m := by
  unfold foldI
  rw [if_neg (by omega), if_neg (by omega)]
  have e : m = 65536 * (m / 65536) + m % 65536 := by omega
  generalize m / 65536 = q at *
  generalize m % 65536 = r at *
  subst e
  have : 65536 * q + r - 1 = (r + q - 1) + 65535 * q := by omega
  rw [this, Int.add_mul_emod_self_left]

set_option maxHeartbeats 400000 in
theorem Fold_any (n : Int) (w : World) (h0 : 0 ≤ n) (h1 : n ≤ 1000000000000000000) :
    Calls Tryz.prog 90 #[.int .i64 n] w fun e w' => e = .returned (.int .i64 (foldI n)) ∧ w' = w := by
  go_enter Tryz.func90, Tryz.ntmps90
  go_wp2
  go_loop [0] (fun t => ∃ m : Int, 0 ≤ m ∧ m ≤ 1000000000000000000 ∧ foldI m = foldI n ∧ t = .int .i64 m) (fun t => (intOf t).toNat)
  case atStart => exact ⟨n, h0, h1, rfl, rfl⟩
  case round =>
    obtain ⟨m, hm0, hm1, hm2, rfl⟩ := hrel
    have HM : Hid (foldI m = foldI n) := hm2
    clear hm2
    by_cases hlt : 65535 < m
    · go_wp2
      have e1 : bits BinOp.and IntKind.i64 m 65535 = m % 65536 := and_ffff m hm0 (by omega)
      rw [e1, g_wrap64 _ (by omega) (by omega)]
      refine ⟨⟨m % 65536 + m / 65536, by omega, by omega, ?_, rfl⟩, ?_⟩
      · rw [← HM.out]; exact fold_step m (by omega)
      · simp [intOf]; omega
    · go_wp2
      go_ret
      refine ⟨g_int ?_, rfl⟩
      rw [← HM.out]
      unfold foldI
      split
      · omega
      · rw [Int.emod_eq_of_lt (by omega) (by omega)]; omega

set_option maxHeartbeats 400000 in
theorem Address_any (s : ByteArray) (i : Int) (w : World) (h0 : 0 ≤ i) (h1 : i ≤ 100000000000000000) :
    Calls Tryz.prog 72 #[.string s, .int .i64 i] w fun e w' => e = .returned (.int .i64 (addrAt s i)) ∧ w' = w := by
  have HW : Hid (addrAt s i = wordAt s i * 65536 + wordAt s (i + 2)) := rfl
  have b0 := wordAt_bd s i
  have b1 := wordAt_bd s (i + 2)
  go_enter Tryz.func72, Tryz.ntmps72
  go_wp2_with (go_at_call 74; refine (Word_any _ _ _ (by omega) (by omega)).mono ?_; rintro e w' ⟨rfl, rfl⟩)
  go_ret
  refine ⟨g_int ?_, rfl⟩
  rw [HW.out]

def sumTo (s : ByteArray) : Nat → Int
  | 0 => 0
  | k + 1 => sumTo s k + wordAt s (2 * k)
theorem sumTo_bd (s : ByteArray) (k : Nat) : 0 ≤ sumTo s k ∧ sumTo s k ≤ 65535 * k := by
  induction k with
  | zero => exact ⟨Int.le_refl _, by simp [sumTo]⟩
  | succ k ih => have := wordAt_bd s (2 * k); unfold sumTo; omega
/-- The folded sum of a text's words. -/
def sumI (s : ByteArray) : Int := foldI (sumTo s ((s.size + 1) / 2))

set_option maxHeartbeats 400000 in
theorem Sum_any (s : ByteArray) (w : World) (hs : s.size ≤ 1000000) :
    Calls Tryz.prog 75 #[.string s] w fun e w' => e = .returned (.int .i64 (sumI s)) ∧ w' = w := by
  go_enter Tryz.func75, Tryz.ntmps75
  go_wp2
  go_loop [3, 4] (fun t i => ∃ k : Nat, k ≤ (s.size + 1) / 2 ∧ i = .int .i64 ((2 * k : Nat) : Int) ∧ t = .int .i64 (sumTo s k)) (fun _ i => s.size + 2 - (intOf i).toNat)
  case atStart => exact ⟨0, Nat.zero_le _, rfl, rfl⟩
  case round =>
    obtain ⟨k, hk, rfl, rfl⟩ := hrel
    have hb := sumTo_bd s k
    have HS : Hid (sumTo s (k + 1) = sumTo s k + wordAt s (2 * k)) := rfl
    have hw := wordAt_bd s (2 * k)
    by_cases hlt : 2 * k < s.size
    · go_wp2_with (go_at_call 74; refine (Word_any _ _ _ (by omega) (by omega)).mono ?_; rintro e w' ⟨rfl, rfl⟩)
      go_round
      case rel => exact ⟨k + 1, by omega, by go_num, by rw [HS.out]⟩
      case measure => simp [intOf]; omega
    · have e : k = (s.size + 1) / 2 := by omega
      have HE : Hid (foldI (sumTo s k) = sumI s) := by unfold sumI; rw [← e]; rfl
      clear e
      go_wp2_with (go_at_call 90; refine (Fold_any _ _ (by omega) (by omega)).mono ?_; rintro e w' ⟨rfl, rfl⟩)
      go_ret
      exact ⟨g_int HE.out, rfl⟩

def byteOf (v : Int) : UInt8 := UInt8.ofNat (v % 256).toNat
/-- The text with another word at a place. -/
def putWord (s : ByteArray) (i : Nat) (v : Int) : ByteArray := s.extract 0 i ++ ⟨#[byteOf (v / 256), byteOf v]⟩ ++ s.extract (i + 2) s.size

theorem wrap_u8_byte (v : Int) : IntKind.u8.wrap v = ((byteOf v).toNat : Int) := by
  rw [IntKind.wrap_u8']
  unfold byteOf
  rw [UInt8.toNat_ofNat']
  omega
theorem conv2 (w : World) (v : Int) : (convert 59 9 (.slice (some ⟨w.heap.size, 0, none⟩) 2 2)).run Tryz.prog (w.alloc (.cells #[.int .u8 (IntKind.u8.wrap (v / 256)), .int .u8 (IntKind.u8.wrap v)] 5)).drew
    = .ok (.string ⟨#[byteOf (v / 256), byteOf v]⟩) (w.alloc (.cells #[.int .u8 (IntKind.u8.wrap (v / 256)), .int .u8 (IntKind.u8.wrap v)] 5)).drew := by
  rw [wrap_u8_byte, wrap_u8_byte]
  refine run_convert_bytes_back (P := Tryz.prog) _ 59 9 5 ⟨w.heap.size, 0, none⟩ 2 [byteOf (v / 256), byteOf v] Tryz.underlying59 Tryz.underlying5 Tryz.underlying9 ?_
  intro j hj
  have hb : ((w.alloc (.cells #[.int .u8 ((byteOf (v / 256)).toNat : Int), .int .u8 ((byteOf v).toNat : Int)] 5)).drew).heap[w.heap.size]? = some (.cells #[.int .u8 ((byteOf (v / 256)).toNat : Int), .int .u8 ((byteOf v).toNat : Int)] 5 (0, 0)) := heap_alloc_new _ _
  refine World.news_of_block hb j _ ?_
  match j, hj with
  | 0, _ => rfl
  | 1, _ => rfl

theorem conv2b (w : World) (v : Int) : (convert 59 9 (.slice (some ⟨w.heap.size, 0, none⟩) 2 2)).run Tryz.prog (w.alloc (.cells #[.int .u8 (v / 256 % 256), .int .u8 (v % 256)] 5)).drew
    = .ok (.string ⟨#[byteOf (v / 256), byteOf v]⟩) (w.alloc (.cells #[.int .u8 (v / 256 % 256), .int .u8 (v % 256)] 5)).drew := by
  have h := conv2 w v
  rw [IntKind.wrap_u8', IntKind.wrap_u8'] at h
  exact h

set_option maxRecDepth 100000 in
set_option maxHeartbeats 400000 in
theorem PutWord_any (s : ByteArray) (i : Nat) (v : Int) (w : World) (hs : s.size ≤ 1000000) (hi : i + 2 ≤ s.size) :
    Calls Tryz.prog 109 #[.string s, .int .i64 i, .int .i64 v] w fun e w' => e = .returned (.string (putWord s i v)) ∧ Below w.heap.size w w' := by
  have h1 : (0 : Int) ≤ (i : Int) := by omega
  have h2 : (i : Int) + 2 ≤ (s.size : Int) := by omega
  have h3 : (i : Int) ≤ (s.size : Int) := by omega
  have h4 : (0 : Int) ≤ (i : Int) + 2 := by omega
  have hcv := conv2 w v
  have hcw := conv2b w v
  have hm1 : ¬ 9223372036854775807 < min i s.size + 2 := by omega
  have h5 : IntKind.i64.wrap ((i : Int) + 2) = (i : Int) + 2 := g_wrap _ (by omega) (by omega)
  go_enter Tryz.func109, Tryz.ntmps109
  go_wp2
  go_region
  go_wp2
  go_ret
  exact ⟨g_str rfl, ((Below.refl _ _).alloc (Nat.le_refl _) _).drew⟩

/-- The bytes of a text, as a list. -/
def bl (s : ByteArray) : List UInt8 := s.data.toList
theorem bl_length (s : ByteArray) : (bl s).length = s.size := by simp [bl]
theorem bl_inj {a b : ByteArray} (h : bl a = bl b) : a = b := by
  obtain ⟨a⟩ := a; obtain ⟨b⟩ := b
  simp [bl] at h
  rw [h]
theorem bl_put (s : ByteArray) (i : Nat) (v : Int) : bl (putWord s i v) = (bl s).take i ++ [byteOf (v / 256), byteOf v] ++ (bl s).drop (i + 2) := by
  unfold putWord bl
  simp
  exact List.take_of_length_le (by simp)
theorem size_put (s : ByteArray) (i : Nat) (v : Int) (h : i + 2 ≤ s.size) : (putWord s i v).size = s.size := by
  rw [← bl_length, bl_put]
  simp [bl_length]
  omega

/-- The text with another address at a place. -/
def putAddr (s : ByteArray) (i : Nat) (a : Int) : ByteArray := putWord (putWord s i (a / 65536)) (i + 2) a

set_option maxRecDepth 100000 in
set_option maxHeartbeats 400000 in
theorem PutAddress_any (s : ByteArray) (i : Nat) (a : Int) (w : World) (hs : s.size ≤ 1000000) (hi : i + 4 ≤ s.size) :
    Calls Tryz.prog 125 #[.string s, .int .i64 i, .int .i64 a] w fun e w' => e = .returned (.string (putAddr s i a)) ∧ Below w.heap.size w w' := by
  have hz := size_put s i (a / 65536) (by omega)
  have hp1 : ∀ w, Calls Tryz.prog 109 #[.string s, .int .i64 i, .int .i64 (a / 65536)] w fun e w' => e = .returned (.string (putWord s i (a / 65536))) ∧ Below w.heap.size w w' := fun w => PutWord_any s i (a / 65536) w hs (by omega)
  have hp2 : ∀ w, Calls Tryz.prog 109 #[.string (putWord s i (a / 65536)), .int .i64 ((i : Int) + 2), .int .i64 a] w fun e w' => e = .returned (.string (putAddr s i a)) ∧ Below w.heap.size w w' := fun w =>
    PutWord_any (putWord s i (a / 65536)) (i + 2) a w (by omega) (by omega)
  have H1 : Hid (∀ w, Calls Tryz.prog 109 #[.string s, .int .i64 i, .int .i64 (a / 65536)] w fun e w' => e = .returned (.string (putWord s i (a / 65536))) ∧ Below w.heap.size w w') := hp1
  have H2 : Hid (∀ w, Calls Tryz.prog 109 #[.string (putWord s i (a / 65536)), .int .i64 ((i : Int) + 2), .int .i64 a] w fun e w' => e = .returned (.string (putAddr s i a)) ∧ Below w.heap.size w w') := hp2
  clear hp1 hp2 hz
  go_enter Tryz.func125, Tryz.ntmps125
  go_wp2_with fail
  refine (H1.out _).mono ?_
  rintro e w1 ⟨rfl, hb1⟩
  go_wp2_with fail
  refine (H2.out _).mono ?_
  rintro e w2 ⟨rfl, hb2⟩
  go_wp2_with fail
  go_ret
  exact ⟨rfl, hb1.trans (hb2.mono hb1.size)⟩
end Go.Proofs.YtfkjobiapjhacabGreat
