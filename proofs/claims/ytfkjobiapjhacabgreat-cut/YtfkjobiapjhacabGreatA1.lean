/- Own work. -/
import Derived.Test.YtfkjobiapjhacabGreatRows
import Derived.WalkKit
import Derived.WalkSpells
import Derived.WalkLawsBesides
import Derived.Deep.RegionHeld3
import Derived.Deep.DrawnRows
import Derived.Deep.RegionWith
import Derived.Deep.QuietTactic
import Derived.BigQuiet
import Derived.Deep.DeepCutAuto
import Derived.Deep.AppendLies
import Derived.Laws.BitsAllLaws
/- Contracts of package wire: bytes, words, sums. Own work. -/
namespace Go.Proofs.YtfkjobiapjhacabGreat
open Go.RowKit
attribute [local go_sem ↓] Go.wp_at_zero Go.wp_at_succ

theorem g_int {k : IntKind} {a b : Int} (h : a = b) : Ending.returned (.int k a) = .returned (.int k b) := by rw [h]
theorem g_str {a b : ByteArray} (h : a = b) : Ending.returned (.string a) = .returned (.string b) := by rw [h]
theorem g_wrap (x : Int) (h0 : -9223372036854775808 ≤ x) (h1 : x ≤ 9223372036854775807) : IntKind.i64.wrap x = x := by
  rw [IntKind.wrap_i64]; omega
theorem g_wrap64 (x : Int) (h0 : -9223372036854775808 ≤ x) (h1 : x ≤ 9223372036854775807) : wrap64 x = x := Go.IntWalk.wrap64_in x ⟨h0, h1⟩

/-- The byte at a place; 0 where there is none. -/
def byteAt (s : ByteArray) (i : Int) : Int := if 0 ≤ i then ((s.data.toList.getD i.toNat 0).toNat : Int) else 0
theorem byteAt_bd (s : ByteArray) (i : Int) : 0 ≤ byteAt s i ∧ byteAt s i ≤ 255 := by
  unfold byteAt
  split
  · have := (s.data.toList.getD i.toNat 0).toNat_lt; omega
  · omega
theorem byteAt_nat (s : ByteArray) (k : Nat) (h : k < s.size) : byteAt s k = (s[k].toNat : Int) := by
  unfold byteAt
  rw [if_pos (by omega), Int.toNat_natCast]
  have h' : k < s.data.toList.length := by simpa using h
  rw [List.getD_eq_getElem?_getD, List.getElem?_eq_getElem h']
  rfl
theorem byteAt_out (s : ByteArray) (i : Int) (h : i < 0 ∨ (s.size : Int) ≤ i) : byteAt s i = 0 := by
  unfold byteAt
  split
  · have : s.data.toList.length ≤ i.toNat := by simp; omega
    rw [List.getD_eq_getElem?_getD, List.getElem?_eq_none this]; rfl
  · rfl

set_option maxHeartbeats 400000 in
theorem Byte_any (s : ByteArray) (i : Int) (w : World) :
    Calls Tryz.prog 73 #[.string s, .int .i64 i] w fun e w' => e = .returned (.int .i64 (byteAt s i)) ∧ w' = w := by
  by_cases h : 0 ≤ i ∧ i < s.size
  · obtain ⟨h0, h1⟩ := h
    obtain ⟨k, rfl⟩ := Int.eq_ofNat_of_zero_le h0
    have hk : k < s.size := by omega
    have HB : Hid (byteAt s k = (s[k].toNat : Int)) := byteAt_nat s k hk
    go_enter Tryz.func73, Tryz.ntmps73
    go_wp2
    go_ret
    refine ⟨g_int ?_, rfl⟩
    rw [HB.out, g_wrap64 _ (by omega) (by have := s[k].toNat_lt; omega)]
  · have HB : Hid (byteAt s i = 0) := byteAt_out s i (by omega)
    go_enter Tryz.func73, Tryz.ntmps73
    go_wp2
    all_goals (go_ret; exact ⟨g_int HB.out.symm, rfl⟩)

def wordAt (s : ByteArray) (i : Int) : Int := byteAt s i * 256 + byteAt s (i + 1)
theorem wordAt_bd (s : ByteArray) (i : Int) : 0 ≤ wordAt s i ∧ wordAt s i ≤ 65535 := by
  have := byteAt_bd s i; have := byteAt_bd s (i + 1); unfold wordAt; omega

set_option maxHeartbeats 400000 in
theorem Word_any (s : ByteArray) (i : Int) (w : World) (h0 : 0 ≤ i) (h1 : i ≤ 1000000000000000000) :
    Calls Tryz.prog 74 #[.string s, .int .i64 i] w fun e w' => e = .returned (.int .i64 (wordAt s i)) ∧ w' = w := by
  have HW : Hid (wordAt s i = byteAt s i * 256 + byteAt s (i + 1)) := rfl
  have b0 := byteAt_bd s i
  have b1 := byteAt_bd s (i + 1)
  go_enter Tryz.func74, Tryz.ntmps74
  go_wp2_with (go_at_call 73; refine (Byte_any _ _ _).mono ?_; rintro e w' ⟨rfl, rfl⟩)
  go_ret
  refine ⟨g_int ?_, rfl⟩
  rw [HW.out]

def addrAt (s : ByteArray) (i : Int) : Int := wordAt s i * 65536 + wordAt s (i + 2)
theorem addrAt_bd (s : ByteArray) (i : Int) : 0 ≤ addrAt s i ∧ addrAt s i ≤ 4294967295 := by
  have := wordAt_bd s i; have := wordAt_bd s (i + 2); unfold addrAt; omega

/-- What passes a word is added at the low end again, till it is a word. -/
def foldI (n : Int) : Int := if n = 0 then 0 else (n - 1) % 65535 + 1

theorem wraps_i64_62 (n : Int) (h₀ : 0 ≤ n) (h₁ : n < 2 ^ 62) : IntKind.i64.wrap n = n := by rw [IntKind.wrap_i64]; omega
theorem and_ffff (x : Int) (h0 : 0 ≤ x) (h1 : x < 2 ^ 62) : bits .and .i64 x 65535 = x % 65536 := by
  have h := bits_mask .i64 62 (by decide) wraps_i64_62 16 (by decide) x h0 h1
  simpa using h
theorem fold_step (m : Int) (h : 65535 < m) : foldI (m % 65536 + m / 65536) = foldI m := by
  unfold foldI
  rw [if_neg (by omega), if_neg (by omega)]
  have e : m = 65536 * (m / 65536) + m % 65536 := by omega
  generalize m / 65536 = q at *
  generalize m % 65536 = r at *
  subst e
  have : 65536 * q + r - 1 = (r + q - 1) + 65535 * q := by omega
  rw [this, Int.add_mul_emod_self_left]

set_option maxHeartbeats 400000 in
theorem Fold_any (n : Int) (w : World) (h0 : 0 ≤ n) (h1 : n ≤ 1000000000000000000) :
    Calls Tryz.prog 90 #[.int .i64 n] w fun e w' => e = .returned (.int .i64 (foldI n)) ∧ w' = w := by
  go_enter Tryz.func90, Tryz.ntmps90
  go_wp2
  go_loop [0] (fun t => ∃ m : Int, 0 ≤ m ∧ m ≤ 1000000000000000000 ∧ foldI m = foldI n ∧ t = .int .i64 m) (fun t => (intOf t).toNat)
  case atStart => exact ⟨n, h0, h1, rfl, rfl⟩
  case round =>
    obtain ⟨m, hm0, hm1, hm2, rfl⟩ := hrel
    have HM : Hid (foldI m = foldI n) := hm2
    clear hm2
    by_cases hlt : 65535 < m
    · go_wp2
      have e1 : bits BinOp.and IntKind.i64 m 65535 = m % 65536 := and_ffff m hm0 (by omega)
      rw [e1, g_wrap64 _ (by omega) (by omega)]
      refine ⟨⟨m % 65536 + m / 65536, by omega, by omega, ?_, rfl⟩, ?_⟩
      · rw [← HM.out]; exact fold_step m (by omega)
      · simp [intOf]; omega
    · go_wp2
      go_ret
      refine ⟨g_int ?_, rfl⟩
      rw [← HM.out]
      unfold foldI
      split
      · omega
      · rw [Int.emod_eq_of_lt (by omega) (by omega)]; omega

set_option maxHeartbeats 400000 in
theorem Address_any (s : ByteArray) (i : Int) (w : World) (h0 : 0 ≤ i) (h1 : i ≤ 100000000000000000) :
    Calls Tryz.prog 72 #[.string s, .int .i64 i] w fun e w' => e = .returned (.int .i64 (addrAt s i)) ∧ w' = w := by
  have HW : Hid (addrAt s i = wordAt s i * 65536 + wordAt s (i + 2)) := rfl
  have b0 := wordAt_bd s i
  have b1 := wordAt_bd s (i + 2)
  go_enter Tryz.func72, Tryz.ntmps72
  go_wp2_with (go_at_call 74; refine (Word_any _ _ _ (by omega) (by omega)).mono ?_; rintro e w' ⟨rfl, rfl⟩)
  go_ret
  refine ⟨g_int ?_, rfl⟩
  rw [HW.out]

def sumTo (s : ByteArray) : Nat → Int
  | 0 => 0
  | k + 1 => sumTo s k + wordAt s (2 * k)
theorem sumTo_bd (s : ByteArray) (k : Nat) : 0 ≤ sumTo s k ∧ sumTo s k ≤ 65535 * k := by
  induction k with
  | zero => exact ⟨Int.le_refl _, by simp [sumTo]⟩
  | succ k ih => have := wordAt_bd s (2 * k); unfold sumTo; omega
/-- The folded sum of a text's words. -/
def sumI (s : ByteArray) : Int := foldI (sumTo s ((s.size + 1) / 2))

set_option maxHeartbeats 400000 in
theorem Sum_any (s : ByteArray) (w : World) (hs : s.size ≤ 1000000) :
    Calls Tryz.prog 75 #[.string s] w fun e w' => e = .returned (.int .i64 (sumI s)) ∧ w' = w := by
  go_enter Tryz.func75, Tryz.ntmps75
  go_wp2
  go_loop [3, 4] (fun t i => ∃ k : Nat, k ≤ (s.size + 1) / 2 ∧ i = .int .i64 ((2 * k : Nat) : Int) ∧ t = .int .i64 (sumTo s k)) (fun _ i => s.size + 2 - (intOf i).toNat)
  case atStart => exact ⟨0, Nat.zero_le _, rfl, rfl⟩
  case round =>
    obtain ⟨k, hk, rfl, rfl⟩ := hrel
    have hb := sumTo_bd s k
    have HS : Hid (sumTo s (k + 1) = sumTo s k + wordAt s (2 * k)) := rfl
    have hw := wordAt_bd s (2 * k)
    by_cases hlt : 2 * k < s.size
    · go_wp2_with (go_at_call 74; refine (Word_any _ _ _ (by omega) (by omega)).mono ?_; rintro e w' ⟨rfl, rfl⟩)
      go_round
      case rel => exact ⟨k + 1, by omega, by go_num, by rw [HS.out]⟩
      case measure => simp [intOf]; omega
    · have e : k = (s.size + 1) / 2 := by omega
      have HE : Hid (foldI (sumTo s k) = sumI s) := by unfold sumI; rw [← e]; rfl
      clear e
      go_wp2_with (go_at_call 90; refine (Fold_any _ _ (by omega) (by omega)).mono ?_; rintro e w' ⟨rfl, rfl⟩)
      go_ret
      exact ⟨g_int HE.out, rfl⟩

def byteOf (v : Int) : UInt8 := UInt8.ofNat (v % 256).toNat
/-- The text with another word at a place. -/
def putWord (s : ByteArray) (i : Nat) (v : Int) : ByteArray := s.extract 0 i ++ ⟨#[byteOf (v / 256), byteOf v]⟩ ++ s.extract (i + 2) s.size

theorem wrap_u8_byte (v : Int) : IntKind.u8.wrap v = ((byteOf v).toNat : Int) := by
  rw [IntKind.wrap_u8']
  unfold byteOf
  rw [UInt8.toNat_ofNat']
  omega
theorem conv2 (w : World) (v : Int) : (convert 59 9 (.slice (some ⟨w.heap.size, 0, none⟩) 2 2)).run Tryz.prog (w.alloc (.cells #[.int .u8 (IntKind.u8.wrap (v / 256)), .int .u8 (IntKind.u8.wrap v)] 5)).drew
    = .ok (.string ⟨#[byteOf (v / 256), byteOf v]⟩) (w.alloc (.cells #[.int .u8 (IntKind.u8.wrap (v / 256)), .int .u8 (IntKind.u8.wrap v)] 5)).drew := by
  rw [wrap_u8_byte, wrap_u8_byte]
  refine run_convert_bytes_back (P := Tryz.prog) _ 59 9 5 ⟨w.heap.size, 0, none⟩ 2 [byteOf (v / 256), byteOf v] Tryz.underlying59 Tryz.underlying5 Tryz.underlying9 ?_
  intro j hj
  have hb : ((w.alloc (.cells #[.int .u8 ((byteOf (v / 256)).toNat : Int), .int .u8 ((byteOf v).toNat : Int)] 5)).drew).heap[w.heap.size]? = some (.cells #[.int .u8 ((byteOf (v / 256)).toNat : Int), .int .u8 ((byteOf v).toNat : Int)] 5 (0, 0)) := heap_alloc_new _ _
  refine World.news_of_block hb j _ ?_
  match j, hj with
  | 0, _ => rfl
  | 1, _ => rfl

theorem conv2b (w : World) (v : Int) : (convert 59 9 (.slice (some ⟨w.heap.size, 0, none⟩) 2 2)).run Tryz.prog (w.alloc (.cells #[.int .u8 (v / 256 % 256), .int .u8 (v % 256)] 5)).drew
    = .ok (.string ⟨#[byteOf (v / 256), byteOf v]⟩) (w.alloc (.cells #[.int .u8 (v / 256 % 256), .int .u8 (v % 256)] 5)).drew := by
  have h := conv2 w v
  rw [IntKind.wrap_u8', IntKind.wrap_u8'] at h
  exact h

set_option maxRecDepth 100000 in
set_option maxHeartbeats 400000 in
theorem PutWord_any (s : ByteArray) (i : Nat) (v : Int) (w : World) (hs : s.size ≤ 1000000) (hi : i + 2 ≤ s.size) :
    Calls Tryz.prog 109 #[.string s, .int .i64 i, .int .i64 v] w fun e w' => e = .returned (.string (putWord s i v)) ∧ Below w.heap.size w w' := by
  have h1 : (0 : Int) ≤ (i : Int) := by omega
  have h2 : (i : Int) + 2 ≤ (s.size : Int) := by omega
  have h3 : (i : Int) ≤ (s.size : Int) := by omega
  have h4 : (0 : Int) ≤ (i : Int) + 2 := by omega
  have hcv := conv2 w v
  have hcw := conv2b w v
  have hm1 : ¬ 9223372036854775807 < min i s.size + 2 := by omega
  have h5 : IntKind.i64.wrap ((i : Int) + 2) = (i : Int) + 2 := g_wrap _ (by omega) (by omega)
  go_enter Tryz.func109, Tryz.ntmps109
  go_wp2
  go_region
  go_wp2
  go_ret
  exact ⟨g_str rfl, ((Below.refl _ _).alloc (Nat.le_refl _) _).drew⟩

/-- The bytes of a text, as a list. -/
def bl (s : ByteArray) : List UInt8 := s.data.toList
theorem bl_length (s : ByteArray) : (bl s).length = s.size := by simp [bl]
theorem bl_inj {a b : ByteArray} (h : bl a = bl b) : a = b := by
  obtain ⟨a⟩ := a; obtain ⟨b⟩ := b
  simp [bl] at h
  rw [h]
theorem bl_put (s : ByteArray) (i : Nat) (v : Int) : bl (putWord s i v) = (bl s).take i ++ [byteOf (v / 256), byteOf v] ++ (bl s).drop (i + 2) := by
  unfold putWord bl
  simp
  exact List.take_of_length_le (by simp)
theorem size_put (s : ByteArray) (i : Nat) (v : Int) (h : i + 2 ≤ s.size) : (putWord s i v).size = s.size := by
  rw [← bl_length, bl_put]
  simp [bl_length]
  omega

/-- The text with another address at a place. -/
def putAddr (s : ByteArray) (i : Nat) (a : Int) : ByteArray := putWord (putWord s i (a / 65536)) (i + 2) a

set_option maxRecDepth 100000 in
set_option maxHeartbeats 400000 in
theorem PutAddress_any (s : ByteArray) (i : Nat) (a : Int) (w : World) (hs : s.size ≤ 1000000) (hi : i + 4 ≤ s.size) :
    Calls Tryz.prog 125 #[.string s, .int .i64 i, .int .i64 a] w fun e w' => e = .returned (.string (putAddr s i a)) ∧ Below w.heap.size w w' := by
  have hz := size_put s i (a / 65536) (by omega)
  have hp1 : ∀ w, Calls Tryz.prog 109 #[.string s, .int .i64 i, .int .i64 (a / 65536)] w fun e w' => e = .returned (.string (putWord s i (a / 65536))) ∧ Below w.heap.size w w' := fun w => PutWord_any s i (a / 65536) w hs (by omega)
  have hp2 : ∀ w, Calls Tryz.prog 109 #[.string (putWord s i (a / 65536)), .int .i64 ((i : Int) + 2), .int .i64 a] w fun e w' => e = .returned (.string (putAddr s i a)) ∧ Below w.heap.size w w' := fun w =>
    PutWord_any (putWord s i (a / 65536)) (i + 2) a w (by omega) (by omega)
  have H1 : Hid (∀ w, Calls Tryz.prog 109 #[.string s, .int .i64 i, .int .i64 (a / 65536)] w fun e w' => e = .returned (.string (putWord s i (a / 65536))) ∧ Below w.heap.size w w') := hp1
  have H2 : Hid (∀ w, Calls Tryz.prog 109 #[.string (putWord s i (a / 65536)), .int .i64 ((i : Int) + 2), .int .i64 a] w fun e w' => e = .returned (.string (putAddr s i a)) ∧ Below w.heap.size w w') := hp2
  clear hp1 hp2 hz
  go_enter Tryz.func125, Tryz.ntmps125
  go_wp2_with fail
  refine (H1.out _).mono ?_
  rintro e w1 ⟨rfl, hb1⟩
  go_wp2_with fail
  refine (H2.out _).mono ?_
  rintro e w2 ⟨rfl, hb2⟩
  go_wp2_with fail
  go_ret
  exact ⟨rfl, hb1.trans (hb2.mono hb1.size)⟩
end Go.Proofs.YtfkjobiapjhacabGreat
/- Contracts of package wire: packets. Own work. -/
namespace Go.Proofs.YtfkjobiapjhacabGreat
open Go.RowKit
attribute [local go_sem ↓] Go.wp_at_zero Go.wp_at_succ

/-- What speaks against a packet's header h with body b; 0: nothing. -/
def pFault (h b : ByteArray) : Int :=
  if (byteAt h 0 != 69) = true then 3 else if (wordAt h 2 != 20 + (b.size : Int)) = true then 3 else if (bits .and .i64 (wordAt h 6) 32768 != 0) = true then 3
  else if (sumI h != 65535) = true then 4 else if (bits .and .i64 (wordAt h 6) 8192 != 0) = true ∧ ((b.size : Int) % 8 != 0) = true then 3 else if byteAt h 8 ≤ 1 then 5 else 0

theorem bdrewN' {B : Nat} {a w : World} (h : Below B a w) (n : Nat) : Below B a (w.drewN n) := ⟨h.os, h.tape, h.output, h.size, h.block⟩

/-- Does the datagram go on behind the packet? -/
def moreB (h : ByteArray) : Bool := bits .and .i64 (wordAt h 6) 8192 != 0
set_option maxRecDepth 100000 in
set_option maxHeartbeats 1000000 in
theorem More_any (h b : ByteArray) (sr ds pr : Int) (w : World) :
    Calls Tryz.prog 58 #[.agg #[.string h, .int .i64 sr, .int .i64 ds, .int .i64 pr, .string b]] w fun e w' => e = .returned (.bool (moreB h)) ∧ w' = w.alloc (.cells #[.string h, .int .i64 sr, .int .i64 ds, .int .i64 pr, .string b] 83) := by
  have HP : Hid (moreB h = (bits .and .i64 (wordAt h 6) 8192 != 0)) := rfl
  go_enter Tryz.func58, Tryz.ntmps58
  go_wp2_with (go_at_call 74; refine (Word_any _ _ _ (by decide) (by decide)).mono ?_; rintro e w' ⟨rfl, rfl⟩)
  refine bodyPost_ret (v := .bool (bits .and .i64 (wordAt h 6) 8192 != 0)) (by simp [results, Tryz.results58, go_sem]) rfl ⟨by rw [HP.out], rfl⟩

set_option maxRecDepth 100000 in
set_option maxHeartbeats 2000000 in
theorem fault_any (h b : ByteArray) (sr ds pr : Int) (w : World) (hh : h.size ≤ 1000) (hb : b.size ≤ 1000) :
    Calls Tryz.prog 56 #[.agg #[.string h, .int .i64 sr, .int .i64 ds, .int .i64 pr, .string b]] w fun e w' => e = .returned (.int .i64 (pFault h b)) ∧ Below w.heap.size w w' := by
  cases c1 : (byteAt h 0 != 69)
  · cases c2 : (wordAt h 2 != 20 + (b.size : Int))
    · have HC : Hid (pFault h b = (if (bits .and .i64 (wordAt h 6) 32768 != 0) = true then 3
          else if (sumI h != 65535) = true then 4 else if moreB h = true ∧ ((b.size : Int) % 8 != 0) = true then 3 else if byteAt h 8 ≤ 1 then 5 else 0)) := by
        show _ = _
        unfold pFault; rw [c1, c2]; simp [moreB]
      go_enter Tryz.func56, Tryz.ntmps56
      go_wp2
      go_quiet (first | (go_at_call 73; exact Calls.quiet_of_same (Byte_any _ _ _)) | (go_at_call 74; exact Calls.quiet_of_same (Word_any _ _ _ (by decide) (by decide))))
      go_wp2_with (first | (go_at_call 73; refine (Byte_any _ _ _).mono ?_; rintro e w' ⟨rfl, rfl⟩) | (go_at_call 74; refine (Word_any _ _ _ (by decide) (by decide)).mono ?_; rintro e w' ⟨rfl, rfl⟩) | (go_at_call 75; refine (Sum_any _ _ (by omega)).mono ?_; rintro e w' ⟨rfl, rfl⟩) | (go_at_call 58; refine (More_any h b sr ds pr _).mono ?_; rintro e w' ⟨rfl, rfl⟩))
      all_goals
        go_ret
        refine ⟨g_int ?_, by first | exact (bdrewN' ((Below.refl _ _).alloc (Nat.le_refl _) _) _).alloc (by simp) _ | exact bdrewN' ((Below.refl _ _).alloc (Nat.le_refl _) _) _⟩
        rw [HC.out]
        clear HC
        (repeat' split) <;> first | rfl | (exfalso; simp_all; done) | (exfalso; simp_all; omega)
    · have HC : Hid (pFault h b = 3) := by
        show _ = _
        unfold pFault; rw [c1, c2]; simp
      go_enter Tryz.func56, Tryz.ntmps56
      go_wp2
      go_quiet (first | (go_at_call 73; exact Calls.quiet_of_same (Byte_any _ _ _)) | (go_at_call 74; exact Calls.quiet_of_same (Word_any _ _ _ (by decide) (by decide))))
      go_wp2
      go_ret
      exact ⟨g_int HC.out.symm, bdrewN' ((Below.refl _ _).alloc (Nat.le_refl _) _) _⟩
  · have HC : Hid (pFault h b = 3) := by
      show _ = _
      unfold pFault; rw [c1]; simp
    go_enter Tryz.func56, Tryz.ntmps56
    go_wp2
    go_quiet (first | (go_at_call 73; exact Calls.quiet_of_same (Byte_any _ _ _)) | (go_at_call 74; exact Calls.quiet_of_same (Word_any _ _ _ (by decide) (by decide))))
    go_wp2
    go_ret
    exact ⟨g_int HC.out.symm, bdrewN' ((Below.refl _ _).alloc (Nat.le_refl _) _) _⟩
end Go.Proofs.YtfkjobiapjhacabGreat
/- Common facts of worlds and blocks. Own work. -/
namespace Go.Proofs.YtfkjobiapjhacabGreat
open Go.RowKit
attribute [local go_sem ↓] Go.wp_at_zero Go.wp_at_succ

theorem bcell' {W w1 : World} (hb : Below W.heap.size W w1) : (∀ b o, b < W.heap.size → w1.cell? ⟨b, o, none⟩ = W.cell? ⟨b, o, none⟩) ∧ (∀ b o, b < W.heap.size → w1.frozen? ⟨b, o, none⟩ = W.frozen? ⟨b, o, none⟩) :=
  ⟨fun b o h => hb.cell (p := ⟨b, o, none⟩) h, fun b o h => hb.frozen (p := ⟨b, o, none⟩) h⟩
theorem below_lt' {w W w1 : World} (hb : Below W.heap.size W w1) (h : w.heap.size < W.heap.size := by simp) : w.heap.size < w1.heap.size := Nat.lt_of_lt_of_le h hb.size

theorem g_bool {a b : Bool} (h : a = b) : Ending.returned (.bool a) = .returned (.bool b) := by rw [h]
theorem foldI_bd (n : Int) : 0 ≤ foldI n ∧ foldI n ≤ 65535 := by
  unfold foldI; split
  · omega
  · have := Int.emod_nonneg (n - 1) (b := 65535) (by decide); have := Int.emod_lt_of_pos (n - 1) (b := 65535) (by decide); omega
theorem sumI_bd (s : ByteArray) : 0 ≤ sumI s ∧ sumI s ≤ 65535 := foldI_bd _

theorem size_addr (s : ByteArray) (i : Nat) (a : Int) (h : i + 4 ≤ s.size) : (putAddr s i a).size = s.size := by
  unfold putAddr
  have := size_put s i (a / 65536) (by omega)
  rw [size_put _ _ _ (by omega), this]

/-! Blocks of a world, by what was done to it. -/
theorem hget_alloc (w : World) (o : Obj) (k : Nat) : (w.alloc o).heap[k]? = if k = w.heap.size then some o else w.heap[k]? := by
  show (w.heap.push o)[k]? = _
  rw [Array.getElem?_push]
theorem hget_set (w : World) (g j k : Nat) (u : Value) (c : Array Value) (t : TypeId) (h : w.heap[g]? = some (.cells c t (0, 0))) : (w.setCell ⟨g, j, none⟩ u).heap[k]? = if k = g then some (.cells (c.setIfInBounds j u) t (0, 0)) else w.heap[k]? := by
  by_cases e : k = g
  · subst e
    rw [if_pos rfl, setCell_eq_setRow w k j c t (0, 0) u h]; exact setRow_heap w k c _ t (0, 0) h
  · rw [if_neg e, Below.heap_setCell _ _ _ _ e]
theorem blk {W w1 : World} {B : Nat} {o : Obj} (hb : Below W.heap.size W w1) (h : W.heap[B]? = some o) : w1.heap[B]? = some o := by
  rw [hb.block B (lt_of_block h)]; exact h
theorem c6 {w : World} {b : Nat} {v0 v1 v2 v3 v4 v5 : Value} {t : TypeId} (h : w.heap[b]? = some (.cells #[v0, v1, v2, v3, v4, v5] t (0, 0))) :
    (w.cell? ⟨b, 0, none⟩ = some v0 ∧ w.cell? ⟨b, 1, none⟩ = some v1 ∧ w.cell? ⟨b, 2, none⟩ = some v2 ∧ w.cell? ⟨b, 3, none⟩ = some v3 ∧ w.cell? ⟨b, 4, none⟩ = some v4 ∧ w.cell? ⟨b, 5, none⟩ = some v5) ∧ (∀ j, w.frozen? ⟨b, j, none⟩ = false) := by
  constructor
  · simp [World.cell?, h]
  · intro j; simp [World.frozen?, h]

theorem c7 {w : World} {b : Nat} {v0 v1 v2 v3 v4 v5 v6 : Value} {t : TypeId} (h : w.heap[b]? = some (.cells #[v0, v1, v2, v3, v4, v5, v6] t (0, 0))) :
    (w.cell? ⟨b, 0, none⟩ = some v0 ∧ w.cell? ⟨b, 1, none⟩ = some v1 ∧ w.cell? ⟨b, 2, none⟩ = some v2 ∧ w.cell? ⟨b, 3, none⟩ = some v3 ∧ w.cell? ⟨b, 4, none⟩ = some v4 ∧ w.cell? ⟨b, 5, none⟩ = some v5 ∧ w.cell? ⟨b, 6, none⟩ = some v6) ∧ (∀ j, w.frozen? ⟨b, j, none⟩ = false) := by
  constructor
  · simp [World.cell?, h]
  · intro j; simp [World.frozen?, h]

/-- What sealed knows of its memory between two calls. -/
structure SealMid (w w1 : World) (d : Array Value) : Prop where
  dg : w1.heap[w.heap.size]? = some (.cells d 106 (0, 0))
  rs : w1.heap[w.heap.size + 1]? = some (.cells #[.int .i64 0, .int .i64 0, .int .i64 0, .int .i64 0, .int .i64 0, .string ⟨#[]⟩, .bool false] 106 (0, 0))
  bl : Below w.heap.size w w1
theorem SealMid.call {w w1 w2 : World} {d : Array Value} (h : SealMid w w1 d) (hb : Below w1.heap.size w1 w2) : SealMid w w2 d :=
  ⟨blk hb h.dg, blk hb h.rs, h.bl.trans (hb.mono h.bl.size)⟩
theorem SealMid.start (w : World) (d : Array Value) : SealMid w ((w.alloc (.cells d 106)).alloc (.cells #[.int .i64 0, .int .i64 0, .int .i64 0, .int .i64 0, .int .i64 0, .string ⟨#[]⟩, .bool false] 106)) d :=
  ⟨by rw [hget_alloc, if_neg (by simp), hget_alloc, if_pos rfl], by rw [hget_alloc, if_pos (by simp)], ((Below.refl _ _).alloc (Nat.le_refl _) _).alloc (by simp) _⟩
theorem SealMid.store {w w1 : World} {d : Array Value} (h : SealMid w w1 d) (j : Nat) (u : Value) : SealMid w (w1.setCell ⟨w.heap.size, j, none⟩ u) (d.setIfInBounds j u) :=
  ⟨by rw [hget_set _ _ _ _ _ _ _ h.dg, if_pos rfl], by rw [hget_set _ _ _ _ _ _ _ h.dg, if_neg (by omega)]; exact h.rs, h.bl.setCell (Nat.le_refl _) _⟩

theorem SealMid.drew {w w1 : World} {d : Array Value} (h : SealMid w w1 d) : SealMid w w1.drew d := ⟨h.dg, h.rs, h.bl.drew⟩
theorem c5 {w : World} {b : Nat} {v0 v1 v2 v3 v4 : Value} {t : TypeId} (h : w.heap[b]? = some (.cells #[v0, v1, v2, v3, v4] t (0, 0))) :
    (w.cell? ⟨b, 0, none⟩ = some v0 ∧ w.cell? ⟨b, 1, none⟩ = some v1 ∧ w.cell? ⟨b, 2, none⟩ = some v2 ∧ w.cell? ⟨b, 3, none⟩ = some v3 ∧ w.cell? ⟨b, 4, none⟩ = some v4) ∧ (∀ j, w.frozen? ⟨b, j, none⟩ = false) := by
  constructor
  · simp [World.cell?, h]
  · intro j; simp [World.frozen?, h]


theorem c2 {w : World} {b : Nat} {v0 v1 : Value} {t : TypeId} (h : w.heap[b]? = some (.cells #[v0, v1] t (0, 0))) :
    (w.cell? ⟨b, 0, none⟩ = some v0 ∧ w.cell? ⟨b, 1, none⟩ = some v1) ∧ (∀ j, w.frozen? ⟨b, j, none⟩ = false) := by
  constructor
  · simp [World.cell?, h]
  · intro j; simp [World.frozen?, h]

end Go.Proofs.YtfkjobiapjhacabGreat
/- Lists in memory, and packets. Own work. -/
namespace Go.Proofs.YtfkjobiapjhacabGreat
open Go.RowKit
attribute [local go_sem ↓] Go.wp_at_zero Go.wp_at_succ

theorem fcells_length {α : Type} {n : Nat} {cells : α → List Value} (hc : ∀ a, (cells a).length = n) (l : List α) : (l.flatMap cells).length = l.length * n := by
  induction l with
  | nil => simp
  | cons o r ih => rw [List.flatMap_cons, List.length_append, ih, hc, List.length_cons, Nat.succ_mul]; omega
theorem fcells_at {α : Type} {n : Nat} {cells : α → List Value} (hc : ∀ a, (cells a).length = n) (l : List α) (i j : Nat) (h : i < l.length) (hj : j < n) : (l.flatMap cells)[i * n + j]? = (cells l[i])[j]? := by
  induction l generalizing i with
  | nil => simp at h
  | cons o r ih =>
    rw [List.flatMap_cons]
    cases i with
    | zero => rw [List.getElem?_append_left (by rw [hc]; omega)]; simp
    | succ i =>
      have e : (i + 1) * n + j = (cells o).length + (i * n + j) := by rw [hc, Nat.succ_mul]; omega
      rw [e, List.getElem?_append_right (by omega), Nat.add_sub_cancel_left, ih i (by simpa using h)]
      simp
theorem cell_set_lt {w : World} {k j b o : Nat} {u : Value} (h : b < k) : (w.setCell ⟨k, j, none⟩ u).cell? ⟨b, o, none⟩ = w.cell? ⟨b, o, none⟩ := ((Below.refl k w).setCell (Nat.le_refl k) u).cell (p := ⟨b, o, none⟩) h
theorem cell_alloc_lt {w : World} {b o : Nat} {ob : Obj} (h : b < w.heap.size) : (w.alloc ob).cell? ⟨b, o, none⟩ = w.cell? ⟨b, o, none⟩ := ((Below.refl w.heap.size w).alloc (Nat.le_refl _) ob).cell (p := ⟨b, o, none⟩) h
/-- A list lies in memory, n cells a thing. -/
def LsAt {α : Type} (w : World) (t : TypeId) (n : Nat) (cells : α → List Value) (v : Value) (l : List α) : Prop :=
  ∃ ao cap, v = .slice ao l.length cap ∧ (l ≠ [] → ∃ g cur, ao = some ⟨g, 0, none⟩ ∧ w.heap[g]? = some (.cells cur t (0, 0)) ∧ ∀ (i : Nat) (h : i < l.length) (j : Nat), j < n → cur[i * n + j]? = (cells l[i])[j]?)
theorem LsAt.nil {α : Type} {w : World} {t : TypeId} {n : Nat} {cells : α → List Value} : LsAt w t n cells (.slice none 0 0) ([] : List α) := ⟨none, 0, rfl, fun h => absurd rfl h⟩
theorem LsAt.of_owns {α : Type} {w : World} {base : Nat} {t : TypeId} {n : Nat} {cells : α → List Value} {v : Value} {l : List α} (hc : ∀ a, (cells a).length = n) (h : w.ownsRow base t n v l.length (l.flatMap cells)) : LsAt w t n cells v l := by
  obtain ⟨h1, h2⟩ := h
  rcases h2 with ⟨rfl, h0⟩ | ⟨g, cap, cur, rfl, _, hh, _, _, hs, ht⟩
  · have : l = [] := List.eq_nil_of_length_eq_zero h0
    subst this
    exact LsAt.nil
  · refine ⟨some ⟨g, 0, none⟩, cap, rfl, fun _ => ⟨g, cur, rfl, hh, ?_⟩⟩
    intro i hi j hj
    rw [← fcells_at hc l i j hi hj, ← ht]
    have : (i + 1) * n ≤ l.length * n := Nat.mul_le_mul_right _ hi
    rw [Nat.succ_mul] at this
    rw [List.getElem?_take_of_lt (by omega)]
    simp
/-- Blocks of a kind are kept. -/
def KeptT (t : TypeId) (w w' : World) : Prop := ∀ (k : Nat) (c : Array Value), w.heap[k]? = some (Obj.cells c t (0, 0)) → w'.heap[k]? = some (Obj.cells c t (0, 0))
theorem KeptT.of_below {t : TypeId} {w w' : World} (hb : Below w.heap.size w w') : KeptT t w w' := fun _ _ h => blk hb h
theorem KeptT.trans {t : TypeId} {w w' w'' : World} (h : KeptT t w w') (h2 : KeptT t w' w'') : KeptT t w w'' := fun k c hk => h2 k c (h k c hk)
theorem LsAt.kept {α : Type} {w w' : World} {t : TypeId} {n : Nat} {cells : α → List Value} {v : Value} {l : List α} (h : LsAt w t n cells v l) (hk : KeptT t w w') : LsAt w' t n cells v l := by
  obtain ⟨ao, cap, e, hc⟩ := h
  refine ⟨ao, cap, e, fun hne => ?_⟩
  obtain ⟨g, cur, e1, e2, e3⟩ := hc hne
  exact ⟨g, cur, e1, hk g cur e2, e3⟩
theorem LsAt.keep {α : Type} {w w' : World} {t : TypeId} {n : Nat} {cells : α → List Value} {v : Value} {l : List α} (h : LsAt w t n cells v l) (hb : Below w.heap.size w w') : LsAt w' t n cells v l := h.kept (KeptT.of_below hb)
theorem LsAt.get {α : Type} {w : World} {t : TypeId} {n : Nat} {cells : α → List Value} {v : Value} {l : List α} (h : LsAt w t n cells v l) (hne : l ≠ []) : ∃ g cap, v = .slice (some ⟨g, 0, none⟩) l.length cap ∧ g < w.heap.size ∧ ∀ (i : Nat) (h : i < l.length) (j : Nat), j < n → w.cell? ⟨g, i * n + j, none⟩ = (cells l[i])[j]? := by
  obtain ⟨ao, cap, e, hc⟩ := h
  obtain ⟨g, cur, rfl, e2, e3⟩ := hc hne
  refine ⟨g, cap, e, lt_of_block e2, fun i hi j hj => ?_⟩
  rw [← e3 i hi j hj]
  simp [World.cell?, e2]

/-- A packet, as data: header, addresses, protocol, body. -/
structure KP where
  h : ByteArray
  sr : Int
  ds : Int
  pr : Int
  b : ByteArray
def KP.cells (p : KP) : List Value := [.string p.h, .int .i64 p.sr, .int .i64 p.ds, .int .i64 p.pr, .string p.b]
theorem KP.len (p : KP) : p.cells.length = 5 := rfl
/-- A list of packets lies in memory. -/
def KsAt (w : World) (v : Value) (l : List KP) : Prop := LsAt w 83 5 KP.cells v l
theorem kp5 {w : World} {g f : Nat} {p : KP} (h : ∀ j, j < 5 → w.cell? ⟨g, f + j, none⟩ = p.cells[j]?) : w.cell? ⟨g, f, none⟩ = some (.string p.h) ∧ w.cell? ⟨g, f + 1, none⟩ = some (.int .i64 p.sr) ∧ w.cell? ⟨g, f + 2, none⟩ = some (.int .i64 p.ds) ∧ w.cell? ⟨g, f + 3, none⟩ = some (.int .i64 p.pr) ∧ w.cell? ⟨g, f + 4, none⟩ = some (.string p.b) :=
  ⟨h 0 (by decide), h 1 (by decide), h 2 (by decide), h 3 (by decide), h 4 (by decide)⟩
theorem KsAt.get {w : World} {v : Value} {l : List KP} (h : KsAt w v l) (k : Nat) (hk : k < l.length) : ∃ g cap, v = .slice (some ⟨g, 0, none⟩) l.length cap ∧ g < w.heap.size ∧ w.cell? ⟨g, k * 5, none⟩ = some (.string l[k].h) ∧ w.cell? ⟨g, k * 5 + 1, none⟩ = some (.int .i64 l[k].sr) ∧ w.cell? ⟨g, k * 5 + 2, none⟩ = some (.int .i64 l[k].ds) ∧ w.cell? ⟨g, k * 5 + 3, none⟩ = some (.int .i64 l[k].pr) ∧ w.cell? ⟨g, k * 5 + 4, none⟩ = some (.string l[k].b) := by
  obtain ⟨g, cap, e, hg, hc⟩ := LsAt.get h (by intro e; rw [e] at hk; simp at hk)
  exact ⟨g, cap, e, hg, kp5 (fun j hj => hc k hk j hj)⟩
theorem LsAt.shape {α : Type} {w : World} {t : TypeId} {n : Nat} {cells : α → List Value} {v : Value} {l : List α} (h : LsAt w t n cells v l) : ∃ ao cap, v = .slice ao l.length cap := by
  obtain ⟨ao, cap, e, _⟩ := h
  exact ⟨ao, cap, e⟩
/-- A list of one packet. -/
theorem KsAt.one {w : World} {g cap : Nat} {p : KP} (h : w.heap[g]? = some (.cells p.cells.toArray 83 (0, 0))) : KsAt w (.slice (some ⟨g, 0, none⟩) 1 cap) [p] := by
  refine ⟨some ⟨g, 0, none⟩, cap, rfl, fun _ => ⟨g, _, rfl, h, fun i hi j _ => ?_⟩⟩
  have : i = 0 := by simpa using hi
  subst this
  simp
/-- Blocks of a call's own, the younger first. -/
structure LMid (w W : World) (bs : List (Nat × Array Value × TypeId)) : Prop where
  bl : Below w.heap.size w W
  bk : ∀ p ∈ bs, W.heap[p.1]? = some (.cells p.2.1 p.2.2 (0, 0)) ∧ w.heap.size ≤ p.1
  ord : bs.Pairwise (fun p q => q.1 < p.1)
theorem LMid.start (w : World) : LMid w w [] := ⟨Below.refl _ _, fun p hp => absurd hp (by simp), List.Pairwise.nil⟩
theorem LMid.call {w W W' : World} {bs : List (Nat × Array Value × TypeId)} (h : LMid w W bs) (hb : Below W.heap.size W W') : LMid w W' bs :=
  ⟨h.bl.trans (hb.mono h.bl.size), fun p hp => ⟨blk hb (h.bk p hp).1, (h.bk p hp).2⟩, h.ord⟩
theorem LMid.drew {w W : World} {bs : List (Nat × Array Value × TypeId)} (h : LMid w W bs) : LMid w W.drew bs := h.call (Below.refl _ _).drew
theorem LMid.alloc' {w W : World} {bs : List (Nat × Array Value × TypeId)} (h : LMid w W bs) (c : Array Value) (t : TypeId) (k : Nat) (hk : W.heap.size = k) : LMid w (W.alloc (.cells c t)) ((k, c, t) :: bs) := by
  subst hk
  have hb : Below W.heap.size W (W.alloc (.cells c t)) := (Below.refl _ _).alloc (Nat.le_refl _) _
  have h' := h.call hb
  refine ⟨h'.bl, fun p hp => ?_, List.Pairwise.cons (fun q hq => lt_of_block (h.bk q hq).1) h.ord⟩
  rcases List.mem_cons.1 hp with rfl | hp
  · exact ⟨heap_alloc_new W _, h.bl.size⟩
  · exact h'.bk p hp
theorem LMid.setAt {w W : World} {pre post : List (Nat × Array Value × TypeId)} {k : Nat} {c : Array Value} {t : TypeId} (h : LMid w W (pre ++ (k, c, t) :: post)) (j : Nat) (u : Value) : LMid w (W.setCell ⟨k, j, none⟩ u) (pre ++ (k, c.setIfInBounds j u, t) :: post) := by
  obtain ⟨h1, h2⟩ := h.bk (k, c, t) (by simp)
  have hh : ∀ x, (W.setCell ⟨k, j, none⟩ u).heap[x]? = if x = k then some (.cells (c.setIfInBounds j u) t (0, 0)) else W.heap[x]? := fun x => hget_set _ _ _ _ _ _ _ h1
  have hord := h.ord
  rw [List.pairwise_append] at hord
  obtain ⟨o1, o2, o3⟩ := hord
  rw [List.pairwise_cons] at o2
  have hne : ∀ p ∈ pre ++ post, p.1 ≠ k := by
    intro p hp
    rcases List.mem_append.1 hp with hp | hp
    · have := o3 p hp (k, c, t) (by simp); simp only at this; omega
    · have := o2.1 p hp; simp only at this; omega
  refine ⟨h.bl.setCell h2 _, ?_, ?_⟩
  · intro p hp
    rcases List.mem_append.1 hp with hp | hp
    · obtain ⟨a1, a2⟩ := h.bk p (List.mem_append.2 (Or.inl hp))
      exact ⟨by rw [hh, if_neg (hne p (List.mem_append.2 (Or.inl hp)))]; exact a1, a2⟩
    · rcases List.mem_cons.1 hp with rfl | hp
      · exact ⟨by rw [hh, if_pos rfl], h2⟩
      · obtain ⟨a1, a2⟩ := h.bk p (List.mem_append.2 (Or.inr (List.mem_cons_of_mem _ hp)))
        exact ⟨by rw [hh, if_neg (hne p (List.mem_append.2 (Or.inr hp)))]; exact a1, a2⟩
  · rw [List.pairwise_append]
    refine ⟨o1, ?_, ?_⟩
    · rw [List.pairwise_cons]; exact ⟨fun q hq => o2.1 q hq, o2.2⟩
    · intro p hp q hq
      rcases List.mem_cons.1 hq with rfl | hq
      · exact o3 p hp (k, c, t) (by simp)
      · exact o3 p hp q (List.mem_cons_of_mem _ hq)
theorem LMid.at0 {w W : World} {k : Nat} {c : Array Value} {t : TypeId} {post : List (Nat × Array Value × TypeId)} (h : LMid w W ((k, c, t) :: post)) : W.heap[k]? = some (.cells c t (0, 0)) := (h.bk (k, c, t) (by simp)).1
theorem LMid.at1 {w W : World} {k : Nat} {c : Array Value} {t : TypeId} {p0 : Nat × Array Value × TypeId} {post : List (Nat × Array Value × TypeId)} (h : LMid w W (p0 :: (k, c, t) :: post)) : W.heap[k]? = some (.cells c t (0, 0)) := (h.bk (k, c, t) (by simp)).1
theorem LMid.at2 {w W : World} {k : Nat} {c : Array Value} {t : TypeId} {p0 p1 : Nat × Array Value × TypeId} {post : List (Nat × Array Value × TypeId)} (h : LMid w W (p0 :: p1 :: (k, c, t) :: post)) : W.heap[k]? = some (.cells c t (0, 0)) := (h.bk (k, c, t) (by simp)).1
theorem LMid.at3 {w W : World} {k : Nat} {c : Array Value} {t : TypeId} {p0 p1 p2 : Nat × Array Value × TypeId} {post : List (Nat × Array Value × TypeId)} (h : LMid w W (p0 :: p1 :: p2 :: (k, c, t) :: post)) : W.heap[k]? = some (.cells c t (0, 0)) := (h.bk (k, c, t) (by simp)).1
theorem LMid.at4 {w W : World} {k : Nat} {c : Array Value} {t : TypeId} {p0 p1 p2 p3 : Nat × Array Value × TypeId} {post : List (Nat × Array Value × TypeId)} (h : LMid w W (p0 :: p1 :: p2 :: p3 :: (k, c, t) :: post)) : W.heap[k]? = some (.cells c t (0, 0)) := (h.bk (k, c, t) (by simp)).1
theorem LMid.at5 {w W : World} {k : Nat} {c : Array Value} {t : TypeId} {p0 p1 p2 p3 p4 : Nat × Array Value × TypeId} {post : List (Nat × Array Value × TypeId)} (h : LMid w W (p0 :: p1 :: p2 :: p3 :: p4 :: (k, c, t) :: post)) : W.heap[k]? = some (.cells c t (0, 0)) := (h.bk (k, c, t) (by simp)).1
theorem LMid.at6 {w W : World} {k : Nat} {c : Array Value} {t : TypeId} {p0 p1 p2 p3 p4 p5 : Nat × Array Value × TypeId} {post : List (Nat × Array Value × TypeId)} (h : LMid w W (p0 :: p1 :: p2 :: p3 :: p4 :: p5 :: (k, c, t) :: post)) : W.heap[k]? = some (.cells c t (0, 0)) := (h.bk (k, c, t) (by simp)).1

theorem filt_snoc {α : Type} (p : α → Bool) (l : List α) (k : Nat) (h : k < l.length) : (l.take (k + 1)).filter p = (l.take k).filter p ++ (if p l[k] then [l[k]] else []) := by
  rw [List.take_succ_eq_append_getElem h, List.filter_append]
  congr 1
  by_cases hk : p l[k] = true
  · simp [hk]
  · simp [hk]

theorem owns_shape {w : World} {base : Nat} {e : TypeId} {size n : Nat} {v : Value} {xs : List Value} (h : w.ownsRow base e size v n xs) : ∃ la cp, v = .slice la n cp := by
  obtain ⟨_, h2⟩ := h
  rcases h2 with ⟨rfl, h0⟩ | ⟨g, cap, cur, rfl, _⟩
  · exact ⟨none, 0, by rw [h0]⟩
  · exact ⟨_, _, rfl⟩
theorem owns_empty (w : World) (e : TypeId) (size : Nat) : (w.alloc (.cells #[] e)).ownsRow w.heap.size e size (.slice (some ⟨w.heap.size, 0, none⟩) 0 0) 0 [] :=
  ⟨by simp, Or.inr ⟨w.heap.size, 0, #[], rfl, Nat.le_refl _, by rw [hget_alloc, if_pos rfl], Nat.le_refl _, by unfold maxLen; omega, by simp, by simp⟩⟩

theorem owns_call {w1 w2 : World} {B : Nat} {e : TypeId} {size n : Nat} {v : Value} {xs : List Value} (h : w1.ownsRow B e size v n xs) (hb : Below w1.heap.size w1 w2) : w2.ownsRow B e size v n xs := by
  obtain ⟨h1, h2⟩ := h
  refine ⟨h1, ?_⟩
  rcases h2 with h2 | ⟨g, cap, cur, hv, hg, hh, r⟩
  · exact Or.inl h2
  · exact Or.inr ⟨g, cap, cur, hv, hg, by rw [hb.block g (lt_of_block hh)]; exact hh, r⟩
/-- Blocks of a call's own, and a list that it makes. -/
structure QMid (w W : World) (bs : List (Nat × Array Value × TypeId)) (t : TypeId) (n : Nat) (lv : Value) (k : Nat) (xs : List Value) : Prop where
  mid : LMid w W bs
  own : W.ownsRow w.heap.size t n lv k xs
  far : ∀ p ∈ bs, lv.ownBlock ≠ some p.1
theorem LMid.tail {w W : World} {p : Nat × Array Value × TypeId} {bs : List (Nat × Array Value × TypeId)} (h : LMid w W (p :: bs)) : LMid w W bs := ⟨h.bl, fun q hq => h.bk q (List.mem_cons_of_mem _ hq), (List.pairwise_cons.1 h.ord).2⟩
theorem LMid.set0 {w W : World} {post : List (Nat × Array Value × TypeId)} {k : Nat} {c : Array Value} {t : TypeId} (h : LMid w W ((k, c, t) :: post)) (j : Nat) (u : Value) : LMid w (W.setCell ⟨k, j, none⟩ u) ((k, c.setIfInBounds j u, t) :: post) := h.setAt (pre := []) j u
theorem LMid.set1 {w W : World} {p0 : Nat × Array Value × TypeId} {post : List (Nat × Array Value × TypeId)} {k : Nat} {c : Array Value} {t : TypeId} (h : LMid w W (p0 :: (k, c, t) :: post)) (j : Nat) (u : Value) : LMid w (W.setCell ⟨k, j, none⟩ u) (p0 :: (k, c.setIfInBounds j u, t) :: post) := h.setAt (pre := [p0]) j u
theorem LMid.set2 {w W : World} {p0 p1 : Nat × Array Value × TypeId} {post : List (Nat × Array Value × TypeId)} {k : Nat} {c : Array Value} {t : TypeId} (h : LMid w W (p0 :: p1 :: (k, c, t) :: post)) (j : Nat) (u : Value) : LMid w (W.setCell ⟨k, j, none⟩ u) (p0 :: p1 :: (k, c.setIfInBounds j u, t) :: post) := h.setAt (pre := [p0, p1]) j u
theorem LMid.set3 {w W : World} {p0 p1 p2 : Nat × Array Value × TypeId} {post : List (Nat × Array Value × TypeId)} {k : Nat} {c : Array Value} {t : TypeId} (h : LMid w W (p0 :: p1 :: p2 :: (k, c, t) :: post)) (j : Nat) (u : Value) : LMid w (W.setCell ⟨k, j, none⟩ u) (p0 :: p1 :: p2 :: (k, c.setIfInBounds j u, t) :: post) := h.setAt (pre := [p0, p1, p2]) j u
theorem QMid.call {w W : World} {bs : List (Nat × Array Value × TypeId)} {t : TypeId} {n : Nat} {lv : Value} {k : Nat} {xs : List Value} {W' : World} (h : QMid w W bs t n lv k xs) (hb : Below W.heap.size W W') : QMid w W' bs t n lv k xs := ⟨h.mid.call hb, owns_call h.own hb, h.far⟩
theorem QMid.drew {w W : World} {bs : List (Nat × Array Value × TypeId)} {t : TypeId} {n : Nat} {lv : Value} {k : Nat} {xs : List Value} (h : QMid w W bs t n lv k xs) : QMid w W.drew bs t n lv k xs := h.call (Below.refl _ _).drew
theorem QMid.alloc' {w W : World} {bs : List (Nat × Array Value × TypeId)} {t : TypeId} {n : Nat} {lv : Value} {k : Nat} {xs : List Value} (h : QMid w W bs t n lv k xs) (c : Array Value) (t' : TypeId) (j : Nat) (hj : W.heap.size = j) : QMid w (W.alloc (.cells c t')) ((j, c, t') :: bs) t n lv k xs :=
  ⟨h.mid.alloc' c t' j hj, h.own.alloc _, fun p hp => by
    rcases List.mem_cons.1 hp with rfl | hp
    · intro e; have := (h.own.lt _ e).2; simp only at this; omega
    · exact h.far p hp⟩
theorem QMid.tail {p : Nat × Array Value × TypeId} {w W : World} {bs : List (Nat × Array Value × TypeId)} {t : TypeId} {n : Nat} {lv : Value} {k : Nat} {xs : List Value} (h : QMid w W (p :: bs) t n lv k xs) : QMid w W bs t n lv k xs := ⟨h.mid.tail, h.own, fun q hq => h.far q (List.mem_cons_of_mem _ hq)⟩
theorem QMid.app {w W : World} {bs : List (Nat × Array Value × TypeId)} {t : TypeId} {n : Nat} {lv : Value} {k : Nat} {xs : List Value} {W2 : World} {g k' cap : Nat} {xs' : List Value} (h : QMid w W bs t n lv k xs) (hg : W.grownBy W2 lv.ownBlock) (ho : W2.ownsRow w.heap.size t n (.slice (some ⟨g, 0, none⟩) k' cap) k' xs') (H : Nat) (hat : lv.ownBlock = some g ∨ g = H) (hH : W.heap.size = H) : QMid w W2 bs t n (.slice (some ⟨g, 0, none⟩) k' cap) k' xs' := by
  have hbl : Below w.heap.size w W2 := h.mid.bl.grown hg h.mid.bl.size (fun q e => (h.own.lt q e).1)
  refine ⟨⟨hbl, fun p hp => ?_, h.mid.ord⟩, ho, fun p hp e => ?_⟩
  · obtain ⟨a1, a2⟩ := h.mid.bk p hp
    exact ⟨by rw [hg.block p.1 (lt_of_block a1) (fun e => h.far p hp e.symm)]; exact a1, a2⟩
  · have a1 := lt_of_block (h.mid.bk p hp).1
    simp [Value.ownBlock] at e
    rcases hat with h1 | h1
    · exact h.far p hp (by rw [h1, e])
    · omega
theorem QMid.start {w W : World} {bs : List (Nat × Array Value × TypeId)} (h : LMid w W bs) (t : TypeId) (n : Nat) (j : Nat) (hj : W.heap.size = j) : QMid w (W.alloc (.cells #[] t)) bs t n (.slice (some ⟨j, 0, none⟩) 0 0) 0 [] := by
  subst hj
  refine ⟨h.call ((Below.refl _ _).alloc (Nat.le_refl _) _), ?_, fun p hp e => ?_⟩
  · obtain ⟨a, b⟩ := owns_empty W t n
    refine ⟨a, ?_⟩
    rcases b with b | ⟨g, cp, cur, h1, h2, h3⟩
    · simp at b
    · exact Or.inr ⟨g, cp, cur, h1, Nat.le_trans h.bl.size h2, h3⟩
  · have a1 := lt_of_block (h.bk p hp).1
    simp [Value.ownBlock] at e
    omega
end Go.Proofs.YtfkjobiapjhacabGreat
