/- Sums of any text. Own work. -/
import Derived.Test.YtfkjobiapjhacabGreatG4
namespace Go.Proofs.YtfkjobiapjhacabGreat
open Go.RowKit

theorem byteOf_val (v : Int) : ((byteOf v).toNat : Int) = v % 256 := by
  unfold byteOf
  rw [UInt8.toNat_ofNat']
  omega
theorem byteAt_list (s : ByteArray) (k : Nat) : byteAt s (k : Int) = (((bl s).getD k 0).toNat : Int) := by
  unfold byteAt bl
  rw [if_pos (by omega), Int.toNat_natCast]
theorem byteAt_put (s : ByteArray) (i : Nat) (v : Int) (h : i + 2 ≤ s.size) (k : Nat) : byteAt (putWord s i v) (k : Int) = if k = i then v / 256 % 256 else if k = i + 1 then v % 256 else byteAt s (k : Int) := by
  have hl : (bl s).length = s.size := bl_length s
  rw [byteAt_list, byteAt_list, bl_put, List.getD_eq_getElem?_getD, List.getD_eq_getElem?_getD]
  by_cases h1 : k < i
  · rw [if_neg (by omega), if_neg (by omega), List.append_assoc, List.getElem?_append_left (by simp; omega), List.getElem?_take_of_lt h1]
  · by_cases h2 : k = i
    · rw [if_pos h2, List.append_assoc, List.getElem?_append_right (by simp; omega)]
      have : k - ((bl s).take i).length = 0 := by simp; omega
      rw [this]
      simp [byteOf_val]
    · by_cases h3 : k = i + 1
      · rw [if_neg h2, if_pos h3, List.append_assoc, List.getElem?_append_right (by simp; omega)]
        have : k - ((bl s).take i).length = 1 := by simp; omega
        rw [this]
        simp [byteOf_val]
      · rw [if_neg h2, if_neg h3, List.getElem?_append_right (by simp; omega), List.getElem?_drop]
        have : i + 2 + (k - ((bl s).take i ++ [byteOf (v / 256), byteOf v]).length) = k := by simp; omega
        rw [this]
theorem wordAt_put (s : ByteArray) (i : Nat) (v : Int) (h : i + 2 ≤ s.size) (k : Nat) (hk : k = i ∨ k + 2 ≤ i ∨ i + 2 ≤ k) : wordAt (putWord s i v) (k : Int) = if k = i then v % 65536 else wordAt s (k : Int) := by
  unfold wordAt
  rw [show (k : Int) + 1 = ((k + 1 : Nat) : Int) by omega, byteAt_put s i v h k, byteAt_put s i v h (k + 1)]
  rcases hk with e | e | e
  · subst e
    rw [if_pos rfl, if_pos rfl, if_neg (by omega), if_pos rfl]
    omega
  · rw [if_neg (by omega), if_neg (by omega), if_neg (by omega), if_neg (by omega), if_neg (by omega)]
  · rw [if_neg (by omega), if_neg (by omega), if_neg (by omega), if_neg (by omega), if_neg (by omega)]
/-- The sum of a text's words. -/
def totI (s : ByteArray) : Int := sumTo s ((s.size + 1) / 2)
theorem sumI_tot (s : ByteArray) : sumI s = foldI (totI s) := rfl
theorem totI_nn (s : ByteArray) : 0 ≤ totI s := (sumTo_bd s _).1
theorem sumTo_put (s : ByteArray) (j : Nat) (v : Int) (h : 2 * j + 2 ≤ s.size) (n : Nat) : sumTo (putWord s (2 * j) v) n = sumTo s n + (if j < n then v % 65536 - wordAt s ((2 * j : Nat) : Int) else 0) := by
  induction n with
  | zero => simp [sumTo]
  | succ n ih =>
    unfold sumTo
    rw [ih, show (2 : Int) * (n : Int) = ((2 * n : Nat) : Int) by omega, wordAt_put s (2 * j) v h (2 * n) (by omega)]
    by_cases e : n = j
    · subst e
      rw [if_neg (by omega), if_pos rfl, if_pos (by omega)]
      omega
    · rw [if_neg (by omega : ¬ 2 * n = 2 * j)]
      by_cases e2 : j < n
      · rw [if_pos e2, if_pos (by omega)]; omega
      · rw [if_neg e2, if_neg (by omega)]; omega
theorem totI_put (s : ByteArray) (j : Nat) (v : Int) (h : 2 * j + 2 ≤ s.size) : totI (putWord s (2 * j) v) = totI s + v % 65536 - wordAt s ((2 * j : Nat) : Int) := by
  unfold totI
  rw [size_put s (2 * j) v h, sumTo_put s j v h, if_pos (by omega)]
  omega
theorem fold_mod (n : Int) : (foldI n) % 65535 = n % 65535 ∧ (foldI n = 0 ↔ n = 0) := by
  unfold foldI
  split
  · rename_i e; simp [e]
  · rename_i e
    constructor
    · omega
    · omega
theorem fold_full (n : Int) (h : 0 ≤ n) : foldI n = 65535 ↔ (0 < n ∧ n % 65535 = 0) := by
  unfold foldI
  split
  · rename_i e; omega
  · omega
/-- A checksum that is made makes the sum right. -/
theorem made_right (t : Int) (h : 0 ≤ t) : foldI (t + (65535 - foldI t) % 65536) = 65535 := by
  have h1 := fold_mod t
  have h2 := foldI_bd t
  rw [fold_full _ (by omega)]
  have : (65535 - foldI t) % 65536 = 65535 - foldI t := by omega
  rw [this]
  refine ⟨?_, by omega⟩
  by_cases e : t = 0
  · have := h1.2.2 e; omega
  · omega
theorem made_full (t : Int) (h : 0 ≤ t) (hf : foldI t = 65535) : foldI (t + 65535 % 65536) = 65535 := by
  have h1 := fold_mod t
  rw [fold_full _ (by omega)]
  omega
/-- The header that goes out: its sum, its words. -/
theorem addrHead_sum (h : ByteArray) (src dst : Int) (hh : h.size = 20) : sumI (addrHead h src dst) = 65535 := by
  unfold addrHead
  simp only
  have z1 : (putAddr h 12 src).size = 20 := by rw [size_addr _ _ _ (by omega), hh]
  have z2 : (putAddr (putAddr h 12 src) 16 dst).size = 20 := by rw [size_addr _ _ _ (by omega), z1]
  generalize putAddr (putAddr h 12 src) 16 dst = h2 at z2
  have z4 : (putWord h2 10 0).size = 20 := by rw [size_put _ _ _ (by omega), z2]
  have w10 : wordAt (putWord h2 10 0) ((2 * 5 : Nat) : Int) = 0 := by rw [wordAt_put h2 10 0 (by omega) (2 * 5) (Or.inl rfl), if_pos rfl]; decide
  generalize putWord h2 10 0 = h4 at z4 w10
  rw [sumI_tot]
  have := totI_put h4 5 (65535 - sumI h4) (by omega)
  rw [show (2 * 5 : Nat) = 10 from rfl] at this w10
  rw [this, w10, sumI_tot, Int.sub_zero]
  exact made_right _ (totI_nn h4)
theorem putAddr_word (s : ByteArray) (i : Nat) (a : Int) (h : i + 4 ≤ s.size) (k : Nat) (hk : k + 2 ≤ i ∨ i + 4 ≤ k) : wordAt (putAddr s i a) (k : Int) = wordAt s (k : Int) := by
  unfold putAddr
  rw [wordAt_put _ _ _ (by rw [size_put _ _ _ (by omega)]; omega) k (by omega), if_neg (by omega), wordAt_put _ _ _ (by omega) k (by omega), if_neg (by omega)]
theorem putAddr_byte (s : ByteArray) (i : Nat) (a : Int) (h : i + 4 ≤ s.size) (k : Nat) (hk : k < i ∨ i + 4 ≤ k) : byteAt (putAddr s i a) (k : Int) = byteAt s (k : Int) := by
  unfold putAddr
  rw [byteAt_put _ _ _ (by rw [size_put _ _ _ (by omega)]; omega) k, if_neg (by omega), if_neg (by omega), byteAt_put _ _ _ (by omega) k, if_neg (by omega), if_neg (by omega)]
theorem putAddr_addr (s : ByteArray) (i : Nat) (a : Int) (h : i + 4 ≤ s.size) (h0 : 0 ≤ a) (h1 : a ≤ 4294967295) : addrAt (putAddr s i a) (i : Int) = a := by
  unfold addrAt putAddr
  rw [show (i : Int) + 2 = ((i + 2 : Nat) : Int) by omega, wordAt_put _ _ _ (by rw [size_put _ _ _ (by omega)]; omega) i (by omega), if_neg (by omega), wordAt_put _ _ _ (by rw [size_put _ _ _ (by omega)]; omega) (i + 2) (by omega), if_pos rfl, wordAt_put _ _ _ (by omega) i (by omega), if_pos rfl]
  omega
/-- What a header that goes out says. -/
structure HOut (h r : ByteArray) (src dst : Int) : Prop where
  sz : r.size = 20
  sum : sumI r = 65535
  b0 : byteAt r 0 = byteAt h 0
  b1 : byteAt r 1 = byteAt h 1
  w2 : wordAt r 2 = wordAt h 2
  w4 : wordAt r 4 = wordAt h 4
  w6 : wordAt r 6 = wordAt h 6
  b8 : byteAt r 8 = byteAt h 8 - 1
  b9 : byteAt r 9 = byteAt h 9
  s12 : addrAt r 12 = src
  d16 : addrAt r 16 = dst
theorem onHead_out (h : ByteArray) (src dst : Int) (hh : h.size = 20) (ht : 1 ≤ byteAt h 8) (s0 : 0 ≤ src) (s1 : src ≤ 4294967295) (d0 : 0 ≤ dst) (d1 : dst ≤ 4294967295) : HOut h (onHead h src dst) src dst := by
  have ht2 := byteAt_bd h 8
  have h9 := byteAt_bd h 9
  have e8 : wordAt h 8 = byteAt h 8 * 256 + byteAt h 9 := rfl
  have z0 : (putWord h 8 (wordAt h 8 - 256)).size = 20 := by rw [size_put _ _ _ (by omega), hh]
  have hsz : (onHead h src dst).size = 20 := size_addrHead _ _ _ z0
  have hsum : sumI (onHead h src dst) = 65535 := addrHead_sum _ _ _ z0
  have z1 : (putAddr (putWord h 8 (wordAt h 8 - 256)) 12 src).size = 20 := by rw [size_addr _ _ _ (by omega), z0]
  have z2 : (putAddr (putAddr (putWord h 8 (wordAt h 8 - 256)) 12 src) 16 dst).size = 20 := by rw [size_addr _ _ _ (by omega), z1]
  have z4 : (putWord (putAddr (putAddr (putWord h 8 (wordAt h 8 - 256)) 12 src) 16 dst) 10 0).size = 20 := by rw [size_put _ _ _ (by omega), z2]
  have word : ∀ k : Nat, k + 2 ≤ 10 → wordAt (onHead h src dst) (k : Int) = wordAt (putWord h 8 (wordAt h 8 - 256)) (k : Int) := fun k hk => by
    unfold onHead addrHead
    simp only
    rw [wordAt_put _ _ _ (by omega) k (by omega), if_neg (by omega), wordAt_put _ _ _ (by omega) k (by omega), if_neg (by omega), putAddr_word _ _ _ (by omega) k (by omega), putAddr_word _ _ _ (by omega) k (by omega)]
  have byte : ∀ k : Nat, k < 10 → byteAt (onHead h src dst) (k : Int) = byteAt (putWord h 8 (wordAt h 8 - 256)) (k : Int) := fun k hk => by
    unfold onHead addrHead
    simp only
    rw [byteAt_put _ _ _ (by omega) k, if_neg (by omega), if_neg (by omega), byteAt_put _ _ _ (by omega) k, if_neg (by omega), if_neg (by omega), putAddr_byte _ _ _ (by omega) k (by omega), putAddr_byte _ _ _ (by omega) k (by omega)]
  have w0 : ∀ k : Nat, k + 2 ≤ 8 → wordAt (onHead h src dst) (k : Int) = wordAt h (k : Int) := fun k hk => by rw [word k (by omega), wordAt_put _ _ _ (by omega) k (by omega), if_neg (by omega)]
  have y0 : ∀ k : Nat, k < 8 → byteAt (onHead h src dst) (k : Int) = byteAt h (k : Int) := fun k hk => by rw [byte k (by omega), byteAt_put _ _ _ (by omega) k, if_neg (by omega), if_neg (by omega)]
  refine ⟨hsz, hsum, y0 0 (by decide), y0 1 (by decide), w0 2 (by decide), w0 4 (by decide), w0 6 (by decide), ?_, ?_, ?_, ?_⟩
  · have := byte 8 (by decide)
    rw [byteAt_put _ _ _ (by omega) 8, if_pos rfl] at this
    exact this.trans (by omega)
  · have := byte 9 (by decide)
    rw [byteAt_put _ _ _ (by omega) 9, if_neg (by decide), if_pos rfl] at this
    exact this.trans (by omega)
  · have ha : ∀ s : ByteArray, s.size = 20 → ∀ v, addrAt (putWord s 10 v) 12 = addrAt s 12 := fun s hs v => by
      unfold addrAt
      have a1 := wordAt_put s 10 v (by omega) 12 (by omega)
      have a2 := wordAt_put s 10 v (by omega) 14 (by omega)
      rw [if_neg (by omega)] at a1 a2
      exact congr (congrArg HAdd.hAdd (congrArg (fun z => z * 65536) a1)) a2
    unfold onHead addrHead
    simp only
    rw [ha _ z4, ha _ z2]
    have := putAddr_word (putAddr (putWord h 8 (wordAt h 8 - 256)) 12 src) 16 dst (by omega)
    have a1 := this 12 (by omega)
    have a2 := this 14 (by omega)
    have a3 := putAddr_addr (putWord h 8 (wordAt h 8 - 256)) 12 src (by omega) s0 s1
    unfold addrAt at a3 ⊢
    rw [show ((12 : Nat) : Int) + 2 = ((14 : Nat) : Int) from rfl] at a3
    rw [show (12 : Int) + 2 = ((14 : Nat) : Int) from rfl, show (12 : Int) = ((12 : Nat) : Int) from rfl, a1, a2]
    exact a3
  · have ha : ∀ s : ByteArray, s.size = 20 → ∀ v, addrAt (putWord s 10 v) 16 = addrAt s 16 := fun s hs v => by
      unfold addrAt
      have a1 := wordAt_put s 10 v (by omega) 16 (by omega)
      have a2 := wordAt_put s 10 v (by omega) 18 (by omega)
      rw [if_neg (by omega)] at a1 a2
      exact congr (congrArg HAdd.hAdd (congrArg (fun z => z * 65536) a1)) a2
    unfold onHead addrHead
    simp only
    rw [ha _ z4, ha _ z2]
    exact putAddr_addr _ 16 dst (by omega) d0 d1
/-- A message whose checksum is made is right. -/
theorem fold_in (a b : Int) (ha : 0 ≤ a) (hb : 0 ≤ b) : foldI (foldI a + b) = foldI (a + b) := by
  have h1 := fold_mod a
  have h2 := foldI_bd a
  unfold foldI at h1 h2 ⊢
  by_cases e : a = 0
  · simp [e]
  · rw [if_neg e] at h1 h2 ⊢
    rw [if_neg (by omega), if_neg (by omega)]
    omega
theorem seal_sum (pr fa ta : Int) (m : ByteArray) (hat : sumAtI pr + 2 ≤ m.size) (hs : hasSumB pr m = true) (hp : 0 ≤ pr) (f0 : 0 ≤ fa) (t0 : 0 ≤ ta) : dSum pr fa ta (sealM pr fa ta m) = 65535 := by
  obtain ⟨j, hj⟩ : ∃ j, sumAtI pr = 2 * j := by
    unfold sumAtI
    split
    · exact ⟨8, rfl⟩
    · split
      · exact ⟨3, rfl⟩
      · exact ⟨1, rfl⟩
  unfold sealM
  rw [if_neg (by simp [hs]), hj]
  rw [hj] at hat
  have hz : (putWord m (2 * j) 0).size = m.size := size_put _ _ _ hat
  have hw : wordAt (putWord m (2 * j) 0) ((2 * j : Nat) : Int) = 0 := by rw [wordAt_put m (2 * j) 0 hat (2 * j) (Or.inl rfl), if_pos rfl]; decide
  generalize putWord m (2 * j) 0 = z at hz hw
  obtain ⟨ck, hck⟩ : ∃ ck, ck = sealSum pr fa ta z := ⟨_, rfl⟩
  rw [← hck]
  have htot := totI_put z j ck (by omega)
  rw [hw, Int.sub_zero] at htot
  have hsz : (putWord z (2 * j) ck).size = z.size := size_put _ _ _ (by omega)
  have hnn := totI_nn z
  unfold sealSum ckI dSum at hck
  unfold dSum
  rw [sumI_tot, htot, hsz]
  rw [sumI_tot] at hck
  by_cases h1 : pr = 1
  · rw [if_pos h1] at hck ⊢
    rw [if_neg (by omega)] at hck
    rw [hck]
    exact made_right _ hnn
  · rw [if_neg h1] at hck ⊢
    obtain ⟨C, hC⟩ : ∃ C, C = (fa / 65536 + fa % 65536 + ta / 65536 + ta % 65536) + pr + (z.size : Int) := ⟨_, rfl⟩
    have hC0 : 0 ≤ C := by omega
    have g1 : foldI (totI z) + (fa / 65536 + fa % 65536 + ta / 65536 + ta % 65536) + pr + (z.size : Int) = foldI (totI z) + C := by omega
    rw [g1, fold_in _ _ hnn hC0] at hck
    have hcm : 0 ≤ ck % 65536 := by omega
    have g2 : foldI (totI z + ck % 65536) + (fa / 65536 + fa % 65536 + ta / 65536 + ta % 65536) + pr + (z.size : Int) = foldI (totI z + ck % 65536) + C := by omega
    rw [g2, fold_in _ _ (by omega) hC0]
    have g3 : totI z + ck % 65536 + C = (totI z + C) + ck % 65536 := by omega
    rw [g3]
    split at hck
    · rename_i h2
      rw [hck]
      exact made_full _ (by omega) (by omega)
    · rw [hck]
      exact made_right _ (by omega)
end Go.Proofs.YtfkjobiapjhacabGreat
