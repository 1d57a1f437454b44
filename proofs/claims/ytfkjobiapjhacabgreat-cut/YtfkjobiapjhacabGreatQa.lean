/- Pieces of the law's own; names of datagrams. Own work. -/
import Derived.Test.YtfkjobiapjhacabGreatIb
import Derived.Test.YtfkjobiapjhacabGreatK4
namespace Go.Proofs.YtfkjobiapjhacabGreat
open Go.RowKit

theorem nat_and_pow (x i : Nat) : x &&& 2 ^ i = x / 2 ^ i % 2 * 2 ^ i := by
  apply Nat.eq_of_testBit_eq
  intro j
  rw [Nat.testBit_and, Nat.testBit_two_pow, Nat.testBit_mul_two_pow, show x / 2 ^ i % 2 = x / 2 ^ i % 2 ^ 1 from rfl, Nat.testBit_mod_two_pow, Nat.testBit_div_two_pow]
  by_cases e : i = j
  · subst e
    simp
  · by_cases h : i ≤ j
    · have : ¬ j - i < 1 := by omega
      simp [e, h, this]
    · simp [e, h]
theorem and_i64 (a b : Nat) (ha : a < 4611686018427387904) (hb : b < 4611686018427387904) : bits .and .i64 (a : Int) (b : Int) = ((a &&& b : Nat) : Int) := by
  have hx : a &&& b < 2 ^ 62 := Nat.and_lt_two_pow _ (by omega)
  show IntKind.i64.wrap ((BitVec.ofInt 64 (a : Int) &&& BitVec.ofInt 64 (b : Int)).toNat : Int) = _
  rw [BitVec.toNat_and, ofInt_u64 a (by omega), ofInt_u64 b (by omega), IntKind.wrap_i64]
  omega
theorem or_i64 (a b : Nat) (ha : a < 4611686018427387904) (hb : b < 4611686018427387904) : bits .or .i64 (a : Int) (b : Int) = ((a ||| b : Nat) : Int) := by
  have hx : a ||| b < 2 ^ 62 := Nat.or_lt_two_pow (by omega) (by omega)
  show IntKind.i64.wrap ((BitVec.ofInt 64 (a : Int) ||| BitVec.ofInt 64 (b : Int)).toNat : Int) = _
  rw [BitVec.toNat_or, ofInt_u64 a (by omega), ofInt_u64 b (by omega), IntKind.wrap_i64]
  omega
theorem and_more (x : Int) (h0 : 0 ≤ x) (h1 : x < 65536) : bits .and .i64 x 8192 = x / 8192 % 2 * 8192 := by
  obtain ⟨n, rfl⟩ := Int.eq_ofNat_of_zero_le h0
  have h := and_i64 n 8192 (by omega) (by decide)
  have e := nat_and_pow n 13
  rw [show (2 : Nat) ^ 13 = 8192 from rfl] at e
  rw [e] at h
  rw [show ((8192 : Nat) : Int) = (8192 : Int) from rfl] at h
  rw [h]
  omega
theorem and_top (x : Int) (h0 : 0 ≤ x) (h1 : x < 65536) : bits .and .i64 x 32768 = x / 32768 % 2 * 32768 := by
  obtain ⟨n, rfl⟩ := Int.eq_ofNat_of_zero_le h0
  have h := and_i64 n 32768 (by omega) (by decide)
  have e := nat_and_pow n 15
  rw [show (2 : Nat) ^ 15 = 32768 from rfl] at e
  rw [e] at h
  rw [show ((32768 : Nat) : Int) = (32768 : Int) from rfl] at h
  rw [h]
  omega
theorem flagW_eq (fl o : Int) (h0 : 0 ≤ fl) (h1 : fl ≤ 1) (h2 : 0 ≤ o) (h3 : o < 8192) : flagW fl (8 * o) = fl * 8192 + o := by
  unfold flagW
  rw [show 8 * o / 8 = o by omega]
  obtain ⟨n, rfl⟩ := Int.eq_ofNat_of_zero_le h2
  obtain ⟨k, rfl⟩ := Int.eq_ofNat_of_zero_le h0
  have h := or_i64 (k * 8192) n (by omega) (by omega)
  have e := nat_join 13 (k * 8192) n (by omega) (by omega)
  rw [e] at h
  rw [show ((k : Int) * 8192) = ((k * 8192 : Nat) : Int) by omega, h]
  omega
/-- A piece of the law's own. -/
structure PCOK (id fl o ttl pr src dst : Int) (B : ByteArray) : Prop where
  i0 : 0 ≤ id
  i1 : id ≤ 65535
  f0 : 0 ≤ fl
  f1 : fl ≤ 1
  o0 : 0 ≤ o
  o1 : o < 8192
  t0 : 2 ≤ ttl
  t1 : ttl ≤ 255
  pr : pr = 1 ∨ pr = 6 ∨ pr = 17
  s0 : 0 ≤ src
  s1 : src ≤ 4294967295
  d0 : 0 ≤ dst
  d1 : dst ≤ 4294967295
  b0 : 1 ≤ B.size
  b1 : B.size ≤ 140
  m8 : fl = 1 → B.size % 8 = 0
theorem piece_raw {id fl o ttl pr src dst : Int} {B : ByteArray} (h : PCOK id fl o ttl pr src dst B) :
    ∃ hd : ByteArray, rFault (rawP ⟨id, fl, 8 * o, ttl, pr, src, dst, B⟩) = 0 ∧ pkOf (rawP ⟨id, fl, 8 * o, ttl, pr, src, dst, B⟩) = ⟨hd, src, dst, pr, B⟩ ∧ bl hd = HDS (20 + (B.size : Int)) id (fl * 8192 + o) ttl pr src dst ∧ hd = (rawP ⟨id, fl, 8 * o, ttl, pr, src, dst, B⟩).extract 0 20 ∧ placeI hd = 8 * o ∧ moreB hd = (fl == 1) ∧ wordAt hd 4 = id ∧ pieceB hd = (fl == 1 || o != 0) := by
  obtain ⟨i0, i1, f0, f1, o0, o1, t0, t1, hpr, s0, s1, d0, d1, b0, b1, m8⟩ := h
  have hbl := bl_rawP ⟨id, fl, 8 * o, ttl, pr, src, dst, B⟩
  simp only at hbl
  rw [flagW_eq fl o f0 f1 o0 o1] at hbl
  generalize rawP ⟨id, fl, 8 * o, ttl, pr, src, dst, B⟩ = raw at hbl ⊢
  have hs := whole_size hbl
  rw [bl_length] at hs
  obtain ⟨k0, -, k2, k4, k6, k8, -, -, -, -⟩ := HD_word _ _ _ _ _ _ _ _ (raw.extract 0 20) [] (by rw [List.append_nil]; exact whole_head hbl)
  obtain ⟨-, -, -, -, -, -, k9, -, k12, k16⟩ := HD_word _ _ _ _ _ _ _ _ raw _ hbl
  have hb : raw.extract 20 raw.size = B := bl_inj (whole_body hbl)
  have hfw : 0 ≤ fl * 8192 + o ∧ fl * 8192 + o < 16384 := by omega
  have e6 : wordAt (raw.extract 0 20) 6 = fl * 8192 + o := by rw [k6]; omega
  have emo : moreB (raw.extract 0 20) = (fl == 1) := by
    unfold moreB
    rw [e6, and_more _ (by omega) (by omega)]
    have : (fl * 8192 + o) / 8192 % 2 * 8192 = fl * 8192 := by omega
    rw [this]
    rcases (show fl = 0 ∨ fl = 1 by omega) with e | e <;> rw [e] <;> decide
  have epl : placeI (raw.extract 0 20) = 8 * o := by
    unfold placeI
    rw [e6, and_low _ (by omega) (by omega)]
    omega
  have e4 : wordAt (raw.extract 0 20) 4 = id := by rw [k4]; omega
  refine ⟨raw.extract 0 20, ?_, ?_, whole_head hbl, rfl, epl, emo, e4, ?_⟩
  · unfold rFault
    rw [if_neg (by omega), hb]
    unfold pFault
    have et : bits .and .i64 (wordAt (raw.extract 0 20) 6) 32768 = 0 := by rw [e6, and_top _ (by omega) (by omega)]; omega
    have emo' : (bits .and .i64 (wordAt (raw.extract 0 20) 6) 8192 != 0) = (fl == 1) := emo
    rw [k0, k2, et, whole_sum hbl, emo', k8]
    have e2 : (20 + (B.size : Int)) % 65536 = 20 + (B.size : Int) := by omega
    have e8 : ttl % 256 = ttl := by omega
    rw [e2, e8, if_neg (by simp), if_neg (by simp), if_neg (by simp), if_neg (by simp), if_neg (by
      intro hh
      have h1 := m8 (by simpa using hh.1)
      have h2 : ((B.size : Int) % 8) = 0 := by omega
      simp [h2] at hh), if_neg (by omega)]
  · unfold pkOf
    rw [k9, k12, k16, hb]
    have a1 : pr % 256 = pr := by omega
    have a2 : src % 4294967296 = src := by omega
    have a3 : dst % 4294967296 = dst := by omega
    rw [a1, a2, a3]
  · unfold pieceB
    rw [emo, epl]
    by_cases e : o = 0
    · simp [e]
    · have e1 : (8 * o != 0) = true := bne_iff_ne.2 (by omega)
      have e2 : (o != 0) = true := bne_iff_ne.2 e
      rw [e1, e2]
/-- No two datagrams of one name wait. -/
def sameN (a b : PD) : Prop := a.sd = b.sd ∧ a.sr = b.sr ∧ a.ds = b.ds ∧ a.pr = b.pr ∧ a.nu = b.nu
def Uniq (wl : List PD) : Prop := wl.Pairwise (fun a b => ¬ sameN a b)
theorem nmB_iff (x d : PD) : nmB x d = true ↔ sameN d x := by
  unfold nmB sameN
  simp only [Bool.and_eq_true, beq_iff_eq]
  exact ⟨fun h => ⟨h.1.1.1.1, h.1.1.1.2, h.1.1.2, h.1.2, h.2⟩, fun h => ⟨⟨⟨⟨h.1, h.2.1⟩, h.2.2.1⟩, h.2.2.2.1⟩, h.2.2.2.2⟩⟩
theorem sameN.symm {a b : PD} (h : sameN a b) : sameN b a := ⟨h.1.symm, h.2.1.symm, h.2.2.1.symm, h.2.2.2.1.symm, h.2.2.2.2.symm⟩
theorem sameN.trans {a b c : PD} (h : sameN a b) (k : sameN b c) : sameN a c := ⟨h.1.trans k.1, h.2.1.trans k.2.1, h.2.2.1.trans k.2.2.1, h.2.2.2.1.trans k.2.2.2.1, h.2.2.2.2.trans k.2.2.2.2⟩
theorem Uniq.perm {l l' : List PD} (h : Uniq l) (p : List.Perm l l') : Uniq l' := (p.pairwise_iff (fun {a b} (hab : ¬ sameN a b) => fun h => hab h.symm)).1 h
/-- A name's datagram, and the others. -/
theorem found_split {wl : List PD} (h : Uniq wl) (x : PD) : (foundN x wl = pd0 ∧ wl.filter (fun d => !nmB x d) = wl ∧ ∀ d ∈ wl, nmB x d = false) ∨ (foundN x wl ∈ wl ∧ sameN (foundN x wl) x ∧ List.Perm wl (foundN x wl :: wl.filter (fun d => !nmB x d))) := by
  induction wl with
  | nil => exact Or.inl ⟨rfl, rfl, fun d hd => absurd hd (by simp)⟩
  | cons d t ih =>
    obtain ⟨h1, h2⟩ := List.pairwise_cons.1 h
    cases hd : nmB x d
    · have e : foundN x (d :: t) = foundN x t := by unfold foundN; rw [List.find?_cons, hd]
      have ef : (d :: t).filter (fun d => !nmB x d) = d :: t.filter (fun d => !nmB x d) := by rw [List.filter_cons, if_pos (by simp [hd])]
      rw [e, ef]
      rcases ih h2 with ⟨k1, k2, k3⟩ | ⟨k1, k2, k3⟩
      · exact Or.inl ⟨k1, by rw [k2], fun y hy => by
          rcases List.mem_cons.1 hy with e | e
          · rw [e]; exact hd
          · exact k3 y e⟩
      · exact Or.inr ⟨List.mem_cons_of_mem _ k1, k2, (List.Perm.cons d k3).trans (List.Perm.swap _ _ _)⟩
    · have e : foundN x (d :: t) = d := by unfold foundN; rw [List.find?_cons, hd]; rfl
      have hsx : sameN d x := (nmB_iff x d).1 hd
      have hno : ∀ y ∈ t, nmB x y = false := fun y hy => by
        cases hn : nmB x y
        · rfl
        · exact absurd (hsx.trans ((nmB_iff x y).1 hn).symm) (h1 y hy)
      have ef : (d :: t).filter (fun d => !nmB x d) = t := by
        rw [List.filter_cons, if_neg (by simp [hd])]
        exact List.filter_eq_self.2 (fun y hy => by simp [hno y hy])
      rw [e, ef]
      exact Or.inr ⟨by simp, hsx, List.Perm.refl _⟩
theorem Uniq.lay {wl : List PD} (h : Uniq wl) (x n : PD) (hn : sameN n x) : Uniq (layL befP n (wl.filter (fun d => !nmB x d))) := by
  refine Uniq.perm (l := n :: wl.filter (fun d => !nmB x d)) ?_ (layL_perm befP n _).symm
  refine List.pairwise_cons.2 ⟨fun y hy hs => ?_, List.Pairwise.filter _ h⟩
  have h1 := (List.mem_filter.1 hy).2
  have h2 : nmB x y = true := (nmB_iff x y).2 (hs.symm.trans hn)
  rw [h2] at h1
  simp at h1
theorem Uniq.take {wl : List PD} (h : Uniq wl) (side : Int) (p : KP) (ps gl tm : Int) : Uniq (takeP wl side p ps gl tm).wl := by
  unfold takeP
  split
  · exact h.lay (freshD side p false 0) _ ⟨rfl, rfl, rfl, rfl, rfl⟩
  split
  · exact h
  split
  · exact List.Pairwise.filter _ h
  · refine h.lay (freshD side p false 0) _ ?_
    unfold growD
    split
    · exact ⟨rfl, rfl, rfl, rfl, rfl⟩
    · rename_i hne
      rcases found_mem (freshD side p false 0) wl with e | ⟨-, e⟩
      · rw [foundP_eq, e] at hne; exact absurd rfl hne
      · exact (nmB_iff _ _).1 e
end Go.Proofs.YtfkjobiapjhacabGreat
