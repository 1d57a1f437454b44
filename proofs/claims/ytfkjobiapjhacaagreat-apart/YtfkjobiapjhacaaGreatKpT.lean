/- Apart, purely. Own work. -/
import Derived.Test.YtfkjobiapjhacaaGreatKpM
import Derived.Test.YtfkjobiapjhacaaGreatKpN
import Derived.Test.YtfkjobiapjhacaaGreatKpR
namespace Go.Proofs.YtfkjobiapjhacaaGreat
open Go.RowKit

def key1 (k : Nat) : KY := (17, (167772161 + (k : Int) / 2), (1000 + (k : Int) % 2), 134744064, 53, 5000 + (k : Int))
def key2 (k : Nat) : KY := (17, (167772161 + (k : Int) / 2), (1000 + (k : Int) % 2), 134744065, 53, 5000 + (k : Int))
def KA : Nat → List KY
  | 0 => []
  | k + 1 => key1 k :: KA k
/-- The keys behind n rounds of the first loop and k of the second. -/
def KB (n : Nat) : Nat → List KY
  | 0 => KA n
  | k + 1 => key2 k :: KB n k
theorem KA_len (n : Nat) : (KA n).length = n := by
  induction n with
  | zero => rfl
  | succ n ih => simp [KA, ih]
theorem KB_len (n k : Nat) : (KB n k).length = n + k := by
  induction k with
  | zero => simp [KB, KA_len]
  | succ k ih => simp [KB, ih]; omega
theorem KA_mem (n : Nat) (x : KY) : x ∈ KA n ↔ ∃ i, i < n ∧ x = key1 i := by
  induction n with
  | zero => simp [KA]
  | succ n ih =>
    simp only [KA, List.mem_cons, ih]
    constructor
    · rintro (rfl | ⟨i, h, e⟩)
      · exact ⟨n, by omega, rfl⟩
      · exact ⟨i, by omega, e⟩
    · rintro ⟨i, h, e⟩
      by_cases hi : i = n
      · left; rw [e, hi]
      · right; exact ⟨i, by omega, e⟩
theorem KB_mem (n k : Nat) (x : KY) : x ∈ KB n k ↔ (∃ i, i < n ∧ x = key1 i) ∨ ∃ i, i < k ∧ x = key2 i := by
  induction k with
  | zero => simp [KB, KA_mem]
  | succ k ih =>
    simp only [KB, List.mem_cons, ih]
    constructor
    · rintro (rfl | h | ⟨i, h, e⟩)
      · exact Or.inr ⟨k, by omega, rfl⟩
      · exact Or.inl h
      · exact Or.inr ⟨i, by omega, e⟩
    · rintro (h | ⟨i, h, e⟩)
      · exact Or.inr (Or.inl h)
      · by_cases hi : i = k
        · left; rw [e, hi]
        · exact Or.inr (Or.inr ⟨i, by omega, e⟩)
theorem KB_in {n k : Nat} {pr ia ip fa fp P : Int} (h : (pr, ia, ip, fa, fp, P) ∈ KB n k) : ∃ i : Nat, pr = 17 ∧ ia = 167772161 + (i : Int) / 2 ∧ ip = 1000 + (i : Int) % 2 ∧ fp = 53 ∧ P = 5000 + (i : Int) ∧ ((fa = 134744064 ∧ i < n) ∨ (fa = 134744065 ∧ i < k)) := by
  rcases (KB_mem n k _).1 h with ⟨i, hi, e⟩ | ⟨i, hi, e⟩
  · unfold key1 at e
    simp only [Prod.mk.injEq] at e
    exact ⟨i, e.1, e.2.1, e.2.2.1, e.2.2.2.2.1, e.2.2.2.2.2, Or.inl ⟨e.2.2.2.1, hi⟩⟩
  · unfold key2 at e
    simp only [Prod.mk.injEq] at e
    exact ⟨i, e.1, e.2.1, e.2.2.1, e.2.2.2.2.1, e.2.2.2.2.2, Or.inr ⟨e.2.2.2.1, hi⟩⟩
theorem KB_ok (n k : Nat) (hn : n ≤ 6) (hk : k ≤ n) : KOK (KB n k) := by
  refine ⟨by rw [KB_len]; omega, ?_⟩
  rintro ⟨k1, k2, k3, k4, k5, k6⟩ hm
  obtain ⟨i, -, e, -, -, -, hi⟩ := KB_in hm
  constructor
  · show 0 ≤ k2; omega
  · show k2 ≤ 4294967295; omega
/-- The first k ports of n are taken. -/
theorem free_run (l : List SD) (n : Nat) (j0 : Nat) (hk : Ks l (KB n j0)) (hj : j0 ≤ n) : ∀ m j : Nat, j + m = n → ∀ r : Nat, freeI 17 l (5000 + (j : Int)) (m + 1 + r) = 5000 + (n : Int) := by
  intro m
  induction m with
  | zero =>
    intro j e r
    have e2 : 0 + 1 + r = r + 1 := by omega
    rw [e2]
    unfold freeI
    rw [(hk.inner0 (pr := 17) (tp := 5000 + (j : Int)) (by
      intro ia ip fa fp hm
      obtain ⟨i, -, -, -, -, h5, h6⟩ := KB_in hm
      omega)).2]
    simp only [if_true]
    omega
  | succ m ih =>
    intro j e r
    have e2 : m + 1 + 1 + r = (m + 1 + r) + 1 := by omega
    rw [e2]
    unfold freeI
    rw [(hk.inner (pr := 17) (ia := 167772161 + (j : Int) / 2) (ip := 1000 + (j : Int) % 2) (fa := 134744064) (fp := 53) (tp := 5000 + (j : Int)) ((KB_mem _ _ _).2 (Or.inl ⟨j, by omega, rfl⟩)) (by
      intro ia ip fa fp hm
      obtain ⟨i, -, h2, h3, -, h5, -⟩ := KB_in hm
      omega)).2]
    simp only [Bool.false_eq_true, if_false]
    have e3 : 5000 + (j : Int) + 1 = 5000 + ((j + 1 : Nat) : Int) := by omega
    rw [e3]
    exact ih (j + 1) (by omega) r
theorem free_none (l : List SD) (n : Nat) (j0 : Nat) (hk : Ks l (KB n j0)) : ∀ m j : Nat, j + m = n → freeI 17 l (5000 + (j : Int)) m = 0 := by
  intro m
  induction m with
  | zero => intro j _; rfl
  | succ m ih =>
    intro j e
    unfold freeI
    rw [(hk.inner (pr := 17) (ia := 167772161 + (j : Int) / 2) (ip := 1000 + (j : Int) % 2) (fa := 134744064) (fp := 53) (tp := 5000 + (j : Int)) ((KB_mem _ _ _).2 (Or.inl ⟨j, by omega, rfl⟩)) (by
      intro ia ip fa fp hm
      obtain ⟨i, -, h2, h3, -, h5, -⟩ := KB_in hm
      omega)).2]
    simp only [Bool.false_eq_true, if_false]
    have e3 : 5000 + (j : Int) + 1 = 5000 + ((j + 1 : Nat) : Int) := by omega
    rw [e3]
    exact ih (j + 1) (by omega)
theorem a1 (b : Nat) (cs : List Int) (l : List SD) (n k : Nat) (hn : n ≤ 6) (hkn : k < n) (hk : Ks l (KB k 0)) :
    ∃ l', Ks l' (KB (k + 1) 0) ∧ OneOK b (stN n 0 cs l) 0 (udpP (167772161 + (k : Int) / 2) (1000 + (k : Int) % 2) 134744064 53 ⟨#[120]⟩) 1 ⟨7, 0, 0, 8, 17, 3405803781, 134744064, udpB 3405803781 (5000 + (k : Int)) 134744064 53 ⟨#[120]⟩⟩ (stN n 0 (bump cs 0) l') := by
  have hP : askP (stN n 0 cs l) 17 (167772161 + (k : Int) / 2) (1000 + (k : Int) % 2) = 5000 + (k : Int) := by
    have e0 : outerI 17 (167772161 + (k : Int) / 2) (1000 + (k : Int) % 2) (stN n 0 cs l).l = 0 := hk.outer0 (by
      intro fa fp P hm
      obtain ⟨i, -, h2, h3, -, h5, h6⟩ := KB_in hm
      omega)
    unfold askP
    rw [e0, if_pos rfl]
    show freeI 17 l 5000 (4999 + (n : Int) - 5000 + 1).toNat = 5000 + (k : Int)
    have e1 : (4999 + (n : Int) - 5000 + 1).toNat = k + 1 + (n - 1 - k) := by omega
    have e2 := free_run l k 0 hk (by omega) k 0 (by omega) (n - 1 - k)
    rw [e1]
    simpa using e2
  exact t_new b n cs l (KB k 0) (by omega) (by omega) hk (KB_ok k 0 (by omega) (by omega)) (167772161 + (k : Int) / 2) (1000 + (k : Int) % 2) 134744064 53 (5000 + (k : Int)) ⟨#[120]⟩ (ur (by omega) (by omega) (by omega) (by omega) (by decide) (by decide) (by decide) (by decide) (by decide)) (by omega) (by omega) (by decide) (by decide)
    (by
      intro P hm
      obtain ⟨i, -, h2, h3, -, h5, h6⟩ := KB_in hm
      omega) (by rw [KB_len]; omega) hP (by omega) (by
      intro fa fp P' hm
      have hm' : (17, (167772161 + (k : Int) / 2), (1000 + (k : Int) % 2), fa, fp, P') ∈ KB (k + 1) 0 := hm
      obtain ⟨i, -, h2, h3, -, h5, h6⟩ := KB_in hm'
      omega)
theorem a2 (b : Nat) (cs : List Int) (l : List SD) (n k : Nat) (hn : n ≤ 6) (hkn : k < n) (h10 : n + k < 10) (hk : Ks l (KB n k)) :
    ∃ l', Ks l' (KB n (k + 1)) ∧ OneOK b (stN n 0 cs l) 0 (udpP (167772161 + (k : Int) / 2) (1000 + (k : Int) % 2) 134744065 53 ⟨#[120]⟩) 1 ⟨7, 0, 0, 8, 17, 3405803781, 134744065, udpB 3405803781 (5000 + (k : Int)) 134744065 53 ⟨#[120]⟩⟩ (stN n 0 (bump cs 0) l') := by
  have hP := askP_old (stN n 0 cs l) (KB n k) hk (167772161 + (k : Int) / 2) (1000 + (k : Int) % 2) (5000 + (k : Int)) 134744064 53 ((KB_mem _ _ _).2 (Or.inl ⟨k, hkn, rfl⟩)) (by
      intro fa fp P' hm
      obtain ⟨i, -, h2, h3, -, h5, h6⟩ := KB_in hm
      omega) (by omega)
  exact t_new b n cs l (KB n k) (by omega) (by omega) hk (KB_ok n k (by omega) (by omega)) (167772161 + (k : Int) / 2) (1000 + (k : Int) % 2) 134744065 53 (5000 + (k : Int)) ⟨#[120]⟩ (ur (by omega) (by omega) (by omega) (by omega) (by decide) (by decide) (by decide) (by decide) (by decide)) (by omega) (by omega) (by decide) (by decide)
    (by
      intro P hm
      obtain ⟨i, -, h2, h3, -, h5, h6⟩ := KB_in hm
      omega) (by rw [KB_len]; omega) hP (by omega) (by
      intro fa fp P' hm
      have hm' : (17, (167772161 + (k : Int) / 2), (1000 + (k : Int) % 2), fa, fp, P') ∈ KB n (k + 1) := hm
      obtain ⟨i, -, h2, h3, -, h5, h6⟩ := KB_in hm'
      omega)
/-- A datagram from inside that can have no session. -/
theorem t_no (b : Nat) (n : Int) (cs : List Int) (l : List SD) (ks : List KY) (n0 : 1 ≤ n) (n1 : n ≤ 12) (hk : Ks l ks) (ho : KOK ks) (a p c d what : Int) (data : ByteArray) (hr : URange a p c d data) (ha0 : 167772160 ≤ a) (ha1 : a < 184549376) (hc : ¬ (167772160 ≤ c ∧ c < 184549376)) (hcu : ¬ c = 3405803781)
    (hno : ∀ P, (17, a, p, c, d, P) ∉ ks) (hW : askW (stN n 0 cs l) 17 a p c d (byteAt (udpB a p c d data) 13) = what) (hne : ¬ what = 0) :
    NoneOK b (stN n 0 cs l) 0 (udpP a p c d data) what (stN n 0 (bump cs what.toNat) l) := by
  have hH : hasS 17 a p c d (stN n 0 cs l).l = false := hk.hasnt hno
  have hL : askL (stN n 0 cs l) 17 a p c d (byteAt (udpB a p c d data) 13) = l := by
    unfold askL
    rw [hH, hW, if_neg (by simp), if_neg hne]
    rfl
  have e1 : (insW (stN n 0 cs l) 17 (udpB a p c d data) a p c d).what = what := by
    unfold insW
    rw [if_neg (fun h => hcu h.1), hW, if_pos hne]
  have e2 : insF (stN n 0 cs l) 17 (udpB a p c d data) a p c d = l := by
    unfold insF
    rw [if_neg (fun h => hcu h.1), hW, if_pos hne, hL]
  exact udp_none b (stN n 0 cs l) (stK_ok n 0 cs l ks n0 n1 (by decide) (by decide) hk ho.len ho.ia) 0 a p c d data hr (Or.inl rfl) (may_in _ rfl rfl a c ha0 ha1 hc) what _
    ((congrArg WYD.what (if_pos rfl)).trans e1) hne ((if_pos rfl).trans e2)
theorem a3 (b : Nat) (cs : List Int) (l : List SD) (n k : Nat) (hn : n ≤ 6) (hkn : k < n) (h10 : n + k = 10) (hk : Ks l (KB n k)) :
    NoneOK b (stN n 0 cs l) 0 (udpP (167772161 + (k : Int) / 2) (1000 + (k : Int) % 2) 134744065 53 ⟨#[120]⟩) 14 (stN n 0 (bump cs 14) l) := by
  have hno : ∀ P, (17, (167772161 + (k : Int) / 2), (1000 + (k : Int) % 2), 134744065, 53, P) ∉ KB n k := by
    intro P hm
    obtain ⟨i, -, h2, h3, -, h5, h6⟩ := KB_in hm
    omega
  have hW : askW (stN n 0 cs l) 17 (167772161 + (k : Int) / 2) (1000 + (k : Int) % 2) 134744065 53 (byteAt (udpB (167772161 + (k : Int) / 2) (1000 + (k : Int) % 2) 134744065 53 ⟨#[120]⟩) 13) = 14 := by
    have hl : (stN n 0 cs l).l.length = 10 := by show l.length = 10; rw [hk.len, KB_len]; omega
    unfold askW
    rw [show hasS 17 (167772161 + (k : Int) / 2) (1000 + (k : Int) % 2) 134744065 53 (stN n 0 cs l).l = false from hk.hasnt hno, hl]
    simp
  exact t_no b n cs l (KB n k) (by omega) (by omega) hk (KB_ok n k (by omega) (by omega)) (167772161 + (k : Int) / 2) (1000 + (k : Int) % 2) 134744065 53 14 ⟨#[120]⟩ (ur (by omega) (by omega) (by omega) (by omega) (by decide) (by decide) (by decide) (by decide) (by decide)) (by omega) (by omega) (by decide) (by decide) hno hW (by decide)
theorem a4 (b : Nat) (cs : List Int) (l : List SD) (n : Nat) (hn0 : 1 ≤ n) (hn : n ≤ 4) (hk : Ks l (KB n n)) :
    NoneOK b (stN n 0 cs l) 0 (udpP 167772237 1000 134744064 53 ⟨#[120]⟩) 15 (stN n 0 (bump cs 15) l) := by
  have hno : ∀ P, (17, 167772237, 1000, 134744064, 53, P) ∉ KB n n := by
    intro P hm
    obtain ⟨i, -, h2, h3, -, h5, h6⟩ := KB_in hm
    omega
  have hW : askW (stN n 0 cs l) 17 167772237 1000 134744064 53 (byteAt (udpB 167772237 1000 134744064 53 ⟨#[120]⟩) 13) = 15 := by
    have hl : (stN n 0 cs l).l.length = n + n := by show l.length = n + n; rw [hk.len, KB_len]
    have hP : askP (stN n 0 cs l) 17 167772237 1000 = 0 := by
      have e0 : outerI 17 167772237 1000 (stN n 0 cs l).l = 0 := hk.outer0 (by
        intro fa fp P hm
        obtain ⟨i, -, h2, h3, -, h5, h6⟩ := KB_in hm
        omega)
      unfold askP
      rw [e0, if_pos rfl]
      show freeI 17 l 5000 (4999 + (n : Int) - 5000 + 1).toNat = 0
      have e1 : (4999 + (n : Int) - 5000 + 1).toNat = n := by omega
      have e2 := free_none l n n hk n 0 (by omega)
      rw [e1]
      simpa using e2
    unfold askW
    rw [show hasS 17 167772237 1000 134744064 53 (stN n 0 cs l).l = false from hk.hasnt hno, hl, hP]
    simp
    omega
  exact t_no b n cs l (KB n n) (by omega) (by omega) hk (KB_ok n n (by omega) (by omega)) 167772237 1000 134744064 53 15 ⟨#[120]⟩ (ur (by decide) (by decide) (by decide) (by decide) (by decide) (by decide) (by decide) (by decide) (by decide)) (by decide) (by decide) (by decide) (by decide) hno hW (by decide)
theorem a5 (b : Nat) (cs : List Int) (l : List SD) (n : Nat) (hn0 : 1 ≤ n) (hn : n ≤ 4) (hk : Ks l (KB n n)) :
    ∃ l', OneOK b (stN n 0 cs l) 0 (tcpP 167772237 1000 134744064 53 2 ⟨#[97, 98, 99]⟩) 1 ⟨8, 0, 0, 8, 6, 3405803781, 134744064, tcpB 3405803781 5000 134744064 53 2 ⟨#[97, 98, 99]⟩⟩ (stN n 0 (bump cs 0) l') := by
  have hfg := tcpB_flags 167772237 1000 134744064 53 2 ⟨#[97, 98, 99]⟩ (by decide) (by decide)
  have hno : ∀ a b c d P, (6, a, b, c, d, P) ∉ KB n n := by
    intro a b c d P hm
    obtain ⟨i, h1, -⟩ := KB_in hm
    omega
  have hH : hasS 6 167772237 1000 134744064 53 (stN n 0 cs l).l = false := hk.hasnt (hno _ _ _ _)
  have hl : (stN n 0 cs l).l.length = n + n := by show l.length = n + n; rw [hk.len, KB_len]
  have hP : askP (stN n 0 cs l) 6 167772237 1000 = 5000 := by
    have e0 : outerI 6 167772237 1000 (stN n 0 cs l).l = 0 := hk.outer0 (hno _ _)
    unfold askP
    rw [e0, if_pos rfl]
    show freeI 6 l 5000 (4999 + (n : Int) - 5000 + 1).toNat = 5000
    have e1 : (4999 + (n : Int) - 5000 + 1).toNat = (n - 1) + 1 := by omega
    rw [e1]
    unfold freeI
    rw [(hk.inner0 (pr := 6) (tp := 5000) (fun ia ip fa fp => hno ia ip fa fp 5000)).2]
    rfl
  have hW : askW (stN n 0 cs l) 6 167772237 1000 134744064 53 2 = 0 := by
    unfold askW
    rw [hH, hP, hl]
    have := tk_steps.1
    simp [this]
    omega
  have hL : Ks (askL (stN n 0 cs l) 6 167772237 1000 134744064 53 2) ((6, 167772237, 1000, 134744064, 53, 5000) :: KB n n) := by
    unfold askL
    rw [hH, hW, hP]
    simp only [Bool.false_eq_true, if_false, if_true]
    exact hk.ins (freshS 6 167772237 1000 134744064 53 5000)
  have hI : Ks (insL (stN n 0 cs l) 6 (tcpB 167772237 1000 134744064 53 2 ⟨#[97, 98, 99]⟩) 167772237 1000 134744064 53) ((6, 167772237, 1000, 134744064, 53, 5000) :: KB n n) := by
    unfold insL
    rw [hfg]
    exact hL.pass 6 167772237 1000 134744064 53 0 2 0
  have hO : insP (stN n 0 cs l) 6 (tcpB 167772237 1000 134744064 53 2 ⟨#[97, 98, 99]⟩) 167772237 1000 134744064 53 = 5000 := hI.outer (fa := 134744064) (fp := 53) (by simp) (by
    intro fa fp P' hm
    rcases List.mem_cons.1 hm with e | e
    · simp only [Prod.mk.injEq] at e; exact e.2.2.2.2.2
    · exact absurd e (hno _ _ _ _ _))
  have e1 : insW (stN n 0 cs l) 6 (tcpB 167772237 1000 134744064 53 2 ⟨#[97, 98, 99]⟩) 167772237 1000 134744064 53 = ⟨0, 1, 6, 3405803781, 5000, 134744064, 53, btwM 6 (tcpB 167772237 1000 134744064 53 2 ⟨#[97, 98, 99]⟩) 3405803781 5000 134744064 53⟩ := by
    unfold insW
    rw [hfg, if_neg (fun h => absurd h.1 (show ¬ (134744064 : Int) = 3405803781 by decide)), hW, if_neg (by simp), if_neg (show ¬ (134744064 : Int) = (stN n 0 cs l).ou from (by decide : ¬ (134744064 : Int) = 3405803781)), hO]
    rfl
  refine ⟨_, tcp_one b (stN n 0 cs l) (stK_ok n 0 cs l (KB n n) (by omega) (by omega) (by decide) (by decide) hk (KB_ok n n (by omega) (by omega)).len (KB_ok n n (by omega) (by omega)).ia) 0 167772237 1000 134744064 53 2 ⟨#[97, 98, 99]⟩ (ur (by decide) (by decide) (by decide) (by decide) (by decide) (by decide) (by decide) (by decide) (by decide)) (Or.inl rfl) (may_in _ rfl rfl 167772237 134744064 (by decide) (by decide) (by decide)) 1 3405803781 5000 134744064 53 _
    ((if_pos rfl).trans e1) rfl (by decide) (by decide) (by decide) (by decide)⟩
end Go.Proofs.YtfkjobiapjhacaaGreat
