/- Cut: the pieces of one datagram, held in order. Own work. -/
import Derived.Test.YtfkjobiapjhacabGreatQe
import Derived.Test.YtfkjobiapjhacabGreatXc
namespace Go.Proofs.YtfkjobiapjhacabGreat
open Go.RowKit

/-- Laid among others, by recursion. -/
def insR {α : Type} (bef : α → α → Bool) (n : α) : List α → List α
  | [] => [n]
  | d :: t => if bef n d = true then n :: d :: t else d :: insR bef n t
theorem lay_true {α : Type} (bef : α → α → Bool) (n : α) (l : List α) : ∀ a, l.foldl (layStep bef n) (a, true) = (a ++ l, true) := by
  induction l with
  | nil => intro a; simp
  | cons d t ih => intro a; rw [List.foldl_cons]; simp [layStep, ih]
theorem lay_false {α : Type} (bef : α → α → Bool) (n : α) (l : List α) : ∀ a, (if (l.foldl (layStep bef n) (a, false)).2 = true then (l.foldl (layStep bef n) (a, false)).1 else (l.foldl (layStep bef n) (a, false)).1 ++ [n]) = a ++ insR bef n l := by
  induction l with
  | nil => intro a; simp [insR]
  | cons d t ih =>
    intro a
    rw [List.foldl_cons]
    by_cases h : bef n d = true
    · have e : layStep bef n (a, false) d = (a ++ [n] ++ [d], true) := by unfold layStep; rw [if_pos ⟨rfl, h⟩]
      rw [e, lay_true]
      simp [insR, h]
    · have e : layStep bef n (a, false) d = (a ++ [d], false) := by unfold layStep; rw [if_neg (fun x => h x.2)]
      rw [e, ih]
      simp [insR, h]
theorem layL_ins {α : Type} (bef : α → α → Bool) (n : α) (l : List α) : layL bef n l = insR bef n l := by
  unfold layL layTo
  rw [List.take_length]
  exact (lay_false bef n l []).trans (by simp)
theorem insR_mem {α : Type} {bef : α → α → Bool} {n : α} {l : List α} {y : α} (h : y ∈ insR bef n l) : y = n ∨ y ∈ l := by
  rw [← layL_ins] at h
  exact layL_mem bef n l y h
theorem insR_perm {α : Type} (bef : α → α → Bool) (n : α) (l : List α) : List.Perm (insR bef n l) (n :: l) := by
  rw [← layL_ins]
  exact layL_perm bef n l
theorem insR_sorted {bef : Nat → Nat → Bool} {n : Nat} {l : List Nat} (hs : l.Pairwise (· < ·)) (hb : ∀ d ∈ l, bef n d = decide (n < d)) (hn : n ∉ l) : (insR bef n l).Pairwise (· < ·) := by
  induction l with
  | nil => simp [insR]
  | cons d t ih =>
    obtain ⟨h1, h2⟩ := List.pairwise_cons.1 hs
    unfold insR
    rw [hb d (by simp)]
    have hd : ¬ n = d := fun e => hn (by simp [e])
    by_cases h : n < d
    · rw [if_pos (by simpa using h)]
      refine List.pairwise_cons.2 ⟨fun y hy => ?_, hs⟩
      rcases List.mem_cons.1 hy with e | e
      · omega
      · have := h1 y e; omega
    · rw [if_neg (by simpa using h)]
      refine List.pairwise_cons.2 ⟨fun y hy => ?_, ih h2 (fun x hx => hb x (by simp [hx])) (fun e => hn (by simp [e]))⟩
      rcases insR_mem hy with e | e
      · omega
      · exact h1 y e

/-- A datagram of an inner host, to be cut at every 8 q bytes into N pieces. -/
structure CZ (h f : Int) (M : ByteArray) (q N : Nat) : Prop where
  h0 : 167772161 ≤ h
  h1 : h ≤ 167772361
  f0 : 134744064 ≤ f
  f1 : f ≤ 134744300
  q0 : 1 ≤ q
  q1 : q ≤ 3
  n0 : 2 ≤ N
  n1 : N ≤ 6
  m0 : 8 * (q * N) < M.size + 8 * q
  m1 : M.size ≤ 8 * (q * N)
def pp (M : ByteArray) (q k : Nat) : Nat := min (8 * (q * k)) M.size
def cB (M : ByteArray) (q k : Nat) : ByteArray := M.extract (8 * (q * k)) (8 * (q * k) + 8 * q)
def cF (N k : Nat) : Int := if k + 1 < N then 1 else 0
def cP (h f : Int) (M : ByteArray) (q N k : Nat) : PK := ⟨7, cF N k, 8 * ((q * k : Nat) : Int), 3 + (k : Int), 17, h, f, cB M q k⟩
def cK (h f : Int) (M : ByteArray) (q N k : Nat) : KP := ⟨hdOf (cP h f M q N k), h, f, 17, cB M q k⟩
theorem mul_step {q a b : Nat} (h : a < b) : q * a + q ≤ q * b := by
  have := Nat.mul_le_mul_left q (show a + 1 ≤ b by omega)
  rw [Nat.mul_succ] at this
  exact this
section
variable {h f : Int} {M : ByteArray} {q N : Nat}
theorem CZ.lt (z : CZ h f M q N) {k : Nat} (hk : k < N) : 8 * (q * k) < M.size := by
  have := mul_step (q := q) hk
  have := z.m0
  omega
theorem CZ.big (z : CZ h f M q N) : M.size ≤ 144 := by
  have h1 := z.m1
  have h2 := Nat.mul_le_mul z.q1 z.n1
  omega
theorem CZ.pk (z : CZ h f M q N) {k : Nat} (hk : k < N) : pp M q k = 8 * (q * k) := by
  have := z.lt hk
  unfold pp
  omega
theorem CZ.pN (z : CZ h f M q N) : pp M q N = M.size := by
  have := z.m1
  unfold pp
  omega
theorem CZ.nxt (z : CZ h f M q N) {k : Nat} (hk : k + 1 < N) : pp M q (k + 1) = 8 * (q * k) + 8 * q := by
  rw [z.pk hk, Nat.mul_succ]
  omega
theorem CZ.sz (z : CZ h f M q N) {k : Nat} (hk : k < N) : (cB M q k).size + pp M q k = pp M q (k + 1) ∧ 1 ≤ (cB M q k).size ∧ (cB M q k).size ≤ 8 * q ∧ (cF N k = 1 → (cB M q k).size = 8 * q) := by
  have h1 := z.lt hk
  have h2 := z.pk hk
  have h3 := z.q0
  have h4 : q * (k + 1) = q * k + q := Nat.mul_succ q k
  have h5 : (cB M q k).size = min (8 * (q * k) + 8 * q) M.size - 8 * (q * k) := by unfold cB; rw [ByteArray.size_extract]
  have h6 : pp M q (k + 1) = min (8 * (q * k) + 8 * q) M.size := by unfold pp; rw [h4, Nat.mul_add]
  refine ⟨by omega, by omega, by omega, fun hf => ?_⟩
  have hk1 : k + 1 < N := by
    unfold cF at hf
    refine Nat.lt_of_not_le fun hle => ?_
    rw [if_neg (by omega)] at hf
    exact absurd hf (by decide)
  have := z.lt hk1
  omega
theorem CZ.grow (z : CZ h f M q N) {a b : Nat} (hab : a ≤ b) (hb : b ≤ N) : pp M q a + b ≤ pp M q b + a := by
  have hq := z.q0
  have key : ∀ c, a ≤ c → q * a + c ≤ q * c + a := fun c hc => by
    obtain ⟨d, rfl⟩ := Nat.exists_eq_add_of_le hc
    rw [Nat.mul_add]
    have := Nat.mul_le_mul_right d hq
    omega
  rcases Nat.lt_or_ge b N with h1 | h1
  · rw [z.pk h1, z.pk (show a < N by omega)]
    have := key b hab
    omega
  · obtain rfl : b = N := by omega
    rcases Nat.lt_or_ge a b with h2 | h2
    · obtain ⟨c, rfl⟩ : ∃ c, b = c + 1 := ⟨b - 1, by omega⟩
      rw [z.pN, z.pk h2]
      have := key c (by omega)
      have := z.lt (show c < c + 1 by omega)
      omega
    · obtain rfl : a = b := by omega
      omega
theorem CZ.ok (z : CZ h f M q N) {k : Nat} (hk : k < N) : PCOK 7 (cF N k) ((q * k : Nat) : Int) (3 + (k : Int)) 17 h f (cB M q k) := by
  obtain ⟨-, s1, s2, s3⟩ := z.sz hk
  have := z.lt hk; have := z.big; have := z.n1; have := z.q1; have := z.h0; have := z.h1; have := z.f0; have := z.f1
  have c0 : cF N k = 0 ∨ cF N k = 1 := by unfold cF; split <;> simp
  exact ⟨by decide, by decide, by omega, by omega, by omega, by omega, by omega, by omega, by decide, by omega, by omega, by omega, by omega, s1, by omega, fun e => by rw [s3 e]; omega⟩
theorem CZ.may (z : CZ h f M q N) (tm : Int) (cs : List Int) (wl : List PD) : mayB (stV tm cs wl) 0 h f = true := by
  have := z.h0; have := z.h1; have := z.f0; have := z.f1
  exact may_in _ rfl rfl h f (by omega) (by omega) (by omega)
theorem CZ.hand (z : CZ h f M q N) {k : Nat} (hk : k < N) (tm : Int) (cs : List Int) (wl : List PD) :
    HdOK (hdOf (cP h f M q N k)) ((q * k : Nat) : Int) (cF N k) 7 ∧ handG (stV tm cs wl) 0 (rawP (cP h f M q N k)) = tookH (stV tm cs wl) 0 (takeP wl 0 (cK h f M q N k) 400 700 tm) := by
  refine piece_hand (stV tm cs wl) 0 (Or.inl rfl) (z.ok hk) ?_ (z.may tm cs wl)
  unfold cF
  by_cases e : k + 1 < N
  · rw [if_pos e]; exact Or.inl rfl
  · refine Or.inr ?_
    have h1 := z.n0
    have := Nat.mul_le_mul z.q0 (show 1 ≤ k by omega)
    omega
theorem CZ.hd (z : CZ h f M q N) {k : Nat} (hk : k < N) : HdOK (hdOf (cP h f M q N k)) ((q * k : Nat) : Int) (cF N k) 7 := (z.hand hk 0 [] []).1
theorem CZ.kin (z : CZ h f M q N) {a b : Nat} (ha : a < N) (hb : b < N) : kin (cK h f M q N a) (cK h f M q N b) := ⟨rfl, rfl, rfl, (z.hd ha).nu.trans (z.hd hb).nu.symm⟩
theorem CZ.place (z : CZ h f M q N) {k : Nat} (hk : k < N) : placeI (cK h f M q N k).h = (pp M q k : Nat) := by
  rw [z.pk hk, show placeI (cK h f M q N k).h = _ from (z.hd hk).pl]
  omega
theorem CZ.more (z : CZ h f M q N) {k : Nat} (hk : k < N) : moreB (cK h f M q N k).h = decide (k + 1 < N) := by
  rw [show moreB (cK h f M q N k).h = _ from (z.hd hk).mo]
  unfold cF
  by_cases e : k + 1 < N <;> simp [e]
theorem CZ.ends (z : CZ h f M q N) {k : Nat} (hk : k < N) : endI (cK h f M q N k) = (pp M q (k + 1) : Nat) := by
  unfold endI
  rw [z.place hk, show (cK h f M q N k).b = cB M q k from rfl]
  have := (z.sz hk).1
  omega
theorem CZ.le (z : CZ h f M q N) {a b : Nat} (hab : a ≤ b) (hb : b ≤ N) : pp M q a ≤ pp M q b := by have := z.grow hab hb; omega
theorem CZ.has (z : CZ h f M q N) {S : List Nat} (hS : ∀ x ∈ S, x < N) {k : Nat} (hk : k < N) (hn : k ∉ S) : hasP (S.map (cK h f M q N)) (cK h f M q N k) = false := by
  refine any_false fun y hy => ?_
  obtain ⟨x, hx, rfl⟩ := List.mem_map.1 hy
  have hne : ¬ x = k := fun e => hn (e ▸ hx)
  unfold likeB
  rw [z.place (hS x hx), z.place hk]
  have : ¬ ((pp M q x : Nat) : Int) = (pp M q k : Nat) := by
    have hx' := hS x hx
    rcases Nat.lt_or_ge x k with e | e
    · have := z.grow (Nat.le_of_lt e) (Nat.le_of_lt hk); omega
    · have := z.grow e (Nat.le_of_lt hx'); omega
  simp [this]
theorem CZ.clash (z : CZ h f M q N) {S : List Nat} (hS : ∀ x ∈ S, x < N) {k : Nat} (hk : k < N) (hn : k ∉ S) : clashB (S.map (cK h f M q N)) (cK h f M q N k) = false := by
  have hb := z.big
  have hkN := z.le (show k + 1 ≤ N by omega) (Nat.le_refl N)
  rw [z.pN] at hkN
  unfold clashB
  rw [Bool.or_eq_false_iff]
  refine ⟨by rw [z.ends hk]; simp; omega, any_false fun y hy => ?_⟩
  obtain ⟨x, hx, rfl⟩ := List.mem_map.1 hy
  have hx' := hS x hx
  have hne : ¬ x = k := fun e => hn (e ▸ hx)
  have hxN := z.le (show x + 1 ≤ N by omega) (Nat.le_refl N)
  rw [z.pN] at hxN
  unfold overB beyondB
  rw [z.place hx', z.place hk, z.ends hx', z.ends hk, z.more hx', z.more hk]
  have a1 : ¬ (pp M q x < pp M q (k + 1) ∧ pp M q k < pp M q (x + 1)) := by
    rcases Nat.lt_or_ge x k with e | e
    · have := z.le (show x + 1 ≤ k from e) (Nat.le_of_lt hk); omega
    · have := z.le (show k + 1 ≤ x by omega) (Nat.le_of_lt hx'); omega
  have a2 : ∀ y x, ¬ y + 1 < N → y < N → x + 1 ≤ N → ¬ pp M q (y + 1) < pp M q (x + 1) := fun y x h1 h2 h3 => by
    obtain rfl : y + 1 = N := by omega
    have := z.le h3 (Nat.le_refl _); omega
  have b2 := a2 x k
  have b3 := a2 k x
  simp only [Bool.or_eq_false_iff, Bool.and_eq_false_iff, Bool.not_eq_false', decide_eq_true_eq, decide_eq_false_iff_not]
  refine ⟨⟨by omega, ?_⟩, ?_⟩
  · by_cases e : x + 1 < N
    · exact Or.inl e
    · exact Or.inr (by have := b2 e hx' (by omega); omega)
  · by_cases e : k + 1 < N
    · exact Or.inl e
    · exact Or.inr (by have := b3 e hk (by omega); omega)
theorem CZ.cost (z : CZ h f M q N) {k : Nat} (hk : k < N) : costK (cK h f M q N k) ≤ 40 := by
  have := (z.sz hk).2.2.1
  have := z.q1
  unfold costK
  show ((cB M q k).size : Int) + 16 ≤ 40
  omega
theorem CZ.costs (z : CZ h f M q N) {S : List Nat} (hS : ∀ x ∈ S, x < N) : costD (S.map (cK h f M q N)) ≤ 40 * (S.length : Int) := by
  induction S with
  | nil => simp [costD]
  | cons x t ih =>
    have h1 := ih (fun y hy => hS y (by simp [hy]))
    have h2 := z.cost (hS x (by simp))
    unfold costD at h1 ⊢
    simp only [List.map_cons, List.sum_cons, List.length_cons]
    omega
theorem fold_two' (l : List KP) : ∀ a, (l.foldl whStep a).2 = a.2 + (szAll l : Nat) := by
  induction l with
  | nil => intro a; simp [szAll]
  | cons p t ih =>
    intro a
    have e : szAll (p :: t) = p.b.size + szAll t := by simp [szAll]
    rw [List.foldl_cons, ih, e]
    simp [whStep]
    omega
theorem CZ.fold1 (z : CZ h f M q N) (S : List Nat) (hS : ∀ x ∈ S, x < N) : ∀ a, ((S.map (cK h f M q N)).foldl whStep a).1 = if N - 1 ∈ S then (M.size : Int) else a.1 := by
  induction S with
  | nil => intro a; simp
  | cons x t ih =>
    intro a
    have hx := hS x (by simp)
    have hn := z.n0
    rw [List.map_cons, List.foldl_cons, ih (fun y hy => hS y (by simp [hy]))]
    by_cases e : x + 1 < N
    · have e1 : (whStep a (cK h f M q N x)).1 = a.1 := by unfold whStep; rw [z.more hx]; simp [e]
      have e2 : (N - 1 ∈ x :: t) ↔ N - 1 ∈ t := by simp; omega
      rw [e1]
      simp only [e2]
    · have e1 : (whStep a (cK h f M q N x)).1 = (M.size : Int) := by
        unfold whStep
        rw [z.more hx, z.ends hx]
        simp only [e, decide_false, Bool.false_eq_true, if_false]
        have : x + 1 = N := by omega
        rw [this, z.pN]
      have e2 : N - 1 ∈ x :: t := by simp; omega
      rw [e1, if_pos e2]
      split <;> rfl
theorem CZ.sum (z : CZ h f M q N) (S : List Nat) : ∀ a, a ≤ N → S.Pairwise (· < ·) → (∀ x ∈ S, a ≤ x ∧ x < N) → szAll (S.map (cK h f M q N)) + N + pp M q a ≤ M.size + a + S.length := by
  induction S with
  | nil =>
    intro a ha _ _
    have := z.grow ha (Nat.le_refl N)
    rw [z.pN] at this
    simp [szAll]
    omega
  | cons x t ih =>
    intro a ha hs hm
    obtain ⟨h1, h2⟩ := List.pairwise_cons.1 hs
    obtain ⟨m1, m2⟩ := hm x (by simp)
    have h3 := ih (x + 1) (by omega) h2 (fun y hy => ⟨h1 y hy, (hm y (by simp [hy])).2⟩)
    have h4 := z.grow m1 (Nat.le_of_lt m2)
    have h5 := (z.sz m2).1
    have e : szAll ((x :: t).map (cK h f M q N)) = (cB M q x).size + szAll (t.map (cK h f M q N)) := by simp [szAll, cK]
    rw [e, List.length_cons]
    omega
theorem CZ.part (z : CZ h f M q N) {S : List Nat} (hs : S.Pairwise (· < ·)) (hS : ∀ x ∈ S, x < N) (hl : S.length < N) : wholeB (S.map (cK h f M q N)) = false := by
  have h1 := z.sum S 0 (Nat.zero_le _) hs (fun x hx => ⟨Nat.zero_le _, hS x hx⟩)
  unfold wholeB
  rw [z.fold1 S hS, fold_two']
  by_cases e : N - 1 ∈ S
  · rw [if_pos e]
    have : ¬ ((0 : Int) + (szAll (S.map (cK h f M q N)) : Nat) = (M.size : Int)) := by omega
    simp
    omega
  · rw [if_neg e]
    simp
theorem CZ.sumAll (z : CZ h f M q N) (k : Nat) (hk : k ≤ N) : szAll ((List.range k).map (cK h f M q N)) = pp M q k := by
  induction k with
  | zero => simp [szAll, pp]
  | succ k ih =>
    have h1 := ih (by omega)
    have h2 := (z.sz (show k < N by omega)).1
    rw [List.range_succ, List.map_append]
    unfold szAll at h1 ⊢
    rw [List.map_append, List.sum_append, h1]
    simp [cK]
    omega
theorem CZ.whole (z : CZ h f M q N) : wholeB ((List.range N).map (cK h f M q N)) = true := by
  have hn := z.n0
  have h1 := z.lt (show 0 < N by omega)
  unfold wholeB
  rw [z.fold1 _ (fun x hx => List.mem_range.1 hx), fold_two', z.sumAll N (Nat.le_refl _), z.pN, if_pos (List.mem_range.2 (by omega))]
  simp
  omega
theorem CZ.wof (z : CZ h f M q N) (k : Nat) (hk : k < N) : wOf ((List.range (k + 1)).map (cK h f M q N)) = ⟨17, h, f, M.extract 0 (pp M q (k + 1))⟩ := by
  induction k with
  | zero =>
    have e : cB M q 0 = M.extract 0 (pp M q 1) := by
      unfold cB pp
      apply bl_inj
      rw [bl_ex, bl_ex]
      rw [← bl_length]
      simp
    show wOf [cK h f M q N 0] = _
    unfold wOf
    simp only [List.foldl_cons, List.foldl_nil, wStep]
    show (⟨17, h, f, ⟨#[]⟩ ++ cB M q 0⟩ : WD) = _
    rw [empty_app, e]
  | succ k ih =>
    have h1 := ih (by omega)
    have h2 := (z.sz hk).1
    have h3 := z.pk hk
    rw [List.range_succ, List.map_append]
    unfold wOf at h1 ⊢
    rw [List.foldl_append, h1]
    simp only [List.map_cons, List.map_nil, List.foldl_cons, List.foldl_nil, wStep]
    show (⟨17, h, f, M.extract 0 (pp M q (k + 1)) ++ cB M q (k + 1)⟩ : WD) = _
    have e : M.extract 0 (pp M q (k + 1)) ++ cB M q (k + 1) = M.extract 0 (pp M q (k + 1 + 1)) := by
      have e4 : q * (k + 1 + 1) = q * (k + 1) + q := Nat.mul_succ q (k + 1)
      have e5 : pp M q (k + 1 + 1) = min (8 * (q * (k + 1)) + 8 * q) M.size := by unfold pp; rw [e4, Nat.mul_add]
      have h4 := z.lt hk
      rw [h3, e5]
      unfold cB
      generalize 8 * (q * (k + 1)) = A at h4
      generalize 8 * q = B
      apply bl_inj
      rw [bl_app, bl_ex, bl_ex, bl_ex]
      simp only [List.drop_zero, Nat.sub_zero]
      have e6 : A + B - A = B := by omega
      rw [e6, ← List.take_add]
      rw [← bl_length, List.take_eq_take_iff]
      omega
    rw [e]
end
end Go.Proofs.YtfkjobiapjhacabGreat
