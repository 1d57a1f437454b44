/- Cut: the pieces come in, in any order. Own work. -/
import Derived.Test.YtfkjobiapjhacabGreatCb
import Derived.Test.YtfkjobiapjhacabGreatCd
namespace Go.Proofs.YtfkjobiapjhacabGreat
open Go.RowKit

theorem perm_map_inv {α β : Type} {f : α → β} {a b : List β} (h : List.Perm a b) : ∀ l : List α, b = l.map f → ∃ l', List.Perm l' l ∧ a = l'.map f := by
  induction h with
  | nil => intro l e; exact ⟨l, List.Perm.refl _, e⟩
  | cons x _ ih =>
    intro l e
    cases l with
    | nil => simp at e
    | cons y t =>
      simp only [List.map_cons, List.cons.injEq] at e
      obtain ⟨l', h1, h2⟩ := ih t e.2
      exact ⟨y :: l', h1.cons y, by rw [List.map_cons, ← e.1, h2]⟩
  | swap x y t =>
    intro l e
    match l, e with
    | p :: q :: r, e =>
      simp only [List.map_cons, List.cons.injEq] at e
      exact ⟨q :: p :: r, List.Perm.swap _ _ _, by simp only [List.map_cons, ← e.1, ← e.2.1, ← e.2.2]⟩
  | trans _ _ ih1 ih2 =>
    intro l e
    obtain ⟨l1, p1, e1⟩ := ih2 l e
    obtain ⟨l2, p2, e2⟩ := ih1 l1 e1
    exact ⟨l2, p2.trans p1, e2⟩

/-- What the box holds when the first k pieces have come. -/
def StC (h f : Int) (M : ByteArray) (q N : Nat) (I : List Nat) (k : Nat) (s : BX) : Prop :=
  Good s ∧ ((k = 0 ∧ ∃ cs, s = stV 0 cs []) ∨ ∃ cs S, SOk N S ∧ List.Perm S (I.take k) ∧ s = stV 0 cs [dC h f M q N S])
section
variable {h f : Int} {M : ByteArray} {q N : Nat} {I : List Nat}
theorem idx_lt (hI : List.Perm I (List.range N)) {k : Nat} (hk : k < I.length) : I[k] < N := List.mem_range.1 (hI.mem_iff.1 (List.getElem_mem hk))
theorem idx_len (hI : List.Perm I (List.range N)) : I.length = N := by rw [hI.length_eq, List.length_range]
theorem idx_new (hI : List.Perm I (List.range N)) {k : Nat} (hk : k < I.length) : I[k] ∉ I.take k := by
  intro hm
  have hn : I.Nodup := hI.nodup_iff.2 List.nodup_range
  obtain ⟨j, hj, e⟩ := List.mem_take_iff_getElem.1 hm
  have := (List.getElem_inj (h₀ := by omega) (h₁ := hk) hn).1 e
  omega
theorem StC.step (b : Nat) (z : CZ h f M q N) (hI : List.Perm I (List.range N)) {k : Nat} (hk : k < I.length) (hk2 : k + 1 < N) {s : BX} (hs : StC h f M q N I k s) :
    ∃ s', RecvAt b s 0 (rawP (cP h f M q N I[k])) 1 none s' ∧ StC h f M q N I (k + 1) s' := by
  obtain ⟨hg, ⟨rfl, cs, rfl⟩ | ⟨cs, S, hS, hp, rfl⟩⟩ := hs
  · obtain ⟨r, g⟩ := z.first b (idx_lt hI hk) cs hg
    refine ⟨_, r, g, Or.inr ⟨_, [I[0]], SOk.one (idx_lt hI hk), ?_, rfl⟩⟩
    rw [List.take_succ_eq_append_getElem hk]
    simp
  · have hn := idx_new hI hk
    have hn' : I[k] ∉ S := fun e => hn (hp.mem_iff.1 e)
    have hl : S.length = k := by rw [hp.length_eq, List.length_take]; omega
    obtain ⟨r, g⟩ := z.next b hS (idx_lt hI hk) hn' (by omega) cs hg
    refine ⟨_, r, g, Or.inr ⟨_, _, (SOk.ins z hS (idx_lt hI hk) hn').1, ?_, rfl⟩⟩
    rw [List.take_succ_eq_append_getElem hk]
    exact (insR_perm _ _ _).trans ((hp.cons _).trans (List.perm_append_singleton _ _).symm)
theorem StC.copy (b : Nat) (z : CZ h f M q N) {k : Nat} (hk : 0 < k) (hk2 : k ≤ I.length) {s : BX} (hs : StC h f M q N I k s) :
    ∃ s', RecvAt b s 0 (rawP (cP h f M q N (I[0]'(by omega)))) 10 none s' ∧ StC h f M q N I k s' := by
  obtain ⟨hg, ⟨rfl, _⟩ | ⟨cs, S, hS, hp, rfl⟩⟩ := hs
  · exact absurd hk (by omega)
  · have hm : I[0]'(by omega) ∈ S := hp.mem_iff.2 (List.mem_take_iff_getElem.2 ⟨0, by omega, rfl⟩)
    obtain ⟨r, g⟩ := z.copy b hS hm cs hg
    exact ⟨_, r, g, Or.inr ⟨_, S, hS, hp, rfl⟩⟩
theorem StC.last (b : Nat) (z : CZ h f M q N) (hI : List.Perm I (List.range N)) {k : Nat} (hk : k < I.length) (hk2 : k + 1 = N) {s : BX} (hs : StC h f M q N I k s) {i j : Int} {data : ByteArray} (hM : M = udpB h i f j data) (hr : URange h i f j data) :
    ∃ s', s'.wl = [] ∧ Good s' ∧ ∀ W v, BoxAt W b v s → Calls Tryz.prog 21 #[.pointer (some ⟨b, 0, none⟩), .int .i64 0, .string (rawP (cP h f M q N I[k]))] W fun e w' => ∃ fv, e = .returned (.tuple #[.int .i64 0, fv]) ∧ FrsAt w' fv ((List.range N).map (fun k => (1, cR h f M q N (btwM 17 M 3405803781 5000 f j) k))) ∧ ∃ v', BoxAt w' b v' s' ∧ Chg b v W w' v' := by
  have hn0 := z.n0
  obtain ⟨hg, ⟨rfl, _⟩ | ⟨cs, S, hS, hp, rfl⟩⟩ := hs
  · exact absurd hk2 (by omega)
  · have hn := idx_new hI hk
    have hn' : I[k] ∉ S := fun e => hn (hp.mem_iff.1 e)
    have hl : S.length = k := by rw [hp.length_eq, List.length_take]; omega
    exact z.last b hS (idx_lt hI hk) hn' (by omega) cs hg hM hr
end
/-- How many pieces there are. -/
theorem cz_of {h f : Int} {M : ByteArray} {q : Nat} (h0 : 167772161 ≤ h) (h1 : h ≤ 167772361) (f0 : 134744064 ≤ f) (f1 : f ≤ 134744300) (q0 : 1 ≤ q) (q1 : q ≤ 3) (hm : M.size ≤ 48 * q) (hm2 : 8 * q < M.size) : ∃ N, CZ h f M q N := by
  refine ⟨(M.size + 8 * q - 1) / (8 * q), h0, h1, f0, f1, q0, q1, ?_, ?_, ?_, ?_⟩
  all_goals
    rcases (show q = 1 ∨ q = 2 ∨ q = 3 by omega) with rfl | rfl | rfl <;> omega
theorem btw_same {h i f j : Int} {data : ByteArray} (hr : URange h i f j data) : btwM 17 (udpB h i f j data) 3405803781 5000 f j = udpB 3405803781 5000 f j data := by
  obtain ⟨s0, s1, d0, d1, f0, f1, t0, t1, sz⟩ := hr
  have hb := bl_udpB h i f j data
  have hc := ckU_bd (US h i f j (bl data))
  have hl : (bl data).length ≤ 1000 := by rw [bl_length]; omega
  apply bl_inj
  rw [bl_btwU hl hb hc.1 hc.2 3405803781 5000 f j (by decide) (by decide) d0 d1, bl_udpB]
end Go.Proofs.YtfkjobiapjhacabGreat
