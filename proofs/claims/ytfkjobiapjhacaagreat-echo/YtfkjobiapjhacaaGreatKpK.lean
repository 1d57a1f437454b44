/- Sessions by their keys, whatever their order. Own work. -/
import Derived.Test.YtfkjobiapjhacaaGreatKpJ
namespace Go.Proofs.YtfkjobiapjhacaaGreat
open Go.RowKit

abbrev KY := Int × Int × Int × Int × Int × Int
/-- A session's key: who asked whom, by which outer port. -/
def ky (x : SD) : KY := (x.pr, x.ia, x.ip, x.fa, x.fp, x.port)
/-- The keys of a list of sessions, in whatever order. -/
def Ks (l : List SD) (ks : List KY) : Prop := (l.map ky).Perm ks
theorem Ks.mem {l : List SD} {ks : List KY} (h : Ks l ks) (k : KY) : (∃ x ∈ l, ky x = k) ↔ k ∈ ks := by
  rw [← h.mem_iff, List.mem_map]
theorem Ks.len {l : List SD} {ks : List KY} (h : Ks l ks) : l.length = ks.length := by
  have := h.length_eq
  simpa using this
theorem kys_pass (pr ia ip fa fp side f now : Int) (l : List SD) : (passL pr ia ip fa fp side f now l).map ky = l.map ky := by
  rcases h : l.findIdx? (isS pr ia ip fa fp) with _ | k
  · rw [(passL_miss side f now h).2]
  · obtain ⟨-, hk, -, e⟩ := passL_hit side f now h
    rw [e, List.map_set]
    have e2 : ky (passS pr side f now l[k]) = (l.map ky)[k]'(by simpa using hk) := by rw [List.getElem_map]; rfl
    rw [e2, List.set_getElem_self]
theorem insTo_perm (n : SD) (l : List SD) (k : Nat) (hk : k ≤ l.length) : (insTo n l k).1.Perm (if (insTo n l k).2 = true then n :: l.take k else l.take k) := by
  induction k with
  | zero => simp [insTo]
  | succ k ih =>
    have ih := ih (by omega)
    rw [insTo_succ n l k (by omega), List.take_succ_eq_append_getElem (by omega)]
    unfold insStep
    rcases hb : (insTo n l k).2 with _ | _
    · rw [hb] at ih
      simp only [Bool.false_eq_true, if_false] at ih
      by_cases hc : befB n l[k] = true
      · rw [if_pos ⟨rfl, hc⟩]
        simp only [if_pos]
        refine ((ih.append_right [n]).append_right [l[k]]).trans ?_
        rw [← List.cons_append]
        exact (List.perm_append_comm (l₁ := l.take k) (l₂ := [n])).append_right _
      · rw [if_neg (fun h => hc h.2)]
        simp only [Bool.false_eq_true, if_false]
        exact ih.append_right _
    · rw [hb] at ih
      simp only [if_true] at ih
      rw [if_neg (by simp)]
      simp only [if_true]
      rw [← List.cons_append]
      exact ih.append_right _
theorem insS_perm (n : SD) (l : List SD) : (insS n l).Perm (n :: l) := by
  have h := insTo_perm n l l.length (Nat.le_refl _)
  rw [List.take_length] at h
  unfold insS
  rcases hb : (insTo n l l.length).2 with _ | _
  · rw [hb] at h
    simp only [Bool.false_eq_true, if_false] at h ⊢
    exact (h.append_right [n]).trans List.perm_append_comm
  · rw [hb] at h
    simp only [if_true] at h ⊢
    exact h
theorem Ks.ins {l : List SD} {ks : List KY} (h : Ks l ks) (n : SD) : Ks (insS n l) (ky n :: ks) := ((insS_perm n l).map ky).trans (h.cons (ky n))
theorem Ks.pass {l : List SD} {ks : List KY} (h : Ks l ks) (pr ia ip fa fp side f now : Int) : Ks (passL pr ia ip fa fp side f now l) ks := by unfold Ks; rw [kys_pass]; exact h
theorem isS_ky (pr ia ip fa fp : Int) (x : SD) : isS pr ia ip fa fp x = true ↔ ky x = (pr, ia, ip, fa, fp, x.port) := by
  unfold isS ky
  simp [and_assoc]
theorem hasS_iff (pr ia ip fa fp : Int) (l : List SD) : hasS pr ia ip fa fp l = true ↔ ∃ x ∈ l, isS pr ia ip fa fp x = true := by
  unfold hasS findI
  rcases h : l.findIdx? (isS pr ia ip fa fp) with _ | k
  · rw [List.findIdx?_eq_none_iff] at h
    constructor
    · intro e; simp at e
    · rintro ⟨x, hx, e⟩; rw [h x hx] at e; cases e
  · obtain ⟨hk, hp, -⟩ := List.findIdx?_eq_some_iff_getElem.1 h
    constructor
    · intro _; exact ⟨l[k], List.getElem_mem hk, hp⟩
    · intro _; simp
theorem Ks.has {l : List SD} {ks : List KY} (h : Ks l ks) {pr ia ip fa fp P : Int} (hm : (pr, ia, ip, fa, fp, P) ∈ ks) : hasS pr ia ip fa fp l = true := by
  obtain ⟨x, hx, e⟩ := (h.mem _).2 hm
  refine (hasS_iff _ _ _ _ _ _).2 ⟨x, hx, (isS_ky _ _ _ _ _ _).2 ?_⟩
  rw [e]
  unfold ky at e
  have : x.port = P := by have := congrArg (fun t : KY => t.2.2.2.2.2) e; simpa using this
  rw [this]
theorem Ks.hasnt {l : List SD} {ks : List KY} (h : Ks l ks) {pr ia ip fa fp : Int} (hm : ∀ P, (pr, ia, ip, fa, fp, P) ∉ ks) : hasS pr ia ip fa fp l = false := by
  rw [← Bool.not_eq_true]
  intro e
  obtain ⟨x, hx, ex⟩ := (hasS_iff _ _ _ _ _ _).1 e
  exact hm x.port ((h.mem _).1 ⟨x, hx, (isS_ky _ _ _ _ _ _).1 ex⟩)
theorem Ks.outer {l : List SD} {ks : List KY} (h : Ks l ks) {pr ia ip fa fp P : Int} (hm : (pr, ia, ip, fa, fp, P) ∈ ks) (hu : ∀ fa fp P', (pr, ia, ip, fa, fp, P') ∈ ks → P' = P) : outerI pr ia ip l = P := by
  obtain ⟨x, hx, e⟩ := (h.mem _).2 hm
  unfold outerI
  rcases hf : l.find? (fun s => s.pr == pr && (s.ia == ia && s.ip == ip)) with _ | y
  · rw [List.find?_eq_none] at hf
    have := hf x hx
    unfold ky at e
    simp only [Prod.mk.injEq] at e
    simp [e.1, e.2.1, e.2.2.1] at this
  · have hy := List.mem_of_find?_eq_some hf
    have hp := List.find?_some hf
    simp at hp
    rw [hf]
    refine hu y.fa y.fp y.port ((h.mem _).1 ⟨y, hy, ?_⟩)
    unfold ky
    rw [hp.1, hp.2.1, hp.2.2]
theorem Ks.outer0 {l : List SD} {ks : List KY} (h : Ks l ks) {pr ia ip : Int} (hu : ∀ fa fp P, (pr, ia, ip, fa, fp, P) ∉ ks) : outerI pr ia ip l = 0 := by
  unfold outerI
  rcases hf : l.find? (fun s => s.pr == pr && (s.ia == ia && s.ip == ip)) with _ | y
  · rw [hf]
  · have hy := List.mem_of_find?_eq_some hf
    have hp := List.find?_some hf
    simp at hp
    refine absurd ((h.mem _).1 ⟨y, hy, ?_⟩) (hu y.fa y.fp y.port)
    unfold ky
    rw [hp.1, hp.2.1, hp.2.2]
theorem Ks.inner {l : List SD} {ks : List KY} (h : Ks l ks) {pr ia ip fa fp tp : Int} (hm : (pr, ia, ip, fa, fp, tp) ∈ ks) (hu : ∀ ia' ip' fa fp, (pr, ia', ip', fa, fp, tp) ∈ ks → ia' = ia ∧ ip' = ip) : innE pr tp l = (true, ia, ip) ∧ (innerI pr tp l).isNone = false := by
  obtain ⟨x, hx, e⟩ := (h.mem _).2 hm
  unfold innE
  rcases hf : innerI pr tp l with _ | y
  · unfold innerI at hf
    rw [List.find?_eq_none] at hf
    have := hf x hx
    unfold ky at e
    simp only [Prod.mk.injEq] at e
    simp [e.1, e.2.2.2.2.2] at this
  · have hf' := hf
    unfold innerI at hf'
    have hy := List.mem_of_find?_eq_some hf'
    have hp := List.find?_some hf'
    simp at hp
    obtain ⟨e1, e2⟩ := hu y.ia y.ip y.fa y.fp ((h.mem _).1 ⟨y, hy, by unfold ky; rw [hp.1, hp.2]⟩)
    simp only
    rw [e1, e2]
    exact ⟨rfl, rfl⟩
theorem Ks.inner0 {l : List SD} {ks : List KY} (h : Ks l ks) {pr tp : Int} (hu : ∀ ia ip fa fp, (pr, ia, ip, fa, fp, tp) ∉ ks) : innE pr tp l = (false, 0, 0) ∧ (innerI pr tp l).isNone = true := by
  unfold innE
  rcases hf : innerI pr tp l with _ | y
  · exact ⟨rfl, rfl⟩
  · have hf' := hf
    unfold innerI at hf'
    have hy := List.mem_of_find?_eq_some hf'
    have hp := List.find?_some hf'
    simp at hp
    exact absurd ((h.mem _).1 ⟨y, hy, by unfold ky; rw [hp.1, hp.2]⟩) (hu y.ia y.ip y.fa y.fp)
/-- A first datagram of an inner end to a far one. -/
theorem ask_new (s : BX) (ks : List KY) (h : Ks s.l ks) (a b c d P fg : Int) (hno : ∀ P, (17, a, b, c, d, P) ∉ ks) (hlen : ks.length < 10) (hP : askP s 17 a b = P) (hP0 : ¬ P = 0) :
    askW s 17 a b c d fg = 0 ∧ Ks (askL s 17 a b c d fg) ((17, a, b, c, d, P) :: ks) := by
  have hl := h.len
  have hH := h.hasnt hno
  have hW : askW s 17 a b c d fg = 0 := by
    unfold askW
    rw [hH, hP]
    simp [hP0]
    omega
  refine ⟨hW, ?_⟩
  unfold askL
  rw [hH, hW, hP]
  simp only [Bool.false_eq_true, if_false, if_true]
  exact h.ins (freshS 17 a b c d P)
theorem ask_old (s : BX) (ks : List KY) (h : Ks s.l ks) (a b c d P fg : Int) (hin : (17, a, b, c, d, P) ∈ ks) :
    askW s 17 a b c d fg = 0 ∧ Ks (askL s 17 a b c d fg) ks := by
  have hH := h.has hin
  unfold askL askW
  rw [if_pos hH, if_pos hH]
  exact ⟨rfl, h⟩
/-- Behind ask: the sessions, and the outer port. -/
theorem ins_mid (s : BX) (ks : List KY) (a b c d P : Int) (m : ByteArray) (h : Ks (askL s 17 a b c d (byteAt m 13)) ks) (hin : (17, a, b, c, d, P) ∈ ks) (hu : ∀ fa fp P', (17, a, b, fa, fp, P') ∈ ks → P' = P) :
    Ks (insL s 17 m a b c d) ks ∧ insP s 17 m a b c d = P := by
  have h1 : Ks (insL s 17 m a b c d) ks := h.pass 17 a b c d 0 (byteAt m 13) s.tm
  exact ⟨h1, h1.outer hin hu⟩
end Go.Proofs.YtfkjobiapjhacaaGreat
