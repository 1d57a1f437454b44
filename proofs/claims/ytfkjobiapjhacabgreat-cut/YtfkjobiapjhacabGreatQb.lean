/- Quota, purely. Own work. -/
import Derived.Test.YtfkjobiapjhacabGreatQa
namespace Go.Proofs.YtfkjobiapjhacabGreat
open Go.RowKit

def upM (m : Nat → Nat → Nat) (j i : Nat) : Nat → Nat → Nat := fun a b => if a = j ∧ b = i then m a b + 1 else m a b
def sum4 (m : Nat → Nat → Nat) : Nat := m 0 0 + m 0 1 + m 1 0 + m 1 1
def one0 (n : Nat) : Nat := if 0 < n then 1 else 0
/-- What waits: of four names m pieces each, all ahead of their R-th place. -/
structure QS (wl : List PD) (sz : Nat) (m R : Nat → Nat → Nat) : Prop where
  uq : Uniq wl
  el : ∀ d ∈ wl, ∃ j i : Nat, j < 2 ∧ i < 2 ∧ d.sd = 0 ∧ d.sr = 167772161 + (j : Int) ∧ d.ds = 134744064 ∧ d.pr = 17 ∧ d.nu = (i : Int) ∧ d.gu = false ∧ d.held.length = m j i ∧ 0 < m j i ∧ ∀ h ∈ d.held, moreB h.h = true ∧ h.b.size = sz ∧ ∃ r : Nat, r < R j i ∧ placeI h.h = 24 * (r : Int)
  ex : ∀ j i : Nat, j < 2 → i < 2 → 0 < m j i → ∃ d ∈ wl, d.sr = 167772161 + (j : Int) ∧ d.nu = (i : Int)
  ha : heldAll wl = ((sz + 16) * sum4 m : Nat)
  ho : ∀ j : Nat, j < 2 → heldOf wl (167772161 + (j : Int)) = ((sz + 16) * (m j 0 + m j 1) : Nat)
  dl : ∀ d ∈ wl, d.dl = 6
  ln : wl.length = one0 (m 0 0) + one0 (m 0 1) + one0 (m 1 0) + one0 (m 1 1)
theorem QS.nil (sz : Nat) : QS [] sz (fun _ _ => 0) (fun _ _ => 0) :=
  ⟨List.Pairwise.nil, fun d hd => absurd hd (by simp), fun j i _ _ h => absurd h (by simp), by simp [heldAll, sum4], fun j _ => by simp [heldOf], fun d hd => absurd hd (by simp), by simp [one0]⟩
theorem cost_same (l : List KP) (sz : Nat) (h : ∀ q ∈ l, q.b.size = sz) : costD l = ((sz + 16) * l.length : Nat) := by
  induction l with
  | nil => simp [costD]
  | cons p t ih =>
    have e : costD (p :: t) = costK p + costD t := by simp [costD]
    have h1 := h p (by simp)
    rw [e, ih (fun q hq => h q (by simp [hq])), List.length_cons, Nat.mul_succ]
    unfold costK
    rw [h1]
    omega
/-- Pieces of which none is the last are not all. -/
theorem whole_more (l : List KP) (h : ∀ q ∈ l, moreB q.h = true) : wholeB l = false := by
  have key : ∀ (l : List KP) (a : Int × Int), (∀ q ∈ l, moreB q.h = true) → (l.foldl whStep a).1 = a.1 := by
    intro l
    induction l with
    | nil => intro a _; rfl
    | cons p t ih =>
      intro a hq
      rw [List.foldl_cons, ih _ (fun q hq' => hq q (by simp [hq']))]
      unfold whStep
      rw [if_pos (hq p (by simp))]
  unfold wholeB
  rw [key l (0, 0) h]
  simp
theorem any_false {α : Type} {f : α → Bool} {l : List α} (h : ∀ x ∈ l, f x = false) : l.any f = false := by
  rw [List.any_eq_false]
  intro x hx
  simp [h x hx]
/-- A piece behind all that is held of its datagram, none of which is the last. -/
theorem fault_behind {wl : List PD} {F : PD} {p : KP} {ps gl : Int} (hg : F.gu = false) (h6 : F.held.length < 6) (hm : moreB p.h = true) (he : endI p ≤ 65535) (hh : ∀ h ∈ F.held, moreB h.h = true ∧ endI h ≤ placeI p.h ∧ 1 ≤ h.b.size) (hn : F.held.length = 0 → wl.length < 4) :
    faultP wl F p ps gl = if muchB wl p ps gl = true then 11 else 0 := by
  have e1 : hasP F.held p = false := any_false (fun h hx => by
    have := hh h hx
    have k := this.2.1
    unfold endI at k
    unfold likeB
    have : ¬ placeI h.h = placeI p.h := by omega
    simp [this])
  have e2 : clashB F.held p = false := by
    unfold clashB
    rw [any_false (fun h hx => by
      have k := hh h hx
      unfold overB beyondB
      have k2 : ¬ placeI p.h < endI h := by omega
      simp [k.1, hm, k2])]
    simp
    omega
  unfold faultP
  rw [if_neg (by simp [hg]), if_neg (by simp [e1]), if_neg (by simp [e2]), if_neg (by omega)]
  split
  · rfl
  · rw [if_neg (fun h => by have := hn h.1; omega), if_neg (by omega)]
theorem foundP_d {wl : List PD} (side : Int) (p : KP) : dropP wl side p = wl.filter (fun d => !nmB (freshD side p false 0) d) := rfl
theorem quota_step {wl : List PD} {sz : Nat} {m R : Nat → Nat → Nat} (h : QS wl sz m R) (j i : Nat) (hj : j < 2) (hi : i < 2) (hm6 : m j i < 6) (hR : R j i ≤ 5) (hs0 : 1 ≤ sz) (hs1 : sz ≤ 24) (p : KP) (hsr : p.sr = 167772161 + (j : Int)) (hds : p.ds = 134744064) (hpr : p.pr = 17) (hnu : wordAt p.h 4 = (i : Int)) (hpl : placeI p.h = 24 * (R j i : Int)) (hmo : moreB p.h = true) (hb : p.b.size = sz) :
    (((sz + 16) * (m j 0 + m j 1) + (sz + 16) ≤ 400 ∧ (sz + 16) * sum4 m + (sz + 16) ≤ 700) → (takeP wl 0 p 400 700 0).what = 1 ∧ (takeP wl 0 p 400 700 0).pk = [] ∧ QS (takeP wl 0 p 400 700 0).wl sz (upM m j i) (upM R j i))
    ∧ (¬ ((sz + 16) * (m j 0 + m j 1) + (sz + 16) ≤ 400 ∧ (sz + 16) * sum4 m + (sz + 16) ≤ 700) → (takeP wl 0 p 400 700 0).what = 11 ∧ (takeP wl 0 p 400 700 0).pk = [] ∧ QS (takeP wl 0 p 400 700 0).wl sz m (upM R j i)) := by
  have hspl := found_split h.uq (freshD 0 p false 0)
  have hx : ∀ d ∈ wl, (nmB (freshD 0 p false 0) d = true ↔ d.sr = 167772161 + (j : Int) ∧ d.nu = (i : Int)) := fun d hd => by
    obtain ⟨j', i', -, -, k0, k1, k2, k3, k4, -⟩ := h.el d hd
    rw [nmB_iff]
    unfold sameN freshD
    simp only
    rw [hsr, hds, hpr, hnu]
    exact ⟨fun x => ⟨x.2.1, x.2.2.2.2⟩, fun x => ⟨k0, x.1, k2, k3, x.2⟩⟩
  have hF0 : foundP wl 0 p = foundN (freshD 0 p false 0) wl := foundP_eq 0 p wl
  obtain ⟨F, hF⟩ : ∃ F, F = foundN (freshD 0 p false 0) wl := ⟨_, rfl⟩
  obtain ⟨D, hD⟩ : ∃ D, D = wl.filter (fun d => !nmB (freshD 0 p false 0) d) := ⟨_, rfl⟩
  rw [← hF] at hspl hF0
  rw [← hD] at hspl
  -- what is found
  have hfnd : F.gu = false ∧ F.held.length = m j i ∧ (∀ h ∈ F.held, moreB h.h = true ∧ h.b.size = sz ∧ ∃ r : Nat, r < R j i ∧ placeI h.h = 24 * (r : Int)) ∧ (0 < m j i → F.sd = 0 ∧ F.sr = p.sr ∧ F.ds = p.ds ∧ F.pr = p.pr ∧ F.nu = wordAt p.h 4) := by
    rcases hspl with ⟨k1, -, k3⟩ | ⟨k1, k2, -⟩
    · have hm0 : m j i = 0 := Nat.eq_zero_of_not_pos (fun hpos => by
        obtain ⟨d, hd, e1, e2⟩ := h.ex j i hj hi hpos
        have := (hx d hd).2 ⟨e1, e2⟩
        rw [k3 d hd] at this
        exact absurd this (by simp))
      rw [k1, hm0]
      exact ⟨rfl, rfl, by simp [pd0], fun x => absurd x (by omega)⟩
    · obtain ⟨j', i', hj', hi', -, e1, -, -, e4, e5, e6, -, e8⟩ := h.el F k1
      have hk := (hx F k1).1 ((nmB_iff _ _).2 k2)
      have ej : j' = j := by have := hk.1; omega
      have ei : i' = i := by have := hk.2; omega
      subst ej
      subst ei
      exact ⟨e5, e6, e8, fun _ => k2⟩
  have hcf : costD F.held = ((sz + 16) * m j i : Nat) := by rw [cost_same _ sz (fun q hq => (hfnd.2.2.1 q hq).2.1), hfnd.2.1]
  have hdrop : heldAll D + costD F.held = heldAll wl ∧ (∀ src, heldOf D src + (if p.sr = src then costD F.held else 0) = heldOf wl src) ∧ D.length + one0 (m j i) = wl.length := by
    rcases hspl with ⟨k1, k2, k3⟩ | ⟨k1, k2, k3⟩
    · have hm0 : m j i = 0 := by rw [← hfnd.2.1, k1]; rfl
      have e : costD F.held = 0 := by rw [k1]; rfl
      rw [e, k2, hm0]
      exact ⟨by omega, fun src => by split <;> omega, rfl⟩
    · have hpos : 0 < m j i := by
        obtain ⟨j', i', -, -, -, e1, -, -, e4, -, e6, e7, -⟩ := h.el F k1
        rw [← hfnd.2.1, e6]; exact e7
      refine ⟨?_, fun src => ?_, ?_⟩
      · rw [heldAll_perm k3, heldAll_cons]; omega
      · rw [heldOf_perm src k3, heldOf_cons, (hfnd.2.2.2 hpos).2.1]; omega
      · rw [k3.length_eq, List.length_cons]; unfold one0; rw [if_pos hpos]
  have hD4 : F.held.length = 0 → wl.length < 4 := fun e => by
    have hm0 : m j i = 0 := by rw [← hfnd.2.1]; exact e
    have hl := h.ln
    have h01 : ∀ n, one0 n ≤ 1 := fun n => by unfold one0; split <;> omega
    have a1 := h01 (m 0 0); have a2 := h01 (m 0 1); have a3 := h01 (m 1 0); have a4 := h01 (m 1 1)
    have hz : one0 (m j i) = 0 := by rw [hm0]; rfl
    have hjj : j = 0 ∨ j = 1 := by omega
    have hii : i = 0 ∨ i = 1 := by omega
    rcases hjj with e | e <;> rcases hii with e' | e' <;> subst e <;> subst e' <;> omega
  have hfa : faultP wl F p 400 700 = if muchB wl p 400 700 = true then 11 else 0 := by
    refine fault_behind hfnd.1 (by rw [hfnd.2.1]; exact hm6) hmo ?_ (fun q hq => ?_) hD4
    · unfold endI; rw [hpl, hb]; omega
    · obtain ⟨k1, k2, r, k3, k4⟩ := hfnd.2.2.1 q hq
      refine ⟨k1, ?_, by omega⟩
      unfold endI
      rw [k4, k2, hpl]
      omega
  have hmu : muchB wl p 400 700 = decide (¬ ((sz + 16) * (m j 0 + m j 1) + (sz + 16) ≤ 400 ∧ (sz + 16) * sum4 m + (sz + 16) ≤ 700)) := by
    unfold muchB
    rw [hsr, h.ho j hj, h.ha]
    unfold costK
    rw [hb, Bool.eq_iff_iff]
    generalize (sz + 16) * (m j 0 + m j 1) = A
    generalize (sz + 16) * sum4 m = B
    simp only [Bool.or_eq_true, decide_eq_true_eq]
    omega
  refine ⟨fun hroom => ?_, fun hno => ?_⟩
  · have hk0 : faultP wl F p 400 700 = 0 := by rw [hfa, hmu, if_neg (by simp [hroom])]
    have hwm : wholeB (withP F.held p) = false := whole_more _ (fun q hq => by
      rcases withP_mem _ _ _ hq with e | e
      · rw [e]; exact hmo
      · exact (hfnd.2.2.1 q e).1)
    have hT : takeP wl 0 p 400 700 0 = ⟨1, [], layL befP (growD wl 0 p 0) D⟩ := by
      unfold takeP
      rw [hF0, hk0, if_neg (by decide), if_neg (by simp), hwm, if_neg (by simp), hD, foundP_d]
    have hG : growD wl 0 p 0 = { (if F.held.length = 0 then freshD 0 p false (0 + 6) else F) with held := withP F.held p } := by unfold growD; rw [hF0]
    obtain ⟨G, hGG⟩ : ∃ G, G = growD wl 0 p 0 := ⟨_, rfl⟩
    rw [hT, ← hGG]
    rw [← hGG] at hG
    refine ⟨rfl, rfl, ?_⟩
    show QS (layL befP G D) sz (upM m j i) (upM R j i)
    have hFdl : ¬ F.held.length = 0 → F.dl = 6 := fun e => by
      rcases hspl with ⟨k1, -, -⟩ | ⟨k1, -, -⟩
      · rw [k1] at e; exact absurd rfl e
      · exact h.dl F k1
    have hGf : G.sd = 0 ∧ G.sr = p.sr ∧ G.ds = p.ds ∧ G.pr = p.pr ∧ G.nu = wordAt p.h 4 ∧ G.gu = false ∧ G.held = withP F.held p ∧ G.dl = 6 := by
      rw [hG]
      by_cases e : F.held.length = 0
      · rw [if_pos e]; exact ⟨rfl, rfl, rfl, rfl, rfl, rfl, rfl, rfl⟩
      · rw [if_neg e]
        have := hfnd.2.2.2 (by rw [← hfnd.2.1]; omega)
        exact ⟨this.1, this.2.1, this.2.2.1, this.2.2.2.1, this.2.2.2.2, hfnd.1, rfl, hFdl e⟩
    have hp := layL_perm befP G D
    have hpw := withP_perm F.held p
    have hlen : G.held.length = m j i + 1 := by rw [hGf.2.2.2.2.2.2.1, hpw.length_eq, List.length_cons, hfnd.2.1]
    have hself : upM m j i j i = m j i + 1 := by unfold upM; rw [if_pos ⟨rfl, rfl⟩]
    have hGcost : costD G.held = costK p + costD F.held := by rw [hGf.2.2.2.2.2.2.1, costD_perm hpw]; simp [costD]
    have hck : costK p = ((sz + 16 : Nat) : Int) := by unfold costK; rw [hb]; omega
    have hjj : j = 0 ∨ j = 1 := by omega
    have hii : i = 0 ∨ i = 1 := by omega
    refine ⟨?_, fun d hd => ?_, fun a b ha hb' hpos => ?_, ?_, fun a ha => ?_, fun d hd => ?_, ?_⟩
    · rw [hD]
      exact h.uq.lay (freshD 0 p false 0) G ⟨hGf.1, hGf.2.1, hGf.2.2.1, hGf.2.2.2.1, hGf.2.2.2.2.1⟩
    · rcases List.mem_cons.1 (hp.mem_iff.1 hd) with e | e
      · refine ⟨j, i, hj, hi, by rw [e]; exact hGf.1, by rw [e, hGf.2.1]; exact hsr, by rw [e, hGf.2.2.1]; exact hds, by rw [e, hGf.2.2.2.1]; exact hpr, by rw [e, hGf.2.2.2.2.1]; exact hnu, by rw [e]; exact hGf.2.2.2.2.2.1, by rw [e, hself]; exact hlen, by rw [hself]; omega, fun q hq => ?_⟩
        rw [e, hGf.2.2.2.2.2.2.1] at hq
        have hRs : upM R j i j i = R j i + 1 := by unfold upM; rw [if_pos ⟨rfl, rfl⟩]
        rw [hRs]
        rcases List.mem_cons.1 (hpw.mem_iff.1 hq) with e' | e'
        · rw [e']; exact ⟨hmo, hb, R j i, by omega, hpl⟩
        · obtain ⟨k1, k2, r, k3, k4⟩ := hfnd.2.2.1 q e'
          exact ⟨k1, k2, r, by omega, k4⟩
      · have hdw : d ∈ wl := by rw [hD] at e; exact (List.mem_filter.1 e).1
        have hnn : nmB (freshD 0 p false 0) d = false := by rw [hD] at e; simpa using (List.mem_filter.1 e).2
        obtain ⟨j', i', hj', hi', e0, e1, e2, e3, e4, e5, e6, e7, e8⟩ := h.el d hdw
        have hne : ¬ (j' = j ∧ i' = i) := fun hh => by
          have := (hx d hdw).2 ⟨by rw [e1, hh.1], by rw [e4, hh.2]⟩
          rw [hnn] at this
          exact absurd this (by simp)
        have em : upM m j i j' i' = m j' i' := by unfold upM; rw [if_neg hne]
        have eR : upM R j i j' i' = R j' i' := by unfold upM; rw [if_neg hne]
        exact ⟨j', i', hj', hi', e0, e1, e2, e3, e4, e5, by rw [em]; exact e6, by rw [em]; exact e7, by rw [eR]; exact e8⟩
    · by_cases e : a = j ∧ b = i
      · refine ⟨G, hp.mem_iff.2 (by simp), ?_, ?_⟩
        · rw [hGf.2.1, hsr, e.1]
        · rw [hGf.2.2.2.2.1, hnu, e.2]
      · have em : upM m j i a b = m a b := by unfold upM; rw [if_neg e]
        rw [em] at hpos
        obtain ⟨d, hd, e1, e2⟩ := h.ex a b ha hb' hpos
        refine ⟨d, hp.mem_iff.2 (List.mem_cons_of_mem _ ?_), e1, e2⟩
        rw [hD]
        refine List.mem_filter.2 ⟨hd, ?_⟩
        cases hn : nmB (freshD 0 p false 0) d
        · rfl
        · have := (hx d hd).1 hn
          exact absurd ⟨by omega, by omega⟩ e
    · rw [heldAll_perm hp, heldAll_cons, hGcost, hck]
      have h1 := hdrop.1
      rw [h.ha] at h1
      have e : sum4 (upM m j i) = sum4 m + 1 := by
        unfold sum4 upM
        rcases hjj with e | e <;> rcases hii with e' | e' <;> subst e <;> subst e' <;> simp <;> omega
      rw [e, Nat.mul_succ]
      omega
    · rw [heldOf_perm _ hp, heldOf_cons, hGf.2.1, hGcost, hck]
      have h1 := hdrop.2.1 (167772161 + (a : Int))
      rw [h.ho a ha] at h1
      by_cases e : a = j
      · subst e
        rw [if_pos hsr] at h1 ⊢
        have e2 : upM m a i a 0 + upM m a i a 1 = m a 0 + m a 1 + 1 := by
          unfold upM
          rcases hii with e' | e' <;> subst e' <;> simp <;> omega
        rw [e2, Nat.mul_succ]
        omega
      · have hne : ¬ p.sr = 167772161 + (a : Int) := by rw [hsr]; omega
        rw [if_neg hne] at h1 ⊢
        have e2 : upM m j i a 0 + upM m j i a 1 = m a 0 + m a 1 := by
          unfold upM
          simp [e]
        rw [e2]
        omega
    · rcases List.mem_cons.1 (hp.mem_iff.1 hd) with e | e
      · rw [e]; exact hGf.2.2.2.2.2.2.2
      · rw [hD] at e; exact h.dl d (List.mem_filter.1 e).1
    · rw [hp.length_eq, List.length_cons]
      have h1 := hdrop.2.2
      have h2 := h.ln
      have e1 : one0 (m j i + 1) = 1 := by unfold one0; rw [if_pos (by omega)]
      have h01 : ∀ n, one0 n ≤ 1 := fun n => by unfold one0; split <;> omega
      have a1 := h01 (m 0 0); have a2 := h01 (m 0 1); have a3 := h01 (m 1 0); have a4 := h01 (m 1 1)
      unfold upM
      rcases hjj with e | e <;> rcases hii with e' | e' <;> subst e <;> subst e' <;> simp [e1] <;> omega
  · have hk0 : faultP wl F p 400 700 = 11 := by rw [hfa, hmu, if_pos (decide_eq_true hno)]
    have hT : takeP wl 0 p 400 700 0 = ⟨11, [], wl⟩ := by
      unfold takeP
      rw [hF0, hk0, if_neg (by decide), if_pos (by decide)]
    rw [hT]
    refine ⟨rfl, rfl, h.uq, fun d hd => ?_, h.ex, h.ha, h.ho, h.dl, h.ln⟩
    obtain ⟨j', i', hj', hi', e0, e1, e2, e3, e4, e5, e6, e7, e8⟩ := h.el d hd
    refine ⟨j', i', hj', hi', e0, e1, e2, e3, e4, e5, e6, e7, fun q hq => ?_⟩
    obtain ⟨k1, k2, r, k3, k4⟩ := e8 q hq
    refine ⟨k1, k2, r, ?_, k4⟩
    unfold upM
    split <;> omega
end Go.Proofs.YtfkjobiapjhacabGreat
