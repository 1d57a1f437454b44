/- What holds of every box, and goes on to hold. Own work. -/
import Derived.Test.YtfkjobiapjhacabGreatPk
import Derived.Test.YtfkjobiapjhacabGreatTg
namespace Go.Proofs.YtfkjobiapjhacabGreat
open Go.RowKit

theorem layStep_perm {α : Type} (bef : α → α → Bool) (n : α) (t : List α) : ∀ a : List α × Bool, List.Perm (if (t.foldl (layStep bef n) a).2 = true then (t.foldl (layStep bef n) a).1 else (t.foldl (layStep bef n) a).1 ++ [n]) ((if a.2 = true then a.1 else a.1 ++ [n]) ++ t) := by
  induction t with
  | nil => intro a; simp only [List.foldl_nil, List.append_nil]; exact List.Perm.refl _
  | cons s r ih =>
    intro a
    rw [List.foldl_cons]
    refine (ih _).trans ?_
    unfold layStep
    cases h : a.2
    · by_cases hb : bef n s = true
      · simp [hb]
      · simp [hb]
        exact List.Perm.append_left _ (List.Perm.swap _ _ _)
    · simp
theorem layL_perm {α : Type} (bef : α → α → Bool) (n : α) (l : List α) : List.Perm (layL bef n l) (n :: l) := by
  have h := layStep_perm bef n l ([], false)
  have e : layTo bef n l l.length = l.foldl (layStep bef n) ([], false) := by unfold layTo; rw [List.take_length]
  unfold layL
  rw [e]
  simpa using h
theorem insS_lay (n : SD) (l : List SD) : insS n l = layL befB n l := rfl
theorem insS_perm (n : SD) (l : List SD) : List.Perm (insS n l) (n :: l) := by rw [insS_lay]; exact layL_perm _ _ _
/-- What a session says that never changes. -/
def samek (x y : SD) : Prop := x.pr = y.pr ∧ x.ia = y.ia ∧ x.ip = y.ip ∧ x.fa = y.fa ∧ x.fp = y.fp ∧ x.port = y.port
theorem passL_mem {pr ia ip fa fp side f now : Int} {l : List SD} {x : SD} (h : x ∈ passL pr ia ip fa fp side f now l) : ∃ y ∈ l, samek x y := by
  rcases hf : l.findIdx? (isS pr ia ip fa fp) with _ | k
  · rw [(passL_miss side f now hf).2] at h
    exact ⟨x, h, rfl, rfl, rfl, rfl, rfl, rfl⟩
  · obtain ⟨-, hk, -, e⟩ := passL_hit side f now hf
    rw [e] at h
    rcases List.mem_or_eq_of_mem_set h with h | h
    · exact ⟨x, h, rfl, rfl, rfl, rfl, rfl, rfl⟩
    · exact ⟨l[k], List.getElem_mem _, by rw [h]; exact ⟨rfl, rfl, rfl, rfl, rfl, rfl⟩⟩
theorem askL_mem {s : BX} {pr fa fp ta tp fg : Int} {x : SD} (h : x ∈ askL s pr fa fp ta tp fg) : x ∈ s.l ∨ (hasS pr fa fp ta tp s.l = false ∧ askW s pr fa fp ta tp fg = 0 ∧ x = freshS pr fa fp ta tp (askP s pr fa fp)) := by
  unfold askL at h
  split at h
  · exact Or.inl h
  · rename_i h1
    split at h
    · rename_i h2
      rcases List.mem_cons.1 ((insS_perm _ _).mem_iff.1 h) with e | e
      · exact Or.inr ⟨by simpa using h1, h2, e⟩
      · exact Or.inl e
    · exact Or.inl h
theorem askL_n10 {s : BX} {pr fa fp ta tp fg : Int} (h : s.l.length ≤ 10) : (askL s pr fa fp ta tp fg).length ≤ 10 := by
  unfold askL
  split
  · exact h
  · rename_i h1
    split
    · rename_i h2
      rw [(insS_perm _ _).length_eq]
      unfold askW at h2
      rw [if_neg h1] at h2
      split at h2
      · omega
      · split at h2
        · omega
        · simp; omega
    · exact h
theorem samek.trans {x y z : SD} (h : samek x y) (h2 : samek y z) : samek x z := ⟨h.1.trans h2.1, h.2.1.trans h2.2.1, h.2.2.1.trans h2.2.2.1, h.2.2.2.1.trans h2.2.2.2.1, h.2.2.2.2.1.trans h2.2.2.2.2.1, h.2.2.2.2.2.trans h2.2.2.2.2.2⟩
theorem samek.refl (x : SD) : samek x x := ⟨rfl, rfl, rfl, rfl, rfl, rfl⟩
/-- The sessions behind a message: those that were there, and at most one more. -/
theorem routeL_mem {s : BX} {side pr fa fp ta tp : Int} {m : ByteArray} {x : SD} (h : x ∈ routeL s side pr fa fp ta tp m) : (∃ y ∈ s.l, samek x y) ∨ (side = 0 ∧ hasS pr fa fp ta tp s.l = false ∧ askW s pr fa fp ta tp (byteAt m 13) = 0 ∧ samek x (freshS pr fa fp ta tp (askP s pr fa fp))) := by
  have h0 : x ∈ s.l → (∃ y ∈ s.l, samek x y) := fun hx => ⟨x, hx, samek.refl x⟩
  unfold routeL at h
  split at h
  · exact Or.inl (h0 h)
  split at h
  · exact Or.inl (h0 h)
  split at h
  · exact Or.inl (h0 h)
  split at h
  · rename_i hs
    have hask : ∀ z, z ∈ askL s pr fa fp ta tp (byteAt m 13) → samek x z → (∃ y ∈ s.l, samek x y) ∨ (side = 0 ∧ hasS pr fa fp ta tp s.l = false ∧ askW s pr fa fp ta tp (byteAt m 13) = 0 ∧ samek x (freshS pr fa fp ta tp (askP s pr fa fp))) := fun z hz hxz => by
      rcases askL_mem hz with e | ⟨e1, e2, e3⟩
      · exact Or.inl ⟨z, e, hxz⟩
      · exact Or.inr ⟨hs, e1, e2, by rw [← e3]; exact hxz⟩
    have hins : ∀ z, z ∈ insL s pr m fa fp ta tp → samek x z → (∃ y ∈ s.l, samek x y) ∨ (side = 0 ∧ hasS pr fa fp ta tp s.l = false ∧ askW s pr fa fp ta tp (byteAt m 13) = 0 ∧ samek x (freshS pr fa fp ta tp (askP s pr fa fp))) := fun z hz hxz => by
      unfold insL at hz
      obtain ⟨y, hy, hk⟩ := passL_mem hz
      exact hask y hy (hxz.trans hk)
    unfold insF at h
    split at h
    · exact Or.inl (h0 h)
    split at h
    · exact hask x h (samek.refl x)
    split at h
    · unfold turnL at h
      split at h
      · obtain ⟨y, hy, hk⟩ := passL_mem h
        exact hins y hy hk
      · exact hins x h (samek.refl x)
    · exact hins x h (samek.refl x)
  · unfold outsL at h
    split at h
    · exact Or.inl (h0 h)
    · split at h
      · exact Or.inl (passL_mem h)
      · exact Or.inl (h0 h)
theorem insL_len {s : BX} {pr fa fp ta tp : Int} {m : ByteArray} (h : s.l.length ≤ 10) : (insL s pr m fa fp ta tp).length ≤ 10 := by
  unfold insL
  rw [passL_length]
  exact askL_n10 h
theorem routeL_len {s : BX} {side pr fa fp ta tp : Int} {m : ByteArray} (h : s.l.length ≤ 10) : (routeL s side pr fa fp ta tp m).length ≤ 10 := by
  unfold routeL
  split
  · exact h
  split
  · exact h
  split
  · exact h
  split
  · unfold insF
    split
    · exact h
    split
    · exact askL_n10 h
    split
    · unfold turnL
      split
      · rw [passL_length]; exact insL_len h
      · exact insL_len h
    · exact insL_len h
  · unfold outsL
    split
    · exact h
    · split
      · rw [passL_length]; exact h
      · exact h
theorem freeI_bd (pr : Int) (l : List SD) (n : Nat) : ∀ lo : Int, freeI pr l lo n = 0 ∨ (lo ≤ freeI pr l lo n ∧ freeI pr l lo n < lo + n) := by
  induction n with
  | zero => intro lo; exact Or.inl rfl
  | succ n ih =>
    intro lo
    unfold freeI
    split
    · right; omega
    · rcases ih (lo + 1) with h | h
      · exact Or.inl h
      · right; omega
theorem outerI_mem (pr ia ip : Int) (l : List SD) : outerI pr ia ip l = 0 ∨ ∃ y ∈ l, y.pr = pr ∧ y.ia = ia ∧ y.ip = ip ∧ outerI pr ia ip l = y.port := by
  unfold outerI
  cases h : l.find? (fun s => s.pr == pr && (s.ia == ia && s.ip == ip)) with
  | none => exact Or.inl rfl
  | some y =>
    have h2 := List.find?_some h
    simp at h2
    exact Or.inr ⟨y, List.mem_of_find?_eq_some h, h2.1, h2.2.1, h2.2.2, rfl⟩
/-- What holds of a session of a box. -/
structure SOK (s : BX) (x : SD) : Prop where
  inn : innerB s.ne s.bi x.ia = true
  a0 : 0 ≤ x.ia
  a1 : x.ia ≤ 4294967295
  i0 : 0 ≤ x.ip
  i1 : x.ip ≤ 65535
  p0 : s.lo ≤ x.port
  p1 : x.port ≤ s.hi
  f0 : 0 ≤ x.fa
  f1 : x.fa ≤ 4294967295
  g0 : 0 ≤ x.fp
  g1 : x.fp ≤ 65535
  q : x.pr = 1 ∨ x.pr = 6 ∨ x.pr = 17
theorem SOK.same {s : BX} {x y : SD} (h : SOK s y) (k : samek x y) : SOK s x := by
  obtain ⟨k1, k2, k3, k4, k5, k6⟩ := k
  exact ⟨k2 ▸ h.inn, k2 ▸ h.a0, k2 ▸ h.a1, k3 ▸ h.i0, k3 ▸ h.i1, k6 ▸ h.p0, k6 ▸ h.p1, k4 ▸ h.f0, k4 ▸ h.f1, k5 ▸ h.g0, k5 ▸ h.g1, k1 ▸ h.q⟩
/-- What holds of a datagram that waits at a box. -/
structure DOK (s : BX) (d : PD) : Prop where
  n6 : d.held.length ≤ 6
  pk : ∀ q ∈ d.held, PKok q ∧ pieceB q.h = true ∧ q.sr = d.sr ∧ q.ds = d.ds ∧ q.pr = d.pr ∧ wordAt q.h 4 = d.nu
  sd : d.sd = 0 ∨ d.sd = 1
  may : mayB s d.sd d.sr d.ds = true
/-- What holds of every box. -/
structure Good (s : BX) : Prop where
  vb : validB s.ou s.ne s.bi s.lo s.hi s.ps s.gl = true
  t0 : 0 ≤ s.tm
  t1 : s.tm ≤ 1000000000000
  n10 : s.l.length ≤ 10
  so : ∀ x ∈ s.l, SOK s x
  w4 : s.wl.length ≤ 4
  dok : ∀ d ∈ s.wl, DOK s d
  qa : heldAll s.wl ≤ s.gl
  qs : ∀ src, heldOf s.wl src ≤ s.ps
structure Cfg (s : BX) : Prop where
  o1 : 1 ≤ s.ou
  o2 : s.ou ≤ 4294967294
  b1 : 8 ≤ s.bi
  b2 : s.bi ≤ 30
  n1 : 0 ≤ s.ne
  n2 : s.ne < 4294967296
  nm : s.ne % netSizeI s.bi = 0
  no : innerB s.ne s.bi s.ou = false
  l1 : 1 ≤ s.lo
  l2 : s.lo ≤ s.hi
  l3 : s.hi ≤ 65535
  l4 : s.hi - s.lo < 12
  q1 : 1 ≤ s.ps
  q2 : s.ps ≤ s.gl
  q3 : s.gl ≤ 4096
theorem Good.cfg {s : BX} (h : Good s) : Cfg s := by
  have hv := h.vb
  unfold validB validNetB validPortsB validQuotaB at hv
  simp only [Bool.and_eq_true, decide_eq_true_eq, Bool.not_eq_true'] at hv
  obtain ⟨⟨⟨⟨⟨a1, a2, a3, a4, a5, a6⟩, a7⟩, a8⟩, b1, b2, b3, b4⟩, c1, c2, c3⟩ := hv
  exact ⟨a1, a2, a3, a4, a5, a6, a7, a8, b1, b2, b3, b4, c1, c2, c3⟩
theorem Good.okb {s : BX} (h : Good s) : OKB s := by
  have c := h.cfg
  exact ⟨c.n1, by have := c.n2; omega, by have := c.o1; omega, by have := c.o2; omega, by have := c.l1; omega, c.l2, by have := c.l3; omega, h.t0, by have := h.t1; omega, by have := h.n10; omega, fun x hx => ⟨(h.so x hx).a0, (h.so x hx).a1⟩⟩
theorem Good.okt {s : BX} (h : Good s) : OKT s := fun x hx => by
  have k := h.so x hx
  have c := h.cfg
  exact ⟨⟨k.i0, k.i1⟩, by have := k.p0; have := c.l1; omega, by have := k.p1; have := c.l3; omega⟩
/-- The sessions alone are others. -/
theorem SOK.cfg {s s' : BX} {x : SD} (h : SOK s x) (e1 : s'.ne = s.ne) (e2 : s'.bi = s.bi) (e3 : s'.lo = s.lo) (e4 : s'.hi = s.hi) : SOK s' x :=
  ⟨by rw [e1, e2]; exact h.inn, h.a0, h.a1, h.i0, h.i1, by rw [e3]; exact h.p0, by rw [e4]; exact h.p1, h.f0, h.f1, h.g0, h.g1, h.q⟩
theorem askP_bd {s : BX} (h : Good s) (pr fa fp : Int) (hne : ¬ askP s pr fa fp = 0) : s.lo ≤ askP s pr fa fp ∧ askP s pr fa fp ≤ s.hi := by
  have c := h.cfg
  unfold askP at hne ⊢
  split
  · rename_i h1
    rw [if_pos h1] at hne
    rcases freeI_bd pr s.l (s.hi - s.lo + 1).toNat s.lo with e | e
    · exact absurd e hne
    · have := c.l2; omega
  · rename_i h1
    rcases outerI_mem pr fa fp s.l with e | ⟨y, hy, -, -, -, e⟩
    · exact absurd e h1
    · rw [e]; exact ⟨(h.so y hy).p0, (h.so y hy).p1⟩
theorem askW_free {s : BX} {pr fa fp ta tp fg : Int} (h : hasS pr fa fp ta tp s.l = false) (h2 : askW s pr fa fp ta tp fg = 0) : ¬ askP s pr fa fp = 0 := by
  unfold askW at h2
  rw [if_neg (by simp [h])] at h2
  split at h2
  · omega
  split at h2
  · omega
  split at h2
  · omega
  · assumption
theorem Good.route {s : BX} (h : Good s) {side pr fa fp ta tp : Int} {m : ByteArray} (hp : pr = 1 ∨ pr = 6 ∨ pr = 17) (hm : side = 0 → innerB s.ne s.bi fa = true) (f0 : 0 ≤ fa) (f1 : fa ≤ 4294967295) (t0 : 0 ≤ ta) (t1 : ta ≤ 4294967295) (g0 : 0 ≤ fp) (g1 : fp ≤ 65535) (u0 : 0 ≤ tp) (u1 : tp ≤ 65535) :
    Good { s with l := routeL s side pr fa fp ta tp m } := by
  refine ⟨h.vb, h.t0, h.t1, routeL_len h.n10, fun x hx => ?_, h.w4, fun d hd => ⟨(h.dok d hd).n6, (h.dok d hd).pk, (h.dok d hd).sd, (h.dok d hd).may⟩, h.qa, h.qs⟩
  refine SOK.cfg (s := s) ?_ rfl rfl rfl rfl
  rcases routeL_mem hx with ⟨y, hy, hk⟩ | ⟨hs, hh, ha, hk⟩
  · exact (h.so y hy).same hk
  · have hb := askP_bd h pr fa fp (askW_free hh ha)
    refine SOK.same (y := freshS pr fa fp ta tp (askP s pr fa fp)) ?_ hk
    exact ⟨hm hs, f0, f1, g0, g1, hb.1, hb.2, t0, t1, u0, u1, hp⟩
end Go.Proofs.YtfkjobiapjhacabGreat
