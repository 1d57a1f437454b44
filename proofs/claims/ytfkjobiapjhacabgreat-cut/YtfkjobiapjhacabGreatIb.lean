/- What waits at a box goes on to be as it must. Own work. -/
import Derived.Test.YtfkjobiapjhacabGreatIa
import Derived.Test.YtfkjobiapjhacabGreatGwL
namespace Go.Proofs.YtfkjobiapjhacabGreat
open Go.RowKit

theorem wfold_ok (a b c : Int) (l : List KP) : ∀ acc : WD, ((acc.sr = a ∧ acc.ds = b ∧ acc.pr = c) ∨ l ≠ []) → (∀ q ∈ l, q.sr = a ∧ q.ds = b ∧ q.pr = c) → (l.foldl wStep acc).sr = a ∧ (l.foldl wStep acc).ds = b ∧ (l.foldl wStep acc).pr = c := by
  induction l with
  | nil => intro acc h _; rcases h with h | h; exact h; exact absurd rfl h
  | cons p t ih =>
    intro acc _ hq
    rw [List.foldl_cons]
    exact ih _ (Or.inl (hq p (by simp))) (fun q h => hq q (by simp [h]))
theorem wOf_ok {a b c : Int} {l : List KP} (hne : l ≠ []) (h : ∀ q ∈ l, q.sr = a ∧ q.ds = b ∧ q.pr = c) : (wOf l).sr = a ∧ (wOf l).ds = b ∧ (wOf l).pr = c := wfold_ok a b c l _ (Or.inr hne) h
theorem wfold_size (k : Nat) (l : List KP) : ∀ acc : WD, (∀ q ∈ l, q.b.size ≤ k) → (l.foldl wStep acc).m.size ≤ acc.m.size + k * l.length := by
  induction l with
  | nil => intro acc _; simp
  | cons p t ih =>
    intro acc hq
    rw [List.foldl_cons]
    have h1 := ih (wStep acc p) (fun q h => hq q (by simp [h]))
    have h2 := hq p (by simp)
    have h3 : (wStep acc p).m.size = acc.m.size + p.b.size := by unfold wStep; simp
    rw [List.length_cons, Nat.mul_succ]
    omega
theorem wOf_size {k : Nat} {l : List KP} (h : ∀ q ∈ l, q.b.size ≤ k) : (wOf l).m.size ≤ k * l.length := by
  have := wfold_size k l ⟨0, 0, 0, ⟨#[]⟩⟩ h
  have e0 : (⟨#[]⟩ : ByteArray).size = 0 := rfl
  simp only [e0] at this
  unfold wOf
  omega
theorem costK_nn (p : KP) : 0 ≤ costK p := by unfold costK; omega
theorem costD_nn (l : List KP) : 0 ≤ costD l := by
  induction l with
  | nil => simp [costD]
  | cons p t ih => have := costK_nn p; have e : costD (p :: t) = costK p + costD t := by simp [costD]
                   omega
theorem costD_perm {l l' : List KP} (h : List.Perm l l') : costD l = costD l' := by
  induction h with
  | nil => rfl
  | cons x _ ih => simp only [costD, List.map_cons, List.sum_cons] at ih ⊢; omega
  | swap x y l => simp only [costD, List.map_cons, List.sum_cons]; omega
  | trans _ _ i1 i2 => exact i1.trans i2
theorem heldAll_cons (d : PD) (l : List PD) : heldAll (d :: l) = costD d.held + heldAll l := by simp [heldAll]
theorem heldOf_cons (d : PD) (l : List PD) (src : Int) : heldOf (d :: l) src = (if d.sr = src then costD d.held else 0) + heldOf l src := by simp [heldOf]
theorem heldAll_perm {l l' : List PD} (h : List.Perm l l') : heldAll l = heldAll l' := by
  induction h with
  | nil => rfl
  | cons x _ ih => rw [heldAll_cons, heldAll_cons]; omega
  | swap x y l => simp only [heldAll_cons]; omega
  | trans _ _ i1 i2 => exact i1.trans i2
theorem heldOf_perm {l l' : List PD} (src : Int) (h : List.Perm l l') : heldOf l src = heldOf l' src := by
  induction h with
  | nil => rfl
  | cons x _ ih => rw [heldOf_cons, heldOf_cons]; omega
  | swap x y l => simp only [heldOf_cons]; omega
  | trans _ _ i1 i2 => exact i1.trans i2
theorem held_filter (f : PD → Bool) (l : List PD) (src : Int) : heldAll (l.filter f) ≤ heldAll l ∧ heldOf (l.filter f) src ≤ heldOf l src := by
  induction l with
  | nil => exact ⟨Int.le_refl _, Int.le_refl _⟩
  | cons d t ih =>
    have h0 := costD_nn d.held
    rw [List.filter_cons]
    split
    · rw [heldAll_cons, heldAll_cons, heldOf_cons, heldOf_cons]; omega
    · rw [heldAll_cons, heldOf_cons]; split <;> omega
theorem held_drop (f : PD → Bool) (l : List PD) (F : PD) (hF : F ∈ l) (hf : f F = false) : heldAll (l.filter f) + costD F.held ≤ heldAll l ∧ heldOf (l.filter f) F.sr + costD F.held ≤ heldOf l F.sr := by
  induction l with
  | nil => simp at hF
  | cons d t ih =>
    have h0 := costD_nn d.held
    rw [List.filter_cons]
    by_cases e : F = d
    · subst e
      rw [if_neg (by simp [hf]), heldAll_cons, heldOf_cons, if_pos rfl]
      have := held_filter f t F.sr
      omega
    · have := ih (by simpa [e] using hF)
      split
      · rw [heldAll_cons, heldAll_cons, heldOf_cons, heldOf_cons]; split <;> omega
      · rw [heldAll_cons, heldOf_cons]; split <;> omega
/-- What is held of a piece's datagram. -/
theorem found_good {s : BX} (h : Good s) (side : Int) (p : KP) :
    (foundP s.wl side p).held.length ≤ 6 ∧ (∀ q ∈ (foundP s.wl side p).held, PKok q ∧ pieceB q.h = true ∧ q.sr = p.sr ∧ q.ds = p.ds ∧ q.pr = p.pr ∧ wordAt q.h 4 = wordAt p.h 4)
    ∧ ((foundP s.wl side p = pd0) ∨ (foundP s.wl side p ∈ s.wl ∧ nameB side p (foundP s.wl side p) = true ∧ (foundP s.wl side p).sr = p.sr)) := by
  rw [foundP_eq]
  rcases found_mem (freshD side p false 0) s.wl with e | ⟨e, e2⟩
  · rw [e]; exact ⟨by simp [pd0], by simp [pd0], Or.inl rfl⟩
  · have hd := h.dok _ e
    have e3 : nameB side p (foundN (freshD side p false 0) s.wl) = true := e2
    generalize foundN (freshD side p false 0) s.wl = F at e e3 hd ⊢
    unfold nameB at e3
    simp only [Bool.and_eq_true, beq_iff_eq] at e3
    obtain ⟨⟨⟨⟨k1, k2⟩, k3⟩, k4⟩, k5⟩ := e3
    refine ⟨hd.n6, fun q hq => ?_, Or.inr ⟨e, by unfold nameB; simp [k1, k2, k3, k4, k5], k2⟩⟩
    obtain ⟨a, b, c1, c2, c3, c4⟩ := hd.pk q hq
    exact ⟨a, b, c1.trans k2, c2.trans k3, c3.trans k4, c4.trans k5⟩
theorem fault_new {wl : List PD} {p : KP} {ps gl : Int} (h : faultP wl pd0 p ps gl = 0 ∨ faultP wl pd0 p ps gl = 9) : wl.length < 4 := by
  unfold faultP at h
  rw [if_neg (by simp [pd0]), if_neg (by simp [pd0, hasP]), if_neg (by simp [pd0, clashB]), if_neg (by simp [pd0])] at h
  split at h
  · omega
  split at h
  · omega
  · rename_i h2
    have : ¬ (4 ≤ wl.length) := fun x => h2 ⟨rfl, x⟩
    omega
theorem fault_room {wl : List PD} {d : PD} {p : KP} {ps gl : Int} (h : faultP wl d p ps gl = 0) : d.gu = false ∧ hasP d.held p = false ∧ clashB d.held p = false ∧ d.held.length < 6 ∧ heldOf wl p.sr + costK p ≤ ps ∧ heldAll wl + costK p ≤ gl ∧ endI p ≤ 65535 := by
  unfold faultP at h
  split at h
  · omega
  split at h
  · omega
  split at h
  · omega
  split at h
  · omega
  split at h
  · omega
  rename_i h1 h2 h3 h4 h5
  split at h
  · omega
  split at h
  · omega
  rename_i h6 h7
  have h5' : muchB wl p ps gl = false := by simpa using h5
  unfold muchB at h5'
  simp only [Bool.or_eq_false_iff, decide_eq_false_iff_not] at h5'
  exact ⟨by simpa using h1, by simpa using h2, by simpa using h3, by omega, by omega, by omega, by omega⟩
theorem drop_len {s : BX} (h : Good s) (side : Int) (p : KP) (hf : faultP s.wl (foundP s.wl side p) p s.ps s.gl = 0 ∨ faultP s.wl (foundP s.wl side p) p s.ps s.gl = 9) : (dropP s.wl side p).length ≤ 3 := by
  obtain ⟨-, -, h3⟩ := found_good h side p
  have h4 := h.w4
  rcases h3 with e | ⟨e1, e2, -⟩
  · rw [e] at hf
    have := fault_new hf
    exact Nat.le_trans (List.length_filter_le _ _) (by omega)
  · have : (dropP s.wl side p).length < s.wl.length := by
      unfold dropP
      refine List.length_filter_lt_length_iff_exists.2 ⟨_, e1, ?_⟩
      rw [e2]; simp
    omega
theorem Good.wlay {s : BX} (h : Good s) (side : Int) (p : KP) (n : PD) (hn : DOK s n) (hl : (dropP s.wl side p).length ≤ 3)
    (ha : heldAll (dropP s.wl side p) + costD n.held ≤ s.gl) (hs : ∀ src, heldOf (dropP s.wl side p) src + (if n.sr = src then costD n.held else 0) ≤ s.ps) : Good { s with wl := layL befP n (dropP s.wl side p) } := by
  have hp := layL_perm befP n (dropP s.wl side p)
  refine ⟨h.vb, h.t0, h.t1, h.n10, fun x hx => SOK.cfg (h.so x hx) rfl rfl rfl rfl, ?_, fun d hd => ?_, ?_, fun src => ?_⟩
  · show (layL befP n (dropP s.wl side p)).length ≤ 4
    rw [hp.length_eq]; simp; omega
  · have hd' : d ∈ n :: dropP s.wl side p := hp.mem_iff.1 hd
    have k : DOK s d := by
      rcases List.mem_cons.1 hd' with e | e
      · rw [e]; exact hn
      · exact h.dok d (List.mem_filter.1 e).1
    exact ⟨k.n6, k.pk, k.sd, k.may⟩
  · show heldAll (layL befP n (dropP s.wl side p)) ≤ s.gl
    rw [heldAll_perm hp, heldAll_cons]; omega
  · show heldOf (layL befP n (dropP s.wl side p)) src ≤ s.ps
    have := hs src
    rw [heldOf_perm src hp, heldOf_cons]; omega
theorem Good.wdrop {s : BX} (h : Good s) (f : PD → Bool) : Good { s with wl := s.wl.filter f } := by
  refine ⟨h.vb, h.t0, h.t1, h.n10, fun x hx => SOK.cfg (h.so x hx) rfl rfl rfl rfl, Nat.le_trans (List.length_filter_le _ _) h.w4, fun d hd => ?_, ?_, fun src => ?_⟩
  · have k := h.dok d (List.mem_filter.1 hd).1
    exact ⟨k.n6, k.pk, k.sd, k.may⟩
  · have := (held_filter f s.wl 0).1; have := h.qa; show heldAll (s.wl.filter f) ≤ s.gl; omega
  · have := (held_filter f s.wl src).2; have := h.qs src; show heldOf (s.wl.filter f) src ≤ s.ps; omega
theorem withP_perm (held : List KP) (p : KP) : List.Perm (withP held p) (p :: held) := layL_perm _ _ _
theorem Good.take {s : BX} (h : Good s) (side : Int) (p : KP) (hside : side = 0 ∨ side = 1) (hp : PKok p) (hpc : pieceB p.h = true) (hm : mayB s side p.sr p.ds = true) :
    Good { s with wl := (takeP s.wl side p s.ps s.gl s.tm).wl } := by
  obtain ⟨f6, fq, fm⟩ := found_good h side p
  have hdl := drop_len h side p
  obtain ⟨F, hF⟩ : ∃ F, F = foundP s.wl side p := ⟨_, rfl⟩
  unfold takeP growD
  rw [← hF] at f6 fq fm hdl ⊢
  obtain ⟨K, hK⟩ : ∃ K, K = faultP s.wl F p s.ps s.gl := ⟨_, rfl⟩
  rw [← hK] at hdl ⊢
  by_cases h9 : K = 9
  · rw [if_pos h9]
    refine h.wlay side p _ ⟨by simp [freshD], by simp [freshD], hside, hm⟩ (hdl (Or.inr h9)) ?_ (fun src => ?_)
    · have := (held_filter (fun d => !nameB side p d) s.wl 0).1; have := h.qa
      have e : costD (freshD side p true (s.tm + 6)).held = 0 := rfl
      unfold dropP; rw [e]; omega
    · have := (held_filter (fun d => !nameB side p d) s.wl src).2; have := h.qs src
      have e : costD (freshD side p true (s.tm + 6)).held = 0 := rfl
      unfold dropP; rw [e]; split <;> omega
  · rw [if_neg h9]
    by_cases h0 : K = 0
    · rw [if_neg (by simp [h0])]
      have hr := fault_room (hK.symm.trans h0)
      by_cases hw : wholeB (withP F.held p) = true
      · rw [if_pos hw]
        exact h.wdrop _
      · rw [if_neg hw]
        have hpw := withP_perm F.held p
        have hc : costD (withP F.held p) = costK p + costD F.held := by rw [costD_perm hpw]; simp [costD]
        have key : heldAll (dropP s.wl side p) + costD F.held ≤ heldAll s.wl ∧ heldOf (dropP s.wl side p) p.sr + costD F.held ≤ heldOf s.wl p.sr := by
          rcases fm with e | ⟨e1, e2, e3⟩
          · have h1 := held_filter (fun d => !nameB side p d) s.wl p.sr
            have e : costD F.held = 0 := by rw [e]; rfl
            unfold dropP; rw [e]; omega
          · have h1 := held_drop (fun d => !nameB side p d) s.wl F e1 (by simp [e2])
            rw [e3] at h1
            exact h1
        have hsr : (if F.held.length = 0 then freshD side p false (s.tm + 6) else F).sr = p.sr := by
          split
          · rfl
          · rename_i hne
            rcases fm with e | ⟨-, -, e3⟩
            · rw [e] at hne; exact absurd rfl hne
            · exact e3
        refine h.wlay side p _ ?_ (hdl (Or.inl h0)) ?_ (fun src => ?_)
        · refine ⟨?_, fun q hq => ?_, ?_, ?_⟩
          · show (withP F.held p).length ≤ 6
            rw [hpw.length_eq]; simp; omega
          · have hq' : q ∈ p :: F.held := hpw.mem_iff.1 hq
            have hn : (if F.held.length = 0 then freshD side p false (s.tm + 6) else F).ds = p.ds ∧ (if F.held.length = 0 then freshD side p false (s.tm + 6) else F).pr = p.pr ∧ (if F.held.length = 0 then freshD side p false (s.tm + 6) else F).nu = wordAt p.h 4 := by
              split
              · exact ⟨rfl, rfl, rfl⟩
              · rename_i hne
                rcases fm with e | ⟨-, e2, -⟩
                · rw [e] at hne; exact absurd rfl hne
                · unfold nameB at e2
                  simp only [Bool.and_eq_true, beq_iff_eq] at e2
                  exact ⟨e2.1.1.2, e2.1.2, e2.2⟩
            show PKok q ∧ pieceB q.h = true ∧ q.sr = (if F.held.length = 0 then freshD side p false (s.tm + 6) else F).sr ∧ q.ds = (if F.held.length = 0 then freshD side p false (s.tm + 6) else F).ds ∧ q.pr = (if F.held.length = 0 then freshD side p false (s.tm + 6) else F).pr ∧ wordAt q.h 4 = (if F.held.length = 0 then freshD side p false (s.tm + 6) else F).nu
            rw [hsr, hn.1, hn.2.1, hn.2.2]
            rcases List.mem_cons.1 hq' with e | e
            · rw [e]; exact ⟨hp, hpc, rfl, rfl, rfl, rfl⟩
            · exact fq q e
          · show (if F.held.length = 0 then freshD side p false (s.tm + 6) else F).sd = 0 ∨ (if F.held.length = 0 then freshD side p false (s.tm + 6) else F).sd = 1
            split
            · exact hside
            · rename_i hne
              rcases fm with e | ⟨e1, -, -⟩
              · rw [e] at hne; exact absurd rfl hne
              · exact (h.dok F e1).sd
          · show mayB s (if F.held.length = 0 then freshD side p false (s.tm + 6) else F).sd (if F.held.length = 0 then freshD side p false (s.tm + 6) else F).sr (if F.held.length = 0 then freshD side p false (s.tm + 6) else F).ds = true
            split
            · exact hm
            · rename_i hne
              rcases fm with e | ⟨e1, -, -⟩
              · rw [e] at hne; exact absurd rfl hne
              · exact (h.dok F e1).may
        · show heldAll (dropP s.wl side p) + costD (withP F.held p) ≤ s.gl
          rw [hc]; omega
        · show heldOf (dropP s.wl side p) src + (if (if F.held.length = 0 then freshD side p false (s.tm + 6) else F).sr = src then costD (withP F.held p) else 0) ≤ s.ps
          rw [hsr]
          split
          · rename_i e
            subst e
            rw [hc]; omega
          · have := (held_filter (fun d => !nameB side p d) s.wl src).2; have := h.qs src
            unfold dropP; omega
    · rw [if_pos h0]
      exact h
theorem take_pk {wl : List PD} {side : Int} {p : KP} {ps gl tm : Int} (h : (takeP wl side p ps gl tm).what = 0) : (takeP wl side p ps gl tm).pk = withP (foundP wl side p).held p ∧ faultP wl (foundP wl side p) p ps gl = 0 ∧ wholeB (withP (foundP wl side p).held p) = true ∧ (takeP wl side p ps gl tm).wl = dropP wl side p := by
  unfold takeP at h ⊢
  split at h
  · exact absurd h (by simp)
  · rename_i h9
    rw [if_neg h9]
    split at h
    · rename_i h0
      exact absurd h h0
    · rename_i h0
      rw [if_neg h0]
      split at h
      · rename_i hw
        rw [if_pos hw]
        exact ⟨rfl, by simpa using h0, hw, rfl⟩
      · exact absurd h (by simp)
theorem PLok_with {s : BX} (h : Good s) (side : Int) (p : KP) (hp : PKok p) (hlt : (foundP s.wl side p).held.length < 6) : PLok (withP (foundP s.wl side p).held p) := by
  obtain ⟨-, fq, -⟩ := found_good h side p
  have hpw := withP_perm (foundP s.wl side p).held p
  generalize (foundP s.wl side p).held = L at hlt fq hpw ⊢
  have hall : ∀ q ∈ withP L p, PKok q ∧ q.sr = p.sr ∧ q.ds = p.ds ∧ q.pr = p.pr := fun q hq => by
    rcases List.mem_cons.1 (hpw.mem_iff.1 hq) with e | e
    · rw [e]; exact ⟨hp, rfl, rfl, rfl⟩
    · have := fq q e; exact ⟨this.1, this.2.2.1, this.2.2.2.1, this.2.2.2.2.1⟩
  have hlen : (withP L p).length = L.length + 1 := by rw [hpw.length_eq]; rfl
  have hne : withP L p ≠ [] := fun e => by rw [e] at hlen; simp at hlen
  obtain ⟨k1, k2, k3⟩ := wOf_ok hne (fun q hq => (hall q hq).2)
  have hsz := wOf_size (k := 140) (l := withP L p) (fun q hq => (hall q hq).1.b1)
  exact ⟨by omega, fun q hq => ⟨(hall q hq).1.h20, by have := (hall q hq).1.b1; omega⟩, by omega, by rw [k3]; exact hp.pr, by rw [k1]; exact hp.s0, by rw [k1]; exact hp.s1, by rw [k2]; exact hp.d0, by rw [k2]; exact hp.d1⟩
theorem Good.wlok {s : BX} (h : Good s) : WlOK s.wl := fun d hd => ⟨by have := (h.dok d hd).n6; omega, fun q hq => by have := ((h.dok d hd).pk q hq).1.b1; omega⟩
theorem TkOK_good {s : BX} (h : Good s) (b : Nat) : TkOK b s := fun side p hp _ => by
  refine ⟨fun h0 => ?_, fun v W hW => ?_⟩
  · obtain ⟨e1, e2, -, -⟩ := take_pk h0
    rw [e1]
    exact PLok_with h side p hp (fault_room e2).2.2.2.1
  · exact Take_any hW side p (by have := hp.b1; omega) (by have := h.w4; omega) h.wlok (fun d hd => by have := (h.dok d hd).n6; omega) h.t0 (by have := h.t1; omega)
theorem TrOK_good {s : BX} (h : Good s) (b : Nat) : TrOK b s := TrOK_all b s h.okb h.okt
theorem TrOK_wl {s : BX} (h : Good s) (b : Nat) (wl : List PD) : TrOK b { s with wl := wl } := by
  have k := h.okb
  exact TrOK_all b _ ⟨k.n0, k.n1, k.o0, k.o1, k.l0, k.l1, k.l2, k.t0, k.t1, k.len, k.ia⟩ h.okt
theorem Receive_good {w : World} {b : Nat} {v : Value} {s : BX} (h : BoxAt w b v s) (hg : Good s) (side : Int) (raw : ByteArray) :
    Calls Tryz.prog 21 #[.pointer (some ⟨b, 0, none⟩), .int .i64 side, .string raw] w fun e w' => ∃ fv, e = .returned (.tuple #[.int .i64 (handG s side raw).what, fv]) ∧ FrsAt w' fv (handG s side raw).frs ∧ ∃ v', BoxAt w' b v' (recvG s (handG s side raw)) ∧ Chg b v w w' v' :=
  Receive_all h hg.okb side raw (fun _ => Or.inr (TrOK_good hg b)) (fun _ => ⟨TkOK_good hg b, TrOK_wl hg b⟩)
/-- What a packet that may be passed on says of itself. -/
theorem raw_ok {raw : ByteArray} (h : rFault raw = 0) (hp : byteAt raw 9 = 1 ∨ byteAt raw 9 = 6 ∨ byteAt raw 9 = 17) : PKok (pkOf raw) := by
  have hsz : 20 < raw.size ∧ raw.size ≤ 160 := by
    unfold rFault at h
    split at h
    · omega
    · omega
  have h0 : (raw.extract 0 20).size = 20 := by rw [ByteArray.size_extract]; omega
  have h1 : (raw.extract 20 raw.size).size = raw.size - 20 := by rw [ByteArray.size_extract]; omega
  refine ⟨h0, ?_, ?_, hp, (addrAt_bd raw 12).1, (addrAt_bd raw 12).2, (addrAt_bd raw 16).1, (addrAt_bd raw 16).2, fun hmo => ?_⟩
  · show 1 ≤ (raw.extract 20 raw.size).size; omega
  · show (raw.extract 20 raw.size).size ≤ 140; omega
  · have hmo' : moreB (raw.extract 0 20) = true := hmo
    show (raw.extract 20 raw.size).size % 8 = 0
    unfold rFault at h
    split at h
    · omega
    · unfold pFault at h
      unfold moreB at hmo'
      split at h
      · omega
      split at h
      · omega
      split at h
      · omega
      split at h
      · omega
      split at h
      · omega
      · rename_i hno
        have : ¬ ((((raw.extract 20 raw.size).size : Nat) : Int) % 8 != 0) = true := fun h => hno ⟨hmo', h⟩
        generalize (raw.extract 20 raw.size).size = z at this ⊢
        simp at this
        omega
theorem Good.pass {s : BX} (h : Good s) (side : Int) (l : List KP) (hl : PLok l) (hm : side = 0 → innerB s.ne s.bi (wOf l).sr = true) : Good { s with l := (passH s side l).l, wl := (passH s side l).wl } := by
  have hpb := portsOf_bd (wOf l).pr (wOf l).m
  have e : (passH s side l).l = passL' s side l ∧ (passH s side l).wl = s.wl := by unfold passH; split <;> exact ⟨rfl, rfl⟩
  rw [e.1, e.2]
  exact h.route hl.pr hm hl.s0 hl.s1 hl.d0 hl.d1 hpb.1.1 hpb.1.2 hpb.2.1 hpb.2.2
theorem mayB_in {s : BX} {side src dst : Int} (h : mayB s side src dst = true) : side = 0 → innerB s.ne s.bi src = true := fun e => by
  unfold mayB at h
  rw [if_pos e] at h
  simp at h
  exact h.1
theorem Good.cs {s : BX} (h : Good s) (cs : List Int) : Good { s with cs := cs } := ⟨h.vb, h.t0, h.t1, h.n10, fun x hx => SOK.cfg (h.so x hx) rfl rfl rfl rfl, h.w4, fun d hd => ⟨(h.dok d hd).n6, (h.dok d hd).pk, (h.dok d hd).sd, (h.dok d hd).may⟩, h.qa, h.qs⟩
theorem Good.hand {s : BX} (h : Good s) (side : Int) (raw : ByteArray) : Good { s with l := (handG s side raw).l, wl := (handG s side raw).wl } := by
  unfold handG
  split
  · exact h
  rename_i hs
  have hside : side = 0 ∨ side = 1 := by omega
  split
  · exact h
  rename_i hr
  split
  · exact h
  rename_i hm
  split
  · exact h
  rename_i hp
  have hr' : rFault raw = 0 := by simpa using hr
  have hm' : mayB s side (addrAt raw 12) (addrAt raw 16) = true := by simpa using hm
  have hp' : byteAt raw 9 = 1 ∨ byteAt raw 9 = 6 ∨ byteAt raw 9 = 17 := by omega
  have hpk := raw_ok hr' hp'
  split
  · rename_i hpc
    have h1 := h.take side (pkOf raw) hside hpk hpc hm'
    unfold tookH
    split
    · rename_i h0
      obtain ⟨e1, e2, -, -⟩ := take_pk h0
      have hlok := PLok_with h side (pkOf raw) hpk (fault_room e2).2.2.2.1
      have h2 := h1.pass side (takeP s.wl side (pkOf raw) s.ps s.gl s.tm).pk (by rw [e1]; exact hlok) (fun e => by
        obtain ⟨-, fq, -⟩ := found_good h side (pkOf raw)
        have hpw := withP_perm (foundP s.wl side (pkOf raw)).held (pkOf raw)
        have hne : withP (foundP s.wl side (pkOf raw)).held (pkOf raw) ≠ [] := fun e => by have := hpw.length_eq; rw [e] at this; simp at this
        rw [e1, (wOf_ok (a := addrAt raw 12) (b := addrAt raw 16) (c := byteAt raw 9) hne (fun q hq => by
          rcases List.mem_cons.1 (hpw.mem_iff.1 hq) with e | e
          · rw [e]; exact ⟨rfl, rfl, rfl⟩
          · have := fq q e; exact ⟨this.2.2.1, this.2.2.2.1, this.2.2.2.2.1⟩)).1]
        exact mayB_in hm' e)
      exact h2
    · exact h1
  · exact h.pass side [pkOf raw] (PLok.one hpk) (mayB_in hm')
theorem Good.recv {s : BX} (h : Good s) (side : Int) (raw : ByteArray) : Good (recvG s (handG s side raw)) := (h.hand side raw).cs _
theorem Good.tick {s : BX} (h : Good s) (n : Int) (h0 : 0 ≤ n) (h1 : s.tm + n ≤ 1000000000000) : Good (tickS s n) := by
  have k := h.wdrop (fun d => decide (s.tm + n < d.dl))
  refine ⟨h.vb, by have := h.t0; show 0 ≤ s.tm + n; omega, h1, Nat.le_trans (List.length_filter_le _ _) h.n10, fun x hx => ?_, k.w4, fun d hd => ?_, k.qa, k.qs⟩
  · exact SOK.cfg (h.so x (List.mem_filter.1 hx).1) rfl rfl rfl rfl
  · have := k.dok d hd
    exact ⟨this.n6, this.pk, this.sd, this.may⟩
theorem Tick_good {w : World} {b : Nat} {v : Value} {s : BX} (h : BoxAt w b v s) (hg : Good s) (n : Int) (h0 : 0 ≤ n) (h1 : n ≤ 1048576) :
    Calls Tryz.prog 33 #[.pointer (some ⟨b, 0, none⟩), .int .i64 n] w fun e w' => e = .returned (.int .i64 0) ∧ ∃ v', BoxAt w' b v' (tickS s n) ∧ Chg b v w w' v' :=
  Tick_any h hg.okb n h0 h1 (by have := hg.w4; omega)
end Go.Proofs.YtfkjobiapjhacabGreat
