/- Contracts of package pieces: Take. Own work. -/
import Derived.Test.YtfkjobiapjhacabGreatP4
namespace Go.Proofs.YtfkjobiapjhacabGreat
open Go.RowKit
attribute [local go_sem ↓] Go.wp_at_zero Go.wp_at_succ

theorem GMid.of_l {w W : World} {b : Nat} {v : Value} {s : BX} {bs : List (Nat × Array Value × TypeId)} (h : BoxAt w b v s) (hm : LMid w W bs) : GMid w W b v v s bs :=
  ⟨h.call hm.bl, Chg.of_below hm.bl, h.lt, fun p hp => ⟨(hm.bk p hp).1, (hm.bk p hp).2, fun e => by have := (h.own.lt _ e).2; have := (hm.bk p hp).2; omega⟩, hm.ord⟩
theorem arr8 (a0 a1 a2 a3 a4 a5 a6 a7 v0 v1 v2 v3 v4 v5 v6 v7 : Value) : ((((((((#[a0, a1, a2, a3, a4, a5, a6, a7] : Array Value).setIfInBounds 0 v0).setIfInBounds 1 v1).setIfInBounds 2 v2).setIfInBounds 3 v3).setIfInBounds 4 v4).setIfInBounds 5 v5).setIfInBounds 6 v6).setIfInBounds 7 v7 = #[v0, v1, v2, v3, v4, v5, v6, v7] := by simp only [List.setIfInBounds_toArray, List.set_cons_zero, List.set_cons_succ]
theorem LMid.set8 {w W : World} {post : List (Nat × Array Value × TypeId)} {k : Nat} {t : TypeId} {a0 a1 a2 a3 a4 a5 a6 a7 : Value} (h : LMid w W ((k, #[a0, a1, a2, a3, a4, a5, a6, a7], t) :: post)) (v0 v1 v2 v3 v4 v5 v6 v7 : Value) : LMid w ((((((((W.setCell ⟨k, 0, none⟩ v0).setCell ⟨k, 1, none⟩ v1).setCell ⟨k, 2, none⟩ v2).setCell ⟨k, 3, none⟩ v3).setCell ⟨k, 4, none⟩ v4).setCell ⟨k, 5, none⟩ v5).setCell ⟨k, 6, none⟩ v6).setCell ⟨k, 7, none⟩ v7) ((k, #[v0, v1, v2, v3, v4, v5, v6, v7], t) :: post) := by
  have h8 := (((((((h.set0 0 v0).set0 1 v1).set0 2 v2).set0 3 v3).set0 4 v4).set0 5 v5).set0 6 v6).set0 7 v7
  rw [arr8] at h8
  exact h8
theorem nmB_name (side : Int) (p : KP) : nmB (freshD side p false 0) = nameB side p := rfl
theorem nmB_fresh (side : Int) (p : KP) (g : Bool) (t : Int) : nmB (freshD side p g t) = nameB side p := rfl
theorem found_mem (x : PD) (wl : List PD) : foundN x wl = pd0 ∨ foundN x wl ∈ wl ∧ nmB x (foundN x wl) = true := by
  unfold foundN
  cases h : wl.find? (nmB x) with
  | none => exact Or.inl rfl
  | some d => exact Or.inr ⟨List.mem_of_find?_eq_some h, List.find?_some h⟩
theorem foundP_eq (side : Int) (p : KP) (wl : List PD) : foundP wl side p = foundN (freshD side p false 0) wl := rfl
theorem found_ok (side : Int) (p : KP) (wl : List PD) (h : WlOK wl) : (foundP wl side p).held.length ≤ 1000 ∧ ∀ q ∈ (foundP wl side p).held, q.b.size ≤ 1000 := by
  rw [foundP_eq]
  rcases found_mem (freshD side p false 0) wl with e | ⟨e, -⟩
  · rw [e]; simp [pd0]
  · exact h _ e
theorem withP_mem (held : List KP) (p q : KP) (h : q ∈ withP held p) : q = p ∨ q ∈ held := layL_mem befK p held q h
theorem layL_len {α : Type} (bef : α → α → Bool) (n : α) (l : List α) : (layL bef n l).length = l.length + 1 := by
  have key : ∀ (t : List α) (a : List α × Bool), ((t.foldl (layStep bef n) a).2 = true ∧ (t.foldl (layStep bef n) a).1.length = a.1.length + t.length + (if a.2 = true then 0 else 1)) ∨ ((t.foldl (layStep bef n) a).2 = false ∧ a.2 = false ∧ (t.foldl (layStep bef n) a).1.length = a.1.length + t.length) := by
    intro t
    induction t with
    | nil =>
      intro a
      cases h : a.2
      · right; exact ⟨h, rfl, rfl⟩
      · left; exact ⟨h, rfl⟩
    | cons s r ih =>
      intro a
      rw [List.foldl_cons]
      have h1 := ih (layStep bef n a s)
      cases h : a.2
      · by_cases hb : bef n s = true
        · have e : layStep bef n a s = (a.1 ++ [n] ++ [s], true) := by unfold layStep; rw [if_pos ⟨h, hb⟩]
          rw [e] at h1 ⊢
          rcases h1 with ⟨h2, h3⟩ | ⟨-, h3, -⟩
          · left; refine ⟨h2, ?_⟩; rw [h3]; simp; omega
          · simp at h3
        · have e : layStep bef n a s = (a.1 ++ [s], false) := by unfold layStep; rw [if_neg (fun x => hb x.2), h]
          rw [e] at h1 ⊢
          rcases h1 with ⟨h2, h3⟩ | ⟨h2, -, h3⟩
          · left; refine ⟨h2, ?_⟩; rw [h3]; simp; omega
          · right; refine ⟨h2, rfl, ?_⟩; rw [h3]; simp; omega
      · have e : layStep bef n a s = (a.1 ++ [s], true) := by unfold layStep; rw [if_neg (fun x => by rw [h] at x; simp at x), h]
        rw [e] at h1 ⊢
        rcases h1 with ⟨h2, h3⟩ | ⟨-, h3, -⟩
        · left; refine ⟨h2, ?_⟩; rw [h3]; simp; omega
        · simp at h3
  have h := key l ([], false)
  have e : layTo bef n l l.length = l.foldl (layStep bef n) ([], false) := by unfold layTo; rw [List.take_length]
  unfold layL
  rw [e]
  rcases h with ⟨h1, h2⟩ | ⟨h1, -, h2⟩
  · rw [if_pos h1, h2]; simp
  · rw [if_neg (by simp [h1]), List.length_append, h2]; simp
set_option maxRecDepth 100000 in
set_option maxHeartbeats 2000000 in
theorem Take_any {w : World} {b : Nat} {v : Value} {s : BX} (h : BoxAt w b v s) (side : Int) (p : KP) (hp : p.b.size ≤ 1000) (hn : s.wl.length ≤ 900) (hw : WlOK s.wl) (hl9 : ∀ d ∈ s.wl, d.held.length ≤ 900) (ht0 : 0 ≤ s.tm) (ht1 : s.tm ≤ 1000000000000000) :
    Calls Tryz.prog 50 #[.pointer (some ⟨b, 27, none⟩), .int .i64 side, .agg #[.string p.h, .int .i64 p.sr, .int .i64 p.ds, .int .i64 p.pr, .string p.b], .agg #[.int .i64 s.ou, .int .i64 s.ne, .int .i64 s.bi, .int .i64 s.lo, .int .i64 s.hi, .int .i64 s.ps, .int .i64 s.gl], .int .i64 s.tm] w
      fun e w' => ∃ pv, e = .returned (.tuple #[.int .i64 (takeP s.wl side p s.ps s.gl s.tm).what, pv]) ∧ KsAt w' pv (takeP s.wl side p s.ps s.gl s.tm).pk ∧ BoxAt w' b v { s with wl := (takeP s.wl side p s.ps s.gl s.tm).wl } ∧ Chg b v w w' v := by
  obtain ⟨hfn, hfb⟩ := found_ok side p s.wl hw
  have hf9 : (foundP s.wl side p).held.length ≤ 900 := by
    rw [foundP_eq]
    rcases found_mem (freshD side p false 0) s.wl with e | ⟨e, -⟩
    · rw [e]; simp [pd0]
    · exact hl9 _ e
  obtain ⟨nu, hnu⟩ : ∃ nu, nu = wordAt p.h 4 := ⟨_, rfl⟩
  have HNM : Hid (∀ W, Calls Tryz.prog 63 #[.int .i64 side, .agg #[.string p.h, .int .i64 p.sr, .int .i64 p.ds, .int .i64 p.pr, .string p.b]] W fun e w' => e = .returned (.agg #[.int .i64 side, .int .i64 p.sr, .int .i64 p.ds, .int .i64 p.pr, .int .i64 nu]) ∧ Below W.heap.size W w') := fun W => by rw [hnu]; exact nameOf_any side p W
  obtain ⟨d, hd⟩ : ∃ d, d = foundP s.wl side p := ⟨_, rfl⟩
  have HFI : Hid (∀ W, Below w.heap.size w W → Calls Tryz.prog 64 #[.pointer (some ⟨b, 27, none⟩), .agg #[.int .i64 side, .int .i64 p.sr, .int .i64 p.ds, .int .i64 p.pr, .int .i64 nu]] W fun e w' => ∃ hv, e = .returned (.agg #[.int .i64 d.sd, .int .i64 d.sr, .int .i64 d.ds, .int .i64 d.pr, .int .i64 d.nu, .bool d.gu, .int .i64 d.dl, hv]) ∧ KsAt w' hv d.held ∧ Below W.heap.size W w') := fun W hW => by
    have hB := h.call hW
    obtain ⟨wv, hc, rl, e, hpp⟩ := hB.wait
    rw [hnu]
    refine (Pfind_any b 27 wv rl (freshD side p false 0) W hc hpp (by have := congrArg List.length e; simp at this; omega) d (by rw [e, hd]; rfl)).mono ?_
    exact fun e w' he => he
  have HFA : Hid (∀ W hv, Below w.heap.size w W → KsAt W hv d.held → Calls Tryz.prog 65 #[.pointer (some ⟨b, 27, none⟩), .agg #[.int .i64 d.sd, .int .i64 d.sr, .int .i64 d.ds, .int .i64 d.pr, .int .i64 d.nu, .bool d.gu, .int .i64 d.dl, hv], .agg #[.string p.h, .int .i64 p.sr, .int .i64 p.ds, .int .i64 p.pr, .string p.b], .agg #[.int .i64 s.ou, .int .i64 s.ne, .int .i64 s.bi, .int .i64 s.lo, .int .i64 s.hi, .int .i64 s.ps, .int .i64 s.gl]] W fun e w' => e = .returned (.int .i64 (faultP s.wl d p s.ps s.gl)) ∧ Below W.heap.size W w') := fun W hv hW hk => by
    have hB := h.call hW
    obtain ⟨wv, hc, rl, e, hpp⟩ := hB.wait
    have := Pfault_any b 27 wv rl d hv p s.ou s.ne s.bi s.lo s.hi s.ps s.gl W hc hpp (by have := congrArg List.length e; simp at this; omega) (HeldOK.of hw e) hk (by rw [hd]; exact hfn) (by rw [hd]; exact hfb) hp
    rw [e] at this
    exact this
  have HDR : Hid (∀ W (s' : BX), BoxAt W b v s' → s'.wl.length ≤ 1000 → Calls Tryz.prog 66 #[.pointer (some ⟨b, 27, none⟩), .agg #[.int .i64 side, .int .i64 p.sr, .int .i64 p.ds, .int .i64 p.pr, .int .i64 nu]] W fun e w' => e = .returned (.tuple #[]) ∧ BoxAt w' b v { s' with wl := dropP s'.wl side p } ∧ Chg b v W w' v) := fun W s' hB hs' => by rw [hnu]; exact wDrop hB hs' (freshD side p false 0)
  have HLA : Hid (∀ W (s' : BX) (f : PD) (hv : Value), BoxAt W b v s' → s'.wl.length ≤ 1000 → KsAt W hv f.held → Calls Tryz.prog 67 #[.pointer (some ⟨b, 27, none⟩), .agg #[.int .i64 f.sd, .int .i64 f.sr, .int .i64 f.ds, .int .i64 f.pr, .int .i64 f.nu, .bool f.gu, .int .i64 f.dl, hv]] W fun e w' => e = .returned (.tuple #[]) ∧ BoxAt w' b v { s' with wl := layL befP f s'.wl } ∧ Chg b v W w' v) := fun W s' f hv hB hs' hk => wLay hB hs' f hv hk
  have HWI : Hid (∀ W (d : PD) hv, KsAt W hv d.held → d.held.length ≤ 1000 → Calls Tryz.prog 68 #[.agg #[.int .i64 d.sd, .int .i64 d.sr, .int .i64 d.ds, .int .i64 d.pr, .int .i64 d.nu, .bool d.gu, .int .i64 d.dl, hv], .agg #[.string p.h, .int .i64 p.sr, .int .i64 p.ds, .int .i64 p.pr, .string p.b]] W fun e w' => ∃ hv', e = .returned (.agg #[.int .i64 d.sd, .int .i64 d.sr, .int .i64 d.ds, .int .i64 d.pr, .int .i64 d.nu, .bool d.gu, .int .i64 d.dl, hv']) ∧ KsAt w' hv' (withP d.held p) ∧ Below W.heap.size W w') := fun W d hv hk hdn => with_any d hv p W hk hdn
  have HWH : Hid (∀ W (f : PD) hv, KsAt W hv f.held → f.held.length ≤ 1000 → (∀ q ∈ f.held, q.b.size ≤ 1000) → Calls Tryz.prog 69 #[.agg #[.int .i64 f.sd, .int .i64 f.sr, .int .i64 f.ds, .int .i64 f.pr, .int .i64 f.nu, .bool f.gu, .int .i64 f.dl, hv]] W fun e w' => e = .returned (.bool (wholeB f.held)) ∧ Below W.heap.size W w') := fun W f hv hk h1 h2 => whole_any f hv W hk h1 h2
  have hdl : (dropP s.wl side p).length ≤ 1000 := Nat.le_trans (List.length_filter_le _ _) (by omega)
  have ht2 : s.tm + 6 ≤ 9223372036854775807 := by omega
  obtain ⟨TK, hTK⟩ : ∃ TK, TK = takeP s.wl side p s.ps s.gl s.tm := ⟨_, rfl⟩
  rw [← hTK]
  unfold takeP growD at hTK
  rw [← hd] at hTK hfb hf9 hfn
  obtain ⟨FA, hFA⟩ : ∃ FA, FA = faultP s.wl d p s.ps s.gl := ⟨_, rfl⟩
  rw [← hFA] at hTK HFA
  have HB0 : Hid (BoxAt w b v s) := h
  have HT : Hid (TK = _) := hTK
  have HNU : Hid (wordAt p.h 4 = nu) := hnu.symm
  clear hTK hd hFA h hnu
  have hM1 : LMid w ((w.alloc (.cells #[.string p.h, .int .i64 p.sr, .int .i64 p.ds, .int .i64 p.pr, .string p.b] 83)).alloc (.cells #[.int .i64 s.ou, .int .i64 s.ne, .int .i64 s.bi, .int .i64 s.lo, .int .i64 s.hi, .int .i64 s.ps, .int .i64 s.gl] 65)) [(w.heap.size + 1, #[.int .i64 s.ou, .int .i64 s.ne, .int .i64 s.bi, .int .i64 s.lo, .int .i64 s.hi, .int .i64 s.ps, .int .i64 s.gl], 65), (w.heap.size, #[.string p.h, .int .i64 p.sr, .int .i64 p.ds, .int .i64 p.pr, .string p.b], 83)] := ((LMid.start w).alloc' _ _ _ rfl).alloc' _ _ _ (by simp)
  have hM : Hid _ := hM1
  clear hM1
  go_enter Tryz.func50, Tryz.ntmps50
  go_wp2_with fail
  refine (HNM.out _).mono ?_
  rintro e w1 ⟨rfl, hb1⟩
  have hM1 := (hM.out.call hb1).alloc' #[.int .i64 side, .int .i64 p.sr, .int .i64 p.ds, .int .i64 p.pr, .int .i64 nu] 92 w1.heap.size rfl
  clear hM hb1
  obtain ⟨⟨x0, x1, x2, x3, x4⟩, xf⟩ := c5 hM1.at0; obtain ⟨⟨c0, c1, c2, c3, c4, c5', c6'⟩, cf⟩ := c7 hM1.at1; obtain ⟨⟨p0, p1, p2, p3, p4⟩, pf⟩ := c5 hM1.at2; have m0 := lt_of_block hM1.at0; have m1 := lt_of_block hM1.at1; have m2 := lt_of_block hM1.at2
  have hM : Hid _ := hM1
  clear hM1
  go_wp2_with fail
  refine (HFI.out _ hM.out.bl).mono ?_
  rintro e w2 ⟨hv, rfl, hks, hb2⟩
  have n12 := lt_of_block (hM.out.call hb2).at0
  have HKS : Hid (KsAt w2 hv d.held) := hks
  obtain ⟨hao, hcp, hhv⟩ := hks.shape
  obtain ⟨hln, hhl⟩ : ∃ n, n = d.held.length := ⟨_, rfl⟩
  rw [← hhl] at hhv
  have HHL : Hid (hln = d.held.length) := hhl
  have hM1 := (hM.out.call hb2).alloc' #[.int .i64 d.sd, .int .i64 d.sr, .int .i64 d.ds, .int .i64 d.pr, .int .i64 d.nu, .bool d.gu, .int .i64 d.dl, hv] 94 w2.heap.size rfl
  clear hM hb2 hks hhl
  clear x0 x1 x2 x3 x4 xf c0 c1 c2 c3 c4 c5' c6' cf p0 p1 p2 p3 p4 pf m0 m1 m2
  subst hhv
  obtain ⟨⟨d0, d1, d2, d3, d4, d5, d6, d7⟩, df⟩ := c8h hM1.at0; obtain ⟨⟨x0, x1, x2, x3, x4⟩, xf⟩ := c5 hM1.at1; obtain ⟨⟨c0, c1, c2, c3, c4, c5', c6'⟩, cf⟩ := c7 hM1.at2; obtain ⟨⟨p0, p1, p2, p3, p4⟩, pf⟩ := c5 hM1.at3; have m0 := lt_of_block hM1.at0; have m1 := lt_of_block hM1.at1; have m2 := lt_of_block hM1.at2; have m3 := lt_of_block hM1.at3
  have hM : Hid _ := hM1
  clear hM1
  go_wp2_with fail
  refine (HFA.out _ _ hM.out.bl (LsAt.keep HKS.out ((Below.refl _ _).alloc (Nat.le_refl _) _))).mono ?_
  rintro e w3 ⟨rfl, hb3⟩
  have hM1 := hM.out.call hb3
  have hks3 := LsAt.keep (LsAt.keep HKS.out ((Below.refl _ _).alloc (Nat.le_refl _) (.cells #[.int .i64 d.sd, .int .i64 d.sr, .int .i64 d.ds, .int .i64 d.pr, .int .i64 d.nu, .bool d.gu, .int .i64 d.dl, .slice hao hln hcp] 94))) hb3
  clear hM hb3 HKS
  have HKS : Hid (KsAt w3 (.slice hao hln hcp) d.held) := hks3
  clear hks3
  clear d0 d1 d2 d3 d4 d5 d6 d7 df m3; clear x0 x1 x2 x3 x4 xf c0 c1 c2 c3 c4 c5' c6' cf p0 p1 p2 p3 p4 pf m0 m1 m2
  obtain ⟨⟨d0, d1, d2, d3, d4, d5, d6, d7⟩, df⟩ := c8h hM1.at0; obtain ⟨⟨x0, x1, x2, x3, x4⟩, xf⟩ := c5 hM1.at1; obtain ⟨⟨c0, c1, c2, c3, c4, c5', c6'⟩, cf⟩ := c7 hM1.at2; obtain ⟨⟨p0, p1, p2, p3, p4⟩, pf⟩ := c5 hM1.at3; have m0 := lt_of_block hM1.at0; have m1 := lt_of_block hM1.at1; have m2 := lt_of_block hM1.at2; have m3 := lt_of_block hM1.at3
  have hM : Hid _ := hM1
  clear hM1
  by_cases hfa9 : FA = 9
  · subst hfa9
    have hT2 : TK = ⟨9, [], layL befP ⟨side, p.sr, p.ds, p.pr, nu, true, s.tm + 6, []⟩ (dropP s.wl side p)⟩ := by
      rw [HT.out, if_pos rfl]; unfold freshD; rw [HNU.out]
    clear HT
    subst hT2
    have hG : Hid _ := GMid.of_l HB0.out hM.out
    clear hM
    go_wp2_with fail
    refine (HDR.out _ s hG.out.box (by omega)).mono ?_
    rintro e w4 ⟨rfl, hbx, hch⟩
    have hG1 := hG.out.change hbx hch
    clear hG hbx hch
    clear d0 d1 d2 d3 d4 d5 d6 d7 df m3; clear x0 x1 x2 x3 x4 xf c0 c1 c2 c3 c4 c5' c6' cf p0 p1 p2 p3 p4 pf m0 m1 m2
    obtain ⟨⟨x0, x1, x2, x3, x4⟩, xf⟩ := c5 hG1.at1
    have m0 := lt_of_block hG1.at1
    have hG : Hid _ := hG1
    clear hG1
    go_wp2_with fail
    refine (HLA.out _ { s with wl := dropP s.wl side p } ⟨side, p.sr, p.ds, p.pr, nu, true, s.tm + 6, []⟩ (.slice none 0 0) hG.out.box hdl LsAt.nil).mono ?_
    rintro e w5 ⟨rfl, hbx, hch⟩
    have hG1 := hG.out.change hbx hch
    clear hG hbx hch
    have hG : Hid _ := hG1
    clear hG1
    go_wp2_with fail
    go_ret2
    exact ⟨_, rfl, LsAt.nil, hG.out.box, hG.out.chg⟩
  · by_cases hfa0 : FA = 0
    · subst hfa0
      clear hfa9
      have hT2 : TK = if wholeB (withP d.held p) = true then ⟨0, withP d.held p, dropP s.wl side p⟩ else ⟨1, [], layL befP { (if d.held.length = 0 then (⟨side, p.sr, p.ds, p.pr, nu, false, s.tm + 6, []⟩ : PD) else d) with held := withP d.held p } (dropP s.wl side p)⟩ := by
        rw [HT.out, if_neg (by omega), if_neg (by simp)]; unfold freshD; rw [HNU.out]
      obtain ⟨e, he⟩ : ∃ e, e = (if d.held.length = 0 then (⟨side, p.sr, p.ds, p.pr, nu, false, s.tm + 6, []⟩ : PD) else d) := ⟨_, rfl⟩
      have heh : e.held = d.held := by
        rw [he]
        split
        · rename_i h0; exact (List.eq_nil_of_length_eq_zero h0).symm
        · rfl
      rw [← he] at hT2
      have HT2 : Hid (TK = _) := hT2
      clear hT2 HT
      have HEE : Hid (e = if d.held.length = 0 then (⟨side, p.sr, p.ds, p.pr, nu, false, s.tm + 6, []⟩ : PD) else d) := he
      have HEH : Hid (e.held = d.held) := heh
      clear he heh
      go_upto_if 43 with fail
      go_cut [] (fun wx => ∃ hv', KsAt wx hv' d.held ∧ LMid w wx [(w2.heap.size, #[.int .i64 e.sd, .int .i64 e.sr, .int .i64 e.ds, .int .i64 e.pr, .int .i64 e.nu, .bool e.gu, .int .i64 e.dl, hv'], 94), (w1.heap.size, #[.int .i64 side, .int .i64 p.sr, .int .i64 p.ds, .int .i64 p.pr, .int .i64 nu], 92), (w.heap.size + 1, #[.int .i64 s.ou, .int .i64 s.ne, .int .i64 s.bi, .int .i64 s.lo, .int .i64 s.hi, .int .i64 s.ps, .int .i64 s.gl], 65), (w.heap.size, #[.string p.h, .int .i64 p.sr, .int .i64 p.ds, .int .i64 p.pr, .string p.b], 83)])
      case first =>
        by_cases hl0 : hln = 0
        · have hl0' : ((hln : Int) == 0) = true := by simp [hl0]
          have hnil : d.held = [] := List.eq_nil_of_length_eq_zero (by rw [← HHL.out]; exact hl0)
          have hee : e = ⟨side, p.sr, p.ds, p.pr, nu, false, s.tm + 6, []⟩ := by rw [HEE.out, hnil]; rfl
          have HNIL : Hid (d.held = []) := hnil
          clear HEE HEH HT2 hnil hl0
          subst hee
          go_wp2_with fail
          go_meet
          exact ⟨.slice none 0 0, by rw [HNIL.out]; exact LsAt.nil, hM.out.set8 _ _ _ _ _ _ _ _⟩
        · have hl0' : ((hln : Int) == 0) = false := by simp [hl0]
          have hee : e = d := by rw [HEE.out, if_neg (by rw [← HHL.out]; exact hl0)]
          clear HEE HEH HT2 hl0
          subst hee
          go_wp2_with fail
          go_meet
          exact ⟨_, HKS.out, hM.out⟩
      case rest =>
        obtain ⟨hv', hks', hM1⟩ := hcut
        clear hM HKS
        clear d0 d1 d2 d3 d4 d5 d6 d7 df m3; clear x0 x1 x2 x3 x4 xf c0 c1 c2 c3 c4 c5' c6' cf p0 p1 p2 p3 p4 pf m0 m1 m2
        obtain ⟨hao', hcp', hhv'⟩ := hks'.shape
        subst hhv'
        obtain ⟨⟨d0, d1, d2, d3, d4, d5, d6, d7⟩, df⟩ := c8h hM1.at0; obtain ⟨⟨x0, x1, x2, x3, x4⟩, xf⟩ := c5 hM1.at1; obtain ⟨⟨c0, c1, c2, c3, c4, c5', c6'⟩, cf⟩ := c7 hM1.at2; obtain ⟨⟨p0, p1, p2, p3, p4⟩, pf⟩ := c5 hM1.at3; have m0 := lt_of_block hM1.at0; have m1 := lt_of_block hM1.at1; have m2 := lt_of_block hM1.at2; have m3 := lt_of_block hM1.at3
        have hM : Hid _ := hM1
        have HKS : Hid (KsAt wc (.slice hao' d.held.length hcp') e.held) := by show KsAt _ _ _; rw [HEH.out]; exact hks'
        clear hM1 hks'
        have HDN : Hid (d.held.length ≤ 1000) := hfn
        generalize hdl' : d.held.length = hl' at hM HKS d7 ⊢
        clear hdl'
        go_upto_region 11 with fail
        go_cut [] (fun wx => ∃ hv2, KsAt wx hv2 (withP d.held p) ∧ LMid w wx [(w2.heap.size, #[.int .i64 e.sd, .int .i64 e.sr, .int .i64 e.ds, .int .i64 e.pr, .int .i64 e.nu, .bool e.gu, .int .i64 e.dl, hv2], 94), (w1.heap.size, #[.int .i64 side, .int .i64 p.sr, .int .i64 p.ds, .int .i64 p.pr, .int .i64 nu], 92), (w.heap.size + 1, #[.int .i64 s.ou, .int .i64 s.ne, .int .i64 s.bi, .int .i64 s.lo, .int .i64 s.hi, .int .i64 s.ps, .int .i64 s.gl], 65), (w.heap.size, #[.string p.h, .int .i64 p.sr, .int .i64 p.ds, .int .i64 p.pr, .string p.b], 83)])
        case first =>
          go_wp2_with fail
          refine (HWI.out _ e _ HKS.out (by rw [HEH.out]; have := HDN.out; omega)).mono ?_
          rintro e' w4 ⟨hv2, rfl, hks2, hb4⟩
          rw [HEH.out] at hks2
          have hM1 := hM.out.call hb4
          obtain ⟨hao2, hcp2, hhv2⟩ := hks2.shape
          generalize (withP d.held p).length = rln at hhv2
          subst hhv2
          have HK2 : Hid _ := hks2
          clear hM hb4 hks2 HKS
          clear d0 d1 d2 d3 d4 d5 d6 d7 df m3; clear x0 x1 x2 x3 x4 xf c0 c1 c2 c3 c4 c5' c6' cf p0 p1 p2 p3 p4 pf m0 m1 m2
          obtain ⟨⟨d0, d1, d2, d3, d4, d5, d6, d7⟩, df⟩ := c8h hM1.at0; obtain ⟨⟨x0, x1, x2, x3, x4⟩, xf⟩ := c5 hM1.at1; obtain ⟨⟨c0, c1, c2, c3, c4, c5', c6'⟩, cf⟩ := c7 hM1.at2; obtain ⟨⟨p0, p1, p2, p3, p4⟩, pf⟩ := c5 hM1.at3; have m0 := lt_of_block hM1.at0; have m1 := lt_of_block hM1.at1; have m2 := lt_of_block hM1.at2; have m3 := lt_of_block hM1.at3
          have hM : Hid _ := hM1
          clear hM1
          go_wp2_with fail
          go_meet
          exact ⟨.slice hao2 rln hcp2, LsAt.kept HK2.out (kept8 hM.out.at0 (by decide) _ _ _ _ _ _ _ _), hM.out.set8 _ _ _ _ _ _ _ _⟩
        case rest =>
        obtain ⟨hv2, hks2, hM1⟩ := hcut
        obtain ⟨hao2, hcp2, hhv2⟩ := hks2.shape
        have HL2 : Hid ((withP d.held p).length = d.held.length + 1) := layL_len _ _ _
        obtain ⟨R, hR⟩ : ∃ R, R = withP d.held p := ⟨_, rfl⟩
        rw [← hR] at hks2 hhv2 HL2
        subst hhv2
        generalize hrl : R.length = rln at hks2 HL2 hM1 ⊢
        have HRL : Hid (R.length = rln) := hrl
        have HRB : Hid (∀ q ∈ R, q.b.size ≤ 1000) := fun q hq => by
          rw [hR] at hq
          rcases withP_mem _ _ _ hq with rfl | hq
          · exact hp
          · exact hfb q hq
        have HKR : Hid (KsAt _ (.slice hao2 rln hcp2) R) := hks2
        have hG : Hid _ := GMid.of_l HB0.out hM1
        have HT3 : Hid (TK = if wholeB R = true then ⟨0, R, dropP s.wl side p⟩ else ⟨1, [], layL befP { e with held := R } (dropP s.wl side p)⟩) := by show _ = _; rw [HT2.out, hR]
        clear hM HKS
        clear d0 d1 d2 d3 d4 d5 d6 d7 df m3; clear x0 x1 x2 x3 x4 xf c0 c1 c2 c3 c4 c5' c6' cf p0 p1 p2 p3 p4 pf m0 m1 m2
        obtain ⟨⟨d0, d1, d2, d3, d4, d5, d6, d7⟩, df⟩ := c8h hM1.at0; obtain ⟨⟨x0, x1, x2, x3, x4⟩, xf⟩ := c5 hM1.at1; obtain ⟨⟨c0, c1, c2, c3, c4, c5', c6'⟩, cf⟩ := c7 hM1.at2; obtain ⟨⟨p0, p1, p2, p3, p4⟩, pf⟩ := c5 hM1.at3; have m0 := lt_of_block hM1.at0; have m1 := lt_of_block hM1.at1; have m2 := lt_of_block hM1.at2; have m3 := lt_of_block hM1.at3
        clear hM1 hks2 hR hrl HT2
        go_wp2_with fail
        refine (HDR.out _ s hG.out.box (by omega)).mono ?_
        rintro e' w5 ⟨rfl, hbx, hch⟩
        have hk5 := LsAt.kept HKR.out (hch.keptT (t := 83) hG.out.box (by decide) (by decide))
        have hG1 := hG.out.change hbx hch
        clear hG hbx hch HKR
        clear d0 d1 d2 d3 d4 d5 d6 d7 df m3; clear x0 x1 x2 x3 x4 xf c0 c1 c2 c3 c4 c5' c6' cf p0 p1 p2 p3 p4 pf m0 m1 m2
        have HKR : Hid (KsAt w5 (.slice hao2 rln hcp2) R) := hk5
        obtain ⟨⟨d0, d1, d2, d3, d4, d5, d6, d7⟩, df⟩ := c8h hG1.at0
        have m0 := lt_of_block hG1.at0
        have hG : Hid _ := hG1
        clear hG1 hk5
        go_wp2_with fail
        refine (HWH.out _ { e with held := R } (.slice hao2 rln hcp2) HKR.out (by have := HRL.out; have := HL2.out; have := HDN.out; show R.length ≤ 1000; omega) HRB.out).mono ?_
        rintro e' w6 ⟨rfl, hb6⟩
        have hk6 := LsAt.keep HKR.out hb6
        have hG1 := hG.out.call hb6
        clear hG hb6 HKR d0 d1 d2 d3 d4 d5 d6 d7 df m0
        have HKR : Hid (KsAt w6 (.slice hao2 rln hcp2) R) := hk6
        obtain ⟨⟨d0, d1, d2, d3, d4, d5, d6, d7⟩, df⟩ := c8h hG1.at0
        have m0 := lt_of_block hG1.at0
        have hG : Hid _ := hG1
        clear hG1 hk6
        cases hwb : wholeB R
        · have hT4 : TK = ⟨1, [], layL befP { e with held := R } (dropP s.wl side p)⟩ := by rw [HT3.out, hwb]; rfl
          clear HT3 hwb
          subst hT4
          go_wp2_with fail
          refine (HLA.out _ { s with wl := dropP s.wl side p } { e with held := R } (.slice hao2 rln hcp2) hG.out.box hdl HKR.out).mono ?_
          rintro e' w7 ⟨rfl, hbx, hch⟩
          have hG1 := hG.out.change hbx hch
          clear hG hbx hch
          have hG : Hid _ := hG1
          clear hG1
          go_wp2_with fail
          go_ret2
          exact ⟨_, rfl, LsAt.nil, hG.out.box, hG.out.chg⟩
        · have hT4 : TK = ⟨0, R, dropP s.wl side p⟩ := by rw [HT3.out, hwb]; rfl
          clear HT3 hwb
          subst hT4
          go_wp2_with fail
          go_region
          go_wp2_with fail
          go_ret2
          exact ⟨_, rfl, LsAt.keep HKR.out (Below.refl _ _).drew, hG.out.drew.box, hG.out.drew.chg⟩
    · have c9 : (FA == 9) = false := by simp [hfa9]
      have c0' : (FA != 0) = true := by simp [hfa0]
      have hT2 : TK = ⟨FA, [], s.wl⟩ := by rw [HT.out, if_neg hfa9, if_pos hfa0]
      clear HT hfa9 hfa0
      subst hT2
      go_wp2_with fail
      go_ret2
      exact ⟨_, rfl, LsAt.nil, HB0.out.call hM.out.bl, Chg.of_below hM.out.bl⟩
end Go.Proofs.YtfkjobiapjhacabGreat
