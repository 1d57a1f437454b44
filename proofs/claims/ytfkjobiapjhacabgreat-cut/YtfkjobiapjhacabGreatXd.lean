/- Whatever comes in: what goes out, what is counted. Own work. -/
import Derived.Test.YtfkjobiapjhacabGreatXc
import Derived.Test.YtfkjobiapjhacabGreatK4
namespace Go.Proofs.YtfkjobiapjhacabGreat
open Go.RowKit
attribute [local go_sem ↓] Go.wp_at_zero Go.wp_at_succ

/-- What becomes of any packet at a good box. -/
structure HOK (s : BX) (side : Int) (H : HG) : Prop where
  yes : H.what = 0 → H.frs ≠ []
  no : ¬ H.what = 0 → H.frs = []
  fr : ∀ f ∈ H.frs, FrOK s side f.1 f.2
  one : ∀ f, H.frs = [f] → honB (parP f.2) = true
  hd : Hdrs H.wl
  ln : H.frs.length ≤ 1000
theorem HOK.drop (s : BX) (side k : Int) (l : List SD) (wl : List PD) (hk : ¬ k = 0) (hd : Hdrs wl) : HOK s side ⟨k, [], l, wl⟩ :=
  ⟨fun e => absurd e hk, fun _ => rfl, fun f hf => absurd hf (by simp), fun f e => absurd e (by simp), hd, by simp⟩
theorem HOK.cfg {s s' : BX} {side : Int} {H : HG} (h : HOK s side H) (e1 : s'.ne = s.ne) (e2 : s'.bi = s.bi) (e3 : s'.ou = s.ou) : HOK s' side H :=
  ⟨h.yes, h.no, fun f hf => by
    have k := h.fr f hf
    exact ⟨k.z0, k.z1, k.w2, k.b0, k.b8, k.sum, by rw [e1, e2]; exact k.xo, by rw [e1, e2]; exact k.yo, k.sd, by rw [e3]; exact k.ou⟩, h.one, h.hd, h.ln⟩
theorem pass_hok {s : BX} (h : Good s) {side : Int} (hside : side = 0 ∨ side = 1) {l : List KP} (hne : l ≠ []) (hl : PLok l) (hk : ∀ q ∈ l, PKok q) (hh : ∀ q ∈ l, HdrOK q) (hm : mayB s side (wOf l).sr (wOf l).ds = true) (hd : Hdrs s.wl) : HOK s side (passH s side l) := by
  obtain ⟨p1, p2⟩ := pass_frames h hside hne hl hk hh hm
  have hwl : (passH s side l).wl = s.wl := by unfold passH; split <;> rfl
  refine ⟨fun e he => ?_, p2, fun f hf => ?_, fun f hf => ?_, by rw [hwl]; exact hd, ?_⟩
  · have := (p1 e).1
    rw [he] at this
    exact hne (List.eq_nil_of_length_eq_zero this.symm)
  · by_cases e : (passH s side l).what = 0
    · exact (p1 e).2.1 f hf
    · rw [p2 e] at hf; exact absurd hf (by simp)
  · by_cases e : (passH s side l).what = 0
    · have hlen := (p1 e).1
      rw [hf] at hlen
      obtain ⟨p, hp⟩ := List.length_eq_one_iff.1 hlen.symm
      obtain ⟨m, e1, e2⟩ := (p1 e).2.2 p hp
      rw [hf] at e1
      have : f = ((passW s side l).side, onHead p.h (passW s side l).xa (passW s side l).ya ++ m) := by simpa using e1
      rw [this]
      exact e2
    · rw [p2 e] at hf; exact absurd hf (by simp)
  · by_cases e : (passH s side l).what = 0
    · rw [(p1 e).1]; exact hl.n
    · rw [p2 e]; simp
theorem hand_hok {s : BX} (h : Good s) (hd : Hdrs s.wl) (side : Int) (raw : ByteArray) : HOK s side (handG s side raw) := by
  unfold handG
  split
  · exact HOK.drop _ _ _ _ _ (by decide) hd
  rename_i hs
  have hside : side = 0 ∨ side = 1 := by omega
  split
  · rename_i h1
    exact HOK.drop _ _ _ _ _ h1 hd
  rename_i hr
  split
  · exact HOK.drop _ _ _ _ _ (by decide) hd
  rename_i hm
  split
  · exact HOK.drop _ _ _ _ _ (by decide) hd
  rename_i hp
  have hr' : rFault raw = 0 := by simpa using hr
  have hm' : mayB s side (addrAt raw 12) (addrAt raw 16) = true := by simpa using hm
  have hp' : byteAt raw 9 = 1 ∨ byteAt raw 9 = 6 ∨ byteAt raw 9 = 17 := by omega
  have hpk := raw_ok hr' hp'
  have hhd := raw_hdr hr'
  split
  · rename_i hpc
    have h1 := h.take side (pkOf raw) hside hpk hpc hm'
    obtain ⟨t1, t2⟩ := take_held (side := side) (ps := s.ps) (gl := s.gl) (tm := s.tm) (Q := HdrOK) hd hhd
    unfold tookH
    split
    · rename_i h0
      obtain ⟨e1, e2, -, -⟩ := take_pk h0
      have hlok := PLok_with h side (pkOf raw) hpk (fault_room e2).2.2.2.1
      obtain ⟨-, fq, -⟩ := found_good h side (pkOf raw)
      have hpw := withP_perm (foundP s.wl side (pkOf raw)).held (pkOf raw)
      have hne : withP (foundP s.wl side (pkOf raw)).held (pkOf raw) ≠ [] := fun e => by have := hpw.length_eq; rw [e] at this; simp at this
      have hall : ∀ q ∈ withP (foundP s.wl side (pkOf raw)).held (pkOf raw), PKok q ∧ q.sr = addrAt raw 12 ∧ q.ds = addrAt raw 16 ∧ q.pr = byteAt raw 9 := fun q hq => by
        rcases List.mem_cons.1 (hpw.mem_iff.1 hq) with e | e
        · rw [e]; exact ⟨hpk, rfl, rfl, rfl⟩
        · have := fq q e; exact ⟨this.1, this.2.2.1, this.2.2.2.1, this.2.2.2.2.1⟩
      have hw := wOf_ok (a := addrAt raw 12) (b := addrAt raw 16) (c := byteAt raw 9) hne (fun q hq => (hall q hq).2)
      have := pass_hok h1 hside (l := (takeP s.wl side (pkOf raw) s.ps s.gl s.tm).pk) (by rw [e1]; exact hne) (by rw [e1]; exact hlok) (by rw [e1]; exact fun q hq => (hall q hq).1) t2 (by rw [e1, hw.1, hw.2.1]; exact hm') t1
      exact this.cfg rfl rfl rfl
    · rename_i h0
      exact HOK.drop _ _ _ _ _ h0 t1
  · exact pass_hok h hside (by simp) (PLok.one hpk) (fun q hq => by simp at hq; rw [hq]; exact hpk) (fun q hq => by simp at hq; rw [hq]; exact hhd) hm' hd
/-- What has been counted, n in all. -/
structure CsOK (cs : List Int) (n : Int) : Prop where
  ln : cs.length = 18
  bd : ∀ c ∈ cs, 0 ≤ c ∧ c ≤ n
  sm : cs.sum = n
theorem sum_set (l : List Int) (k : Nat) (hk : k < l.length) (v : Int) : (l.set k v).sum = l.sum + v - l[k] := by
  induction l generalizing k with
  | nil => simp at hk
  | cons a t ih =>
    cases k with
    | zero => simp; omega
    | succ k =>
      simp only [List.set_cons_succ, List.sum_cons, List.getElem_cons_succ]
      rw [ih k (by simpa using hk)]
      omega
theorem CsOK.bump {cs : List Int} {n : Int} (h : CsOK cs n) (hn : n ≤ 1000000) (k : Nat) (hk : k < 18) : CsOK (bump cs k) (n + 1) := by
  have hl := h.ln
  have e : cs.getD k 0 = cs[k] := by simp [List.getD_eq_getElem?_getD, List.getElem?_eq_getElem (show k < cs.length by omega)]
  have hb := h.bd cs[k] (List.getElem_mem _)
  have hw : wrap64 (cs[k] + 1) = cs[k] + 1 := g_wrap64 _ (by omega) (by omega)
  refine ⟨by rw [bump_length]; exact hl, fun c hc => ?_, ?_⟩
  · unfold Go.Proofs.YtfkjobiapjhacabGreat.bump at hc
    rw [e, hw] at hc
    rcases List.mem_or_eq_of_mem_set hc with h1 | h1
    · have := h.bd c h1; omega
    · omega
  · unfold Go.Proofs.YtfkjobiapjhacabGreat.bump
    rw [e, hw, sum_set cs k (by omega), h.sm]
    omega
set_option maxRecDepth 100000 in
set_option maxHeartbeats 1000000 in
theorem Count_any {w : World} {b : Nat} {v : Value} {s : BX} (h : BoxAt w b v s) (k : Nat) (hk : k < 18) (c : Int) (hc : s.cs.getD k 0 = c) :
    Calls Tryz.prog 45 #[.pointer (some ⟨b, 0, none⟩), .int .i64 (k : Int)] w fun e w' => e = .returned (.int .i64 c) ∧ w' = w := by
  have hn18 : s.cs.length = 18 := h.n18
  have hcell : w.cell? ⟨b, 8 + k, none⟩ = some (.int .i64 c) := by
    obtain ⟨wv, hbk, -⟩ := h.bk
    simp only [World.cell?, hbk]
    show ((s.cells v wv).toArray)[8 + k]? = _
    rw [List.getElem?_toArray, ← hc]
    unfold BX.cells
    rw [List.getElem?_append_left (by simp; omega), List.getElem?_append_right (by simp)]
    simp [List.getD_eq_getElem?_getD, List.getElem?_eq_getElem (show k < s.cs.length by omega)]
  clear h hc hn18
  have hki : (k : Int) < 18 := by omega
  have hk0 : (0 : Int) ≤ (k : Int) := by omega
  go_enter Tryz.func45, Tryz.ntmps45
  go_wp2
  go_ret
  exact ⟨rfl, rfl⟩
set_option maxRecDepth 100000 in
set_option maxHeartbeats 1000000 in
theorem counts_any {w : World} {b : Nat} {v : Value} {s : BX} (h : BoxAt w b v s) (n : Int) (hc : CsOK s.cs n) (hn : n ≤ 1000000) :
    Calls Tryz.prog 35 #[.pointer (some ⟨b, 0, none⟩)] w fun e w' => e = .returned (.int .i64 n) ∧ w' = w := by
  have HB : Hid (BoxAt w b v s) := h
  have HC : Hid (CsOK s.cs n) := hc
  clear h hc
  go_enter Tryz.func35, Tryz.ntmps35
  go_wp2
  go_loop [3, 4] (fun t i => ∃ k : Nat, k ≤ 18 ∧ i = .int .i64 (k : Int) ∧ t = .int .i64 ((s.cs.take k).sum)) (fun _ i => 18 - (intOf i).toNat)
  case atStart => exact ⟨0, by decide, rfl, rfl⟩
  case round =>
    obtain ⟨k, hk, rfl, rfl⟩ := hrel
    by_cases hlt : k < 18
    · have hl : k < s.cs.length := by rw [HC.out.ln]; exact hlt
      obtain ⟨c, hcc⟩ : ∃ c, s.cs.getD k 0 = c := ⟨_, rfl⟩
      have hce : s.cs[k] = c := by rw [← hcc]; simp [List.getD_eq_getElem?_getD, List.getElem?_eq_getElem hl]
      have HCT : Hid (Calls Tryz.prog 45 #[.pointer (some ⟨b, 0, none⟩), .int .i64 (k : Int)] w fun e w' => e = .returned (.int .i64 c) ∧ w' = w) := Count_any HB.out k hlt c hcc
      have HS : Hid ((s.cs.take (k + 1)).sum = (s.cs.take k).sum + c) := by
        show _ = _
        rw [List.take_succ_eq_append_getElem hl, List.sum_append, hce]
        simp
      have hbc := HC.out.bd c (by rw [← hce]; exact List.getElem_mem _)
      have c0 := hbc.1
      have c1 : c ≤ 1000000 := by have := hbc.2; omega
      have hsb : 0 ≤ (s.cs.take k).sum ∧ (s.cs.take k).sum ≤ 1000000 * (s.cs.take k).length := by
        have : ∀ l : List Int, (∀ x ∈ l, 0 ≤ x ∧ x ≤ 1000000) → 0 ≤ l.sum ∧ l.sum ≤ 1000000 * l.length := by
          intro l
          induction l with
          | nil => intro _; simp
          | cons a t ih =>
            intro hx
            have h1 := hx a (by simp)
            have h2 := ih (fun x hx' => hx x (by simp [hx']))
            simp only [List.sum_cons, List.length_cons]
            omega
        exact this _ (fun x hx => by have := HC.out.bd x (List.mem_of_mem_take hx); omega)
      have s0 := hsb.1
      have s1 : (s.cs.take k).sum ≤ 18000000 := by have := hsb.2; rw [List.length_take] at this; omega
      clear hcc hce hbc hsb
      generalize (s.cs.take k).sum = ts at HS s0 s1
      have hki : (k : Int) < 18 := by omega
      go_wp2_with (go_at_call 45; refine HCT.out.mono ?_; rintro e w' ⟨rfl, rfl⟩)
      go_round
      case rel => exact ⟨k + 1, by omega, by go_num, by rw [HS.out]⟩
      case measure => simp [intOf]; omega
    · have hx : (s.cs.take k).sum = n := by rw [List.take_of_length_le (by rw [HC.out.ln]; omega), HC.out.sm]
      have hki : ¬ (k : Int) < 18 := by omega
      rw [hx]
      clear hx
      go_wp2
      go_ret
      exact ⟨rfl, rfl⟩
set_option maxHeartbeats 400000 in
theorem Tick_no (b : Nat) (n : Int) (w : World) (h : n < 0 ∨ 1048576 < n) :
    Calls Tryz.prog 33 #[.pointer (some ⟨b, 0, none⟩), .int .i64 n] w fun e w' => e = .returned (.int .i64 1) ∧ w' = w := by
  rcases h with h | h
  · go_enter Tryz.func33, Tryz.ntmps33
    go_wp2
    go_ret
    exact ⟨rfl, rfl⟩
  · have h2 : ¬ n < 0 := by omega
    go_enter Tryz.func33, Tryz.ntmps33
    go_wp2
    go_ret
    exact ⟨rfl, rfl⟩
end Go.Proofs.YtfkjobiapjhacabGreat
