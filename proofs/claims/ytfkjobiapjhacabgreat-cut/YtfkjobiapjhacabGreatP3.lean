/- Own work. -/
import Derived.Test.YtfkjobiapjhacabGreatP2
import Derived.Test.YtfkjobiapjhacabGreatP1
/- Contracts of package pieces: lay. Own work. -/
namespace Go.Proofs.YtfkjobiapjhacabGreat
open Go.RowKit
attribute [local go_sem ↓] Go.wp_at_zero Go.wp_at_succ

theorem layTo_succ {α : Type} (bef : α → α → Bool) (n : α) (l : List α) (k : Nat) (h : k < l.length) : layTo bef n l (k + 1) = layStep bef n (layTo bef n l k) l[k] := by
  unfold layTo
  rw [List.take_succ_eq_append_getElem h, List.foldl_append]
  rfl
theorem layTo_len {α : Type} (bef : α → α → Bool) (n : α) (l : List α) (k : Nat) : (layTo bef n l k).1.length ≤ 2 * k := by
  unfold layTo
  have key : ∀ (t : List α) (a : List α × Bool), (t.foldl (layStep bef n) a).1.length ≤ a.1.length + 2 * t.length := by
    intro t
    induction t with
    | nil => intro a; simp
    | cons s r ih =>
      intro a
      rw [List.foldl_cons]
      refine Nat.le_trans (ih _) ?_
      unfold layStep
      split <;> simp <;> omega
  have := key (l.take k) ([], false)
  simp at this
  omega
theorem layStep_mem {α : Type} (bef : α → α → Bool) (n : α) (t : List α) : ∀ (a : List α × Bool) (y : α), y ∈ (t.foldl (layStep bef n) a).1 → y ∈ a.1 ∨ y = n ∨ y ∈ t := by
  induction t with
  | nil => intro a y hy; exact Or.inl hy
  | cons s r ih =>
    intro a y hy
    rw [List.foldl_cons] at hy
    rcases ih _ y hy with h | h | h
    · unfold layStep at h
      split at h
      · simp at h
        rcases h with h | h | h
        · exact Or.inl h
        · exact Or.inr (Or.inl h)
        · exact Or.inr (Or.inr (by simp [h]))
      · simp at h
        rcases h with h | h
        · exact Or.inl h
        · exact Or.inr (Or.inr (by simp [h]))
    · exact Or.inr (Or.inl h)
    · exact Or.inr (Or.inr (List.mem_cons_of_mem _ h))
theorem layL_mem {α : Type} (bef : α → α → Bool) (n : α) (l : List α) (y : α) (hy : y ∈ layL bef n l) : y = n ∨ y ∈ l := by
  have key : y ∈ (layTo bef n l l.length).1 → y = n ∨ y ∈ l := fun h => by
    unfold layTo at h
    rw [List.take_length] at h
    rcases layStep_mem bef n l _ y h with h | h | h
    · simp at h
    · exact Or.inl h
    · exact Or.inr h
  unfold layL at hy
  split at hy
  · exact key hy
  · rcases List.mem_append.1 hy with h | h
    · exact key h
    · exact Or.inl (by simpa using h)
theorem layStep_map {α β : Type} (f : α → β) (bef : α → α → Bool) (bef' : β → β → Bool) (hb : ∀ a b, bef a b = bef' (f a) (f b)) (n : α) (t : List α) : ∀ a : List α × Bool, (((t.foldl (layStep bef n) a).1).map f, (t.foldl (layStep bef n) a).2) = (t.map f).foldl (layStep bef' (f n)) (a.1.map f, a.2) := by
  induction t with
  | nil => intro a; rfl
  | cons s r ih =>
    intro a
    rw [List.foldl_cons, List.map_cons, List.foldl_cons, ih]
    congr 1
    unfold layStep
    rw [hb]
    dsimp only
    split <;> simp
theorem layL_map {α β : Type} (f : α → β) (bef : α → α → Bool) (bef' : β → β → Bool) (hb : ∀ a b, bef a b = bef' (f a) (f b)) (n : α) (l : List α) : (layL bef n l).map f = layL bef' (f n) (l.map f) := by
  have h := layStep_map f bef bef' hb n l ([], false)
  have e1 : layTo bef n l l.length = l.foldl (layStep bef n) ([], false) := by unfold layTo; rw [List.take_length]
  have e2 : layTo bef' (f n) (l.map f) (l.map f).length = (l.map f).foldl (layStep bef' (f n)) ([], false) := by unfold layTo; rw [List.take_length]
  unfold layL
  rw [e1, e2]
  have h' : (((l.foldl (layStep bef n) ([], false)).1).map f, (l.foldl (layStep bef n) ([], false)).2) = (l.map f).foldl (layStep bef' (f n)) ([], false) := h
  rw [← h']
  dsimp only
  split <;> simp
def befR (n r : PR) : Bool := befP n.d r.d
set_option maxRecDepth 100000 in
set_option maxHeartbeats 2000000 in
theorem Play_any (sb so : Nat) (v : Value) (rl : List PR) (n : PR) (nao : Option Addr) (nln ncp : Nat) (w : World) (hnv : n.hv = .slice nao nln ncp) (hc : w.cell? ⟨sb, so, none⟩ = some v) (hfz : w.frozen? ⟨sb, so, none⟩ = false) (hl : PsAt w v rl) (hkn : KsAt w n.hv n.d.held) (hn : rl.length ≤ 1000) :
    Calls Tryz.prog 67 #[.pointer (some ⟨sb, so, none⟩), .agg #[.int .i64 n.d.sd, .int .i64 n.d.sr, .int .i64 n.d.ds, .int .i64 n.d.pr, .int .i64 n.d.nu, .bool n.d.gu, .int .i64 n.d.dl, .slice nao nln ncp]] w fun e w' => e = .returned (.tuple #[]) ∧ ∃ v' w0, w' = w0.setCell ⟨sb, so, none⟩ v' ∧ Below w.heap.size w w0 ∧ PsAt w0 v' (layL befR n rl) := by
  have HKN : Hid (KsAt w n.hv n.d.held) := hkn
  have HNC : Hid (n.cells = [.int .i64 n.d.sd, .int .i64 n.d.sr, .int .i64 n.d.ds, .int .i64 n.d.pr, .int .i64 n.d.nu, .bool n.d.gu, .int .i64 n.d.dl, .slice nao nln ncp]) := by show _ = _; unfold PR.cells; rw [hnv]
  have HNN : Hid (∀ u ∈ ([.int .i64 n.d.sd, .int .i64 n.d.sr, .int .i64 n.d.ds, .int .i64 n.d.pr, .int .i64 n.d.nu, .bool n.d.gu, .int .i64 n.d.dl, .slice nao nln ncp] : List Value), u.oneCell' = true) := by rw [← HNC.out]; exact pr_one n hnv
  clear hkn hnv
  have HL : Hid (PsAt w v rl) := hl
  obtain ⟨ao, cap, hv⟩ := hl.1.shape
  clear hl
  have htb := lt_of_cell hc
  subst hv
  generalize hlen : rl.length = len at hn hc HL
  have HE : Hid (rl.length = len) := hlen
  have HCC : Hid (w.cell? ⟨sb, so, none⟩ = some (.slice ao len cap)) := hc
  have HFZ : Hid (w.frozen? ⟨sb, so, none⟩ = false) := hfz
  clear hlen
  obtain ⟨i0, hi0, hz0, hz1, hz2⟩ := info_parts info_part
  go_enter Tryz.func67, Tryz.ntmps67
  go_wp2
  go_loopw [4, 5, 14] (fun lst ld i wr => ∃ (k : Nat) (lv : Value), k ≤ len ∧ i = .int .i64 k ∧ lv = lst ∧ ld = .bool (layTo befR n rl k).2 ∧ QMid w wr [(w.heap.size, #[.int .i64 n.d.sd, .int .i64 n.d.sr, .int .i64 n.d.ds, .int .i64 n.d.pr, .int .i64 n.d.nu, .bool n.d.gu, .int .i64 n.d.dl, .slice nao nln ncp], 94)] 94 8 lv (layTo befR n rl k).1.length ((layTo befR n rl k).1.flatMap PR.cells)) (fun _ _ i _ => len - (intOf i).toNat)
  case atStart => exact ⟨0, _, Nat.zero_le _, rfl, rfl, rfl, QMid.start ((LMid.start w).alloc' _ _ _ rfl) _ _ _ (by simp)⟩
  case round =>
    obtain ⟨k, lv, hk, rfl, rfl, rfl, hM1⟩ := hrel
    have hfl := layTo_len befR n rl k
    by_cases hlt : k < len
    · have hlo : k < rl.length := by have := HE.out; omega
      obtain ⟨g, cp, hv, hg, q0, q1, q2, q3, q4, q5, q6, q7, hao, hln, hcp, hhv⟩ := PsAt.get (PsAt.keep HL.out hM1.mid.bl) k hlo
      simp at hv
      obtain ⟨rfl, -, rfl⟩ := hv
      have HSU : Hid (layTo befR n rl (k + 1) = layStep befR n (layTo befR n rl k) rl[k]) := layTo_succ befR n rl k hlo
      have HBE : Hid (befR n rl[k] = befP n.d rl[k].d) := rfl
      generalize rl[k] = o at q0 q1 q2 q3 q4 q5 q6 q7 hhv HSU HBE
      generalize layTo befR n rl k = x at hM1 hfl HSU ⊢
      obtain ⟨F, ld⟩ := x
      simp only at hM1 hfl ⊢
      have HST : Hid (layStep befR n (F, ld) o = if ld = false ∧ befR n o = true then (F ++ [n] ++ [o], true) else (F ++ [o], ld)) := rfl
      rw [hhv] at q7
      have HOC : Hid (o.cells = [.int .i64 o.d.sd, .int .i64 o.d.sr, .int .i64 o.d.ds, .int .i64 o.d.pr, .int .i64 o.d.nu, .bool o.d.gu, .int .i64 o.d.dl, .slice hao hln hcp]) := by show _ = _; unfold PR.cells; rw [hhv]
      have HON : Hid (∀ u ∈ ([.int .i64 o.d.sd, .int .i64 o.d.sr, .int .i64 o.d.ds, .int .i64 o.d.pr, .int .i64 o.d.nu, .bool o.d.gu, .int .i64 o.d.dl, .slice hao hln hcp] : List Value), u.oneCell' = true) := by rw [← HOC.out]; exact pr_one o hhv
      have hM2 := hM1.alloc' #[.int .i64 o.d.sd, .int .i64 o.d.sr, .int .i64 o.d.ds, .int .i64 o.d.pr, .int .i64 o.d.nu, .bool o.d.gu, .int .i64 o.d.dl, .slice hao hln hcp] 94 wr.heap.size rfl
      clear hM1 hhv
      rename QMid _ _ _ _ _ _ _ _ => hM1
      obtain ⟨⟨o0, o1, o2, o3, o4, o5, o6, o7⟩, of⟩ := c8h hM1.mid.at0; obtain ⟨⟨r0, r1, r2, r3, r4, r5, r6, r7⟩, rf⟩ := c8h hM1.mid.at1; have m0 := lt_of_block hM1.mid.at0; have m1 := lt_of_block hM1.mid.at1
      have hsw := hM1.mid.bl.size
      have hM : Hid _ := hM1
      clear hM1
      have hkI : (0 : Int) ≤ (k : Int) := by omega
      have hkL : (k : Int) < (len : Int) := by omega
      go_upto_region 6 with fail
      clear q0 q1 q2 q3 q4 q5 q6 q7
      go_cut [26] (fun s26 wx => s26 = .bool (!ld && befR n o) ∧ QMid w wx ((wr.heap.size, #[.int .i64 o.d.sd, .int .i64 o.d.sr, .int .i64 o.d.ds, .int .i64 o.d.pr, .int .i64 o.d.nu, .bool o.d.gu, .int .i64 o.d.dl, .slice hao hln hcp], 94) :: [(w.heap.size, #[.int .i64 n.d.sd, .int .i64 n.d.sr, .int .i64 n.d.ds, .int .i64 n.d.pr, .int .i64 n.d.nu, .bool n.d.gu, .int .i64 n.d.dl, .slice nao nln ncp], 94)]) 94 8 lv F.length (F.flatMap PR.cells))
      case first =>
        cases ld
        · go_wp2_with fail
          refine (nbefore_any _ _ _).mono ?_
          rintro e w1 ⟨rfl, hb1⟩
          go_wp2_with fail
          go_meet
          exact ⟨by rw [HBE.out]; simp, hM.out.call hb1⟩
        · go_wp2_with fail
          go_meet
          exact ⟨by simp, hM.out⟩
      case rest =>
        obtain ⟨rfl, hM1⟩ := hcut
        clear hM o0 o1 o2 o3 o4 o5 o6 o7 of r0 r1 r2 r3 r4 r5 r6 r7 rf m0 m1 hsw
        obtain ⟨⟨o0, o1, o2, o3, o4, o5, o6, o7⟩, of⟩ := c8h hM1.mid.at0; obtain ⟨⟨r0, r1, r2, r3, r4, r5, r6, r7⟩, rf⟩ := c8h hM1.mid.at1; have m0 := lt_of_block hM1.mid.at0; have m1 := lt_of_block hM1.mid.at1
        have hsw := hM1.mid.bl.size
        have hM : Hid _ := hM1
        clear hM1
        cases hbb : (!ld && befR n o)
        · have HN1 : Hid (layTo befR n rl (k + 1) = (F ++ [o], ld)) := by
            show _ = _
            rw [HSU.out, HST.out, if_neg (by simp at hbb; intro h; simp [hbb h.1] at h)]
          clear HSU HST hbb
          go_wp2_with (at_builtin; refine wpList_append_lies _ rfl (.tmp 31) (.tmp 33) 74 rfl w.heap.size 94 i0 _ 8 80 Tryz.underlying74 hi0 hz0 hz1 hz2 rfl (by decide) lv F.length (F.flatMap PR.cells) rfl (hM.out.own.alloc _) ⟨wc.heap.size, 0, none⟩ 1 1 [.int .i64 o.d.sd, .int .i64 o.d.sr, .int .i64 o.d.ds, .int .i64 o.d.pr, .int .i64 o.d.nu, .bool o.d.gu, .int .i64 o.d.dl, .slice hao hln hcp] rfl rfl (by exact World.news_of_block (B := wc.heap.size) (by rw [hget_alloc, if_pos (by simp)])) HON.out (by decide) (by unfold maxLen; omega) (by omega) (by simp; omega) (wc.heap.size + 1) (by simp) ?_; intro g4 cap4 w4 hown hgrow hat hlt4; have hM1 := (hM.out.call ((Below.refl _ _).alloc (Nat.le_refl _) _)).app hgrow hown _ hat (by simp); clear hM hown hgrow hat hlt4 o0 o1 o2 o3 o4 o5 o6 o7 of r0 r1 r2 r3 r4 r5 r6 r7 rf m0 m1; have hM : Hid _ := hM1.tail; clear hM1)
          go_roundw
          case rel =>
            refine ⟨k + 1, _, by omega, by go_num, rfl, by rw [HN1.out], ?_⟩
            rw [HN1.out, List.length_append, List.flatMap_append]
            simpa [HOC.out] using hM.out
          case measure => simp [intOf]; omega
        · have HN1 : Hid (layTo befR n rl (k + 1) = (F ++ [n] ++ [o], true)) := by
            show _ = _
            rw [HSU.out, HST.out, if_pos (by simp at hbb; exact hbb)]
          clear HSU HST hbb
          go_wp2_with (first | (at_builtin; refine wpList_append_lies _ rfl (.tmp 27) (.tmp 29) 74 rfl w.heap.size 94 i0 _ 8 80 Tryz.underlying74 hi0 hz0 hz1 hz2 rfl (by decide) lv F.length (F.flatMap PR.cells) rfl (hM.out.own.alloc _) ⟨wc.heap.size, 0, none⟩ 1 1 [.int .i64 n.d.sd, .int .i64 n.d.sr, .int .i64 n.d.ds, .int .i64 n.d.pr, .int .i64 n.d.nu, .bool n.d.gu, .int .i64 n.d.dl, .slice nao nln ncp] rfl rfl (by exact World.news_of_block (B := wc.heap.size) (by rw [hget_alloc, if_pos (by simp)])) HNN.out (by decide) (by unfold maxLen; omega) (by omega) (by simp; omega) (wc.heap.size + 1) (by simp) ?_; intro g4 cap4 w4 hown hgrow hat hlt4; have hM1 := (hM.out.call ((Below.refl _ _).alloc (Nat.le_refl _) _)).app hgrow hown _ hat (by simp); clear hM hown hgrow hat hlt4 o0 o1 o2 o3 o4 o5 o6 o7 of r0 r1 r2 r3 r4 r5 r6 r7 rf m0 m1; obtain ⟨⟨o0, o1, o2, o3, o4, o5, o6, o7⟩, of⟩ := c8h hM1.mid.at0; obtain ⟨⟨r0, r1, r2, r3, r4, r5, r6, r7⟩, rf⟩ := c8h hM1.mid.at1; have m0 := lt_of_block hM1.mid.at0; have m1 := lt_of_block hM1.mid.at1; have hsw4 := hM1.mid.bl.size; have hM : Hid _ := hM1; clear hM1) | (at_builtin; refine wpList_append_lies _ rfl (.tmp 31) (.tmp 33) 74 rfl w.heap.size 94 i0 _ 8 80 Tryz.underlying74 hi0 hz0 hz1 hz2 rfl (by decide) (.slice (some ⟨g4, 0, none⟩) (F.length + 1) cap4) (F.length + 1) (F.flatMap PR.cells ++ [.int .i64 n.d.sd, .int .i64 n.d.sr, .int .i64 n.d.ds, .int .i64 n.d.pr, .int .i64 n.d.nu, .bool n.d.gu, .int .i64 n.d.dl, .slice nao nln ncp]) rfl (hM.out.own.alloc _) ⟨w4.heap.size, 0, none⟩ 1 1 [.int .i64 o.d.sd, .int .i64 o.d.sr, .int .i64 o.d.ds, .int .i64 o.d.pr, .int .i64 o.d.nu, .bool o.d.gu, .int .i64 o.d.dl, .slice hao hln hcp] rfl rfl (by exact World.news_of_block (B := w4.heap.size) (by rw [hget_alloc, if_pos (by simp)])) HON.out (by decide) (by unfold maxLen; omega) (by omega) (by simp; omega) (w4.heap.size + 1) (by simp) ?_; intro g5 cap5 w5 hown hgrow hat hlt4; have hM1 := (hM.out.call ((Below.refl _ _).alloc (Nat.le_refl _) _)).app hgrow hown _ hat (by simp); clear hM hown hgrow hat hlt4 o0 o1 o2 o3 o4 o5 o6 o7 of r0 r1 r2 r3 r4 r5 r6 r7 rf m0 m1; have hM : Hid _ := hM1.tail; clear hM1))
          go_roundw
          case rel =>
            refine ⟨k + 1, _, by omega, by go_num, rfl, by rw [HN1.out], ?_⟩
            rw [HN1.out, List.length_append, List.length_append, List.flatMap_append, List.flatMap_append]
            simpa [HOC.out, HNC.out] using hM.out
          case measure => simp [intOf]; omega
    · have e : k = rl.length := by have := HE.out; omega
      subst e
      have HI : Hid (layL befR n rl = if (layTo befR n rl rl.length).2 = true then (layTo befR n rl rl.length).1 else (layTo befR n rl rl.length).1 ++ [n]) := rfl
      have HMEM : Hid (∀ W, Below w.heap.size w W → ∀ r ∈ layL befR n rl, KsAt W r.hv r.d.held) := fun W hW r hr => by
        rcases layL_mem befR n rl r hr with rfl | h
        · exact LsAt.keep HKN.out hW
        · exact LsAt.keep (HL.out.2 r h) hW
      generalize layTo befR n rl rl.length = x at hM1 hfl HI ⊢
      obtain ⟨F, ld⟩ := x
      simp only at hM1 hfl HI ⊢
      have c1 := (hM1.mid.bl.cell (p := ⟨sb, so, none⟩) htb).trans HCC.out
      have f1 := (hM1.mid.bl.frozen (p := ⟨sb, so, none⟩) htb).trans HFZ.out
      obtain ⟨la, cp, hla⟩ := owns_shape hM1.own
      have hsw := hM1.mid.bl.size
      obtain ⟨⟨r0, r1, r2, r3, r4, r5, r6, r7⟩, rf⟩ := c8h hM1.mid.at0
      have m0 := lt_of_block hM1.mid.at0
      have hM : Hid _ := hM1
      clear hM1
      cases ld
      · have HIE : Hid (layL befR n rl = F ++ [n]) := HI.out
        clear HI hla
        go_wp2_with (at_builtin; refine wpList_append_lies _ rfl (.tmp 38) (.tmp 40) 74 rfl w.heap.size 94 i0 _ 8 80 Tryz.underlying74 hi0 hz0 hz1 hz2 rfl (by decide) lv F.length (F.flatMap PR.cells) rfl (hM.out.own.alloc _) ⟨wr.heap.size, 0, none⟩ 1 1 [.int .i64 n.d.sd, .int .i64 n.d.sr, .int .i64 n.d.ds, .int .i64 n.d.pr, .int .i64 n.d.nu, .bool n.d.gu, .int .i64 n.d.dl, .slice nao nln ncp] rfl rfl (by exact World.news_of_block (B := wr.heap.size) (by rw [hget_alloc, if_pos (by simp)])) HNN.out (by decide) (by unfold maxLen; omega) (by omega) (by simp; omega) (wr.heap.size + 1) (by simp) ?_; intro g4 cap4 w4 hown hgrow hat hlt4; have hM1 := (hM.out.call ((Below.refl _ _).alloc (Nat.le_refl _) _)).app hgrow hown _ hat (by simp); clear hM hown hgrow hat hlt4 r0 r1 r2 r3 r4 r5 r6 r7 rf m0 c1 f1; have c1 := (hM1.mid.bl.cell (p := ⟨sb, so, none⟩) htb).trans HCC.out; have f1 := (hM1.mid.bl.frozen (p := ⟨sb, so, none⟩) htb).trans HFZ.out; have hM : Hid _ := hM1; clear hM1)
        go_end0
        have hb := hM.out.mid.bl
        refine ⟨rfl, _, w4, rfl, hb, ?_, HMEM.out _ hb⟩
        rw [HIE.out]
        refine LsAt.of_owns (base := w.heap.size) PR.len ?_
        rw [List.length_append, List.flatMap_append]
        simpa [HNC.out] using hM.out.own
      · have HIE : Hid (layL befR n rl = F) := HI.out
        clear HI
        subst hla
        go_wp2
        go_end0
        have hb := hM.out.mid.bl
        refine ⟨rfl, _, wr, rfl, hb, ?_, HMEM.out _ hb⟩
        rw [HIE.out]
        exact LsAt.of_owns PR.len hM.out.own
theorem wLay {w : World} {b : Nat} {v : Value} {s : BX} (h : BoxAt w b v s) (hn : s.wl.length ≤ 1000) (d : PD) (hv : Value) (hk : KsAt w hv d.held) :
    Calls Tryz.prog 67 #[.pointer (some ⟨b, 27, none⟩), .agg #[.int .i64 d.sd, .int .i64 d.sr, .int .i64 d.ds, .int .i64 d.pr, .int .i64 d.nu, .bool d.gu, .int .i64 d.dl, hv]] w fun e w' => e = .returned (.tuple #[]) ∧ BoxAt w' b v { s with wl := layL befP d s.wl } ∧ Chg b v w w' v := by
  obtain ⟨wv, hc, rl, e, hp⟩ := h.wait
  obtain ⟨nao, ncp, hs⟩ := hk.shape
  have h1 := Play_any b 27 wv rl ⟨d, hv⟩ nao d.held.length ncp w hs hc (h.get.2 _) hp hk (by rw [← e] at hn; simpa using hn)
  rw [hs]
  refine h1.mono ?_
  rintro y w' ⟨rfl, v', w0, rfl, hb, ho⟩
  exact ⟨rfl, h.wanew hb ⟨_, by rw [layL_map PR.d befR befP (fun _ _ => rfl), e], ho⟩⟩
end Go.Proofs.YtfkjobiapjhacabGreat
/- Contracts of package pieces: with, whole. Own work. -/
namespace Go.Proofs.YtfkjobiapjhacabGreat
open Go.RowKit
attribute [local go_sem ↓] Go.wp_at_zero Go.wp_at_succ

theorem info_pkt : (Tryz.prog.info? 83).map (fun i => (i.zero, i.size, i.bytes)) = some (some (.agg #[.string ⟨#[]⟩, .int .i64 0, .int .i64 0, .int .i64 0, .string ⟨#[]⟩]), 5, 56) := by kernel_rfl
theorem kp_one (o : KP) : ∀ u ∈ ([.string o.h, .int .i64 o.sr, .int .i64 o.ds, .int .i64 o.pr, .string o.b] : List Value), u.oneCell' = true := by
  intro u hu
  simp at hu
  rcases hu with rfl | rfl | rfl | rfl | rfl <;> rfl
set_option maxRecDepth 100000 in
set_option maxHeartbeats 2000000 in
theorem with_any (d : PD) (hvv : Value) (p : KP) (w : World) (hk : KsAt w hvv d.held) (hn : d.held.length ≤ 1000) :
    Calls Tryz.prog 68 #[.agg #[.int .i64 d.sd, .int .i64 d.sr, .int .i64 d.ds, .int .i64 d.pr, .int .i64 d.nu, .bool d.gu, .int .i64 d.dl, hvv], .agg #[.string p.h, .int .i64 p.sr, .int .i64 p.ds, .int .i64 p.pr, .string p.b]] w fun e w' => ∃ hv', e = .returned (.agg #[.int .i64 d.sd, .int .i64 d.sr, .int .i64 d.ds, .int .i64 d.pr, .int .i64 d.nu, .bool d.gu, .int .i64 d.dl, hv']) ∧ KsAt w' hv' (withP d.held p) ∧ Below w.heap.size w w' := by
  have HK : Hid (KsAt w hvv d.held) := hk
  obtain ⟨hao, hcp, hhv⟩ := hk.shape
  have HNN := kp_one p
  clear hk
  generalize hlen : d.held.length = len at hn hhv
  have HE : Hid (d.held.length = len) := hlen
  clear hlen
  have HHV : Hid (hvv = .slice hao len hcp) := hhv
  have HM0 : Hid (QMid w ((((w.alloc (.cells #[.int .i64 d.sd, .int .i64 d.sr, .int .i64 d.ds, .int .i64 d.pr, .int .i64 d.nu, .bool d.gu, .int .i64 d.dl, hvv] 94)).alloc (.cells #[.string p.h, .int .i64 p.sr, .int .i64 p.ds, .int .i64 p.pr, .string p.b] 83)).alloc (.cells #[.int .i64 0, .int .i64 0, .int .i64 0, .int .i64 0, .int .i64 0, .bool false, .int .i64 0, .slice none 0 0] 94)).alloc (.cells #[] 83)) [(w.heap.size + 1 + 1, #[.int .i64 0, .int .i64 0, .int .i64 0, .int .i64 0, .int .i64 0, .bool false, .int .i64 0, .slice none 0 0], 94), (w.heap.size + 1, #[.string p.h, .int .i64 p.sr, .int .i64 p.ds, .int .i64 p.pr, .string p.b], 83), (w.heap.size, #[.int .i64 d.sd, .int .i64 d.sr, .int .i64 d.ds, .int .i64 d.pr, .int .i64 d.nu, .bool d.gu, .int .i64 d.dl, hvv], 94)] 83 5 (.slice (some ⟨w.heap.size + 1 + 1 + 1, 0, none⟩) 0 0) 0 []) := QMid.start ((((LMid.start w).alloc' _ _ _ rfl).alloc' _ _ _ (by simp)).alloc' _ _ _ (by simp)) _ _ _ (by simp)
  subst hhv
  obtain ⟨i0, hi0, hz0, hz1, hz2⟩ := info_parts info_pkt
  go_enter Tryz.func68, Tryz.ntmps68
  go_wp2
  go_loopw [5, 6, 13] (fun lst ld i wr => ∃ (k : Nat) (lv hvv : Value), k ≤ len ∧ i = .int .i64 k ∧ lv = lst ∧ hvv = .slice hao len hcp ∧ ld = .bool (layTo befK p d.held k).2 ∧ QMid w wr [(w.heap.size + 1 + 1, #[.int .i64 0, .int .i64 0, .int .i64 0, .int .i64 0, .int .i64 0, .bool false, .int .i64 0, .slice none 0 0], 94), (w.heap.size + 1, #[.string p.h, .int .i64 p.sr, .int .i64 p.ds, .int .i64 p.pr, .string p.b], 83), (w.heap.size, #[.int .i64 d.sd, .int .i64 d.sr, .int .i64 d.ds, .int .i64 d.pr, .int .i64 d.nu, .bool d.gu, .int .i64 d.dl, hvv], 94)] 83 5 lv (layTo befK p d.held k).1.length ((layTo befK p d.held k).1.flatMap KP.cells)) (fun _ _ i _ => len - (intOf i).toNat)
  case atStart => exact ⟨0, _, _, Nat.zero_le _, rfl, rfl, rfl, rfl, HM0.out⟩
  case round =>
    obtain ⟨k, lv, hvv, hk, rfl, rfl, hhv, rfl, hM1⟩ := hrel
    have hfl := layTo_len befK p d.held k
    by_cases hlt : k < len
    · have hlo : k < d.held.length := by have := HE.out; omega
      obtain ⟨g, cp, hv, hg, q0, q1, q2, q3, q4⟩ := KsAt.get (LsAt.keep HK.out hM1.mid.bl) k hlo
      simp at hv
      have HHE : Hid (hvv = .slice hao len hcp) := hhv
      obtain ⟨hv1, -, -⟩ := hv
      have HSU : Hid (layTo befK p d.held (k + 1) = layStep befK p (layTo befK p d.held k) d.held[k]) := layTo_succ befK p d.held k hlo
      have HBE : Hid (befK p d.held[k] = decide (placeI p.h < placeI d.held[k].h)) := rfl
      generalize d.held[k] = o at q0 q1 q2 q3 q4 HSU HBE
      generalize layTo befK p d.held k = x at hM1 hfl HSU ⊢
      obtain ⟨F, ld⟩ := x
      simp only at hM1 hfl ⊢
      have HST : Hid (layStep befK p (F, ld) o = if ld = false ∧ befK p o = true then (F ++ [p] ++ [o], true) else (F ++ [o], ld)) := rfl
      have HON := kp_one o
      have hM2 := hM1.alloc' #[.string o.h, .int .i64 o.sr, .int .i64 o.ds, .int .i64 o.pr, .string o.b] 83 wr.heap.size rfl
      clear hM1 hhv
      rename QMid _ _ _ _ _ _ _ _ => hM1
      obtain ⟨⟨o0, o1, o2, o3, o4⟩, of⟩ := c5 hM1.mid.at0; obtain ⟨⟨p0, p1, p2, p3, p4⟩, pf⟩ := c5 hM1.mid.at2; have m0 := lt_of_block hM1.mid.at0; have m1 := lt_of_block hM1.mid.at2
      have hsw := hM1.mid.bl.size
      have hMw : Hid _ := hM1
      have hM : Hid _ := hM1.drew
      clear hM1
      have hkI : (0 : Int) ≤ (k : Int) := by omega
      have hkL : (k : Int) < (len : Int) := by omega
      subst hv1
      go_upto_region 6 with fail
      clear q0 q1 q2 q3 q4
      go_cut [25] (fun s25 wx => s25 = .bool (!ld && befK p o) ∧ QMid w wx ((wr.heap.size, #[.string o.h, .int .i64 o.sr, .int .i64 o.ds, .int .i64 o.pr, .string o.b], 83) :: [(w.heap.size + 1 + 1, #[.int .i64 0, .int .i64 0, .int .i64 0, .int .i64 0, .int .i64 0, .bool false, .int .i64 0, .slice none 0 0], 94), (w.heap.size + 1, #[.string p.h, .int .i64 p.sr, .int .i64 p.ds, .int .i64 p.pr, .string p.b], 83), (w.heap.size, #[.int .i64 d.sd, .int .i64 d.sr, .int .i64 d.ds, .int .i64 d.pr, .int .i64 d.nu, .bool d.gu, .int .i64 d.dl, hvv], 94)]) 83 5 lv F.length (F.flatMap KP.cells))
      case first =>
        cases ld
        · go_wp2_with fail
          refine wp_region_held_drew (S := (fun w' => w'.cell? ⟨wr.heap.size, 0, none⟩ = some (.string o.h) ∧ w'.cell? ⟨wr.heap.size, 1, none⟩ = some (.int .i64 o.sr) ∧ w'.cell? ⟨wr.heap.size, 2, none⟩ = some (.int .i64 o.ds) ∧ w'.cell? ⟨wr.heap.size, 3, none⟩ = some (.int .i64 o.pr) ∧ w'.cell? ⟨wr.heap.size, 4, none⟩ = some (.string o.b) ∧ w'.cell? ⟨w.heap.size + 1, 0, none⟩ = some (.string p.h) ∧ w'.cell? ⟨w.heap.size + 1, 1, none⟩ = some (.int .i64 p.sr) ∧ w'.cell? ⟨w.heap.size + 1, 2, none⟩ = some (.int .i64 p.ds) ∧ w'.cell? ⟨w.heap.size + 1, 3, none⟩ = some (.int .i64 p.pr) ∧ w'.cell? ⟨w.heap.size + 1, 4, none⟩ = some (.string p.b))) (by kernel_rfl) (by simp [*]) (fun hHeld => ?_)
          refine hTake (i := 0) (d := 17) (v := ?_) rfl rfl (by kernel_rfl) (by kernel_rfl) (by kernel_rfl) (fun _ _ _ h => h) (Or.inl ⟨by rfl, ?_⟩) (by assumption) ?_
          rotate_left
          · intro w hSw
            (try dsimp only at hSw)
            go_simp
            (try with_reducible rfl)
          (try simp only [Act.put, List.setIfInBounds_toArray, List.set_cons_zero, List.set_cons_succ])
          refine hTake (i := 1) (d := 18) (v := ?_) rfl rfl (by kernel_rfl) (by kernel_rfl) (by kernel_rfl) (fun _ _ _ h => h) (Or.inl ⟨by rfl, ?_⟩) (by assumption) ?_
          rotate_left
          · intro w hSw
            (try dsimp only at hSw)
            go_simp
            (try with_reducible rfl)
          (try simp only [Act.put, List.setIfInBounds_toArray, List.set_cons_zero, List.set_cons_succ])
          refine hTake (i := 2) (d := 19) (v := ?_) rfl rfl (by kernel_rfl) (by kernel_rfl) (by kernel_rfl) (fun _ _ _ h => h) (Or.inl ⟨by rfl, ?_⟩) (by assumption) ?_
          rotate_left
          · intro w hSw
            (try dsimp only at hSw)
            go_simp
            (try with_reducible rfl)
          (try simp only [Act.put, List.setIfInBounds_toArray, List.set_cons_zero, List.set_cons_succ])
          refine hTake (i := 3) (d := 20) (v := ?_) rfl rfl (by kernel_rfl) (by kernel_rfl) (by kernel_rfl) (fun _ _ _ h => h) (Or.inl ⟨by rfl, ?_⟩) (by assumption) ?_
          rotate_left
          · intro w hSw
            (try dsimp only at hSw)
            go_simp
            (try with_reducible rfl)
          (try simp only [Act.put, List.setIfInBounds_toArray, List.set_cons_zero, List.set_cons_succ])
          refine hTake (i := 5) (d := 22) (v := ?_) rfl rfl (by kernel_rfl) (by kernel_rfl) (by kernel_rfl) (fun _ _ _ h => h) (Or.inl ⟨by rfl, ?_⟩) (by assumption) ?_
          rotate_left
          · intro w hSw
            (try dsimp only at hSw)
            go_simp
            (try with_reducible rfl)
          (try simp only [Act.put, List.setIfInBounds_toArray, List.set_cons_zero, List.set_cons_succ])
          refine wpAnyH_ready (rs := [4]) (by kernel_rfl) (by simp) ?_
          refine AllReadyH.cons rfl (fun K hK => ?_) AllReadyH.nil
          go_simp
          (refine (kPlace _ _).mono ?_; rintro e w1 ⟨rfl, hb1⟩; have hM1 := hM.out.call hb1; clear hM hb1 o0 o1 o2 o3 o4 of p0 p1 p2 p3 p4 pf m0 m1; obtain ⟨⟨o0, o1, o2, o3, o4⟩, of⟩ := c5 hM1.mid.at0; obtain ⟨⟨p0, p1, p2, p3, p4⟩, pf⟩ := c5 hM1.mid.at2; have m0 := lt_of_block hM1.mid.at0; have m1 := lt_of_block hM1.mid.at2; have hM : Hid _ := hM1; clear hM1)
          refine hK.out _ _ ?_ (fun hHeld => ?_)
          · (try dsimp only)
            simp [*]
          clear hK K
          (try simp only [Act.put, List.setIfInBounds_toArray, List.set_cons_zero, List.set_cons_succ])
          refine wpAnyH_ready (rs := [6]) (by kernel_rfl) (by simp) ?_
          refine AllReadyH.cons rfl (fun K hK => ?_) AllReadyH.nil
          go_simp
          (refine (kPlace _ _).mono ?_; rintro e w1 ⟨rfl, hb1⟩; have hM1 := hM.out.call hb1; clear hM hb1 o0 o1 o2 o3 o4 of p0 p1 p2 p3 p4 pf m0 m1; obtain ⟨⟨o0, o1, o2, o3, o4⟩, of⟩ := c5 hM1.mid.at0; obtain ⟨⟨p0, p1, p2, p3, p4⟩, pf⟩ := c5 hM1.mid.at2; have m0 := lt_of_block hM1.mid.at0; have m1 := lt_of_block hM1.mid.at2; have hM : Hid _ := hM1; clear hM1)
          refine hK.out _ _ ?_ (fun hHeld => ?_)
          · (try dsimp only)
            simp [*]
          clear hK K
          (try simp only [Act.put, List.setIfInBounds_toArray, List.set_cons_zero, List.set_cons_succ])
          refine hTake (i := 7) (d := 24) (v := ?_) rfl rfl (by kernel_rfl) (by kernel_rfl) (by kernel_rfl) (fun _ _ _ h => h) (Or.inl ⟨by rfl, ?_⟩) (by assumption) ?_
          rotate_left
          · intro w hSw
            (try dsimp only at hSw)
            go_simp
            (try with_reducible rfl)
          (try simp only [Act.put, List.setIfInBounds_toArray, List.set_cons_zero, List.set_cons_succ])
          refine hTake (i := 8) (d := 25) (v := ?_) rfl rfl (by kernel_rfl) (by kernel_rfl) (by kernel_rfl) (fun _ _ _ h => h) (Or.inl ⟨by rfl, ?_⟩) (by assumption) ?_
          rotate_left
          · intro w hSw
            (try dsimp only at hSw)
            go_simp
            (try with_reducible rfl)
          (try simp only [Act.put, List.setIfInBounds_toArray, List.set_cons_zero, List.set_cons_succ])
          refine wpAnyH_done (by kernel_rfl) ?_ _
          go_wp2_with fail
          go_meet
          exact ⟨by rw [HBE.out]; simp, hM.out⟩
        · go_wp2_with fail
          refine wp_region_held_drew (S := (fun w' => w'.cell? ⟨wr.heap.size, 0, none⟩ = some (.string o.h) ∧ w'.cell? ⟨wr.heap.size, 1, none⟩ = some (.int .i64 o.sr) ∧ w'.cell? ⟨wr.heap.size, 2, none⟩ = some (.int .i64 o.ds) ∧ w'.cell? ⟨wr.heap.size, 3, none⟩ = some (.int .i64 o.pr) ∧ w'.cell? ⟨wr.heap.size, 4, none⟩ = some (.string o.b) ∧ w'.cell? ⟨w.heap.size + 1, 0, none⟩ = some (.string p.h) ∧ w'.cell? ⟨w.heap.size + 1, 1, none⟩ = some (.int .i64 p.sr) ∧ w'.cell? ⟨w.heap.size + 1, 2, none⟩ = some (.int .i64 p.ds) ∧ w'.cell? ⟨w.heap.size + 1, 3, none⟩ = some (.int .i64 p.pr) ∧ w'.cell? ⟨w.heap.size + 1, 4, none⟩ = some (.string p.b))) (by kernel_rfl) (by simp [*]) (fun hHeld => ?_)
          refine hTake (i := 0) (d := 17) (v := ?_) rfl rfl (by kernel_rfl) (by kernel_rfl) (by kernel_rfl) (fun _ _ _ h => h) (Or.inl ⟨by rfl, ?_⟩) (by assumption) ?_
          rotate_left
          · intro w hSw
            (try dsimp only at hSw)
            go_simp
            (try with_reducible rfl)
          (try simp only [Act.put, List.setIfInBounds_toArray, List.set_cons_zero, List.set_cons_succ])
          refine hTake (i := 1) (d := 18) (v := ?_) rfl rfl (by kernel_rfl) (by kernel_rfl) (by kernel_rfl) (fun _ _ _ h => h) (Or.inl ⟨by rfl, ?_⟩) (by assumption) ?_
          rotate_left
          · intro w hSw
            (try dsimp only at hSw)
            go_simp
            (try with_reducible rfl)
          (try simp only [Act.put, List.setIfInBounds_toArray, List.set_cons_zero, List.set_cons_succ])
          refine hTake (i := 2) (d := 19) (v := ?_) rfl rfl (by kernel_rfl) (by kernel_rfl) (by kernel_rfl) (fun _ _ _ h => h) (Or.inl ⟨by rfl, ?_⟩) (by assumption) ?_
          rotate_left
          · intro w hSw
            (try dsimp only at hSw)
            go_simp
            (try with_reducible rfl)
          (try simp only [Act.put, List.setIfInBounds_toArray, List.set_cons_zero, List.set_cons_succ])
          refine hTake (i := 3) (d := 20) (v := undef) rfl rfl (by kernel_rfl) (by kernel_rfl) (by kernel_rfl) (fun _ _ _ h => h) (Or.inr ⟨by rfl, rfl⟩) (by assumption) ?_
          (try simp only [Act.put, List.setIfInBounds_toArray, List.set_cons_zero, List.set_cons_succ])
          refine hTake (i := 5) (d := 22) (v := undef) rfl rfl (by kernel_rfl) (by kernel_rfl) (by kernel_rfl) (fun _ _ _ h => h) (Or.inr ⟨by rfl, rfl⟩) (by assumption) ?_
          (try simp only [Act.put, List.setIfInBounds_toArray, List.set_cons_zero, List.set_cons_succ])
          refine wpAnyH_ready (rs := [4]) (by kernel_rfl) (by simp) ?_
          refine AllReadyH.cons rfl (fun K hK => ?_) AllReadyH.nil
          go_simp
          refine hK.out _ _ ?_ (fun hHeld => ?_)
          · (try dsimp only)
            simp [*]
          clear hK K
          (try simp only [Act.put, List.setIfInBounds_toArray, List.set_cons_zero, List.set_cons_succ])
          refine wpAnyH_ready (rs := [6]) (by kernel_rfl) (by simp) ?_
          refine AllReadyH.cons rfl (fun K hK => ?_) AllReadyH.nil
          go_simp
          refine hK.out _ _ ?_ (fun hHeld => ?_)
          · (try dsimp only)
            simp [*]
          clear hK K
          (try simp only [Act.put, List.setIfInBounds_toArray, List.set_cons_zero, List.set_cons_succ])
          refine hTake (i := 7) (d := 24) (v := undef) rfl rfl (by kernel_rfl) (by kernel_rfl) (by kernel_rfl) (fun _ _ _ h => h) (Or.inr ⟨by rfl, rfl⟩) (by assumption) ?_
          (try simp only [Act.put, List.setIfInBounds_toArray, List.set_cons_zero, List.set_cons_succ])
          refine hTake (i := 8) (d := 25) (v := ?_) rfl rfl (by kernel_rfl) (by kernel_rfl) (by kernel_rfl) (fun _ _ _ h => h) (Or.inl ⟨by rfl, ?_⟩) (by assumption) ?_
          rotate_left
          · intro w hSw
            (try dsimp only at hSw)
            go_simp
            (try with_reducible rfl)
          (try simp only [Act.put, List.setIfInBounds_toArray, List.set_cons_zero, List.set_cons_succ])
          refine wpAnyH_done (by kernel_rfl) ?_ _
          go_wp2_with fail
          go_meet
          exact ⟨by simp, hM.out⟩
      case rest =>
        obtain ⟨rfl, hM1⟩ := hcut
        clear hM hMw o0 o1 o2 o3 o4 of p0 p1 p2 p3 p4 pf m0 m1 hsw
        obtain ⟨⟨o0, o1, o2, o3, o4⟩, of⟩ := c5 hM1.mid.at0; obtain ⟨⟨p0, p1, p2, p3, p4⟩, pf⟩ := c5 hM1.mid.at2; have m0 := lt_of_block hM1.mid.at0; have m1 := lt_of_block hM1.mid.at2
        have hsw := hM1.mid.bl.size
        have hM : Hid _ := hM1
        clear hM1
        cases hbb : (!ld && befK p o)
        · have HN1 : Hid (layTo befK p d.held (k + 1) = (F ++ [o], ld)) := by
            show _ = _
            rw [HSU.out, HST.out, if_neg (by simp at hbb; intro h; simp [hbb h.1] at h)]
          clear HSU HST hbb
          go_wp2_with (at_builtin; refine wpList_append_lies _ rfl (.tmp 30) (.tmp 32) 87 rfl w.heap.size 83 i0 _ 5 56 Tryz.underlying87 hi0 hz0 hz1 hz2 rfl (by decide) lv F.length (F.flatMap KP.cells) rfl (hM.out.own.alloc _) ⟨wc.heap.size, 0, none⟩ 1 1 [.string o.h, .int .i64 o.sr, .int .i64 o.ds, .int .i64 o.pr, .string o.b] rfl rfl (by exact World.news_of_block (B := wc.heap.size) (by rw [hget_alloc, if_pos (by simp)])) HON (by decide) (by unfold maxLen; omega) (by omega) (by simp; omega) (wc.heap.size + 1) (by simp) ?_; intro g4 cap4 w4 hown hgrow hat hlt4; have hM1 := (hM.out.call ((Below.refl _ _).alloc (Nat.le_refl _) _)).app hgrow hown _ hat (by simp); clear hM hown hgrow hat hlt4 o0 o1 o2 o3 o4 of p0 p1 p2 p3 p4 pf m0 m1; have hM : Hid _ := hM1.tail; clear hM1)
          go_roundw
          case rel =>
            refine ⟨k + 1, _, hvv, by omega, by go_num, rfl, HHE.out, by rw [HN1.out], ?_⟩
            rw [HN1.out, List.length_append, List.flatMap_append]
            simpa [KP.cells] using hM.out
          case measure => simp [intOf]; omega
        · have HN1 : Hid (layTo befK p d.held (k + 1) = (F ++ [p] ++ [o], true)) := by
            show _ = _
            rw [HSU.out, HST.out, if_pos (by simp at hbb; exact hbb)]
          clear HSU HST hbb
          go_wp2_with (first | (at_builtin; refine wpList_append_lies _ rfl (.tmp 26) (.tmp 28) 87 rfl w.heap.size 83 i0 _ 5 56 Tryz.underlying87 hi0 hz0 hz1 hz2 rfl (by decide) lv F.length (F.flatMap KP.cells) rfl (hM.out.own.alloc _) ⟨wc.heap.size, 0, none⟩ 1 1 [.string p.h, .int .i64 p.sr, .int .i64 p.ds, .int .i64 p.pr, .string p.b] rfl rfl (by exact World.news_of_block (B := wc.heap.size) (by rw [hget_alloc, if_pos (by simp)])) HNN (by decide) (by unfold maxLen; omega) (by omega) (by simp; omega) (wc.heap.size + 1) (by simp) ?_; intro g4 cap4 w4 hown hgrow hat hlt4; have hM1 := (hM.out.call ((Below.refl _ _).alloc (Nat.le_refl _) _)).app hgrow hown _ hat (by simp); clear hM hown hgrow hat hlt4 o0 o1 o2 o3 o4 of p0 p1 p2 p3 p4 pf m0 m1; obtain ⟨⟨o0, o1, o2, o3, o4⟩, of⟩ := c5 hM1.mid.at0; obtain ⟨⟨p0, p1, p2, p3, p4⟩, pf⟩ := c5 hM1.mid.at2; have m0 := lt_of_block hM1.mid.at0; have m1 := lt_of_block hM1.mid.at2; have hsw4 := hM1.mid.bl.size; have hM : Hid _ := hM1; clear hM1) | (at_builtin; refine wpList_append_lies _ rfl (.tmp 30) (.tmp 32) 87 rfl w.heap.size 83 i0 _ 5 56 Tryz.underlying87 hi0 hz0 hz1 hz2 rfl (by decide) (.slice (some ⟨g4, 0, none⟩) (F.length + 1) cap4) (F.length + 1) (F.flatMap KP.cells ++ [.string p.h, .int .i64 p.sr, .int .i64 p.ds, .int .i64 p.pr, .string p.b]) rfl (hM.out.own.alloc _) ⟨w4.heap.size, 0, none⟩ 1 1 [.string o.h, .int .i64 o.sr, .int .i64 o.ds, .int .i64 o.pr, .string o.b] rfl rfl (by exact World.news_of_block (B := w4.heap.size) (by rw [hget_alloc, if_pos (by simp)])) HON (by decide) (by unfold maxLen; omega) (by omega) (by simp; omega) (w4.heap.size + 1) (by simp) ?_; intro g5 cap5 w5 hown hgrow hat hlt4; have hM1 := (hM.out.call ((Below.refl _ _).alloc (Nat.le_refl _) _)).app hgrow hown _ hat (by simp); clear hM hown hgrow hat hlt4 o0 o1 o2 o3 o4 of p0 p1 p2 p3 p4 pf m0 m1; have hM : Hid _ := hM1.tail; clear hM1))
          go_roundw
          case rel =>
            refine ⟨k + 1, _, hvv, by omega, by go_num, rfl, HHE.out, by rw [HN1.out], ?_⟩
            rw [HN1.out, List.length_append, List.length_append, List.flatMap_append, List.flatMap_append]
            simpa [KP.cells] using hM.out
          case measure => simp [intOf]; omega
    · have e : k = d.held.length := by have := HE.out; omega
      subst e
      have HI : Hid (withP d.held p = if (layTo befK p d.held d.held.length).2 = true then (layTo befK p d.held d.held.length).1 else (layTo befK p d.held d.held.length).1 ++ [p]) := rfl
      generalize layTo befK p d.held d.held.length = x at hM1 hfl HI ⊢
      obtain ⟨F, ld⟩ := x
      simp only at hM1 hfl HI ⊢
      obtain ⟨la, cp, hla⟩ := owns_shape hM1.own
      have hsw := hM1.mid.bl.size
      subst hhv
      obtain ⟨⟨z0, z1, z2, z3, z4, z5, z6, z7⟩, zf⟩ := c8h hM1.mid.at0
      obtain ⟨⟨p0, p1, p2, p3, p4⟩, pf⟩ := c5 hM1.mid.at1
      obtain ⟨⟨d0, d1, d2, d3, d4, d5, d6, d7⟩, df⟩ := c8h hM1.mid.at2
      have m0 := lt_of_block hM1.mid.at0
      have m1 := lt_of_block hM1.mid.at1
      have m2 := lt_of_block hM1.mid.at2
      have hM : Hid _ := hM1
      clear hM1
      cases ld
      · have HIE : Hid (withP d.held p = F ++ [p]) := HI.out
        clear HI hla
        go_wp2_with (at_builtin; refine wpList_append_lies _ rfl (.tmp 37) (.tmp 39) 87 rfl w.heap.size 83 i0 _ 5 56 Tryz.underlying87 hi0 hz0 hz1 hz2 rfl (by decide) lv F.length (F.flatMap KP.cells) rfl (hM.out.own.alloc _) ⟨wr.heap.size, 0, none⟩ 1 1 [.string p.h, .int .i64 p.sr, .int .i64 p.ds, .int .i64 p.pr, .string p.b] rfl rfl (by exact World.news_of_block (B := wr.heap.size) (by rw [hget_alloc, if_pos (by simp)])) HNN (by decide) (by unfold maxLen; omega) (by omega) (by simp; omega) (wr.heap.size + 1) (by simp) ?_; intro g4 cap4 w4 hown hgrow hat hlt4; have hM1 := (hM.out.call ((Below.refl _ _).alloc (Nat.le_refl _) _)).app hgrow hown _ hat (by simp); clear hM hown hgrow hat hlt4 z0 z1 z2 z3 z4 z5 z6 z7 zf p0 p1 p2 p3 p4 pf d0 d1 d2 d3 d4 d5 d6 d7 df m0 m1 m2; obtain ⟨⟨z0, z1, z2, z3, z4, z5, z6, z7⟩, zf⟩ := c8h hM1.mid.at0; obtain ⟨⟨d0, d1, d2, d3, d4, d5, d6, d7⟩, df⟩ := c8h hM1.mid.at2; have m0 := lt_of_block hM1.mid.at0; have m2 := lt_of_block hM1.mid.at2; have hM : Hid _ := hM1; clear hM1)
        refine bodyPost_ret (v := .agg #[.int .i64 d.sd, .int .i64 d.sr, .int .i64 d.ds, .int .i64 d.pr, .int .i64 d.nu, .bool d.gu, .int .i64 d.dl, .slice (some ⟨g4, 0, none⟩) (F.length + 1) cap4]) (by simp [results, Tryz.results68, go_sem, *]) rfl ⟨_, rfl, ?_, ?_⟩
        · rw [HIE.out]
          have hE := hM.out.mid.set2 7 (.slice (some ⟨g4, 0, none⟩) (F.length + 1) cap4)
          have h0 : KsAt w4 (.slice (some ⟨g4, 0, none⟩) (F.length + 1) cap4) (F ++ [p]) := by
            refine LsAt.of_owns (base := w.heap.size) KP.len ?_
            rw [List.length_append, List.flatMap_append]
            simpa [KP.cells] using hM.out.own
          exact LsAt.kept (LsAt.kept h0 (KeptT.set hM.out.mid.at2 (by decide))) (kept8 hE.at0 (by decide) _ _ _ _ _ _ _ _)
        · exact below8 (hM.out.mid.bl.setCell (Nat.le_refl _) _) (by omega) _ _ _ _ _ _ _ _
      · have HIE : Hid (withP d.held p = F) := HI.out
        clear HI
        subst hla
        go_wp2
        refine bodyPost_ret (v := .agg #[.int .i64 d.sd, .int .i64 d.sr, .int .i64 d.ds, .int .i64 d.pr, .int .i64 d.nu, .bool d.gu, .int .i64 d.dl, .slice la F.length cp]) (by simp [results, Tryz.results68, go_sem, *]) rfl ⟨_, rfl, ?_, ?_⟩
        · rw [HIE.out]
          have hE := hM.out.mid.set2 7 (.slice la F.length cp)
          have h0 : KsAt wr (.slice la F.length cp) (F) := by
            refine LsAt.of_owns (base := w.heap.size) KP.len ?_
            exact hM.out.own
          exact LsAt.kept (LsAt.kept h0 (KeptT.set hM.out.mid.at2 (by decide))) (kept8 hE.at0 (by decide) _ _ _ _ _ _ _ _)
        · exact below8 (hM.out.mid.bl.setCell (Nat.le_refl _) _) (by omega) _ _ _ _ _ _ _ _
end Go.Proofs.YtfkjobiapjhacabGreat
