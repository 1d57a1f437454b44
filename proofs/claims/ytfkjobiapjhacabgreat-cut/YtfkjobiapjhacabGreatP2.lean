/- Own work. -/
import Derived.Test.YtfkjobiapjhacabGreatP1
import Derived.Test.YtfkjobiapjhacabGreatG1
/- Contracts of package pieces: names, find, drop. Own work. -/
namespace Go.Proofs.YtfkjobiapjhacabGreat
open Go.RowKit
attribute [local go_sem ↓] Go.wp_at_zero Go.wp_at_succ

set_option maxRecDepth 100000 in
set_option maxHeartbeats 2000000 in
theorem nbefore_any (x y : PD) (w : World) : Calls Tryz.prog 89 #[.agg #[.int .i64 x.sd, .int .i64 x.sr, .int .i64 x.ds, .int .i64 x.pr, .int .i64 x.nu], .agg #[.int .i64 y.sd, .int .i64 y.sr, .int .i64 y.ds, .int .i64 y.pr, .int .i64 y.nu]] w fun e w' => e = .returned (.bool (befP x y)) ∧ Below w.heap.size w w' := by
  have HF : Hid (befP x y = if ¬ x.sd = y.sd then decide (x.sd < y.sd) else if ¬ x.sr = y.sr then decide (x.sr < y.sr) else if ¬ x.ds = y.ds then decide (x.ds < y.ds) else if ¬ x.pr = y.pr then decide (x.pr < y.pr) else decide (x.nu < y.nu)) := rfl
  go_enter Tryz.func89, Tryz.ntmps89
  go_wp2
  all_goals
    go_ret
    refine ⟨g_bool ?_, ((Below.refl _ _).alloc (Nat.le_refl _) _).alloc (by simp) _⟩
    rw [HF.out]
    clear HF
    (repeat' split) <;> first | rfl | (exfalso; simp_all; done) | (simp_all; done)
theorem kept8 {t t' : TypeId} {W : World} {b : Nat} {c : Array Value} (h : W.heap[b]? = some (.cells c t' (0, 0))) (hne : t ≠ t') (c0 c1 c2 c3 c4 c5 c6 c7 : Value) : KeptT t W ((((((((W.setCell ⟨b, 0, none⟩ c0).setCell ⟨b, 1, none⟩ c1).setCell ⟨b, 2, none⟩ c2).setCell ⟨b, 3, none⟩ c3).setCell ⟨b, 4, none⟩ c4).setCell ⟨b, 5, none⟩ c5).setCell ⟨b, 6, none⟩ c6).setCell ⟨b, 7, none⟩ c7) :=
  KeptT.grown h (setsW_grown b [c0, c1, c2, c3, c4, c5, c6, c7] W W 0 ⟨rfl, rfl, rfl, Nat.le_refl _, fun _ _ _ => rfl⟩) hne
theorem below8 {B b : Nat} {w0 W : World} (h : Below B w0 W) (hb : B ≤ b) (c0 c1 c2 c3 c4 c5 c6 c7 : Value) : Below B w0 ((((((((W.setCell ⟨b, 0, none⟩ c0).setCell ⟨b, 1, none⟩ c1).setCell ⟨b, 2, none⟩ c2).setCell ⟨b, 3, none⟩ c3).setCell ⟨b, 4, none⟩ c4).setCell ⟨b, 5, none⟩ c5).setCell ⟨b, 6, none⟩ c6).setCell ⟨b, 7, none⟩ c7) :=
  (((((((h.setCell hb _).setCell hb _).setCell hb _).setCell hb _).setCell hb _).setCell hb _).setCell hb _).setCell hb _
/-- Is the datagram of that name? -/
def nmB (x d : PD) : Bool := d.sd == x.sd && d.sr == x.sr && d.ds == x.ds && d.pr == x.pr && d.nu == x.nu
def foundN (x : PD) (wl : List PD) : PD := (wl.find? (nmB x)).getD pd0
theorem foundN_hit (x : PD) (rl : List PR) (k : Nat) (h : k < rl.length) (hno : ∀ j (hj : j < rl.length), j < k → nmB x rl[j].d = false) (hy : nmB x rl[k].d = true) : foundN x (rl.map PR.d) = rl[k].d := by
  unfold foundN
  rw [find?_hit (nmB x) (rl.map PR.d) k (by simpa using h) (fun i hi => by simpa using hno i (by omega) hi) (by simpa using hy)]
  simp
theorem foundN_miss (x : PD) (rl : List PR) (hno : ∀ j (hj : j < rl.length), nmB x rl[j].d = false) : foundN x (rl.map PR.d) = pd0 := by
  unfold foundN
  rw [find?_miss (nmB x) (rl.map PR.d) (fun i hi => by simpa using hno i (by simpa using hi))]
  rfl
set_option maxRecDepth 100000 in
set_option maxHeartbeats 1000000 in
theorem Pfind_any (sb so : Nat) (v : Value) (rl : List PR) (x : PD) (w : World) (hc : w.cell? ⟨sb, so, none⟩ = some v) (hl : PsAt w v rl) (hn : rl.length ≤ 1000) (fd : PD) (hfd : fd = foundN x (rl.map PR.d)) :
    Calls Tryz.prog 64 #[.pointer (some ⟨sb, so, none⟩), .agg #[.int .i64 x.sd, .int .i64 x.sr, .int .i64 x.ds, .int .i64 x.pr, .int .i64 x.nu]] w fun e w' => ∃ hv, e = .returned (.agg #[.int .i64 fd.sd, .int .i64 fd.sr, .int .i64 fd.ds, .int .i64 fd.pr, .int .i64 fd.nu, .bool fd.gu, .int .i64 fd.dl, hv]) ∧ KsAt w' hv fd.held ∧ Below w.heap.size w w' := by
  have HFD : Hid (fd = foundN x (rl.map PR.d)) := hfd
  clear hfd
  have HL : Hid (PsAt w v rl) := hl
  have htb := lt_of_cell hc
  obtain ⟨ao, cap, hv⟩ := hl.1.shape
  clear hl
  subst hv
  generalize hlen : rl.length = len at hn hc HL
  have HE : Hid (rl.length = len) := hlen
  clear hlen
  have HM0 : Hid (LMid w ((w.alloc (.cells #[.int .i64 x.sd, .int .i64 x.sr, .int .i64 x.ds, .int .i64 x.pr, .int .i64 x.nu] 92)).alloc (.cells #[.int .i64 0, .int .i64 0, .int .i64 0, .int .i64 0, .int .i64 0, .bool false, .int .i64 0, .slice none 0 0] 94)) [(w.heap.size + 1, #[.int .i64 0, .int .i64 0, .int .i64 0, .int .i64 0, .int .i64 0, .bool false, .int .i64 0, .slice none 0 0], 94), (w.heap.size, #[.int .i64 x.sd, .int .i64 x.sr, .int .i64 x.ds, .int .i64 x.pr, .int .i64 x.nu], 92)]) := ((LMid.start w).alloc' _ _ _ rfl).alloc' _ _ _ (by simp)
  go_enter Tryz.func64, Tryz.ntmps64
  go_wp2
  go_loopw [12] (fun i wr => ∃ k : Nat, k ≤ len ∧ i = .int .i64 k ∧ (∀ j (hj : j < rl.length), j < k → nmB x rl[j].d = false) ∧ LMid w wr [(w.heap.size + 1, #[.int .i64 0, .int .i64 0, .int .i64 0, .int .i64 0, .int .i64 0, .bool false, .int .i64 0, .slice none 0 0], 94), (w.heap.size, #[.int .i64 x.sd, .int .i64 x.sr, .int .i64 x.ds, .int .i64 x.pr, .int .i64 x.nu], 92)]) (fun i _ => len - (intOf i).toNat)
  case atStart => exact ⟨0, Nat.zero_le _, rfl, fun _ _ h => absurd h (Nat.not_lt_zero _), HM0.out⟩
  case round =>
    obtain ⟨k, hk, rfl, hno, hM1⟩ := hrel
    by_cases hlt : k < len
    · have hlo : k < rl.length := by have := HE.out; omega
      have hks := (PsAt.keep HL.out hM1.bl).2 rl[k] (List.getElem_mem _)
      obtain ⟨g, cp, hv, hg, q0, q1, q2, q3, q4, q5, q6, q7, hao, hln, hcp, hhv⟩ := PsAt.get (PsAt.keep HL.out hM1.bl) k hlo
      simp at hv
      obtain ⟨rfl, -, rfl⟩ := hv
      have HHIT : Hid (nmB x rl[k].d = true → fd = rl[k].d) := fun hy => HFD.out.trans (foundN_hit x rl k hlo hno hy)
      have HNX : Hid (nmB x rl[k].d = false → ∀ j (hj : j < rl.length), j < k + 1 → nmB x rl[j].d = false) := fun hy j hj hjk => by
        rcases Nat.lt_succ_iff_lt_or_eq.1 hjk with h | h
        · exact hno j hj h
        · subst h; exact hy
      have HNB : Hid (nmB x rl[k].d = (rl[k].d.sd == x.sd && rl[k].d.sr == x.sr && rl[k].d.ds == x.ds && rl[k].d.pr == x.pr && rl[k].d.nu == x.nu)) := rfl
      clear hno
      generalize rl[k] = o at q0 q1 q2 q3 q4 q5 q6 q7 hhv hks HHIT HNX HNB
      rw [hhv] at q7 hks
      have HKS : Hid (KsAt wr (.slice hao hln hcp) o.d.held) := hks
      clear hhv hks
      have hkI : (0 : Int) ≤ (k : Int) := by omega
      have hkL : (k : Int) < (len : Int) := by omega
      obtain ⟨⟨z0, z1, z2, z3, z4, z5, z6, z7⟩, zf⟩ := c8h hM1.at0
      obtain ⟨⟨x0, x1, x2, x3, x4⟩, xf⟩ := c5 hM1.at1
      have n0 := lt_of_block hM1.at0
      have n1 := lt_of_block hM1.at1
      have hM : Hid _ := hM1
      clear hM1
      go_upto_region 4 with fail
      go_cut [19] (fun s19 wx => s19 = .bool (nmB x o.d) ∧ wx = wr.alloc (.cells #[.int .i64 o.d.sd, .int .i64 o.d.sr, .int .i64 o.d.ds, .int .i64 o.d.pr, .int .i64 o.d.nu, .bool o.d.gu, .int .i64 o.d.dl, .slice hao hln hcp] 94))
      case first =>
        go_wp2_with fail
        all_goals
          go_meet
          exact ⟨by rw [HNB.out]; simp [*], by simp [*]⟩
      case rest =>
        obtain ⟨rfl, rfl⟩ := hcut
        cases hy : nmB x o.d
        · go_wp2_with fail
          go_roundw
          case rel => exact ⟨k + 1, by omega, by go_num, HNX.out hy, hM.out.call ((Below.refl _ _).alloc (Nat.le_refl _) _)⟩
          case measure => simp [intOf]; omega
        · have HF : Hid (fd = o.d) := HHIT.out hy
          go_wp2_with fail
          refine bodyPost_ret (v := .agg #[.int .i64 o.d.sd, .int .i64 o.d.sr, .int .i64 o.d.ds, .int .i64 o.d.pr, .int .i64 o.d.nu, .bool o.d.gu, .int .i64 o.d.dl, .slice hao hln hcp]) (by simp [results, Tryz.results64, go_sem, *]) rfl ⟨.slice hao hln hcp, by rw [HF.out], ?_, ?_⟩
          · rw [HF.out]
            exact LsAt.keep (LsAt.kept HKS.out (kept8 hM.out.at0 (by decide) _ _ _ _ _ _ _ _)) ((Below.refl _ _).alloc (Nat.le_refl _) _)
          · exact (below8 hM.out.bl (by omega) _ _ _ _ _ _ _ _).alloc (by have := hM.out.bl.size; simp; omega) _
    · have HNO : Hid (fd = pd0) := HFD.out.trans (foundN_miss x rl (fun i hi => hno i hi (by have := HE.out; omega)))
      obtain ⟨⟨z0, z1, z2, z3, z4, z5, z6, z7⟩, zf⟩ := c8h hM1.at0
      have n0 := lt_of_block hM1.at0
      have hM : Hid _ := hM1
      clear hM1 hno
      go_wp2
      refine bodyPost_ret (v := .agg #[.int .i64 0, .int .i64 0, .int .i64 0, .int .i64 0, .int .i64 0, .bool false, .int .i64 0, .slice none 0 0]) (by simp [results, Tryz.results64, go_sem, *]) rfl ⟨_, by rw [HNO.out]; rfl, by rw [HNO.out]; exact LsAt.nil, ?_⟩
      exact below8 hM.out.bl (by omega) _ _ _ _ _ _ _ _
end Go.Proofs.YtfkjobiapjhacabGreat
/- Contracts of package pieces: drop. Own work. -/
namespace Go.Proofs.YtfkjobiapjhacabGreat
open Go.RowKit
attribute [local go_sem ↓] Go.wp_at_zero Go.wp_at_succ

/-- Not of that name. -/
def otherB (x : PD) (r : PR) : Bool := !nmB x r.d
set_option maxRecDepth 100000 in
set_option maxHeartbeats 1000000 in
theorem Pdrop_any (sb so : Nat) (v : Value) (rl : List PR) (x : PD) (w : World) (hc : w.cell? ⟨sb, so, none⟩ = some v) (hfz : w.frozen? ⟨sb, so, none⟩ = false) (hl : PsAt w v rl) (hn : rl.length ≤ 1000) :
    Calls Tryz.prog 66 #[.pointer (some ⟨sb, so, none⟩), .agg #[.int .i64 x.sd, .int .i64 x.sr, .int .i64 x.ds, .int .i64 x.pr, .int .i64 x.nu]] w fun e w' => e = .returned (.tuple #[]) ∧ ∃ v' w0, w' = w0.setCell ⟨sb, so, none⟩ v' ∧ Below w.heap.size w w0 ∧ PsAt w0 v' (rl.filter (otherB x)) := by
  have HL : Hid (PsAt w v rl) := hl
  obtain ⟨ao, cap, hv⟩ := hl.1.shape
  clear hl
  have htb := lt_of_cell hc
  subst hv
  generalize hlen : rl.length = len at hn hc HL
  have HE : Hid (rl.length = len) := hlen
  have HCC : Hid (w.cell? ⟨sb, so, none⟩ = some (.slice ao len cap)) := hc
  have HFZ : Hid (w.frozen? ⟨sb, so, none⟩ = false) := hfz
  clear hlen
  obtain ⟨i0, hi0, hz0, hz1, hz2⟩ := info_parts info_part
  go_enter Tryz.func66, Tryz.ntmps66
  go_wp2
  go_loopw [4, 13] (fun lst i wr => ∃ (k : Nat) (lv : Value), k ≤ len ∧ i = .int .i64 k ∧ lv = lst ∧ QMid w wr [(w.heap.size, #[.int .i64 x.sd, .int .i64 x.sr, .int .i64 x.ds, .int .i64 x.pr, .int .i64 x.nu], 92)] 94 8 lv ((rl.take k).filter (otherB x)).length (((rl.take k).filter (otherB x)).flatMap PR.cells)) (fun _ i _ => len - (intOf i).toNat)
  case atStart => exact ⟨0, _, Nat.zero_le _, rfl, rfl, QMid.start ((LMid.start w).alloc' _ _ _ rfl) _ _ _ (by simp)⟩
  case round =>
    obtain ⟨k, lv, hk, rfl, rfl, hM1⟩ := hrel
    by_cases hlt : k < len
    · have hlo : k < rl.length := by have := HE.out; omega
      obtain ⟨g, cp, hv, hg, q0, q1, q2, q3, q4, q5, q6, q7, hao, hln, hcp, hhv⟩ := PsAt.get (PsAt.keep HL.out hM1.mid.bl) k hlo
      simp at hv
      obtain ⟨rfl, -, rfl⟩ := hv
      have hfs := filt_snoc (otherB x) rl k hlo
      have hfl : ((rl.take k).filter (otherB x)).length ≤ k := Nat.le_trans (List.length_filter_le _ _) (by simp; omega)
      have HNB : Hid (nmB x rl[k].d = (rl[k].d.sd == x.sd && rl[k].d.sr == x.sr && rl[k].d.ds == x.ds && rl[k].d.pr == x.pr && rl[k].d.nu == x.nu)) := rfl
      have HAL : Hid (otherB x rl[k] = !nmB x rl[k].d) := rfl
      generalize rl[k] = o at q0 q1 q2 q3 q4 q5 q6 q7 hhv hfs HAL HNB
      generalize (rl.take k).filter (otherB x) = F at hM1 hfs hfl
      have HFS : Hid ((rl.take (k + 1)).filter (otherB x) = F ++ (if otherB x o then [o] else [])) := hfs
      rw [hhv] at q7
      have HOC : Hid (o.cells = [.int .i64 o.d.sd, .int .i64 o.d.sr, .int .i64 o.d.ds, .int .i64 o.d.pr, .int .i64 o.d.nu, .bool o.d.gu, .int .i64 o.d.dl, .slice hao hln hcp]) := by show _ = _; unfold PR.cells; rw [hhv]
      have HON : Hid (∀ u ∈ ([.int .i64 o.d.sd, .int .i64 o.d.sr, .int .i64 o.d.ds, .int .i64 o.d.pr, .int .i64 o.d.nu, .bool o.d.gu, .int .i64 o.d.dl, .slice hao hln hcp] : List Value), u.oneCell' = true) := by rw [← HOC.out]; exact pr_one o hhv
      have hsw := hM1.mid.bl.size
      obtain ⟨⟨x0, x1, x2, x3, x4⟩, xf⟩ := c5 hM1.mid.at0
      have n0 := lt_of_block hM1.mid.at0
      have hM : Hid (QMid w (wr.alloc (.cells #[.int .i64 o.d.sd, .int .i64 o.d.sr, .int .i64 o.d.ds, .int .i64 o.d.pr, .int .i64 o.d.nu, .bool o.d.gu, .int .i64 o.d.dl, .slice hao hln hcp] 94)) [(w.heap.size, #[.int .i64 x.sd, .int .i64 x.sr, .int .i64 x.ds, .int .i64 x.pr, .int .i64 x.nu], 92)] 94 8 lv F.length (F.flatMap PR.cells)) := hM1.call ((Below.refl _ _).alloc (Nat.le_refl _) _)
      clear hM1 hfs hhv
      have hkI : (0 : Int) ≤ (k : Int) := by omega
      have hkL : (k : Int) < (len : Int) := by omega
      go_upto_region 5 with fail
      go_cut [20] (fun s20 wx => s20 = .bool (otherB x o) ∧ wx = wr.alloc (.cells #[.int .i64 o.d.sd, .int .i64 o.d.sr, .int .i64 o.d.ds, .int .i64 o.d.pr, .int .i64 o.d.nu, .bool o.d.gu, .int .i64 o.d.dl, .slice hao hln hcp] 94))
      case first =>
        go_wp2_with fail
        all_goals
          go_meet
          exact ⟨by rw [HAL.out, HNB.out]; simp [*], by simp [*]⟩
      case rest =>
        obtain ⟨rfl, hwc⟩ := hcut
        clear x0 x1 x2 x3 x4 xf n0
        cases hy : otherB x o
        · have HFE : Hid ((rl.take (k + 1)).filter (otherB x) = F) := by
            show _ = _
            rw [HFS.out, hy]; simp
          subst hwc
          clear HFS
          go_wp2_with fail
          go_roundw
          case rel => exact ⟨k + 1, lv, by omega, by go_num, rfl, by rw [HFE.out]; exact hM.out⟩
          case measure => simp [intOf]; omega
        · have HFE : Hid ((rl.take (k + 1)).filter (otherB x) = F ++ [o]) := by
            show _ = _
            rw [HFS.out, hy]; simp
          subst hwc
          clear HFS
          go_wp2_with (at_builtin; refine wpList_append_lies _ rfl (.tmp 21) (.tmp 23) 74 rfl w.heap.size 94 i0 _ 8 80 Tryz.underlying74 hi0 hz0 hz1 hz2 rfl (by decide) lv F.length (F.flatMap PR.cells) rfl (hM.out.own.alloc _) ⟨wr.heap.size + 1, 0, none⟩ 1 1 [.int .i64 o.d.sd, .int .i64 o.d.sr, .int .i64 o.d.ds, .int .i64 o.d.pr, .int .i64 o.d.nu, .bool o.d.gu, .int .i64 o.d.dl, .slice hao hln hcp] rfl rfl (by exact World.news_of_block (B := wr.heap.size + 1) (by rw [hget_alloc, if_pos (by simp)])) HON.out (by decide) (by unfold maxLen; omega) (by omega) (by simp; omega) (wr.heap.size + 1 + 1) (by simp) ?_; intro g4 cap4 w4 hown hgrow hat hlt4; have hM1 := (hM.out.call ((Below.refl _ _).alloc (Nat.le_refl _) _)).app hgrow hown _ hat (by simp); clear hM hown hgrow hat hlt4; have hM : Hid _ := hM1; clear hM1)
          go_roundw
          case rel =>
            refine ⟨k + 1, _, by omega, by go_num, rfl, ?_⟩
            rw [HFE.out, List.length_append, List.flatMap_append]
            simpa [HOC.out] using hM.out
          case measure => simp [intOf]; omega
    · have e : k = rl.length := by have := HE.out; omega
      subst e
      rw [List.take_length] at hM1
      have HO : Hid (PsAt wr lv (rl.filter (otherB x))) := ⟨LsAt.of_owns PR.len hM1.own, fun r hr => LsAt.keep (HL.out.2 r ((List.mem_filter.1 hr).1)) hM1.mid.bl⟩
      have HB : Hid (Below w.heap.size w wr) := hM1.mid.bl
      have c1 := (hM1.mid.bl.cell (p := ⟨sb, so, none⟩) htb).trans HCC.out
      have f1 := (hM1.mid.bl.frozen (p := ⟨sb, so, none⟩) htb).trans HFZ.out
      obtain ⟨la, cp, hla⟩ := owns_shape hM1.own
      clear hM1
      subst hla
      go_wp2
      go_end0
      exact ⟨rfl, _, wr, rfl, HB.out, HO.out⟩
theorem filter_other (x : PD) (rl : List PR) : (rl.filter (otherB x)).map PR.d = (rl.map PR.d).filter (fun d => !nmB x d) := by
  induction rl with
  | nil => rfl
  | cons r t ih =>
    simp only [List.filter_cons, List.map_cons, otherB]
    by_cases h : nmB x r.d = true
    · simp [h, ih]
    · simp [h, ih]
theorem wDrop {w : World} {b : Nat} {v : Value} {s : BX} (h : BoxAt w b v s) (hn : s.wl.length ≤ 1000) (x : PD) :
    Calls Tryz.prog 66 #[.pointer (some ⟨b, 27, none⟩), .agg #[.int .i64 x.sd, .int .i64 x.sr, .int .i64 x.ds, .int .i64 x.pr, .int .i64 x.nu]] w fun e w' => e = .returned (.tuple #[]) ∧ BoxAt w' b v { s with wl := s.wl.filter (fun d => !nmB x d) } ∧ Chg b v w w' v := by
  obtain ⟨wv, hc, rl, e, hp⟩ := h.wait
  refine (Pdrop_any b 27 wv rl x w hc (h.get.2 _) hp (by rw [← e] at hn; simpa using hn)).mono ?_
  rintro y w' ⟨rfl, v', w0, rfl, hb, ho⟩
  exact ⟨rfl, h.wanew hb ⟨_, by rw [filter_other, e], ho⟩⟩
end Go.Proofs.YtfkjobiapjhacabGreat
