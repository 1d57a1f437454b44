/- Contracts of package gateway: handle. Own work. -/
import Derived.Test.YtfkjobiapjhacabGreatG4
namespace Go.Proofs.YtfkjobiapjhacabGreat
open Go.RowKit
attribute [local go_sem ↓] Go.wp_at_zero Go.wp_at_succ

set_option maxRecDepth 100000 in
set_option maxHeartbeats 4000000 in
theorem handle_any {w : World} {b : Nat} {v : Value} {s : BX} (h : BoxAt w b v s) (hk : OKB s) (side : Int) (raw : ByteArray) (hTR : pieceB (raw.extract 0 20) = false → errB (byteAt raw 9) (raw.extract 20 raw.size) = false ∨ TrOK b s) (hTK : pieceB (raw.extract 0 20) = true → TkOK b s ∧ ∀ wl, TrOK b { s with wl := wl }) :
    Calls Tryz.prog 39 #[.pointer (some ⟨b, 0, none⟩), .int .i64 side, .string raw] w fun e w' => ∃ fv, e = .returned (.tuple #[.int .i64 (handG s side raw).what, fv]) ∧ FrsAt w' fv (handG s side raw).frs ∧ ∃ v', BoxAt w' b v' { s with l := (handG s side raw).l, wl := (handG s side raw).wl } ∧ Chg b v w w' v' := by
  obtain ⟨HM, hHM⟩ : ∃ HM, HM = handG s side raw := ⟨_, rfl⟩
  rw [← hHM]
  unfold handG at hHM
  have hM : Hid (GMid w w b v v s []) := GMid.start h
  clear h
  by_cases c0 : ¬ side = 0 ∧ ¬ side = 1
  · rw [if_pos c0] at hHM
    subst hHM
    have c0a : (side != 0) = true := by simp [c0.1]
    have c0b : (side != 1) = true := by simp [c0.2]
    clear c0
    go_enter Tryz.func39, Tryz.ntmps39
    go_wp2_with fail
    go_ret2
    exact ⟨_, rfl, LsAt.nil, v, hM.out.box, hM.out.chg⟩
  · rw [if_neg c0] at hHM
    have c0' : (side != 0) = false ∨ (side != 0) = true ∧ (side != 1) = false := by
      by_cases e : side = 0
      · left; simp [e]
      · right
        have : side = 1 := Decidable.byContradiction fun h => c0 ⟨e, h⟩
        simp [this]
    clear c0
    by_cases c1 : rFault raw = 0
    · rw [if_neg (by simp [c1])] at hHM
      have HPA : Hid (∀ W, Calls Tryz.prog 46 #[.string raw] W fun e w' => e = .returned (.tuple #[.agg #[.string (raw.extract 0 20), .int .i64 (addrAt raw 12), .int .i64 (addrAt raw 16), .int .i64 (byteAt raw 9), .string (raw.extract 20 raw.size)], .int .i64 0]) ∧ Below W.heap.size W w') := fun W => by
        have := Parse_any raw W _ (Or.inl ⟨c1, rfl⟩)
        rw [c1] at this
        exact this
      have hh20 : (raw.extract 0 20).size = 20 := by
        unfold rFault at c1
        split at c1
        · omega
        · rw [ByteArray.size_extract]; omega
      have hb140 : (raw.extract 20 raw.size).size ≤ 140 := by
        unfold rFault at c1
        split at c1
        · omega
        · rw [ByteArray.size_extract]; omega
      have hs := addrAt_bd raw 12
      have hd := addrAt_bd raw 16
      have hpr := byteAt_bd raw 9
      have hb1 : 1 ≤ (raw.extract 20 raw.size).size := by
        unfold rFault at c1
        split at c1
        · omega
        · rw [ByteArray.size_extract]; omega
      have hmb : moreB (raw.extract 0 20) = true → (raw.extract 20 raw.size).size % 8 = 0 := fun hmo => by
        unfold rFault at c1
        split at c1
        · omega
        · unfold pFault at c1
          unfold moreB at hmo
          split at c1
          · omega
          split at c1
          · omega
          split at c1
          · omega
          split at c1
          · omega
          split at c1
          · omega
          · rename_i hno
            have : ¬ ((((raw.extract 20 raw.size).size : Nat) : Int) % 8 != 0) = true := fun h => hno ⟨hmo, h⟩
            generalize (raw.extract 20 raw.size).size = z at this ⊢
            simp at this
            omega
      unfold pkOf at hHM
      generalize raw.extract 0 20 = HB at HPA hHM hh20 hTR hTK hmb
      generalize raw.extract 20 raw.size = BD at HPA hHM hb140 hTR hb1 hmb
      generalize addrAt raw 12 = src at HPA hHM hs
      generalize addrAt raw 16 = dst at HPA hHM hd
      generalize byteAt raw 9 = pr at HPA hHM hpr hTR
      clear c1
      have HMP : Hid (∀ W, BoxAt W b v s → Calls Tryz.prog 47 #[.pointer (some ⟨b, 0, none⟩), .int .i64 side, .int .i64 src, .int .i64 dst] W fun e w' => e = .returned (.bool (mayB s side src dst)) ∧ Below W.heap.size W w') := fun W hW => mayPass_any hW side src dst hs.1 hs.2 hd.1 hd.2 hk.n0 hk.n1
      by_cases c2 : mayB s side src dst = false
      · rw [if_pos c2] at hHM
        subst hHM
        rw [c2] at HMP
        rcases c0' with c0a | ⟨c0a, c0b⟩
        all_goals
          go_enter Tryz.func39, Tryz.ntmps39
          go_wp2_with (first | (go_at_call 46; refine (HPA.out _).mono ?_; rintro e w1 ⟨rfl, hb1⟩; have hM1 := hM.out.call hb1; clear hM hb1; have hM : Hid _ := hM1; clear hM1) | (go_at_call 47; refine (HMP.out _ (hM.out.alloc' #[.string HB, .int .i64 src, .int .i64 dst, .int .i64 pr, .string BD] 83 w1.heap.size rfl).box).mono ?_; rintro e w2 ⟨rfl, hb2⟩; have hM1 := (hM.out.alloc' #[.string HB, .int .i64 src, .int .i64 dst, .int .i64 pr, .string BD] 83 w1.heap.size rfl).call hb2; clear hM hb2; obtain ⟨⟨k0, k1, k2, k3, k4⟩, kf⟩ := c5g hM1.at0; have hM : Hid _ := hM1; clear hM1))
          go_ret2
          exact ⟨_, rfl, LsAt.nil, v, hM.out.box, hM.out.chg⟩
      · rw [if_neg c2] at hHM
        have c2' : mayB s side src dst = true := by simpa using c2
        rw [c2'] at HMP
        clear c2 c2'
        by_cases c3 : pr = 1 ∨ pr = 6 ∨ pr = 17
        · rw [if_neg (by simp [c3])] at hHM
          have c3' : (pr != 1) = false ∨ (pr != 1) = true ∧ (pr != 6) = false ∨ (pr != 1) = true ∧ (pr != 6) = true ∧ (pr != 17) = false := by
            rcases c3 with e | e | e <;> simp [e]
          have HPI : Hid (∀ W, Calls Tryz.prog 48 #[.agg #[.string HB, .int .i64 src, .int .i64 dst, .int .i64 pr, .string BD]] W fun e w' => e = .returned (.bool (pieceB HB)) ∧ Below W.heap.size W w') := fun W => Piece_any HB BD src dst pr W
          have hPK : PKok ⟨HB, src, dst, pr, BD⟩ := ⟨hh20, hb1, hb140, c3, hs.1, hs.2, hd.1, hd.2, hmb⟩
          by_cases c4 : pieceB HB = true
          · rw [if_pos c4] at hHM
            obtain ⟨hTK1, hTR1⟩ := hTK c4
            obtain ⟨hPL, hTKC⟩ := hTK1 side ⟨HB, src, dst, pr, BD⟩ hPK c4
            rw [c4] at HPI
            obtain ⟨TK, hTKe⟩ : ∃ TK, TK = takeP s.wl side ⟨HB, src, dst, pr, BD⟩ s.ps s.gl s.tm := ⟨_, rfl⟩
            rw [← hTKe] at hHM hPL
            have HTK : Hid (∀ W, BoxAt W b v s → Calls Tryz.prog 50 #[.pointer (some ⟨b, 27, none⟩), .int .i64 side, .agg #[.string HB, .int .i64 src, .int .i64 dst, .int .i64 pr, .string BD], .agg #[.int .i64 s.ou, .int .i64 s.ne, .int .i64 s.bi, .int .i64 s.lo, .int .i64 s.hi, .int .i64 s.ps, .int .i64 s.gl], .int .i64 s.tm] W fun e w' => ∃ pv, e = .returned (.tuple #[.int .i64 TK.what, pv]) ∧ KsAt w' pv TK.pk ∧ BoxAt w' b v { s with wl := TK.wl } ∧ Chg b v W w' v) := fun W hW => by rw [hTKe]; exact hTKC v W hW
            have HPS : Hid (TK.what = 0 → ∀ W pv, BoxAt W b v { s with wl := TK.wl } → KsAt W pv TK.pk → Calls Tryz.prog 49 #[.pointer (some ⟨b, 0, none⟩), .int .i64 side, pv] W fun e w' => ∃ fv, e = .returned (.tuple #[.int .i64 (passH { s with wl := TK.wl } side TK.pk).what, fv]) ∧ FrsAt w' fv (passH { s with wl := TK.wl } side TK.pk).frs ∧ ∃ v', BoxAt w' b v' { s with wl := TK.wl, l := (passH { s with wl := TK.wl } side TK.pk).l } ∧ Chg b v W w' v') := fun h0 W pv hW hks =>
              pass_any hW ⟨hk.n0, hk.n1, hk.o0, hk.o1, hk.l0, hk.l1, hk.l2, hk.t0, hk.t1, hk.len, hk.ia⟩ side pv TK.pk hks (hPL h0).n (hPL h0).b (hPL h0).m (hPL h0).pr (hPL h0).s0 (hPL h0).s1 (hPL h0).d0 (hPL h0).d1 (Or.inr (hTR1 _))
            unfold tookH at hHM
            have hwl : (passH { s with wl := TK.wl } side TK.pk).wl = TK.wl := by unfold passH; split <;> rfl
            generalize passH { s with wl := TK.wl } side TK.pk = PH at HPS hHM hwl
            clear c3 c4 hTKe hTKC hPL hTR1 hTK1 hTR hTK hPK hmb
            go_enter Tryz.func39, Tryz.ntmps39
            go_upto_region 1 with fail; go_cut [17] (fun s17 wx => s17 = .bool false ∧ wx = w); (case first => (rcases c0' with c0a | ⟨c0a, c0b⟩ <;> (go_wp2_with fail; go_meet; exact ⟨rfl, rfl⟩))); obtain ⟨hu, hwc⟩ := hcut; subst hu; rw [hwc]; clear hwc
            go_upto_region 8 with (first | (go_at_call 46; refine (HPA.out _).mono ?_; rintro e w1 ⟨rfl, hb1⟩; have hM1 := hM.out.call hb1; clear hM hb1; have hM : Hid _ := hM1; clear hM1) | (go_at_call 47; refine (HMP.out _ (hM.out.alloc' #[.string HB, .int .i64 src, .int .i64 dst, .int .i64 pr, .string BD] 83 w1.heap.size rfl).box).mono ?_; rintro e w2 ⟨rfl, hb2⟩; have hM1 := (hM.out.alloc' #[.string HB, .int .i64 src, .int .i64 dst, .int .i64 pr, .string BD] 83 w1.heap.size rfl).call hb2; clear hM hb2; obtain ⟨⟨k0, k1, k2, k3, k4⟩, kf⟩ := c5g hM1.at0; have hM : Hid _ := hM1; clear hM1))
            go_cut [46] (fun s46 wx => s46 = .bool false ∧ wx = w2); (case first => (rcases c3' with c3a | ⟨c3a, c3b⟩ | ⟨c3a, c3b, c3c⟩ <;> (go_wp2_with fail; go_meet; exact ⟨rfl, rfl⟩))); obtain ⟨hu, hwc⟩ := hcut; subst hu; rw [hwc]; clear hwc
            go_wp2_with (go_at_call 48; refine (HPI.out _).mono ?_; rintro e w3 ⟨rfl, hb3⟩; have hM1 := hM.out.call hb3; clear hM hb3 k0 k1 k2 k3 k4 kf; obtain ⟨⟨k0, k1, k2, k3, k4⟩, kf⟩ := c5g hM1.at0; have hM : Hid _ := hM1; clear hM1)
            obtain ⟨⟨a0, a1, a2, a3, a4, a5, a6, a7, a8⟩, af⟩ := hM.out.box.get
            have n0 := hM.out.box.lt
            go_region_held3 (fun w' => w'.cell? ⟨w1.heap.size, 0, none⟩ = some (.string HB) ∧ w'.cell? ⟨w1.heap.size, 1, none⟩ = some (.int .i64 src) ∧ w'.cell? ⟨w1.heap.size, 2, none⟩ = some (.int .i64 dst) ∧ w'.cell? ⟨w1.heap.size, 3, none⟩ = some (.int .i64 pr) ∧ w'.cell? ⟨w1.heap.size, 4, none⟩ = some (.string BD) ∧ w'.cell? ⟨b, 0, none⟩ = some (.int .i64 s.ou) ∧ w'.cell? ⟨b, 1, none⟩ = some (.int .i64 s.ne) ∧ w'.cell? ⟨b, 2, none⟩ = some (.int .i64 s.bi) ∧ w'.cell? ⟨b, 3, none⟩ = some (.int .i64 s.lo) ∧ w'.cell? ⟨b, 4, none⟩ = some (.int .i64 s.hi) ∧ w'.cell? ⟨b, 5, none⟩ = some (.int .i64 s.ps) ∧ w'.cell? ⟨b, 6, none⟩ = some (.int .i64 s.gl) ∧ w'.cell? ⟨b, 7, none⟩ = some (.int .i64 s.tm)) (simp [*]) (first | (go_at_call 50; refine (HTK.out _ hM.out.drew.box).mono ?_; rintro e w4 ⟨pv, rfl, hks, hbx4, hch4⟩; have HKS : Hid (KsAt w4 pv TK.pk) := hks; have hM1 := hM.out.drew.change hbx4 hch4; clear hM hbx4 hch4 hks k0 k1 k2 k3 k4 kf a0 a1 a2 a3 a4 a5 a6 a7 a8 af; obtain ⟨⟨k0, k1, k2, k3, k4⟩, kf⟩ := c5g hM1.at0; obtain ⟨⟨a0, a1, a2, a3, a4, a5, a6, a7, a8⟩, af⟩ := hM1.box.get; have hM : Hid _ := hM1; clear hM1))
            by_cases c5 : TK.what = 0
            · rw [if_pos c5] at hHM
              subst hHM
              have HP2 := HPS.out c5
              have HPQ : Hid (∀ W pv, BoxAt W b v { s with wl := TK.wl } → KsAt W pv TK.pk → Calls Tryz.prog 49 #[.pointer (some ⟨b, 0, none⟩), .int .i64 side, pv] W fun e w' => ∃ fv, e = .returned (.tuple #[.int .i64 HM.what, fv]) ∧ FrsAt w' fv HM.frs ∧ ∃ v', BoxAt w' b v' { s with wl := TK.wl, l := HM.l } ∧ Chg b v W w' v') := HP2
              have HWL : Hid (HM.wl = TK.wl) := hwl
              have c5b : (TK.what != 0) = false := by simp [c5]
              clear c5 HPS HP2 hwl
              go_wp2_with fail
              refine (HPQ.out _ _ hM.out.box HKS.out).mono ?_
              rintro e w5 ⟨fv, rfl, hfr, v5, hbx5, hch5⟩
              have HFR : Hid (FrsAt w5 fv HM.frs) := hfr
              have hM1 := hM.out.change hbx5 hch5
              clear hM hbx5 hch5 hfr k0 k1 k2 k3 k4 kf a0 a1 a2 a3 a4 a5 a6 a7 a8 af
              have hM : Hid _ := hM1
              clear hM1
              go_wp2_with fail
              go_ret2
              refine ⟨_, rfl, HFR.out, v5, ?_, hM.out.chg⟩
              rw [HWL.out]
              exact hM.out.box
            · rw [if_neg c5] at hHM
              subst hHM
              have c5b : (TK.what != 0) = true := by simp [c5]
              clear c5 HPS
              go_wp2_with fail
              go_ret2
              exact ⟨_, rfl, LsAt.nil, v, hM.out.box, hM.out.chg⟩
          · rw [if_neg c4] at hHM
            have c4' : pieceB HB = false := by simpa using c4
            have hTR1 := hTR c4'
            rw [c4'] at HPI
            have hPL := PLok.one hPK
            have HPS : Hid (∀ W pv, BoxAt W b v s → KsAt W pv [⟨HB, src, dst, pr, BD⟩] → Calls Tryz.prog 49 #[.pointer (some ⟨b, 0, none⟩), .int .i64 side, pv] W fun e w' => ∃ fv, e = .returned (.tuple #[.int .i64 (passH s side [⟨HB, src, dst, pr, BD⟩]).what, fv]) ∧ FrsAt w' fv (passH s side [⟨HB, src, dst, pr, BD⟩]).frs ∧ ∃ v', BoxAt w' b v' { s with l := (passH s side [⟨HB, src, dst, pr, BD⟩]).l } ∧ Chg b v W w' v') := fun W pv hW hks =>
              pass_any hW hk side pv [⟨HB, src, dst, pr, BD⟩] hks hPL.n hPL.b hPL.m hPL.pr hPL.s0 hPL.s1 hPL.d0 hPL.d1 (by
                have e : wOf [(⟨HB, src, dst, pr, BD⟩ : KP)] = ⟨pr, src, dst, ⟨#[]⟩ ++ BD⟩ := rfl
                have e2 : (⟨#[]⟩ : ByteArray) ++ BD = BD := bl_inj (by simp [bl])
                rw [e, e2]; exact hTR1)
            have hwl : (passH s side [⟨HB, src, dst, pr, BD⟩]).wl = s.wl := by unfold passH; split <;> rfl
            generalize passH s side [⟨HB, src, dst, pr, BD⟩] = PH at HPS hHM hwl
            subst hHM
            have HWL : Hid (HM.wl = s.wl) := hwl
            clear c3 c4 c4' hTR1 hTR hTK hPK hPL hmb hwl
            go_enter Tryz.func39, Tryz.ntmps39
            go_upto_region 1 with fail; go_cut [17] (fun s17 wx => s17 = .bool false ∧ wx = w); (case first => (rcases c0' with c0a | ⟨c0a, c0b⟩ <;> (go_wp2_with fail; go_meet; exact ⟨rfl, rfl⟩))); obtain ⟨hu, hwc⟩ := hcut; subst hu; rw [hwc]; clear hwc
            go_upto_region 8 with (first | (go_at_call 46; refine (HPA.out _).mono ?_; rintro e w1 ⟨rfl, hb1⟩; have hM1 := hM.out.call hb1; clear hM hb1; have hM : Hid _ := hM1; clear hM1) | (go_at_call 47; refine (HMP.out _ (hM.out.alloc' #[.string HB, .int .i64 src, .int .i64 dst, .int .i64 pr, .string BD] 83 w1.heap.size rfl).box).mono ?_; rintro e w2 ⟨rfl, hb2⟩; have hM1 := (hM.out.alloc' #[.string HB, .int .i64 src, .int .i64 dst, .int .i64 pr, .string BD] 83 w1.heap.size rfl).call hb2; clear hM hb2; obtain ⟨⟨k0, k1, k2, k3, k4⟩, kf⟩ := c5g hM1.at0; have hM : Hid _ := hM1; clear hM1))
            go_cut [46] (fun s46 wx => s46 = .bool false ∧ wx = w2); (case first => (rcases c3' with c3a | ⟨c3a, c3b⟩ | ⟨c3a, c3b, c3c⟩ <;> (go_wp2_with fail; go_meet; exact ⟨rfl, rfl⟩))); obtain ⟨hu, hwc⟩ := hcut; subst hu; rw [hwc]; clear hwc
            go_wp2_with (go_at_call 48; refine (HPI.out _).mono ?_; rintro e w3 ⟨rfl, hb3⟩; have hM1 := hM.out.call hb3; clear hM hb3 k0 k1 k2 k3 k4 kf; obtain ⟨⟨k0, k1, k2, k3, k4⟩, kf⟩ := c5g hM1.at0; have hM : Hid _ := hM1; clear hM1)
            have hE := hM.out.alloc' #[.string HB, .int .i64 src, .int .i64 dst, .int .i64 pr, .string BD] 83 w3.heap.size rfl
            refine (HPS.out _ _ hE.box (KsAt.one (p := ⟨HB, src, dst, pr, BD⟩) hE.at0)).mono ?_
            rintro e w5 ⟨fv, rfl, hfr, v5, hbx5, hch5⟩
            have HFR : Hid (FrsAt w5 fv HM.frs) := hfr
            have hM1 := hE.change hbx5 hch5
            clear hM hbx5 hch5 hfr hE k0 k1 k2 k3 k4 kf
            have hM : Hid _ := hM1
            clear hM1
            go_wp2_with fail
            go_ret2
            refine ⟨_, rfl, HFR.out, v5, ?_, hM.out.chg⟩
            rw [HWL.out]
            exact hM.out.box
        · rw [if_pos c3] at hHM
          subst hHM
          have c3a : (pr != 1) = true := by simp; omega
          have c3b : (pr != 6) = true := by simp; omega
          have c3c : (pr != 17) = true := by simp; omega
          clear c3
          rcases c0' with c0a | ⟨c0a, c0b⟩
          all_goals
            go_enter Tryz.func39, Tryz.ntmps39
            go_wp2_with (first | (go_at_call 46; refine (HPA.out _).mono ?_; rintro e w1 ⟨rfl, hb1⟩; have hM1 := hM.out.call hb1; clear hM hb1; have hM : Hid _ := hM1; clear hM1) | (go_at_call 47; refine (HMP.out _ (hM.out.alloc' #[.string HB, .int .i64 src, .int .i64 dst, .int .i64 pr, .string BD] 83 w1.heap.size rfl).box).mono ?_; rintro e w2 ⟨rfl, hb2⟩; have hM1 := (hM.out.alloc' #[.string HB, .int .i64 src, .int .i64 dst, .int .i64 pr, .string BD] 83 w1.heap.size rfl).call hb2; clear hM hb2; obtain ⟨⟨k0, k1, k2, k3, k4⟩, kf⟩ := c5g hM1.at0; have hM : Hid _ := hM1; clear hM1))
            go_ret2
            exact ⟨_, rfl, LsAt.nil, v, hM.out.box, hM.out.chg⟩
    · rw [if_pos c1] at hHM
      subst hHM
      have HPA : Hid (∀ W, Calls Tryz.prog 46 #[.string raw] W fun e w' => e = .returned (.tuple #[.agg #[.string ⟨#[]⟩, .int .i64 0, .int .i64 0, .int .i64 0, .string ⟨#[]⟩], .int .i64 (rFault raw)]) ∧ Below W.heap.size W w') := fun W => Parse_any raw W _ (Or.inr ⟨c1, rfl⟩)
      have c1b : (rFault raw != 0) = true := by simp [c1]
      clear c1
      rcases c0' with c0a | ⟨c0a, c0b⟩
      all_goals
        go_enter Tryz.func39, Tryz.ntmps39
        go_wp2_with (go_at_call 46; refine (HPA.out _).mono ?_; rintro e w1 ⟨rfl, hb1⟩; have hM1 := hM.out.call hb1; clear hM hb1; have hM : Hid _ := hM1; clear hM1)
        go_ret2
        have hE := hM.out.alloc' #[.string ⟨#[]⟩, .int .i64 0, .int .i64 0, .int .i64 0, .string ⟨#[]⟩] 83 w1.heap.size rfl
        exact ⟨_, rfl, LsAt.nil, v, hE.box, hE.chg⟩
end Go.Proofs.YtfkjobiapjhacabGreat
