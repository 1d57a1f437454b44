/- Cut: cut. Own work. -/
import Derived.Test.YtfkjobiapjhacabGreatCa
import Derived.Test.YtfkjobiapjhacabGreatQd
import Derived.Deep.AppendLies
namespace Go.Proofs.YtfkjobiapjhacabGreat
open Go.RowKit
attribute [local go_sem ↓] Go.wp_at_zero Go.wp_at_succ

def pkC (p : PK) : List Value := [.int .i64 p.id, .int .i64 p.fl, .int .i64 p.off, .int .i64 p.ttl, .int .i64 p.pr, .int .i64 p.src, .int .i64 p.dst, .string p.body]
theorem pkC_len (p : PK) : (pkC p).length = 8 := rfl
def PksAt (w : World) (v : Value) (l : List PK) : Prop := LsAt w 37 8 pkC v l
theorem info_pk : (Tryz.prog.info? 37).map (fun i => (i.zero, i.size, i.bytes)) = some (some (.agg #[.int .i64 0, .int .i64 0, .int .i64 0, .int .i64 0, .int .i64 0, .int .i64 0, .int .i64 0, .string ⟨#[]⟩]), 8, 72) := by kernel_rfl
theorem cB_last {h f : Int} {M : ByteArray} {q N : Nat} (z : CZ h f M q N) {k : Nat} (hk : k < N) (hl : ¬ k + 1 < N) : M.extract (8 * (q * k)) M.size = cB M q k := by
  have h1 := z.m1
  obtain rfl : N = k + 1 := by omega
  rw [Nat.mul_succ] at h1
  unfold cB
  apply bl_inj
  rw [bl_ex, bl_ex, ← bl_length]
  rw [← bl_length] at h1
  rw [List.take_of_length_le (by simp), List.take_of_length_le (by simp; omega)]
theorem cB_mid {M : ByteArray} {q k : Nat} : (M.extract (8 * (q * k)) M.size).extract 0 (8 * q) = cB M q k := by
  unfold cB
  apply bl_inj
  rw [bl_ex, bl_ex, bl_ex, ← bl_length]
  simp only [List.drop_zero, Nat.sub_zero]
  rw [List.take_of_length_le (l := List.drop _ _) (by simp)]
  congr 1
  omega
set_option maxRecDepth 100000 in
set_option maxHeartbeats 1000000 in
theorem cut_any {h f : Int} {M : ByteArray} {q N : Nat} (z : CZ h f M q N) (w : World) :
    Calls Tryz.prog 30 #[.agg #[.int .i64 7, .int .i64 0, .int .i64 0, .int .i64 9, .int .i64 17, .int .i64 h, .int .i64 f, .string M], .int .i64 ((8 * q : Nat) : Int)] w fun e w' => ∃ v, e = .returned v ∧ PksAt w' v ((List.range N).map (cP h f M q N)) ∧ Below w.heap.size w w' := by
  have HZ : Hid (CZ h f M q N) := z
  obtain ⟨st, hst⟩ : ∃ st : Nat, st = 8 * q := ⟨_, rfl⟩
  have HST : Hid (st = 8 * q) := hst
  rw [← hst]
  have hst0 : (1 : Int) ≤ (st : Int) := by have := z.q0; omega
  have hst1 : (st : Int) ≤ 24 := by have := z.q1; omega
  have hMs : (M.size : Int) ≤ 144 := by have := z.big; omega
  have hN6 := z.n1
  clear z hst
  obtain ⟨i0, hi0, hz0, hz1, hz2⟩ := info_parts info_pk
  go_enter Tryz.func30, Tryz.ntmps30
  go_wp2_with fail
  go_loopw [5, 6] (fun lst i wr => ∃ (k A : Nat) (lv : Value), k ≤ N ∧ A = 8 * (q * k) ∧ i = .int .i64 (A : Int) ∧ lv = lst ∧ QMid w wr [(w.heap.size, #[.int .i64 7, .int .i64 0, .int .i64 0, .int .i64 9, .int .i64 17, .int .i64 h, .int .i64 f, .string M], 37)] 37 8 lv k (((List.range k).map (cP h f M q N)).flatMap pkC)) (fun _ i _ => 1000 - (intOf i).toNat)
  case atStart => exact ⟨0, 0, _, Nat.zero_le _, by simp, rfl, rfl, ⟨(LMid.start w).alloc' _ _ _ rfl, World.ownsRow_nil _ _ _ _, fun p _ => by simp [Value.ownBlock]⟩⟩
  case round =>
    obtain ⟨k, A, lv, hk, hA, rfl, rfl, hM1⟩ := hrel
    obtain ⟨ao, cap, hlv⟩ := owns_shape hM1.own
    subst hlv
    have hA0 : (0 : Int) ≤ (A : Int) := by omega
    obtain ⟨⟨p0, p1, p2, p3, p4, p5, p6, p7⟩, pf⟩ := c8 hM1.mid.at0
    by_cases hlt : k < N
    · have hAM : (A : Int) < (M.size : Int) := by have := HZ.out.lt hlt; omega
      obtain ⟨X, hX⟩ : ∃ X, X = M.extract A M.size := ⟨_, rfl⟩
      have hXs : (X.size : Int) = (M.size : Int) - (A : Int) := by rw [hX, ByteArray.size_extract]; omega
      have HX : Hid (M.extract A M.size = X) := hX.symm
      have HB : Hid (k + 1 < N → (st : Int) < (X.size : Int) ∧ X.extract 0 st = cB M q k ∧ cF N k = 1) := fun h1 => by
        have h2 := HZ.out.nxt h1
        have h3 := HZ.out.lt h1
        rw [HZ.out.pk h1] at h2
        have h4 := HST.out
        refine ⟨by omega, ?_, by unfold cF; rw [if_pos h1]⟩
        rw [hX, hA, h4]
        exact cB_mid
      have HB2 : Hid (¬ k + 1 < N → ¬ (st : Int) < (X.size : Int) ∧ X = cB M q k ∧ cF N k = 0) := fun h1 => by
        have h5 := cB_last HZ.out hlt h1
        rw [← hA, ← hX] at h5
        have h6 := (HZ.out.sz hlt).2.2.1
        rw [← h5] at h6
        have h4 := HST.out
        exact ⟨by omega, h5, by unfold cF; rw [if_neg h1]⟩
      have HP : Hid (cP h f M q N k = ⟨7, cF N k, (A : Int), 3 + (k : Int), 17, h, f, cB M q k⟩) := by
        show _ = _
        unfold cP
        rw [hA]
        congr 1
      generalize cB M q k = B at HB HB2 HP
      generalize cF N k = fl at HB HB2 HP
      have HA : Hid (A = 8 * (q * k)) := hA
      have hM : Hid _ := hM1
      clear hM1 hA hX
      go_upto_region 5 with fail
      go_cut [7] (fun s7 wx => ∃ kq, s7 = .pointer (some ⟨kq, 0, none⟩) ∧ LMid wr wx [(kq, #[.int .i64 7, .int .i64 0, .int .i64 0, .int .i64 9, .int .i64 17, .int .i64 h, .int .i64 f, .string M], 37)])
      case first =>
        go_wp2_with fail
        go_meet
        exact ⟨_, rfl, (LMid.start wr).alloc' _ _ _ rfl⟩
      case rest =>
      obtain ⟨kq, rfl, hL1⟩ := hcut
      clear p0 p1 p2 p3 p4 p5 p6 p7 pf
      obtain ⟨⟨x0, x1, x2, x3, x4, x5, x6, x7⟩, xf⟩ := c8 hL1.at0
      have hL : Hid _ := hL1
      clear hL1
      go_upto_region 6 with fail
      go_cut [] (fun wx => LMid wr wx [(kq, #[.int .i64 7, .int .i64 0, .int .i64 (A : Int), .int .i64 9, .int .i64 17, .int .i64 h, .int .i64 f, .string M], 37)])
      case first =>
        go_wp2_with fail
        go_meet
        have hE := hL.out.set0 2 (.int .i64 (A : Int))
        simp only [List.setIfInBounds_toArray, List.set_cons_zero, List.set_cons_succ] at hE
        exact hE
      case rest =>
      have hL1 := hcut
      clear hL hcut x0 x1 x2 x3 x4 x5 x6 x7 xf
      obtain ⟨⟨x0, x1, x2, x3, x4, x5, x6, x7⟩, xf⟩ := c8 hL1.at0
      obtain ⟨⟨p0, p1, p2, p3, p4, p5, p6, p7⟩, pf⟩ := c8 (hM.out.call hL1.bl).mid.at0
      have hL : Hid _ := hL1
      clear hL1
      go_upto_region 7 with fail
      go_cut [] (fun wx => LMid wr wx [(kq, #[.int .i64 7, .int .i64 0, .int .i64 (A : Int), .int .i64 9, .int .i64 17, .int .i64 h, .int .i64 f, .string X], 37)])
      case first =>
        go_wp2_with fail
        go_meet
        have hE := hL.out.set0 7 (.string (M.extract A M.size))
        simp only [List.setIfInBounds_toArray, List.set_cons_zero, List.set_cons_succ] at hE
        rw [HX.out] at hE
        first | exact hE | (rw [HX.out]; exact hE)
      case rest =>
      have hL1 := hcut
      clear hL hcut x0 x1 x2 x3 x4 x5 x6 x7 xf p0 p1 p2 p3 p4 p5 p6 p7 pf
      obtain ⟨⟨x0, x1, x2, x3, x4, x5, x6, x7⟩, xf⟩ := c8 hL1.at0
      have hL : Hid _ := hL1
      clear hL1
      go_upto_if 28 with fail
      go_cut [] (fun wx => LMid wr wx [(kq, #[.int .i64 7, .int .i64 fl, .int .i64 (A : Int), .int .i64 9, .int .i64 17, .int .i64 h, .int .i64 f, .string B], 37)])
      case first =>
        by_cases hnx : k + 1 < N
        · obtain ⟨hgt, hxb, rfl⟩ := HB.out hnx
          go_upto_region 9 with fail
          go_cut [] (fun wx => LMid wr wx [(kq, #[.int .i64 7, .int .i64 0, .int .i64 (A : Int), .int .i64 9, .int .i64 17, .int .i64 h, .int .i64 f, .string B], 37)])
          case first =>
            go_wp2_with fail
            go_meet
            have hE := hL.out.set0 7 (.string (X.extract 0 st))
            simp only [List.setIfInBounds_toArray, List.set_cons_zero, List.set_cons_succ] at hE
            rw [hxb] at hE
            first | exact hE | (rw [hxb]; exact hE)
          case rest =>
          have hL1 := hcut
          clear hL hcut x0 x1 x2 x3 x4 x5 x6 x7 xf
          obtain ⟨⟨x0, x1, x2, x3, x4, x5, x6, x7⟩, xf⟩ := c8 hL1.at0
          have hL : Hid _ := hL1
          clear hL1
          go_wp2_with fail
          go_meet
          have hE := hL.out.set0 1 (.int .i64 1)
          simp only [List.setIfInBounds_toArray, List.set_cons_zero, List.set_cons_succ] at hE
          exact hE
        · obtain ⟨hgt, hxb, rfl⟩ := HB2.out hnx
          go_wp2_with fail
          go_meet
          have hE := hL.out
          rw [hxb] at hE
          exact hE
      case rest =>
      have hL1 := hcut
      clear hL hcut x0 x1 x2 x3 x4 x5 x6 x7 xf
      obtain ⟨⟨x0, x1, x2, x3, x4, x5, x6, x7⟩, xf⟩ := c8 hL1.at0
      have hL : Hid _ := hL1
      clear hL1 HB HB2 HX hXs
      go_upto_region 11 with fail
      go_cut [] (fun wx => LMid wr wx [(kq, #[.int .i64 7, .int .i64 fl, .int .i64 (A : Int), .int .i64 (3 + (k : Int)), .int .i64 17, .int .i64 h, .int .i64 f, .string B], 37)])
      case first =>
        go_wp2_with fail
        go_meet
        have hE := hL.out.set0 3 (.int .i64 (3 + (k : Int)))
        simp only [List.setIfInBounds_toArray, List.set_cons_zero, List.set_cons_succ] at hE
        exact hE
      case rest =>
      have hL1 := hcut
      clear hL hcut x0 x1 x2 x3 x4 x5 x6 x7 xf
      obtain ⟨⟨x0, x1, x2, x3, x4, x5, x6, x7⟩, xf⟩ := c8 hL1.at0
      obtain ⟨wd, hwd⟩ : ∃ wd, wd = wc := ⟨_, rfl⟩
      subst hwd
      have hQ := hM.out.call hL1.bl
      have hsw := hQ.mid.bl.size
      have HQ : Hid _ := hQ
      have HON : Hid (∀ u ∈ ([.int .i64 7, .int .i64 fl, .int .i64 (A : Int), .int .i64 (3 + (k : Int)), .int .i64 17, .int .i64 h, .int .i64 f, .string B] : List Value), u.oneCell' = true) := by
        show ∀ u ∈ _, _
        intro u hu
        simp at hu
        rcases hu with rfl | rfl | rfl | rfl | rfl | rfl | rfl | rfl <;> rfl
      clear hL1 hM hQ
      obtain ⟨F, hF⟩ : ∃ F, F = ((List.range k).map (cP h f M q N)).flatMap pkC := ⟨_, rfl⟩
      rw [← hF] at HQ
      have HF : Hid (((List.range (k + 1)).map (cP h f M q N)).flatMap pkC = F ++ [.int .i64 7, .int .i64 fl, .int .i64 (A : Int), .int .i64 (3 + (k : Int)), .int .i64 17, .int .i64 h, .int .i64 f, .string B]) := by
        show _ = _
        rw [List.range_succ, List.map_append, List.flatMap_append, ← hF]
        simp [HP.out, pkC]
      clear hF
      go_wp2_with (at_builtin; refine wpList_append_lies _ rfl (.tmp 39) (.tmp 41) 54 rfl w.heap.size 37 i0 _ 8 72 Tryz.underlying54 hi0 hz0 hz1 hz2 rfl (by decide) (.slice ao k cap) k F rfl (HQ.out.own.alloc _) ⟨wd.heap.size, 0, none⟩ 1 1 [.int .i64 7, .int .i64 fl, .int .i64 (A : Int), .int .i64 (3 + (k : Int)), .int .i64 17, .int .i64 h, .int .i64 f, .string B] rfl rfl (by exact World.news_of_block (B := wd.heap.size) (by rw [hget_alloc, if_pos (by simp)])) HON.out (by decide) (by unfold maxLen; omega) (by omega) (by simp; omega) (wd.heap.size + 1) (by simp) ?_; intro g4 cap4 w4 hown hgrow hat hlt4; have hM1 := (HQ.out.call ((Below.refl _ _).alloc (Nat.le_refl _) _)).app hgrow hown _ hat (by simp); clear HQ hown hgrow hat hlt4; have hM : Hid _ := hM1; clear hM1)
      go_roundw
      case rel =>
        refine ⟨k + 1, A + st, _, by omega, ?_, by first | go_num | simp, rfl, ?_⟩
        · rw [HA.out, HST.out, Nat.mul_succ]; omega
        · rw [HF.out]; exact hM.out
      case measure => simp [intOf]; omega
    · obtain rfl : k = N := by omega
      have hAM : ¬ (A : Int) < (M.size : Int) := by have := HZ.out.m1; omega
      have HO : Hid (PksAt wr (.slice ao k cap) ((List.range k).map (cP h f M q k))) := LsAt.of_owns pkC_len (by simpa using hM1.own)
      have HBL : Hid (Below w.heap.size w wr) := hM1.mid.bl
      clear hM1
      go_wp2_with fail
      go_ret
      exact ⟨_, rfl, HO.out, HBL.out⟩
end Go.Proofs.YtfkjobiapjhacabGreat
