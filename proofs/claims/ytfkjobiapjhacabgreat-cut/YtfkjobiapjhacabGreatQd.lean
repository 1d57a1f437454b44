/- Quota: the walk. Own work. -/
import Derived.Test.YtfkjobiapjhacabGreatQc
namespace Go.Proofs.YtfkjobiapjhacabGreat
open Go.RowKit
attribute [local go_sem ↓] Go.wp_at_zero Go.wp_at_succ

theorem tdiv3_bd (n : Int) (h0 : -9223372036854775808 ≤ n) (h1 : n ≤ 9223372036854775807) : -9223372036854775808 ≤ n.tdiv 3 ∧ n.tdiv 3 ≤ 9223372036854775807 := by
  rcases Int.le_total 0 n with h | h
  · rw [Int.tdiv_eq_ediv_of_nonneg h]; omega
  · have e : n.tdiv 3 = -((-n).tdiv 3) := by rw [Int.neg_tdiv]; omega
    rw [e, Int.tdiv_eq_ediv_of_nonneg (by omega)]; omega
theorem v_bool {a b : Bool} (h : a = b) : Value.bool a = Value.bool b := by rw [h]
theorem GMid.tail {w W : World} {b : Nat} {v0 v : Value} {s : BX} {p : Nat × Array Value × TypeId} {bs : List (Nat × Array Value × TypeId)} (h : GMid w W b v0 v s (p :: bs)) : GMid w W b v0 v s bs := ⟨h.box, h.chg, h.lt, fun q hq => h.bk q (List.mem_cons_of_mem _ hq), (List.pairwise_cons.1 h.ord).2⟩
set_option maxRecDepth 100000 in
set_option maxHeartbeats 4000000 in
theorem quota_any (n : Int) (w : World) (ha0 : -9223372036854775808 ≤ n) (ha1 : n ≤ 9223372036854775807) :
    Calls Tryz.prog 11 #[.int .i64 n] w fun e w' => e = .returned (.bool true) ∧ Below w.heap.size w w' := by
  have hk := pickI_bd n 3 (by decide)
  have ht := tdiv3_bd n ha0 ha1
  have hk2 := pickI_bd (n.tdiv 3) 2 (by decide)
  have HP3 : Hid (∀ w, Calls Tryz.prog 12 #[.int .i64 n, .int .i64 3] w fun e w' => e = .returned (.int .i64 (pickI n 3)) ∧ w' = w) := fun w => pick_any n 3 w ha0 ha1 (by decide) (by decide)
  have HP2 : Hid (∀ w, Calls Tryz.prog 12 #[.int .i64 (n.tdiv 3), .int .i64 2] w fun e w' => e = .returned (.int .i64 (pickI (n.tdiv 3) 2)) ∧ w' = w) := fun w => pick_any (n.tdiv 3) 2 w ht.1 ht.2 (by decide) (by decide)
  have HFA : Hid (∀ w, Calls Tryz.prog 16 #[.int .i64 0] w fun e w' => e = .returned (.int .i64 134744064) ∧ w' = w) := fun w => far_any 0 w (by decide) (by decide)
  have HHO : Hid (∀ (j : Nat) w, j < 2 → Calls Tryz.prog 15 #[.int .i64 (j : Int)] w fun e w' => e = .returned (.int .i64 (167772161 + (j : Int))) ∧ w' = w) := fun j w hj => by
    have := host_any (j : Int) w (by omega) (by omega)
    have e : pickI (j : Int) 200 = (j : Int) := by unfold pickI; rw [if_neg (by omega)]; omega
    rw [e] at this
    exact this
  obtain ⟨sz, hsz⟩ : ∃ sz : Nat, 8 * (1 + pickI n 3) = (sz : Int) := ⟨(8 * (1 + pickI n 3)).toNat, by omega⟩
  obtain ⟨ee, hee⟩ : ∃ ee : Nat, pickI (n.tdiv 3) 2 = (ee : Int) := ⟨(pickI (n.tdiv 3) 2).toNat, by omega⟩
  have hsz8 : sz = 8 ∨ sz = 16 ∨ sz = 24 := by omega
  have hee2 : ee < 2 := by omega
  rw [hee] at HP2
  obtain ⟨c, hc⟩ : ∃ c, c = sz + 16 := ⟨_, rfl⟩
  have hbx0 : box0 2 = stW [0, 0, 0, 0, 0, 0, 0, 0, 0, 0, 0, 0, 0, 0, 0, 0, 0, 0] [] := rfl
  have HSZ : Hid (8 * (1 + pickI n 3) = (sz : Int)) := hsz
  have hq0 := hk.1
  have hq1 := hk.2
  generalize pickI n 3 = q3 at HP3 HSZ hq0 hq1
  obtain ⟨B, hB⟩ : ∃ B, B = (⟨#[48, 49, 50, 51, 52, 53, 54, 55, 56, 57, 97, 98, 99, 100, 101, 102, 48, 49, 50, 51, 52, 53, 54, 55]⟩ : ByteArray).extract 0 sz := ⟨_, rfl⟩
  have hBs : B.size = sz := by rw [hB, ByteArray.size_extract]; have : (⟨#[48, 49, 50, 51, 52, 53, 54, 55, 56, 57, 97, 98, 99, 100, 101, 102, 48, 49, 50, 51, 52, 53, 54, 55]⟩ : ByteArray).size = 24 := rfl; omega
  have HB : Hid ((⟨#[48, 49, 50, 51, 52, 53, 54, 55, 56, 57, 97, 98, 99, 100, 101, 102, 48, 49, 50, 51, 52, 53, 54, 55]⟩ : ByteArray).extract 0 sz = B) := hB.symm
  have HBS : Hid (B.size = sz) := hBs
  have HC : Hid (c = sz + 16) := hc
  have hc1 : c ≤ 40 := by omega
  have hci : (c : Int) = (sz : Int) + 16 := by omega
  have HCI : Hid ((sz : Int) + 16 = (c : Int)) := hci.symm
  have hs0 : (0 : Int) ≤ (sz : Int) := by omega
  have hs1 : (sz : Int) ≤ 24 := by omega
  clear hk hk2 ht hsz hee hB hBs hc hci
  go_enter Tryz.func11, Tryz.ntmps11
  go_wp2_with fail
  refine (box_any 2 _ (by decide) (by decide)).mono ?_
  rintro e w1 ⟨b, rfl, hbx, hle, hbl⟩
  rw [hbx0] at hbx
  have HL : Hid (w.heap.size ≤ b ∧ Below w.heap.size w w1) := ⟨hle, hbl⟩
  have hM : Hid (GMid w1 w1 b (.slice none 0 0) (.slice none 0 0) (stW [0, 0, 0, 0, 0, 0, 0, 0, 0, 0, 0, 0, 0, 0, 0, 0, 0, 0] []) []) := GMid.start hbx
  clear hbx hle hbl hbx0
  go_wp2_with fail
  refine (HFA.out _).mono ?_; rintro e w' ⟨rfl, rfl⟩
  go_upto_region 3 with fail
  go_cut [5] (fun s5 wx => s5 = .int .i64 (sz : Int) ∧ wx = w')
  case first =>
    go_wp2_with fail
    refine (HP3.out _).mono ?_; rintro e w'' ⟨rfl, rfl⟩
    go_wp2_with fail
    go_meet
    exact ⟨by rw [HSZ.out], rfl⟩
  case rest =>
  obtain ⟨rfl, rfl⟩ := hcut
  clear HP3 HSZ hq0 hq1 HFA
  obtain ⟨w0, hw0⟩ : ∃ w0, w0 = wc := ⟨_, rfl⟩
  subst hw0
  have hmk : ∀ w, (Instr.makeSlice 25 (.int .i64 2) (.int .i64 2)).run Tryz.prog w = .ok (.slice (some ⟨w.heap.size, 0, none⟩) 2 2) (w.alloc (.cells #[.int .i64 0, .int .i64 0] 3)) := fun _ => by kernel_rfl
  go_wp2_with fail
  clear hmk
  go_loopw [7, 8] (fun tt kk wr => ∃ (k : Nat) (m : Nat → Nat → Nat) (cs : List Int) (wl : List PD) (v : Value) (t o0 o1 : Nat), k ≤ 24 ∧ kk = .int .i64 (k : Int) ∧ tt = .int .i64 (t : Int) ∧ QS wl sz m (RfQ ee k) ∧ Good (stW cs wl) ∧ (∀ a b, a < 2 → b < 2 → m a b ≤ RfQ ee k a b) ∧ (t = c * sum4 m ∧ o0 = c * (m 0 0 + m 0 1) ∧ o1 = c * (m 1 0 + m 1 1)) ∧ GMid w0 wr b (.slice none 0 0) v (stW cs wl) [(w0.heap.size, #[.int .i64 (o0 : Int), .int .i64 (o1 : Int)], 3)]) (fun _ kk _ => 24 - (intOf kk).toNat)
  case atStart =>
    refine ⟨0, fun _ _ => 0, [0, 0, 0, 0, 0, 0, 0, 0, 0, 0, 0, 0, 0, 0, 0, 0, 0, 0], [], .slice none 0 0, 0, 0, 0, by omega, rfl, rfl, (QS.nil sz).congr (fun a b _ _ => ?_), stW_good, fun a b _ _ => Nat.zero_le _, ⟨by simp [sum4], by simp, by simp⟩, hM.out.alloc' _ _ _ rfl⟩
    unfold RfQ
    rw [if_neg (by omega)]
  case round =>
    obtain ⟨k, m, cs, wl, v, t, o0, o1, hk, rfl, rfl, hQ, hg, hmR, heq, hM1⟩ := hrel
    clear hM
    have HQ : Hid (QS wl sz m (RfQ ee k)) := hQ
    have HG : Hid (Good (stW cs wl)) := hg
    by_cases hlt : k < 24
    · have hkL : (k : Int) < 24 := by omega
      have hkI : (0 : Int) ≤ (k : Int) := by omega
      obtain ⟨j, hj⟩ : ∃ j, j = (k / 2 + ee) % 2 := ⟨_, rfl⟩
      have hj2 : j < 2 := by omega
      have hnow : RfQ ee k j (k % 2) = k / 4 := by rw [hj]; exact RfQ_now ee k
      have hmk := hmR j (k % 2) hj2 (by omega)
      obtain ⟨cs', wl', m', hR, hg', hQ', hm'⟩ := quota_recv b cs wl hg hQ j (k % 2) hj2 (by omega) (by omega) (by omega) (by omega) (by omega) (by omega) B HBS.out
      have hQn : QS wl' sz m' (RfQ ee (k + 1)) := hQ'.congr (fun a b ha hb => by rw [RfQ_next ee k a b ha hb, hj])
      have hmn : ∀ a b, a < 2 → b < 2 → m' a b ≤ RfQ ee (k + 1) a b := fun a b ha hb => by
        rw [RfQ_next ee k a b ha hb, ← hj, hm']
        have := hmR a b ha hb
        split
        · unfold upM; split <;> omega
        · unfold upM; split <;> omega
      rw [hnow, ← HC.out] at hR
      rw [← HC.out] at hm'
      have e1 : ((k % 2 : Nat) : Int) = (k : Int) % 2 := by omega
      have e2 : ((k / 4 : Nat) : Int) = (k : Int) / 4 := by omega
      rw [e1, e2] at hR
      obtain ⟨what, hwh⟩ : ∃ what : Int, what = (if c * (m j 0 + m j 1) + c ≤ 400 ∧ c * sum4 m + c ≤ 700 then 1 else 11) := ⟨_, rfl⟩
      rw [← hwh] at hR
      have HNO : Hid (∀ W v, BoxAt W b v (stW cs wl) → Calls Tryz.prog 28 #[.pointer (some ⟨b, 0, none⟩), .int .i64 0, .agg #[.int .i64 ((k : Int) % 2), .int .i64 1, .int .i64 (24 * ((k : Int) / 4)), .int .i64 5, .int .i64 17, .int .i64 (167772161 + (j : Int)), .int .i64 134744064, .string B], .int .i64 what] W fun e w' => e = .returned (.bool true) ∧ ∃ v', BoxAt w' b v' (stW cs' wl') ∧ Chg b v W w' v') := fun W v hW => none_yes hW 0 what ⟨(k : Int) % 2, 1, 24 * ((k : Int) / 4), 5, 17, 167772161 + (j : Int), 134744064, B⟩ ⟨by have := HBS.out; show B.size ≤ 1000; omega, by show (0 : Int) ≤ 1; decide, by show (1 : Int) ≤ 7; decide, by show (0 : Int) ≤ 24 * ((k : Int) / 4); omega, by show 24 * ((k : Int) / 4) ≤ 65535; omega⟩ hR
      obtain ⟨t', ht'⟩ : ∃ t', t' = c * sum4 m' := ⟨_, rfl⟩
      obtain ⟨p0, hp0⟩ : ∃ p0, p0 = c * (m' 0 0 + m' 0 1) := ⟨_, rfl⟩
      obtain ⟨p1, hp1⟩ : ∃ p1, p1 = c * (m' 1 0 + m' 1 1) := ⟨_, rfl⟩
      have HHE : Hid (∀ W v, BoxAt W b v (stW cs' wl') → Calls Tryz.prog 32 #[.pointer (some ⟨b, 0, none⟩), .int .i64 (167772161 + (j : Int))] W fun e w' => e = .returned (.tuple #[.int .i64 (t' : Int), .int .i64 (if j = 0 then (p0 : Int) else (p1 : Int))]) ∧ Below W.heap.size W w') := fun W v hW => by
        have h1 := BHeld_any hW hg' (167772161 + (j : Int))
        have a1 : heldAll (stW cs' wl').wl = (t' : Int) := by show heldAll wl' = _; rw [hQ'.ha, ht', HC.out]
        have a2 : heldOf (stW cs' wl').wl (167772161 + (j : Int)) = (if j = 0 then (p0 : Int) else (p1 : Int)) := by
          show heldOf wl' _ = _
          rw [hQ'.ho j hj2]
          rcases (show j = 0 ∨ j = 1 by omega) with e | e
          · rw [e, if_pos rfl, hp0, HC.out]
          · rw [e, if_neg (by decide), hp1, HC.out]
        rw [a1, a2] at h1
        exact h1
      -- what the law itself reckons
      have hreck : (what = 1 ∧ (if j = 0 then o0 else o1) + c ≤ 400 ∧ t + c ≤ 700 ∧ t' = t + c ∧ p0 = (if j = 0 then o0 + c else o0) ∧ p1 = (if j = 0 then o1 else o1 + c)) ∨ (what = 11 ∧ ¬ ((if j = 0 then o0 else o1) + c ≤ 400 ∧ t + c ≤ 700) ∧ t' = t ∧ p0 = o0 ∧ p1 = o1) := by
        obtain ⟨q0, q1, q2⟩ := heq
        have hoj : c * (m j 0 + m j 1) = (if j = 0 then o0 else o1) := by
          rcases (show j = 0 ∨ j = 1 by omega) with e | e
          · rw [e, if_pos rfl, q1]
          · rw [e, if_neg (by decide), q2]
        rw [hoj, ← q0] at hwh hm'
        by_cases hr : (if j = 0 then o0 else o1) + c ≤ 400 ∧ t + c ≤ 700
        · left
          rw [if_pos hr] at hwh hm'
          refine ⟨hwh, hr.1, hr.2, ?_, ?_, ?_⟩
          · rw [ht', hm', q0]
            have : sum4 (upM m j (k % 2)) = sum4 m + 1 := by
              unfold sum4 upM
              rcases (show j = 0 ∨ j = 1 by omega) with e | e <;> rcases (show k % 2 = 0 ∨ k % 2 = 1 by omega) with e' | e' <;> rw [e, e'] <;> simp <;> omega
            rw [this, Nat.mul_succ]
          · rw [hp0, hm', q1]
            unfold upM
            rcases (show j = 0 ∨ j = 1 by omega) with e | e <;> rcases (show k % 2 = 0 ∨ k % 2 = 1 by omega) with e' | e' <;> rw [e, e'] <;> simp [Nat.mul_add] <;> omega
          · rw [hp1, hm', q2]
            unfold upM
            rcases (show j = 0 ∨ j = 1 by omega) with e | e <;> rcases (show k % 2 = 0 ∨ k % 2 = 1 by omega) with e' | e' <;> rw [e, e'] <;> simp [Nat.mul_add] <;> omega
        · right
          rw [if_neg hr] at hwh hm'
          exact ⟨hwh, hr, by rw [ht', hm', q0], by rw [hp0, hm', q1], by rw [hp1, hm', q2]⟩
      have HRE : Hid _ := hreck
      have HNX : Hid (QS wl' sz m' (RfQ ee (k + 1)) ∧ Good (stW cs' wl') ∧ (∀ a b, a < 2 → b < 2 → m' a b ≤ RfQ ee (k + 1) a b) ∧ (t' = c * sum4 m' ∧ p0 = c * (m' 0 0 + m' 0 1) ∧ p1 = c * (m' 1 0 + m' 1 1))) := ⟨hQn, hg', hmn, ht', hp0, hp1⟩
      have HJ : Hid (j = (k / 2 + ee) % 2) := hj
      have ht5 : t ≤ 100000 := by
        obtain ⟨q0, -, -⟩ := heq
        rw [q0]
        have a1 := hmR 0 0 (by decide) (by decide); have a2 := hmR 0 1 (by decide) (by decide); have a3 := hmR 1 0 (by decide) (by decide); have a4 := hmR 1 1 (by decide) (by decide)
        unfold RfQ at a1 a2 a3 a4
        have : sum4 m ≤ 100 := by unfold sum4; split at a1 <;> split at a2 <;> split at a3 <;> split at a4 <;> omega
        exact Nat.le_trans (Nat.mul_le_mul hc1 this) (by decide)
      have ho5 : o0 ≤ 100000 ∧ o1 ≤ 100000 := by
        obtain ⟨-, q1, q2⟩ := heq
        rw [q1, q2]
        have a1 := hmR 0 0 (by decide) (by decide); have a2 := hmR 0 1 (by decide) (by decide); have a3 := hmR 1 0 (by decide) (by decide); have a4 := hmR 1 1 (by decide) (by decide)
        unfold RfQ at a1 a2 a3 a4
        have b1 : m 0 0 + m 0 1 ≤ 100 := by split at a1 <;> split at a2 <;> omega
        have b2 : m 1 0 + m 1 1 ≤ 100 := by split at a3 <;> split at a4 <;> omega
        exact ⟨Nat.le_trans (Nat.mul_le_mul hc1 b1) (by decide), Nat.le_trans (Nat.mul_le_mul hc1 b2) (by decide)⟩
      have ho5a := ho5.1
      have ho5b := ho5.2
      clear hQ hg hmR heq hR hg' hQ' hm' hQn hmn hwh ht' hp0 hp1 hreck hj hnow hmk e1 e2 ho5 HQ HG
      have hM : Hid _ := hM1
      clear hM1
      go_upto_region 9 with fail
      go_cut [9] (fun s9 wx => s9 = .int .i64 (j : Int) ∧ wx = wr)
      case first =>
        go_wp2_with fail
        refine (HP2.out _).mono ?_; rintro e w'' ⟨rfl, rfl⟩
        go_wp2_with fail
        go_meet
        exact ⟨by rw [show ((k : Int) / 2 + (ee : Int)) % 2 = (j : Int) from by have := HJ.out; omega], rfl⟩
      case rest =>
      obtain ⟨rfl, rfl⟩ := hcut
      obtain ⟨wa, hwa⟩ : ∃ wa, wa = wc := ⟨_, rfl⟩
      subst hwa
      go_upto_region 10 with fail
      go_cut [10] (fun s10 wx => s10 = .pointer (some ⟨wa.heap.size, 0, none⟩) ∧ GMid w0 wx b (.slice none 0 0) v (stW cs wl) [(wa.heap.size, #[.int .i64 ((k : Int) % 2), .int .i64 1, .int .i64 (24 * ((k : Int) / 4)), .int .i64 5, .int .i64 17, .int .i64 0, .int .i64 134744064, .string B], 37), (w0.heap.size, #[.int .i64 (o0 : Int), .int .i64 (o1 : Int)], 3)])
      case first =>
        go_wp2_with fail
        go_meet
        obtain rfl := HB.out
        exact ⟨rfl, hM.out.alloc' _ _ _ rfl⟩
      case rest =>
      obtain ⟨rfl, hM1⟩ := hcut
      clear hM
      obtain ⟨⟨g0, g1, g2, g3, g4, g5, g6, g7⟩, gf⟩ := c8 hM1.at0
      have n0 := lt_of_block hM1.at0
      have hM : Hid _ := hM1
      clear hM1
      go_upto_region 11 with fail
      go_cut [] (fun wx => GMid w0 wx b (.slice none 0 0) v (stW cs wl) [(wa.heap.size, #[.int .i64 ((k : Int) % 2), .int .i64 1, .int .i64 (24 * ((k : Int) / 4)), .int .i64 5, .int .i64 17, .int .i64 (167772161 + (j : Int)), .int .i64 134744064, .string B], 37), (w0.heap.size, #[.int .i64 (o0 : Int), .int .i64 (o1 : Int)], 3)])
      case first =>
        go_wp2_with fail
        refine (HHO.out j _ hj2).mono ?_; rintro e w'' ⟨rfl, rfl⟩
        go_wp2_with fail
        go_meet
        have hE := hM.out.set0 5 (.int .i64 (167772161 + (j : Int)))
        simp only [List.setIfInBounds_toArray, List.set_cons_zero, List.set_cons_succ] at hE
        exact hE
      case rest =>
      have hM1 := hcut
      clear hM hcut g0 g1 g2 g3 g4 g5 g6 g7 gf n0
      obtain ⟨⟨o0', o1'⟩, of⟩ := c2 hM1.at1
      have n1 := lt_of_block hM1.at1
      have hM : Hid _ := hM1
      clear hM1
      obtain ⟨wb, hwb⟩ : ∃ wb, wb = wc := ⟨_, rfl⟩
      subst hwb
      go_upto_region 12 with fail
      go_cut [11] (fun s11 wx => s11 = .int .i64 (c : Int) ∧ wx = wb)
      case first =>
        go_wp2_with fail
        go_meet
        exact ⟨by rw [HCI.out], rfl⟩
      case rest =>
      obtain ⟨rfl, rfl⟩ := hcut
      obtain ⟨wb, hwb⟩ : ∃ wb, wb = wc := ⟨_, rfl⟩
      subst hwb
      obtain ⟨bb, hbb⟩ : ∃ bb : Bool, bb = decide ((if j = 0 then o0 else o1) + c ≤ 400 ∧ t + c ≤ 700) := ⟨_, rfl⟩
      have HBB : Hid (bb = decide ((if j = 0 then o0 else o1) + c ≤ 400 ∧ t + c ≤ 700)) := hbb
      clear hbb
      go_upto_region 14 with fail
      go_cut [63] (fun s63 wx => s63 = .bool bb ∧ wx = wb)
      case first =>
        rcases (show j = 0 ∨ j = 1 by omega) with rfl | rfl
        · by_cases r1 : (o0 : Int) + (c : Int) ≤ 400
          · go_wp2_with fail
            go_meet
            exact ⟨v_bool (by rw [HBB.out, Bool.eq_iff_iff]; simp; omega), rfl⟩
          · go_wp2_with fail
            go_meet
            exact ⟨v_bool (by rw [HBB.out, eq_comm, decide_eq_false_iff_not]; simp; omega), rfl⟩
        · by_cases r1 : (o1 : Int) + (c : Int) ≤ 400
          · go_wp2_with fail
            go_meet
            exact ⟨v_bool (by rw [HBB.out, Bool.eq_iff_iff]; simp; omega), rfl⟩
          · go_wp2_with fail
            go_meet
            exact ⟨v_bool (by rw [HBB.out, eq_comm, decide_eq_false_iff_not]; simp; omega), rfl⟩
      case rest =>
      obtain ⟨rfl, rfl⟩ := hcut
      obtain ⟨wb, hwb⟩ : ∃ wb, wb = wc := ⟨_, rfl⟩
      subst hwb
      go_upto_if 63 with fail
      go_cut [7, 12] (fun s7 s12 wx => s7 = .int .i64 (t' : Int) ∧ s12 = .int .i64 what ∧ GMid w0 wx b (.slice none 0 0) v (stW cs wl) [(wa.heap.size, #[.int .i64 ((k : Int) % 2), .int .i64 1, .int .i64 (24 * ((k : Int) / 4)), .int .i64 5, .int .i64 17, .int .i64 (167772161 + (j : Int)), .int .i64 134744064, .string B], 37), (w0.heap.size, #[.int .i64 (p0 : Int), .int .i64 (p1 : Int)], 3)])
      case first =>
        rcases HRE.out with ⟨hw, r1, r2, ht, hp, hq⟩ | ⟨hw, hr, ht, hp, hq⟩
        · have hbt : bb = true := by rw [HBB.out]; exact decide_eq_true ⟨r1, r2⟩
          have HT : Hid ((t' : Int) = (t : Int) + (c : Int)) := by show _ = _; omega
          have HPA : Hid (p0 = (if j = 0 then o0 + c else o0) ∧ p1 = (if j = 0 then o1 else o1 + c)) := ⟨hp, hq⟩
          clear HRE HBB HNX HNO HHE HJ r1 r2 ht hp hq
          subst hbt
          subst hw
          rcases (show j = 0 ∨ j = 1 by omega) with rfl | rfl
          · go_wp2_with fail
            go_meet
            have hE := hM.out.set1 0 (.int .i64 ((o0 : Int) + (c : Int)))
            simp only [List.setIfInBounds_toArray, List.set_cons_zero] at hE
            have e0 : p0 = o0 + c := by simpa using HPA.out.1
            have e1 : p1 = o1 := by simpa using HPA.out.2
            rw [e0, e1]
            refine ⟨by rw [HT.out], rfl, ?_⟩
            rw [show ((o0 + c : Nat) : Int) = (o0 : Int) + (c : Int) from by omega]
            exact hE
          · go_wp2_with fail
            go_meet
            have hE := hM.out.set1 1 (.int .i64 ((o1 : Int) + (c : Int)))
            simp only [List.setIfInBounds_toArray, List.set_cons_zero, List.set_cons_succ] at hE
            have e0 : p0 = o0 := by simpa using HPA.out.1
            have e1 : p1 = o1 + c := by simpa using HPA.out.2
            rw [e0, e1]
            refine ⟨by rw [HT.out], rfl, ?_⟩
            rw [show ((o1 + c : Nat) : Int) = (o1 : Int) + (c : Int) from by omega]
            exact hE
        · have hbt : bb = false := by rw [HBB.out]; exact decide_eq_false hr
          clear HRE HBB HNX HNO HHE HJ hr
          subst hbt
          subst hw
          subst ht
          subst hp
          subst hq
          go_wp2_with fail
          go_meet
          exact ⟨rfl, rfl, hM.out⟩
      case rest =>
      obtain ⟨rfl, rfl, hM1⟩ := hcut
      clear hM o0' o1' of n1 HRE HBB HJ
      obtain ⟨⟨g0, g1, g2, g3, g4, g5, g6, g7⟩, gf⟩ := c8 hM1.at0
      have hM : Hid _ := hM1
      clear hM1
      go_wp2_with fail
      refine (HNO.out _ _ hM.out.box).mono ?_
      rintro e w3 ⟨rfl, v3, hbx, hch⟩
      have hM1 := hM.out.change hbx hch
      clear hM hbx hch g0 g1 g2 g3 g4 g5 g6 g7 gf
      obtain ⟨⟨g0, g1, g2, g3, g4, g5, g6, g7⟩, gf⟩ := c8 hM1.at0
      have hM : Hid _ := hM1
      clear hM1
      go_wp2_with fail
      refine (HHE.out _ _ hM.out.box).mono ?_
      rintro e w4 ⟨rfl, hb4⟩
      have hM1 := hM.out.call hb4
      clear hM hb4 g0 g1 g2 g3 g4 g5 g6 g7 gf
      obtain ⟨⟨o0', o1'⟩, of⟩ := c2 hM1.at1
      have hM : Hid _ := hM1
      clear hM1
      rcases (show j = 0 ∨ j = 1 by omega) with rfl | rfl
      · go_wp2_with fail
        go_roundw
        case rel => exact ⟨k + 1, m', cs', wl', v3, t', p0, p1, by omega, by go_num, rfl, HNX.out.1, HNX.out.2.1, HNX.out.2.2.1, HNX.out.2.2.2, hM.out.tail⟩
        case measure => simp [intOf]; omega
      · go_wp2_with fail
        go_roundw
        case rel => exact ⟨k + 1, m', cs', wl', v3, t', p0, p1, by omega, by go_num, rfl, HNX.out.1, HNX.out.2.1, HNX.out.2.2.1, HNX.out.2.2.2, hM.out.tail⟩
        case measure => simp [intOf]; omega
    · have hM : Hid _ := hM1
      have HT1 : Hid (∀ W v, BoxAt W b v (stW cs wl) → Calls Tryz.prog 33 #[.pointer (some ⟨b, 0, none⟩), .int .i64 12] W fun e w' => e = .returned (.int .i64 0) ∧ ∃ v', BoxAt w' b v' (tickS (stW cs wl) 12) ∧ Chg b v W w' v') := fun W v hW => Tick_good hW HG.out 12 (by decide) (by decide)
      have hgt := HG.out.tick 12 (by decide) (by show (0 : Int) + 12 ≤ 1000000000000; decide)
      have hwt : (tickS (stW cs wl) 12).wl = [] := tick_all HQ.out
      have HHE : Hid (∀ W v, BoxAt W b v (tickS (stW cs wl) 12) → Calls Tryz.prog 32 #[.pointer (some ⟨b, 0, none⟩), .int .i64 (167772161 + ((0 : Nat) : Int))] W fun e w' => e = .returned (.tuple #[.int .i64 0, .int .i64 0]) ∧ Below W.heap.size W w') := fun W v hW => by
        have h1 := BHeld_any hW hgt (167772161 + ((0 : Nat) : Int))
        rw [hwt] at h1
        exact h1
      clear hM1 hmR heq hQ hg HQ HG hgt hwt
      have HH0 : Hid (∀ w, Calls Tryz.prog 15 #[.int .i64 0] w fun e w' => e = .returned (.int .i64 (167772161 + ((0 : Nat) : Int))) ∧ w' = w) := fun w => HHO.out 0 w (by decide)
      generalize tickS (stW cs wl) 12 = ST at HT1 HHE
      generalize 167772161 + ((0 : Nat) : Int) = H0 at HH0 HHE
      have hge : ¬ (k : Int) < 24 := by omega
      go_wp2_with fail
      refine (HT1.out _ _ hM.out.box).mono ?_
      rintro e w3 ⟨rfl, v3, hbx, hch⟩
      have hM1 := hM.out.change hbx hch
      clear hM hbx hch
      have hM : Hid _ := hM1
      clear hM1
      go_wp2_with fail
      refine (HH0.out _).mono ?_; rintro e w'' ⟨rfl, rfl⟩
      go_wp2_with fail
      refine (HHE.out _ _ hM.out.box).mono ?_
      rintro e w4 ⟨rfl, hb4⟩
      have hM1 := hM.out.call hb4
      clear hM hb4
      have hM : Hid _ := hM1
      clear hM1
      go_wp2_with fail
      go_ret
      refine ⟨rfl, ?_⟩
      obtain ⟨q1, -⟩ := hM.out.chg.low HL.out.1 (fun k hk => absurd hk (by simp [Value.ownBlock])) HL.out.2.size
      exact HL.out.2.trans q1
theorem Quota_any (n : Int) (w : World) (ha0 : -9223372036854775808 ≤ n) (ha1 : n ≤ 9223372036854775807) :
    Calls Tryz.prog 6 #[.int .i64 n] w fun e w' => e = .returned (.bool true) ∧ Below w.heap.size w w' := by
  have HR : Hid (∀ w, Calls Tryz.prog 11 #[.int .i64 n] w fun e w' => e = .returned (.bool true) ∧ Below w.heap.size w w') := fun w => quota_any n w ha0 ha1
  go_enter Tryz.func6, Tryz.ntmps6
  go_wp2_with (go_at_call 11; refine (HR.out _).mono ?_; rintro e w1 ⟨rfl, hb1⟩)
  go_ret
  exact ⟨rfl, hb1⟩
end Go.Proofs.YtfkjobiapjhacabGreat
