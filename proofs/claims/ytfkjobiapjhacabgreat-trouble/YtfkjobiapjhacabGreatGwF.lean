/- Contracts of package wire: datagrams made. Own work. -/
import Derived.Test.YtfkjobiapjhacabGreatGwE
namespace Go.Proofs.YtfkjobiapjhacabGreat
open Go.RowKit
attribute [local go_sem ↓] Go.wp_at_zero Go.wp_at_succ

/-- The checksum that goes in, by the sum of the other words. -/
def ckI (pr s : Int) : Int := if 65535 - s = 0 ∧ pr = 17 then 65535 else 65535 - s
theorem ckI_bd (pr s : Int) (h0 : 0 ≤ s) (h1 : s ≤ 65535) : 0 ≤ ckI pr s ∧ ckI pr s ≤ 65535 := by unfold ckI; split <;> omega
set_option maxRecDepth 100000 in
set_option maxHeartbeats 400000 in
theorem checksum_any (pr fa fp ta tp : Int) (m : ByteArray) (iq : Bool) (s : Int) (w : World) (h0 : 0 ≤ s) (h1 : s ≤ 65535) :
    Calls Tryz.prog 133 #[.agg #[.int .i64 pr, .int .i64 fa, .int .i64 fp, .int .i64 ta, .int .i64 tp, .string m, .bool iq], .int .i64 s] w fun e w' => e = .returned (.int .i64 (ckI pr s)) ∧ Below w.heap.size w w' := by
  have HC : Hid (∀ c1 c2, (s == 65535) = c1 → (pr == 17) = c2 → ckI pr s = if c1 && c2 then 65535 else 65535 - s) := by
    intro c1 c2 e1 e2
    unfold ckI
    rw [← e1, ← e2]
    by_cases a1 : s = 65535
    · by_cases a2 : pr = 17 <;> simp [a1, a2]
    · rw [if_neg (by omega)]; simp [a1]
  cases k1 : (s == 65535) <;> cases k2 : (pr == 17)
  all_goals
    have HST := HC.out _ _ k1 k2
    simp only [Bool.and_true, Bool.and_false, Bool.false_eq_true, if_false, if_true] at HST
    have H2 : Hid (_) := HST
    clear HST HC
    go_enter Tryz.func133, Tryz.ntmps133
    go_wp2
    go_ret
    exact ⟨g_int H2.out.symm, (Below.refl _ _).alloc (Nat.le_refl _) _⟩
/-- The checksum that goes in. -/
def sealSum (pr fa ta : Int) (z : ByteArray) : Int := ckI pr (dSum pr fa ta z)
/-- A message with its checksum made. -/
def sealM (pr fa ta : Int) (m : ByteArray) : ByteArray := if hasSumB pr m = false then m else putWord (putWord m (sumAtI pr) 0) (sumAtI pr) (sealSum pr fa ta (putWord m (sumAtI pr) 0))

theorem sumAtI_le (pr : Int) : sumAtI pr ≤ 16 := by unfold sumAtI; split <;> (try split) <;> decide

--%def DC(x) #[.int .i64 pr, .int .i64 fa, .int .i64 fp, .int .i64 ta, .int .i64 tp, .string x, .bool iq]
set_option maxRecDepth 100000 in
set_option maxHeartbeats 2000000 in
theorem sealed_no (pr fa fp ta tp : Int) (m : ByteArray) (iq : Bool) (w : World) (hs : hasSumB pr m = false) :
    Calls Tryz.prog 124 #[.agg #[.int .i64 pr, .int .i64 fa, .int .i64 fp, .int .i64 ta, .int .i64 tp, .string m, .bool iq]] w fun e w' => e = .returned (.agg #[.int .i64 pr, .int .i64 fa, .int .i64 fp, .int .i64 ta, .int .i64 tp, .string m, .bool iq]) ∧ Below w.heap.size w w' := by
  have M0 := SealMid.start w #[.int .i64 pr, .int .i64 fa, .int .i64 fp, .int .i64 ta, .int .i64 tp, .string m, .bool iq]
  have HM0 : Hid (SealMid w ((w.alloc (.cells #[.int .i64 pr, .int .i64 fa, .int .i64 fp, .int .i64 ta, .int .i64 tp, .string m, .bool iq] 106)).alloc (.cells #[.int .i64 0, .int .i64 0, .int .i64 0, .int .i64 0, .int .i64 0, .string ⟨#[]⟩, .bool false] 106)) #[.int .i64 pr, .int .i64 fa, .int .i64 fp, .int .i64 ta, .int .i64 tp, .string m, .bool iq]) := M0
  clear M0
  go_enter Tryz.func124, Tryz.ntmps124
  go_wp2_with fail
  refine (hasSum_any pr fa fp ta tp m iq _).mono ?_; rintro e w1 ⟨rfl, hb1⟩
  have HM1 : Hid (SealMid w w1 #[.int .i64 pr, .int .i64 fa, .int .i64 fp, .int .i64 ta, .int .i64 tp, .string m, .bool iq]) := HM0.out.call hb1
  clear hb1
  obtain ⟨⟨d0, d1, d2, d3, d4, d5, d6⟩, df⟩ := c7 HM1.out.dg
  obtain ⟨⟨r0, r1, r2, r3, r4, r5, r6⟩, rf⟩ := c7 HM1.out.rs
  go_wp2_with fail
  refine bodyPost_ret (v := .agg #[.int .i64 pr, .int .i64 fa, .int .i64 fp, .int .i64 ta, .int .i64 tp, .string m, .bool iq]) (by simp [results, Tryz.results124, go_sem, r0, r1, r2, r3, r4, r5, r6]) rfl ⟨rfl, ?_⟩
  have := HM1.out.bl
  exact ((((((this.setCell (by simp) _).setCell (by simp) _).setCell (by simp) _).setCell (by simp) _).setCell (by simp) _).setCell (by simp) _).setCell (by simp) _

set_option maxRecDepth 100000 in
set_option maxHeartbeats 1000000 in
theorem sealed_yes (pr fa fp ta tp : Int) (m : ByteArray) (iq : Bool) (w : World) (hs : hasSumB pr m = true) (hm : m.size ≤ 1000) (hat : sumAtI pr + 2 ≤ m.size) (hp0 : 0 ≤ pr) (hp1 : pr ≤ 255) (hf0 : 0 ≤ fa) (hf1 : fa ≤ 4294967295) (ht0 : 0 ≤ ta) (ht1 : ta ≤ 4294967295) :
    Calls Tryz.prog 124 #[.agg #[.int .i64 pr, .int .i64 fa, .int .i64 fp, .int .i64 ta, .int .i64 tp, .string m, .bool iq]] w fun e w' => e = .returned (.agg #[.int .i64 pr, .int .i64 fa, .int .i64 fp, .int .i64 ta, .int .i64 tp, .string (sealM pr fa ta m), .bool iq]) ∧ Below w.heap.size w w' := by
  obtain ⟨z, ez⟩ : ∃ z, z = putWord m (sumAtI pr) 0 := ⟨_, rfl⟩
  have zz : z.size = m.size := by rw [ez, size_put _ _ _ hat]
  have HP1 : Hid (∀ w, Calls Tryz.prog 109 #[.string m, .int .i64 (sumAtI pr : Int), .int .i64 0] w fun e w' => e = .returned (.string z) ∧ Below w.heap.size w w') := fun w => by rw [ez]; exact PutWord_any m (sumAtI pr) 0 w (by omega) hat
  have HP2 : Hid (∀ w, Calls Tryz.prog 109 #[.string z, .int .i64 (sumAtI pr : Int), .int .i64 (sealSum pr fa ta z)] w fun e w' => e = .returned (.string (sealM pr fa ta m)) ∧ Below w.heap.size w w') := fun w => by
    have e : sealM pr fa ta m = putWord z (sumAtI pr) (sealSum pr fa ta z) := by unfold sealM; rw [hs, ← ez]; rfl
    rw [e]; exact PutWord_any z (sumAtI pr) _ w (by omega) (by omega)
  have HSU : Hid (∀ w, Calls Tryz.prog 94 #[.agg #[.int .i64 pr, .int .i64 fa, .int .i64 fp, .int .i64 ta, .int .i64 tp, .string z, .bool iq]] w fun e w' => e = .returned (.int .i64 (dSum pr fa ta z)) ∧ Below w.heap.size w w') := fun w => dsum_any pr fa fp ta tp z iq w (by omega) hp0 hp1 hf0 hf1 ht0 ht1
  have hd := dSum_bd pr fa ta z
  have HCK : Hid (∀ w, Calls Tryz.prog 133 #[.agg #[.int .i64 pr, .int .i64 fa, .int .i64 fp, .int .i64 ta, .int .i64 tp, .string z, .bool iq], .int .i64 (dSum pr fa ta z)] w fun e w' => e = .returned (.int .i64 (sealSum pr fa ta z)) ∧ Below w.heap.size w w') := fun w => checksum_any pr fa fp ta tp z iq _ w hd.1 hd.2
  have HM0 : Hid (SealMid w ((w.alloc (.cells #[.int .i64 pr, .int .i64 fa, .int .i64 fp, .int .i64 ta, .int .i64 tp, .string m, .bool iq] 106)).alloc (.cells #[.int .i64 0, .int .i64 0, .int .i64 0, .int .i64 0, .int .i64 0, .string ⟨#[]⟩, .bool false] 106)) #[.int .i64 pr, .int .i64 fa, .int .i64 fp, .int .i64 ta, .int .i64 tp, .string m, .bool iq]) := SealMid.start w #[.int .i64 pr, .int .i64 fa, .int .i64 fp, .int .i64 ta, .int .i64 tp, .string m, .bool iq]
  clear ez hat zz
  generalize sealM pr fa ta m = SM at HP2
  generalize sealSum pr fa ta z = SS at HP2 HCK
  generalize dSum pr fa ta z = DS at HSU HCK hd
  go_enter Tryz.func124, Tryz.ntmps124
  go_wp2_with fail
  refine (hasSum_any pr fa fp ta tp m iq _).mono ?_; rintro e w1 ⟨rfl, hb1⟩
  have HM1 : Hid (SealMid w w1 #[.int .i64 pr, .int .i64 fa, .int .i64 fp, .int .i64 ta, .int .i64 tp, .string m, .bool iq]) := HM0.out.call hb1
  clear hb1
  obtain ⟨⟨d0, d1, d2, d3, d4, d5, d6⟩, df⟩ := c7 HM1.out.dg
  go_wp2_with fail
  refine (sumAt_any pr fa fp ta tp m iq _).mono ?_; rintro e w2 ⟨rfl, hb2⟩
  have HM2 : Hid (SealMid w w2 #[.int .i64 pr, .int .i64 fa, .int .i64 fp, .int .i64 ta, .int .i64 tp, .string m, .bool iq]) := HM1.out.call hb2
  clear hb2 d0 d1 d2 d3 d4 d5 d6 df
  obtain ⟨⟨d0, d1, d2, d3, d4, d5, d6⟩, df⟩ := c7 HM2.out.dg
  go_wp2_with fail
  refine (HP1.out _).mono ?_; rintro e w3 ⟨rfl, hb3⟩
  have HM3 : Hid (SealMid w w3 #[.int .i64 pr, .int .i64 fa, .int .i64 fp, .int .i64 ta, .int .i64 tp, .string m, .bool iq]) := HM2.out.call hb3
  clear hb3 d0 d1 d2 d3 d4 d5 d6 df
  obtain ⟨⟨d0, d1, d2, d3, d4, d5, d6⟩, df⟩ := c7 HM3.out.dg
  have hM : Hid (SealMid w (w3.setCell ⟨w.heap.size, 5, none⟩ (.string z)).drew #[.int .i64 pr, .int .i64 fa, .int .i64 fp, .int .i64 ta, .int .i64 tp, .string z, .bool iq]) := (HM3.out.store 5 (.string z)).drew
  clear HM0 HM1 HM2 HM3
  go_wp2_with fail
  go_region_with (first | (go_at_call 94; refine (HSU.out _).mono ?_; rintro e w4 ⟨rfl, hb4⟩; have hM1 := hM.out.call hb4; clear hb4; clear hM; clear d0 d1 d2 d3 d4 d5 d6 df; obtain ⟨⟨d0, d1, d2, d3, d4, d5, d6⟩, df⟩ := c7 hM1.dg; have hM : Hid _ := hM1; clear hM1) | (go_at_call 133; refine (HCK.out _).mono ?_; rintro e w5 ⟨rfl, hb5⟩; have hM1 := hM.out.call hb5; clear hb5; clear hM; clear d0 d1 d2 d3 d4 d5 d6 df; obtain ⟨⟨d0, d1, d2, d3, d4, d5, d6⟩, df⟩ := c7 hM1.dg; have hM : Hid _ := hM1; clear hM1) | (go_at_call 109; refine (HP2.out _).mono ?_; rintro e w6 ⟨rfl, hb6⟩; have hM1 := hM.out.call hb6; clear hb6; clear hM; clear d0 d1 d2 d3 d4 d5 d6 df; obtain ⟨⟨d0, d1, d2, d3, d4, d5, d6⟩, df⟩ := c7 hM1.dg; have hM : Hid _ := hM1; clear hM1))
  all_goals
    obtain ⟨⟨r0, r1, r2, r3, r4, r5, r6⟩, rf⟩ := c7 hM.out.rs
    go_wp2_with fail
    refine bodyPost_ret (v := .agg #[.int .i64 pr, .int .i64 fa, .int .i64 fp, .int .i64 ta, .int .i64 tp, .string SM, .bool iq]) (by simp [results, Tryz.results124, go_sem, r0, r1, r2, r3, r4, r5, r6]) rfl ⟨rfl, ?_⟩
    have := hM.out.bl
    exact (((((((this.setCell (by simp) _).setCell (by simp) _).setCell (by simp) _).setCell (by simp) _).setCell (by simp) _).setCell (by simp) _).setCell (by simp) _).setCell (by simp) _
end Go.Proofs.YtfkjobiapjhacabGreat
