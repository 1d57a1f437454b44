/- Own work. -/
import Derived.Test.YtfkjobiapjhacabGreatA2
/- Contracts of package wire: datagrams made. Own work. -/
namespace Go.Proofs.YtfkjobiapjhacabGreat
open Go.RowKit
attribute [local go_sem ↓] Go.wp_at_zero Go.wp_at_succ

/-- The checksum that goes in, by the sum of the other words. -/
def ckI (pr s : Int) : Int := if 65535 - s = 0 ∧ pr = 17 then 65535 else 65535 - s
theorem ckI_bd (pr s : Int) (h0 : 0 ≤ s) (h1 : s ≤ 65535) : 0 ≤ ckI pr s ∧ ckI pr s ≤ 65535 := by unfold ckI; split <;> omega
set_option maxRecDepth 100000 in
set_option maxHeartbeats 400000 in
theorem checksum_any (pr fa fp ta tp : Int) (m : ByteArray) (iq : Bool) (s : Int) (w : World) (h0 : 0 ≤ s) (h1 : s ≤ 65535) :
    Calls Tryz.prog 133 #[.agg #[.int .i64 pr, .int .i64 fa, .int .i64 fp, .int .i64 ta, .int .i64 tp, .string m, .bool iq], .int .i64 s] w fun e w' => e = .returned (.int .i64 (ckI pr s)) ∧ Below w.heap.size w w' := by
  have HC : Hid (∀ c1 c2, (s == 65535) = c1 → (pr == 17) = c2 → ckI pr s = if c1 && c2 then 65535 else 65535 - s) := by
    intro c1 c2 e1 e2
    unfold ckI
    rw [← e1, ← e2]
    by_cases a1 : s = 65535
    · by_cases a2 : pr = 17 <;> simp [a1, a2]
    · rw [if_neg (by omega)]; simp [a1]
  cases k1 : (s == 65535) <;> cases k2 : (pr == 17)
  all_goals
    have HST := HC.out _ _ k1 k2
    simp only [Bool.and_true, Bool.and_false, Bool.false_eq_true, if_false, if_true] at HST
    have H2 : Hid (_) := HST
    clear HST HC
    go_enter Tryz.func133, Tryz.ntmps133
    go_wp2
    go_ret
    exact ⟨g_int H2.out.symm, (Below.refl _ _).alloc (Nat.le_refl _) _⟩
/-- The checksum that goes in. -/
def sealSum (pr fa ta : Int) (z : ByteArray) : Int := ckI pr (dSum pr fa ta z)
/-- A message with its checksum made. -/
def sealM (pr fa ta : Int) (m : ByteArray) : ByteArray := if hasSumB pr m = false then m else putWord (putWord m (sumAtI pr) 0) (sumAtI pr) (sealSum pr fa ta (putWord m (sumAtI pr) 0))

theorem sumAtI_le (pr : Int) : sumAtI pr ≤ 16 := by unfold sumAtI; split <;> (try split) <;> decide

--%def DC(x) #[.int .i64 pr, .int .i64 fa, .int .i64 fp, .int .i64 ta, .int .i64 tp, .string x, .bool iq]
set_option maxRecDepth 100000 in
set_option maxHeartbeats 2000000 in
theorem sealed_no (pr fa fp ta tp : Int) (m : ByteArray) (iq : Bool) (w : World) (hs : hasSumB pr m = false) :
    Calls Tryz.prog 124 #[.agg #[.int .i64 pr, .int .i64 fa, .int .i64 fp, .int .i64 ta, .int .i64 tp, .string m, .bool iq]] w fun e w' => e = .returned (.agg #[.int .i64 pr, .int .i64 fa, .int .i64 fp, .int .i64 ta, .int .i64 tp, .string m, .bool iq]) ∧ Below w.heap.size w w' := by
  have M0 := SealMid.start w #[.int .i64 pr, .int .i64 fa, .int .i64 fp, .int .i64 ta, .int .i64 tp, .string m, .bool iq]
  have HM0 : Hid (SealMid w ((w.alloc (.cells #[.int .i64 pr, .int .i64 fa, .int .i64 fp, .int .i64 ta, .int .i64 tp, .string m, .bool iq] 106)).alloc (.cells #[.int .i64 0, .int .i64 0, .int .i64 0, .int .i64 0, .int .i64 0, .string ⟨#[]⟩, .bool false] 106)) #[.int .i64 pr, .int .i64 fa, .int .i64 fp, .int .i64 ta, .int .i64 tp, .string m, .bool iq]) := M0
  clear M0
  go_enter Tryz.func124, Tryz.ntmps124
  go_wp2_with fail
  refine (hasSum_any pr fa fp ta tp m iq _).mono ?_; rintro e w1 ⟨rfl, hb1⟩
  have HM1 : Hid (SealMid w w1 #[.int .i64 pr, .int .i64 fa, .int .i64 fp, .int .i64 ta, .int .i64 tp, .string m, .bool iq]) := HM0.out.call hb1
  clear hb1
  obtain ⟨⟨d0, d1, d2, d3, d4, d5, d6⟩, df⟩ := c7 HM1.out.dg
  obtain ⟨⟨r0, r1, r2, r3, r4, r5, r6⟩, rf⟩ := c7 HM1.out.rs
  go_wp2_with fail
  refine bodyPost_ret (v := .agg #[.int .i64 pr, .int .i64 fa, .int .i64 fp, .int .i64 ta, .int .i64 tp, .string m, .bool iq]) (by simp [results, Tryz.results124, go_sem, r0, r1, r2, r3, r4, r5, r6]) rfl ⟨rfl, ?_⟩
  have := HM1.out.bl
  exact ((((((this.setCell (by simp) _).setCell (by simp) _).setCell (by simp) _).setCell (by simp) _).setCell (by simp) _).setCell (by simp) _).setCell (by simp) _

set_option maxRecDepth 100000 in
set_option maxHeartbeats 1000000 in
theorem sealed_yes (pr fa fp ta tp : Int) (m : ByteArray) (iq : Bool) (w : World) (hs : hasSumB pr m = true) (hm : m.size ≤ 1000) (hat : sumAtI pr + 2 ≤ m.size) (hp0 : 0 ≤ pr) (hp1 : pr ≤ 255) (hf0 : 0 ≤ fa) (hf1 : fa ≤ 4294967295) (ht0 : 0 ≤ ta) (ht1 : ta ≤ 4294967295) :
    Calls Tryz.prog 124 #[.agg #[.int .i64 pr, .int .i64 fa, .int .i64 fp, .int .i64 ta, .int .i64 tp, .string m, .bool iq]] w fun e w' => e = .returned (.agg #[.int .i64 pr, .int .i64 fa, .int .i64 fp, .int .i64 ta, .int .i64 tp, .string (sealM pr fa ta m), .bool iq]) ∧ Below w.heap.size w w' := by
  obtain ⟨z, ez⟩ : ∃ z, z = putWord m (sumAtI pr) 0 := ⟨_, rfl⟩
  have zz : z.size = m.size := by rw [ez, size_put _ _ _ hat]
  have HP1 : Hid (∀ w, Calls Tryz.prog 109 #[.string m, .int .i64 (sumAtI pr : Int), .int .i64 0] w fun e w' => e = .returned (.string z) ∧ Below w.heap.size w w') := fun w => by rw [ez]; exact PutWord_any m (sumAtI pr) 0 w (by omega) hat
  have HP2 : Hid (∀ w, Calls Tryz.prog 109 #[.string z, .int .i64 (sumAtI pr : Int), .int .i64 (sealSum pr fa ta z)] w fun e w' => e = .returned (.string (sealM pr fa ta m)) ∧ Below w.heap.size w w') := fun w => by
    have e : sealM pr fa ta m = putWord z (sumAtI pr) (sealSum pr fa ta z) := by unfold sealM; rw [hs, ← ez]; rfl
    rw [e]; exact PutWord_any z (sumAtI pr) _ w (by omega) (by omega)
  have HSU : Hid (∀ w, Calls Tryz.prog 94 #[.agg #[.int .i64 pr, .int .i64 fa, .int .i64 fp, .int .i64 ta, .int .i64 tp, .string z, .bool iq]] w fun e w' => e = .returned (.int .i64 (dSum pr fa ta z)) ∧ Below w.heap.size w w') := fun w => dsum_any pr fa fp ta tp z iq w (by omega) hp0 hp1 hf0 hf1 ht0 ht1
  have hd := dSum_bd pr fa ta z
  have HCK : Hid (∀ w, Calls Tryz.prog 133 #[.agg #[.int .i64 pr, .int .i64 fa, .int .i64 fp, .int .i64 ta, .int .i64 tp, .string z, .bool iq], .int .i64 (dSum pr fa ta z)] w fun e w' => e = .returned (.int .i64 (sealSum pr fa ta z)) ∧ Below w.heap.size w w') := fun w => checksum_any pr fa fp ta tp z iq _ w hd.1 hd.2
  have HM0 : Hid (SealMid w ((w.alloc (.cells #[.int .i64 pr, .int .i64 fa, .int .i64 fp, .int .i64 ta, .int .i64 tp, .string m, .bool iq] 106)).alloc (.cells #[.int .i64 0, .int .i64 0, .int .i64 0, .int .i64 0, .int .i64 0, .string ⟨#[]⟩, .bool false] 106)) #[.int .i64 pr, .int .i64 fa, .int .i64 fp, .int .i64 ta, .int .i64 tp, .string m, .bool iq]) := SealMid.start w #[.int .i64 pr, .int .i64 fa, .int .i64 fp, .int .i64 ta, .int .i64 tp, .string m, .bool iq]
  clear ez hat zz
  generalize sealM pr fa ta m = SM at HP2
  generalize sealSum pr fa ta z = SS at HP2 HCK
  generalize dSum pr fa ta z = DS at HSU HCK hd
  go_enter Tryz.func124, Tryz.ntmps124
  go_wp2_with fail
  refine (hasSum_any pr fa fp ta tp m iq _).mono ?_; rintro e w1 ⟨rfl, hb1⟩
  have HM1 : Hid (SealMid w w1 #[.int .i64 pr, .int .i64 fa, .int .i64 fp, .int .i64 ta, .int .i64 tp, .string m, .bool iq]) := HM0.out.call hb1
  clear hb1
  obtain ⟨⟨d0, d1, d2, d3, d4, d5, d6⟩, df⟩ := c7 HM1.out.dg
  go_wp2_with fail
  refine (sumAt_any pr fa fp ta tp m iq _).mono ?_; rintro e w2 ⟨rfl, hb2⟩
  have HM2 : Hid (SealMid w w2 #[.int .i64 pr, .int .i64 fa, .int .i64 fp, .int .i64 ta, .int .i64 tp, .string m, .bool iq]) := HM1.out.call hb2
  clear hb2 d0 d1 d2 d3 d4 d5 d6 df
  obtain ⟨⟨d0, d1, d2, d3, d4, d5, d6⟩, df⟩ := c7 HM2.out.dg
  go_wp2_with fail
  refine (HP1.out _).mono ?_; rintro e w3 ⟨rfl, hb3⟩
  have HM3 : Hid (SealMid w w3 #[.int .i64 pr, .int .i64 fa, .int .i64 fp, .int .i64 ta, .int .i64 tp, .string m, .bool iq]) := HM2.out.call hb3
  clear hb3 d0 d1 d2 d3 d4 d5 d6 df
  obtain ⟨⟨d0, d1, d2, d3, d4, d5, d6⟩, df⟩ := c7 HM3.out.dg
  have hM : Hid (SealMid w (w3.setCell ⟨w.heap.size, 5, none⟩ (.string z)).drew #[.int .i64 pr, .int .i64 fa, .int .i64 fp, .int .i64 ta, .int .i64 tp, .string z, .bool iq]) := (HM3.out.store 5 (.string z)).drew
  clear HM0 HM1 HM2 HM3
  go_wp2_with fail
  go_region_with (first | (go_at_call 94; refine (HSU.out _).mono ?_; rintro e w4 ⟨rfl, hb4⟩; have hM1 := hM.out.call hb4; clear hb4; clear hM; clear d0 d1 d2 d3 d4 d5 d6 df; obtain ⟨⟨d0, d1, d2, d3, d4, d5, d6⟩, df⟩ := c7 hM1.dg; have hM : Hid _ := hM1; clear hM1) | (go_at_call 133; refine (HCK.out _).mono ?_; rintro e w5 ⟨rfl, hb5⟩; have hM1 := hM.out.call hb5; clear hb5; clear hM; clear d0 d1 d2 d3 d4 d5 d6 df; obtain ⟨⟨d0, d1, d2, d3, d4, d5, d6⟩, df⟩ := c7 hM1.dg; have hM : Hid _ := hM1; clear hM1) | (go_at_call 109; refine (HP2.out _).mono ?_; rintro e w6 ⟨rfl, hb6⟩; have hM1 := hM.out.call hb6; clear hb6; clear hM; clear d0 d1 d2 d3 d4 d5 d6 df; obtain ⟨⟨d0, d1, d2, d3, d4, d5, d6⟩, df⟩ := c7 hM1.dg; have hM : Hid _ := hM1; clear hM1))
  all_goals
    obtain ⟨⟨r0, r1, r2, r3, r4, r5, r6⟩, rf⟩ := c7 hM.out.rs
    go_wp2_with fail
    refine bodyPost_ret (v := .agg #[.int .i64 pr, .int .i64 fa, .int .i64 fp, .int .i64 ta, .int .i64 tp, .string SM, .bool iq]) (by simp [results, Tryz.results124, go_sem, r0, r1, r2, r3, r4, r5, r6]) rfl ⟨rfl, ?_⟩
    have := hM.out.bl
    exact (((((((this.setCell (by simp) _).setCell (by simp) _).setCell (by simp) _).setCell (by simp) _).setCell (by simp) _).setCell (by simp) _).setCell (by simp) _).setCell (by simp) _
end Go.Proofs.YtfkjobiapjhacabGreat
/- Contracts of package wire: Between. Own work. -/
namespace Go.Proofs.YtfkjobiapjhacabGreat
open Go.RowKit
attribute [local go_sem ↓] Go.wp_at_zero Go.wp_at_succ

theorem sealed_any (pr fa fp ta tp : Int) (m : ByteArray) (iq : Bool) (w : World) (hm : m.size ≤ 1000) (hat : sumAtI pr + 2 ≤ m.size) (hp0 : 0 ≤ pr) (hp1 : pr ≤ 255) (hf0 : 0 ≤ fa) (hf1 : fa ≤ 4294967295) (ht0 : 0 ≤ ta) (ht1 : ta ≤ 4294967295) :
    Calls Tryz.prog 124 #[.agg #[.int .i64 pr, .int .i64 fa, .int .i64 fp, .int .i64 ta, .int .i64 tp, .string m, .bool iq]] w fun e w' => e = .returned (.agg #[.int .i64 pr, .int .i64 fa, .int .i64 fp, .int .i64 ta, .int .i64 tp, .string (sealM pr fa ta m), .bool iq]) ∧ Below w.heap.size w w' := by
  cases hs : hasSumB pr m
  · have e : sealM pr fa ta m = m := by unfold sealM; rw [hs]; rfl
    rw [e]; exact sealed_no pr fa fp ta tp m iq w hs
  · exact sealed_yes pr fa fp ta tp m iq w hs hm hat hp0 hp1 hf0 hf1 ht0 ht1

/-- An ICMP message's number, of its ends' ports. -/
def numI (m : ByteArray) (xp yp : Int) : Int := if (byteAt m 0 == 8) = true then xp else yp
set_option maxRecDepth 100000 in
set_option maxHeartbeats 400000 in
theorem number_any (pr fa fp ta tp : Int) (m : ByteArray) (iq : Bool) (xa xp ya yp : Int) (w : World) :
    Calls Tryz.prog 131 #[.agg #[.int .i64 pr, .int .i64 fa, .int .i64 fp, .int .i64 ta, .int .i64 tp, .string m, .bool iq], .agg #[.int .i64 xa, .int .i64 xp], .agg #[.int .i64 ya, .int .i64 yp]] w fun e w' => e = .returned (.int .i64 (numI m xp yp)) ∧ Below w.heap.size w w' := by
  have hB0 : Hid (Below w.heap.size w (((w.alloc (.cells #[.int .i64 pr, .int .i64 fa, .int .i64 fp, .int .i64 ta, .int .i64 tp, .string m, .bool iq] 106)).alloc (.cells #[.int .i64 xa, .int .i64 xp] 98)).alloc (.cells #[.int .i64 ya, .int .i64 yp] 98))) := (((Below.refl _ _).alloc (Nat.le_refl _) _).alloc (by simp) _).alloc (by simp; omega) _
  cases k : (byteAt m 0 == 8)
  · have HN : Hid (numI m xp yp = yp) := by show _ = _; unfold numI; rw [k]; rfl
    go_enter Tryz.func131, Tryz.ntmps131
    go_wp2_with (go_at_call 91; refine (Kind_any _ _ _ _ _ _ _ _).mono ?_; rintro e w1 ⟨rfl, hb1⟩; obtain ⟨hc1, hf1⟩ := bcell' hb1; have hB := hB0.out.trans (hb1.mono hB0.out.size); have hz1 : w.heap.size + 2 < w1.heap.size := Nat.lt_of_lt_of_le (by simp) hb1.size)
    go_ret
    exact ⟨g_int HN.out.symm, hB⟩
  · have HN : Hid (numI m xp yp = xp) := by show _ = _; unfold numI; rw [k]; rfl
    go_enter Tryz.func131, Tryz.ntmps131
    go_wp2_with (go_at_call 91; refine (Kind_any _ _ _ _ _ _ _ _).mono ?_; rintro e w1 ⟨rfl, hb1⟩; obtain ⟨hc1, hf1⟩ := bcell' hb1; have hB := hB0.out.trans (hb1.mono hB0.out.size); have hz1 : w.heap.size + 2 < w1.heap.size := Nat.lt_of_lt_of_le (by simp) hb1.size)
    go_ret
    exact ⟨g_int HN.out.symm, hB⟩
structure PortMid (w w1 : World) (d f t : Array Value) : Prop where
  dg : w1.heap[w.heap.size]? = some (.cells d 106 (0, 0))
  fr : w1.heap[w.heap.size + 1]? = some (.cells f 98 (0, 0))
  tt : w1.heap[w.heap.size + 1 + 1]? = some (.cells t 98 (0, 0))
  bl : Below w.heap.size w w1
theorem PortMid.call {w w1 w2 : World} {d f t : Array Value} (h : PortMid w w1 d f t) (hb : Below w1.heap.size w1 w2) : PortMid w w2 d f t :=
  ⟨blk hb h.dg, blk hb h.fr, blk hb h.tt, h.bl.trans (hb.mono h.bl.size)⟩
theorem PortMid.drew {w w1 : World} {d f t : Array Value} (h : PortMid w w1 d f t) : PortMid w w1.drew d f t := ⟨h.dg, h.fr, h.tt, h.bl.drew⟩
theorem PortMid.start (w : World) (d f t : Array Value) : PortMid w (((w.alloc (.cells d 106)).alloc (.cells f 98)).alloc (.cells t 98)) d f t :=
  ⟨by rw [hget_alloc, if_neg (by simp <;> omega), hget_alloc, if_neg (by simp <;> omega), hget_alloc, if_pos rfl], by rw [hget_alloc, if_neg (by simp <;> omega), hget_alloc, if_pos (by simp)], by rw [hget_alloc, if_pos (by simp)], (((Below.refl _ _).alloc (Nat.le_refl _) _).alloc (by simp) _).alloc (by simp; omega) _⟩
/-- The message with the ports of other ends. -/
def portM (pr : Int) (m : ByteArray) (xp yp : Int) : ByteArray := if pr = 1 then putWord m 4 (numI m xp yp) else putWord (putWord m 0 xp) 2 yp
theorem portM_size (pr : Int) (m : ByteArray) (xp yp : Int) (h6 : 6 ≤ m.size) : (portM pr m xp yp).size = m.size := by
  unfold portM
  split
  · rw [size_put _ _ _ (by omega)]
  · have e1 : (putWord m 0 xp).size = m.size := size_put _ _ _ (by omega)
    rw [size_put _ _ _ (by omega), e1]
set_option maxRecDepth 100000 in
set_option maxHeartbeats 1000000 in
theorem ported_any (pr fa fp ta tp : Int) (m : ByteArray) (iq : Bool) (xa xp ya yp : Int) (w : World) (hm : m.size ≤ 1000) (h6 : 6 ≤ m.size) :
    Calls Tryz.prog 123 #[.agg #[.int .i64 pr, .int .i64 fa, .int .i64 fp, .int .i64 ta, .int .i64 tp, .string m, .bool iq], .agg #[.int .i64 xa, .int .i64 xp], .agg #[.int .i64 ya, .int .i64 yp]] w fun e w' => e = .returned (.string (portM pr m xp yp)) ∧ Below w.heap.size w w' := by
  have hB0 : Hid (Below w.heap.size w (((w.alloc (.cells #[.int .i64 pr, .int .i64 fa, .int .i64 fp, .int .i64 ta, .int .i64 tp, .string m, .bool iq] 106)).alloc (.cells #[.int .i64 xa, .int .i64 xp] 98)).alloc (.cells #[.int .i64 ya, .int .i64 yp] 98))) := (((Below.refl _ _).alloc (Nat.le_refl _) _).alloc (by simp) _).alloc (by simp; omega) _
  by_cases h1 : pr = 1
  · have hp : (pr == 1) = true := by simpa using h1
    have P : Hid (∀ w, Calls Tryz.prog 109 #[.string m, .int .i64 4, .int .i64 (numI m xp yp)] w fun e w' => e = .returned (.string (portM pr m xp yp)) ∧ Below w.heap.size w w') := fun w => by
      have e : portM pr m xp yp = putWord m 4 (numI m xp yp) := if_pos h1
      rw [e]; exact PutWord_any m 4 _ w (by omega) (by omega)
    have HN : Hid (∀ W, Calls Tryz.prog 131 #[.agg #[.int .i64 pr, .int .i64 fa, .int .i64 fp, .int .i64 ta, .int .i64 tp, .string m, .bool iq], .agg #[.int .i64 xa, .int .i64 xp], .agg #[.int .i64 ya, .int .i64 yp]] W fun e w' => e = .returned (.int .i64 (numI m xp yp)) ∧ Below W.heap.size W w') := fun W => number_any pr fa fp ta tp m iq xa xp ya yp W
    generalize portM pr m xp yp = PM at P
    generalize numI m xp yp = NM at P HN
    clear h1
    have hM1 := PortMid.start w #[.int .i64 pr, .int .i64 fa, .int .i64 fp, .int .i64 ta, .int .i64 tp, .string m, .bool iq] #[.int .i64 xa, .int .i64 xp] #[.int .i64 ya, .int .i64 yp]
    obtain ⟨⟨d0, d1, d2, d3, d4, d5, d6⟩, df⟩ := c7 hM1.dg; obtain ⟨⟨x0, x1⟩, xf⟩ := c2 hM1.fr; obtain ⟨⟨y0, y1⟩, yf⟩ := c2 hM1.tt
    have hM : Hid _ := hM1.drew
    clear hM1 hB0
    go_enter Tryz.func123, Tryz.ntmps123
    go_wp2_with fail
    go_region_held3 (fun w' => w'.cell? ⟨w.heap.size, 0, none⟩ = some (.int .i64 pr) ∧ w'.cell? ⟨w.heap.size, 1, none⟩ = some (.int .i64 fa) ∧ w'.cell? ⟨w.heap.size, 2, none⟩ = some (.int .i64 fp) ∧ w'.cell? ⟨w.heap.size, 3, none⟩ = some (.int .i64 ta) ∧ w'.cell? ⟨w.heap.size, 4, none⟩ = some (.int .i64 tp) ∧ w'.cell? ⟨w.heap.size, 5, none⟩ = some (.string m) ∧ w'.cell? ⟨w.heap.size, 6, none⟩ = some (.bool iq) ∧ w'.cell? ⟨w.heap.size + 1, 0, none⟩ = some (.int .i64 xa) ∧ w'.cell? ⟨w.heap.size + 1, 1, none⟩ = some (.int .i64 xp) ∧ w'.cell? ⟨w.heap.size + 1 + 1, 0, none⟩ = some (.int .i64 ya) ∧ w'.cell? ⟨w.heap.size + 1 + 1, 1, none⟩ = some (.int .i64 yp)) (simp [*]) (first
      | (go_at_call 131; refine (HN.out _).mono ?_; rintro e w1 ⟨rfl, hb1⟩; have hM1 := hM.out.call hb1; clear hM hb1; clear d0 d1 d2 d3 d4 d5 d6 df x0 x1 xf y0 y1 yf; obtain ⟨⟨d0, d1, d2, d3, d4, d5, d6⟩, df⟩ := c7 hM1.dg; obtain ⟨⟨x0, x1⟩, xf⟩ := c2 hM1.fr; obtain ⟨⟨y0, y1⟩, yf⟩ := c2 hM1.tt; have hM : Hid _ := hM1; clear hM1)
      | (go_at_call 109; refine (P.out _).mono ?_; rintro e w2 ⟨rfl, hb1⟩; have hM1 := hM.out.call hb1; clear hM hb1; clear d0 d1 d2 d3 d4 d5 d6 df x0 x1 xf y0 y1 yf; obtain ⟨⟨d0, d1, d2, d3, d4, d5, d6⟩, df⟩ := c7 hM1.dg; obtain ⟨⟨x0, x1⟩, xf⟩ := c2 hM1.fr; obtain ⟨⟨y0, y1⟩, yf⟩ := c2 hM1.tt; have hM : Hid _ := hM1; clear hM1))
    go_wp2_with fail
    go_ret
    exact ⟨rfl, hM.out.bl⟩
  · have hp : (pr == 1) = false := by simpa using h1
    obtain ⟨m1, e1⟩ : ∃ z, z = putWord m 0 xp := ⟨_, rfl⟩
    have z1 : m1.size = m.size := by rw [e1, size_put _ _ _ (by omega)]
    have P1 : Hid (∀ w, Calls Tryz.prog 109 #[.string m, .int .i64 0, .int .i64 xp] w fun e w' => e = .returned (.string m1) ∧ Below w.heap.size w w') := fun w => by rw [e1]; exact PutWord_any m 0 xp w (by omega) (by omega)
    have P2 : Hid (∀ w, Calls Tryz.prog 109 #[.string m1, .int .i64 2, .int .i64 yp] w fun e w' => e = .returned (.string (portM pr m xp yp)) ∧ Below w.heap.size w w') := fun w => by
      have e : portM pr m xp yp = putWord m1 2 yp := by rw [e1]; exact if_neg h1
      rw [e]; exact PutWord_any m1 2 yp w (by omega) (by omega)
    generalize portM pr m xp yp = PM at P2
    clear h1 e1
    go_enter Tryz.func123, Tryz.ntmps123
    go_wp2_with fail
    refine (P1.out _).mono ?_; rintro e w1 ⟨rfl, hb1⟩
    obtain ⟨hc1, hf1⟩ := bcell' hb1
    have hz1 : w.heap.size + 1 + 1 < w1.heap.size := Nat.lt_of_lt_of_le (by simp) hb1.size
    have hB1 := hB0.out.trans (hb1.mono hB0.out.size)
    clear hB0 hb1
    have hB : Hid _ := hB1
    clear hB1
    go_wp2_with fail
    refine (P2.out _).mono ?_; rintro e w2 ⟨rfl, hb2⟩
    have hB1 := hB.out.trans (hb2.mono hB.out.size)
    go_wp2_with fail
    go_ret
    exact ⟨rfl, hB1⟩

/-- The message between other ends. -/
def btwM (pr : Int) (m : ByteArray) (xa xp ya yp : Int) : ByteArray := sealM pr xa ya (portM pr m xp yp)
set_option maxRecDepth 100000 in
set_option maxHeartbeats 1000000 in
theorem Between_any (pr fa fp ta tp : Int) (m : ByteArray) (iq : Bool) (xa xp ya yp : Int) (w : World) (hm : m.size ≤ 1000) (hat : sumAtI pr + 2 ≤ m.size) (h6 : 6 ≤ m.size) (hp0 : 0 ≤ pr) (hp1 : pr ≤ 255) (hf0 : 0 ≤ xa) (hf1 : xa ≤ 4294967295) (ht0 : 0 ≤ ya) (ht1 : ya ≤ 4294967295) :
    Calls Tryz.prog 106 #[.agg #[.int .i64 pr, .int .i64 fa, .int .i64 fp, .int .i64 ta, .int .i64 tp, .string m, .bool iq], .agg #[.int .i64 xa, .int .i64 xp], .agg #[.int .i64 ya, .int .i64 yp]] w fun e w' => e = .returned (.agg #[.int .i64 pr, .int .i64 xa, .int .i64 xp, .int .i64 ya, .int .i64 yp, .string (btwM pr m xa xp ya yp), .bool iq]) ∧ Below w.heap.size w w' := by
  have z2 := portM_size pr m xp yp h6
  have P1 : Hid (∀ w, Calls Tryz.prog 123 #[.agg #[.int .i64 pr, .int .i64 fa, .int .i64 fp, .int .i64 ta, .int .i64 tp, .string m, .bool iq], .agg #[.int .i64 xa, .int .i64 xp], .agg #[.int .i64 ya, .int .i64 yp]] w fun e w' => e = .returned (.string (portM pr m xp yp)) ∧ Below w.heap.size w w') := fun w => ported_any pr fa fp ta tp m iq xa xp ya yp w hm h6
  have P3 : Hid (∀ w, Calls Tryz.prog 124 #[.agg #[.int .i64 pr, .int .i64 xa, .int .i64 xp, .int .i64 ya, .int .i64 yp, .string (portM pr m xp yp), .bool iq]] w fun e w' => e = .returned (.agg #[.int .i64 pr, .int .i64 xa, .int .i64 xp, .int .i64 ya, .int .i64 yp, .string (btwM pr m xa xp ya yp), .bool iq]) ∧ Below w.heap.size w w') := fun w => sealed_any pr xa xp ya yp _ iq w (by omega) (by omega) hp0 hp1 hf0 hf1 ht0 ht1
  generalize btwM pr m xa xp ya yp = BM at P3
  generalize portM pr m xp yp = PM at P1 P3 z2
  have HM0 : Hid (LMid w ((((w.alloc (.cells #[.int .i64 pr, .int .i64 fa, .int .i64 fp, .int .i64 ta, .int .i64 tp, .string m, .bool iq] 106)).alloc (.cells #[.int .i64 xa, .int .i64 xp] 98)).alloc (.cells #[.int .i64 ya, .int .i64 yp] 98)).alloc (.cells #[.int .i64 0, .int .i64 0, .int .i64 0, .int .i64 0, .int .i64 0, .string ⟨#[]⟩, .bool false] 106)) [(w.heap.size + 3, #[.int .i64 0, .int .i64 0, .int .i64 0, .int .i64 0, .int .i64 0, .string ⟨#[]⟩, .bool false], 106), (w.heap.size + 2, #[.int .i64 ya, .int .i64 yp], 98), (w.heap.size + 1, #[.int .i64 xa, .int .i64 xp], 98), (w.heap.size, #[.int .i64 pr, .int .i64 fa, .int .i64 fp, .int .i64 ta, .int .i64 tp, .string m, .bool iq], 106)]) := ((((LMid.start w).alloc' _ _ _ rfl).alloc' _ _ _ (by simp)).alloc' _ _ _ (by simp)).alloc' _ _ _ (by simp)
  go_enter Tryz.func106, Tryz.ntmps106
  go_wp2_with fail
  refine (P1.out _).mono ?_; rintro e w1 ⟨rfl, hb1⟩
  have hM1 := HM0.out.call hb1
  clear hb1
  obtain ⟨⟨d0, d1, d2, d3, d4, d5, d6⟩, df⟩ := c7 hM1.at3
  obtain ⟨⟨f0, f1⟩, ff⟩ := c2 hM1.at2
  obtain ⟨⟨t0, t1⟩, tf⟩ := c2 hM1.at1
  have hM : Hid _ := hM1
  clear hM1
  go_wp2_with fail
  refine (P3.out _).mono ?_; rintro e w3 ⟨rfl, hb3⟩
  have hM1 := (((((hM.out.set3 5 (.string PM)).set3 1 (.int .i64 xa)).set3 2 (.int .i64 xp)).set3 3 (.int .i64 ya)).set3 4 (.int .i64 yp)).call hb3
  clear hb3 hM d0 d1 d2 d3 d4 d5 d6 df f0 f1 ff t0 t1 tf
  obtain ⟨⟨r0, r1, r2, r3, r4, r5, r6⟩, rf⟩ := c7 hM1.at0
  have hM : Hid _ := hM1
  clear hM1
  go_wp2_with fail
  refine bodyPost_ret (v := .agg #[.int .i64 pr, .int .i64 xa, .int .i64 xp, .int .i64 ya, .int .i64 yp, .string BM, .bool iq]) (by simp [results, Tryz.results106, go_sem, r0, r1, r2, r3, r4, r5, r6]) rfl ⟨rfl, ?_⟩
  have := hM.out.bl
  exact ((((((this.setCell (by simp; omega) _).setCell (by simp; omega) _).setCell (by simp; omega) _).setCell (by simp; omega) _).setCell (by simp; omega) _).setCell (by simp; omega) _).setCell (by simp; omega) _
end Go.Proofs.YtfkjobiapjhacabGreat
/- Contracts of package wire: what goes out for packets. Own work. -/
namespace Go.Proofs.YtfkjobiapjhacabGreat
open Go.RowKit
attribute [local go_sem ↓] Go.wp_at_zero Go.wp_at_succ

theorem empty_app (b : ByteArray) : (⟨#[]⟩ : ByteArray) ++ b = b := bl_inj (by simp [bl])
/-- A datagram that a packet is by itself. -/
theorem Whole_one (h b : ByteArray) (sr ds pr : Int) (W : World) (g cap : Nat) (hg : W.heap[g]? = some (.cells #[.string h, .int .i64 sr, .int .i64 ds, .int .i64 pr, .string b] 83 (0, 0))) (hb : b.size ≤ 1000) :
    Calls Tryz.prog 60 #[.slice (some ⟨g, 0, none⟩) 1 cap] W fun e w' => e = .returned (.agg #[.int .i64 pr, .int .i64 sr, .int .i64 (portsOf pr b).1, .int .i64 ds, .int .i64 (portsOf pr b).2, .string b, .bool false]) ∧ Below W.heap.size W w' := by
  have hk : KsAt W (.slice (some ⟨g, 0, none⟩) 1 cap) [⟨h, sr, ds, pr, b⟩] := KsAt.one hg
  have h1 := Whole_any (.slice (some ⟨g, 0, none⟩) 1 cap) [⟨h, sr, ds, pr, b⟩] W hk (by simp) (fun p hp => by simp at hp; subst hp; exact hb)
  have e : wOf [(⟨h, sr, ds, pr, b⟩ : KP)] = ⟨pr, sr, ds, b⟩ := by
    show (⟨pr, sr, ds, ⟨#[]⟩ ++ b⟩ : WD) = _
    rw [empty_app]
  rw [e] at h1
  exact h1
/-- What is left of the message, and what has gone out. -/
def onStep (fa ta : Int) (a : ByteArray × List ByteArray) (p : KP) : ByteArray × List ByteArray :=
  (a.1.extract (min p.b.size a.1.size) a.1.size, a.2 ++ [onHead p.h fa ta ++ a.1.extract 0 (min p.b.size a.1.size)])
def onTo (fa ta : Int) (m : ByteArray) (l : List KP) (k : Nat) : ByteArray × List ByteArray := (l.take k).foldl (onStep fa ta) (m, [])
/-- What goes out for packets. -/
def onAll (fa ta : Int) (m : ByteArray) (l : List KP) : List ByteArray := (l.foldl (onStep fa ta) (m, [])).2
theorem onTo_succ (fa ta : Int) (m : ByteArray) (l : List KP) (k : Nat) (h : k < l.length) : onTo fa ta m l (k + 1) = onStep fa ta (onTo fa ta m l k) l[k] := by
  unfold onTo
  rw [List.take_succ_eq_append_getElem h, List.foldl_append]
  rfl
theorem onTo_all (fa ta : Int) (m : ByteArray) (l : List KP) : (onTo fa ta m l l.length).2 = onAll fa ta m l := by unfold onTo onAll; rw [List.take_length]
theorem onTo_len (fa ta : Int) (m : ByteArray) (l : List KP) (k : Nat) (hk : k ≤ l.length) : (onTo fa ta m l k).2.length = k ∧ (onTo fa ta m l k).1.size ≤ m.size := by
  induction k with
  | zero => exact ⟨rfl, Nat.le_refl _⟩
  | succ k ih =>
    obtain ⟨h1, h2⟩ := ih (by omega)
    rw [onTo_succ fa ta m l k (by omega)]
    unfold onStep
    refine ⟨by simp [h1], ?_⟩
    simp only [ByteArray.size_extract]
    omega
def strC (s : ByteArray) : List Value := [.string s]
theorem strC_len (s : ByteArray) : (strC s).length = 1 := rfl
theorem info_str : (Tryz.prog.info? 9).map (fun i => (i.zero, i.size, i.bytes)) = some (some (.string ⟨#[]⟩), 1, 16) := by kernel_rfl
set_option maxRecDepth 100000 in
set_option maxHeartbeats 2000000 in
theorem Onward_any (pr fa fp ta tp : Int) (m : ByteArray) (iq : Bool) (v : Value) (l : List KP) (w : World) (hl : KsAt w v l) (hn : l.length ≤ 1000) (hm : m.size ≤ 1000) (hb : ∀ p ∈ l, p.h.size = 20 ∧ p.b.size ≤ 1000) :
    Calls Tryz.prog 62 #[.agg #[.int .i64 pr, .int .i64 fa, .int .i64 fp, .int .i64 ta, .int .i64 tp, .string m, .bool iq], v] w fun e w' => ∃ ov, e = .returned ov ∧ LsAt w' 9 1 strC ov (onAll fa ta m l) ∧ Below w.heap.size w w' := by
  have HL : Hid (KsAt w v l) := hl
  have HBD : Hid (∀ p ∈ l, p.h.size = 20 ∧ p.b.size ≤ 1000) := hb
  obtain ⟨ao, cap, hv⟩ := hl.shape
  clear hl hb
  subst hv
  generalize hlen : l.length = len at hn HL ⊢
  have HE : Hid (l.length = len) := hlen
  clear hlen
  obtain ⟨i0, hi0, hz0, hz1, hz2⟩ := info_parts info_str
  have HM0 : Hid (QMid w ((w.alloc (.cells #[.int .i64 pr, .int .i64 fa, .int .i64 fp, .int .i64 ta, .int .i64 tp, .string m, .bool iq] 106)).alloc (.cells #[] 9)) [(w.heap.size, #[.int .i64 pr, .int .i64 fa, .int .i64 fp, .int .i64 ta, .int .i64 tp, .string m, .bool iq], 106)] 9 1 (.slice (some ⟨w.heap.size + 1, 0, none⟩) 0 0) 0 []) := QMid.start ((LMid.start w).alloc' _ _ _ rfl) _ _ _ (by simp)
  go_enter Tryz.func62, Tryz.ntmps62
  go_wp2
  go_loopw [5, 6, 15] (fun lst rs i wr => ∃ (k : Nat) (lv : Value), k ≤ len ∧ i = .int .i64 k ∧ lv = lst ∧ rs = .string (onTo fa ta m l k).1 ∧ QMid w wr [(w.heap.size, #[.int .i64 pr, .int .i64 fa, .int .i64 fp, .int .i64 ta, .int .i64 tp, .string m, .bool iq], 106)] 9 1 lv k ((onTo fa ta m l k).2.flatMap strC)) (fun _ _ i _ => len - (intOf i).toNat)
  case atStart => exact ⟨0, _, Nat.zero_le _, rfl, rfl, rfl, HM0.out⟩
  case round =>
    obtain ⟨k, lv, hk, rfl, rfl, rfl, hM1⟩ := hrel
    have hM : Hid (QMid w wr [(w.heap.size, #[.int .i64 pr, .int .i64 fa, .int .i64 fp, .int .i64 ta, .int .i64 tp, .string m, .bool iq], 106)] 9 1 lv k ((onTo fa ta m l k).2.flatMap strC)) := hM1
    obtain ⟨-, hsz⟩ := onTo_len fa ta m l k (by have := HE.out; omega)
    by_cases hlt : k < len
    · have hlo : k < l.length := by have := HE.out; omega
      obtain ⟨g, cp, hv, hg, q0, q1, q2, q3, q4⟩ := KsAt.get (LsAt.keep HL.out hM1.mid.bl) k hlo
      obtain ⟨hhs, hbs⟩ := HBD.out l[k] (List.getElem_mem _)
      have HSU : Hid (onTo fa ta m l (k + 1) = onStep fa ta (onTo fa ta m l k) l[k]) := onTo_succ fa ta m l k hlo
      simp at hv
      obtain ⟨rfl, -, rfl⟩ := hv
      have hsw := hM1.mid.bl.size
      clear hM1
      generalize onTo fa ta m l k = x at hM HSU hsz ⊢
      obtain ⟨rs, out⟩ := x
      simp only at hM hsz ⊢
      generalize l[k] = o at q0 q1 q2 q3 q4 HSU hbs hhs
      have hkI : (0 : Int) ≤ (k : Int) := by omega
      have hkL : (k : Int) < (len : Int) := by omega
      have HON : Hid (∀ W body, body.size ≤ 1000 → Calls Tryz.prog 83 #[.agg #[.string o.h, .int .i64 o.sr, .int .i64 o.ds, .int .i64 o.pr, .string o.b], .int .i64 fa, .int .i64 ta, .string body] W fun e w' => e = .returned (.string (onHead o.h fa ta ++ body)) ∧ Below W.heap.size W w') := fun W body hbd => onward_any o.h o.b o.sr o.ds o.pr fa ta body W hhs hbd
      obtain ⟨sz, hsz2⟩ : ∃ sz, sz = min o.b.size rs.size := ⟨_, rfl⟩
      have HST : Hid (onStep fa ta (rs, out) o = (rs.extract sz rs.size, out ++ [onHead o.h fa ta ++ rs.extract 0 sz])) := by rw [hsz2]; rfl
      have hs1 : (sz : Int) ≤ (rs.size : Int) := by omega
      have hs0 : (0 : Int) ≤ (sz : Int) := by omega
      have hbd : (rs.extract 0 sz).size ≤ 1000 := by rw [ByteArray.size_extract]; omega
      have hM1 := hM.out.alloc' #[.string o.h, .int .i64 o.sr, .int .i64 o.ds, .int .i64 o.pr, .string o.b] 83 wr.heap.size rfl
      clear hM
      obtain ⟨⟨d0, d1, d2, d3, d4, d5, d6⟩, df⟩ := c7 hM1.mid.at1; obtain ⟨⟨p0, p1, p2, p3, p4⟩, pf⟩ := c5 hM1.mid.at0; have n0 := lt_of_block hM1.mid.at1; have n1 := lt_of_block hM1.mid.at0
      have hM : Hid _ := hM1.drew
      clear hM1
      go_upto_if 25 with fail
      go_cut [9] (fun s9 wx => s9 = .int .i64 (sz : Int) ∧ wx = wr.alloc (.cells #[.string o.h, .int .i64 o.sr, .int .i64 o.ds, .int .i64 o.pr, .string o.b] 83))
      case first =>
        go_wp2_with fail
        all_goals
          go_meet
          first | exact ⟨by rw [show (sz : Int) = (rs.size : Int) by omega], rfl⟩ | exact ⟨by rw [show (sz : Int) = (o.b.size : Int) by omega], rfl⟩
      case rest =>
        obtain ⟨rfl, rfl⟩ := hcut
        clear q0 q1 q2 q3 q4 hsz2
        go_wp2_with fail
        go_region_held3 (fun w' => w'.cell? ⟨w.heap.size, 1, none⟩ = some (.int .i64 fa) ∧ w'.cell? ⟨w.heap.size, 3, none⟩ = some (.int .i64 ta) ∧ w'.cell? ⟨wr.heap.size, 0, none⟩ = some (.string o.h) ∧ w'.cell? ⟨wr.heap.size, 1, none⟩ = some (.int .i64 o.sr) ∧ w'.cell? ⟨wr.heap.size, 2, none⟩ = some (.int .i64 o.ds) ∧ w'.cell? ⟨wr.heap.size, 3, none⟩ = some (.int .i64 o.pr) ∧ w'.cell? ⟨wr.heap.size, 4, none⟩ = some (.string o.b)) (first | (simp [*]; done) | (simp only [cell_alloc_lt n0, cell_alloc_lt n1]; simp [*]; done)) (first | (go_at_call 83; refine (HON.out _ _ (by assumption)).mono ?_; rintro e w1 ⟨rfl, hb1⟩; have hM1 := hM.out.call hb1; clear hM hb1; clear d0 d1 d2 d3 d4 d5 d6 df p0 p1 p2 p3 p4 pf n0 n1; obtain ⟨⟨d0, d1, d2, d3, d4, d5, d6⟩, df⟩ := c7 hM1.mid.at1; obtain ⟨⟨p0, p1, p2, p3, p4⟩, pf⟩ := c5 hM1.mid.at0; have n0 := lt_of_block hM1.mid.at1; have n1 := lt_of_block hM1.mid.at0; have hM : Hid _ := hM1; clear hM1) | (refine step_append_lies _ (by rfl) (.tmp 28) (.tmp 40) 26 (by rfl) w.heap.size 9 i0 _ 1 16 Tryz.underlying26 hi0 hz0 hz1 hz2 (by rfl) (by decide) lv k (out.flatMap strC) (by simp [Act.eval]) (by exact hM.out.own.alloc _) ⟨w1.heap.size, 0, none⟩ 1 1 [.string (onHead o.h fa ta ++ rs.extract 0 sz)] (by simp [Act.eval]) (by rfl) (by exact World.news_of_block (heap_alloc_new w1 _)) (by intro u hu; simp at hu; subst hu; rfl) (by decide) (by unfold maxLen; omega) (by omega) (by have := hM.out.mid.bl.size; simp; omega) (w1.heap.size + 1) (by simp) ?_; intro g4 cap4 w4 hown hgrow hat hlt4; have hM1 := (hM.out.call ((Below.refl _ _).alloc (Nat.le_refl _) _)).app hgrow hown _ hat (by simp); clear hM hown hgrow hat hlt4; clear d0 d1 d2 d3 d4 d5 d6 df p0 p1 p2 p3 p4 pf n0 n1; obtain ⟨⟨d0, d1, d2, d3, d4, d5, d6⟩, df⟩ := c7 hM1.mid.at1; obtain ⟨⟨p0, p1, p2, p3, p4⟩, pf⟩ := c5 hM1.mid.at0; have n0 := lt_of_block hM1.mid.at1; have n1 := lt_of_block hM1.mid.at0; have hM : Hid _ := hM1; clear hM1))
        go_wp2_with fail
        go_roundw
        case rel =>
          refine ⟨k + 1, _, by omega, by go_num, rfl, ?_, ?_⟩
          · rw [HSU.out, HST.out]
          · rw [HSU.out, HST.out]
            have := hM.out.tail
            simpa [strC] using this
        case measure => simp [intOf]; omega
    · have e : k = len := by omega
      have HO : Hid (LsAt wr 9 1 strC lv (onAll fa ta m l)) := by
        have h1 := hM1.own
        have h2 : (onTo fa ta m l k).2 = onAll fa ta m l := by rw [e, ← HE.out]; exact onTo_all fa ta m l
        have h3 := (onTo_len fa ta m l k (by have := HE.out; omega)).1
        rw [h2] at h1 h3
        rw [← h3] at h1
        exact LsAt.of_owns strC_len h1
      have HB : Hid (Below w.heap.size w wr) := hM1.mid.bl
      clear hM1 hM
      go_wp2
      go_ret
      exact ⟨_, rfl, HO.out, HB.out⟩
end Go.Proofs.YtfkjobiapjhacabGreat
