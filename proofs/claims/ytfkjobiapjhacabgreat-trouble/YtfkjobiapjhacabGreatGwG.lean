/- Contracts of package wire: Between. Own work. -/
import Derived.Test.YtfkjobiapjhacabGreatGwF
namespace Go.Proofs.YtfkjobiapjhacabGreat
open Go.RowKit
attribute [local go_sem ↓] Go.wp_at_zero Go.wp_at_succ

theorem sealed_any (pr fa fp ta tp : Int) (m : ByteArray) (iq : Bool) (w : World) (hm : m.size ≤ 1000) (hat : sumAtI pr + 2 ≤ m.size) (hp0 : 0 ≤ pr) (hp1 : pr ≤ 255) (hf0 : 0 ≤ fa) (hf1 : fa ≤ 4294967295) (ht0 : 0 ≤ ta) (ht1 : ta ≤ 4294967295) :
    Calls Tryz.prog 124 #[.agg #[.int .i64 pr, .int .i64 fa, .int .i64 fp, .int .i64 ta, .int .i64 tp, .string m, .bool iq]] w fun e w' => e = .returned (.agg #[.int .i64 pr, .int .i64 fa, .int .i64 fp, .int .i64 ta, .int .i64 tp, .string (sealM pr fa ta m), .bool iq]) ∧ Below w.heap.size w w' := by
  cases hs : hasSumB pr m
  · have e : sealM pr fa ta m = m := by unfold sealM; rw [hs]; rfl
    rw [e]; exact sealed_no pr fa fp ta tp m iq w hs
  · exact sealed_yes pr fa fp ta tp m iq w hs hm hat hp0 hp1 hf0 hf1 ht0 ht1

/-- An ICMP message's number, of its ends' ports. -/
def numI (m : ByteArray) (xp yp : Int) : Int := if (byteAt m 0 == 8) = true then xp else yp
set_option maxRecDepth 100000 in
set_option maxHeartbeats 400000 in
theorem number_any (pr fa fp ta tp : Int) (m : ByteArray) (iq : Bool) (xa xp ya yp : Int) (w : World) :
    Calls Tryz.prog 131 #[.agg #[.int .i64 pr, .int .i64 fa, .int .i64 fp, .int .i64 ta, .int .i64 tp, .string m, .bool iq], .agg #[.int .i64 xa, .int .i64 xp], .agg #[.int .i64 ya, .int .i64 yp]] w fun e w' => e = .returned (.int .i64 (numI m xp yp)) ∧ Below w.heap.size w w' := by
  have hB0 : Hid (Below w.heap.size w (((w.alloc (.cells #[.int .i64 pr, .int .i64 fa, .int .i64 fp, .int .i64 ta, .int .i64 tp, .string m, .bool iq] 106)).alloc (.cells #[.int .i64 xa, .int .i64 xp] 98)).alloc (.cells #[.int .i64 ya, .int .i64 yp] 98))) := (((Below.refl _ _).alloc (Nat.le_refl _) _).alloc (by simp) _).alloc (by simp; omega) _
  cases k : (byteAt m 0 == 8)
  · have HN : Hid (numI m xp yp = yp) := by show _ = _; unfold numI; rw [k]; rfl
    go_enter Tryz.func131, Tryz.ntmps131
    go_wp2_with (go_at_call 91; refine (Kind_any _ _ _ _ _ _ _ _).mono ?_; rintro e w1 ⟨rfl, hb1⟩; obtain ⟨hc1, hf1⟩ := bcell' hb1; have hB := hB0.out.trans (hb1.mono hB0.out.size); have hz1 : w.heap.size + 2 < w1.heap.size := Nat.lt_of_lt_of_le (by simp) hb1.size)
    go_ret
    exact ⟨g_int HN.out.symm, hB⟩
  · have HN : Hid (numI m xp yp = xp) := by show _ = _; unfold numI; rw [k]; rfl
    go_enter Tryz.func131, Tryz.ntmps131
    go_wp2_with (go_at_call 91; refine (Kind_any _ _ _ _ _ _ _ _).mono ?_; rintro e w1 ⟨rfl, hb1⟩; obtain ⟨hc1, hf1⟩ := bcell' hb1; have hB := hB0.out.trans (hb1.mono hB0.out.size); have hz1 : w.heap.size + 2 < w1.heap.size := Nat.lt_of_lt_of_le (by simp) hb1.size)
    go_ret
    exact ⟨g_int HN.out.symm, hB⟩
structure PortMid (w w1 : World) (d f t : Array Value) : Prop where
  dg : w1.heap[w.heap.size]? = some (.cells d 106 (0, 0))
  fr : w1.heap[w.heap.size + 1]? = some (.cells f 98 (0, 0))
  tt : w1.heap[w.heap.size + 1 + 1]? = some (.cells t 98 (0, 0))
  bl : Below w.heap.size w w1
theorem PortMid.call {w w1 w2 : World} {d f t : Array Value} (h : PortMid w w1 d f t) (hb : Below w1.heap.size w1 w2) : PortMid w w2 d f t :=
  ⟨blk hb h.dg, blk hb h.fr, blk hb h.tt, h.bl.trans (hb.mono h.bl.size)⟩
theorem PortMid.drew {w w1 : World} {d f t : Array Value} (h : PortMid w w1 d f t) : PortMid w w1.drew d f t := ⟨h.dg, h.fr, h.tt, h.bl.drew⟩
theorem PortMid.start (w : World) (d f t : Array Value) : PortMid w (((w.alloc (.cells d 106)).alloc (.cells f 98)).alloc (.cells t 98)) d f t :=
  ⟨by rw [hget_alloc, if_neg (by simp <;> omega), hget_alloc, if_neg (by simp <;> omega), hget_alloc, if_pos rfl], by rw [hget_alloc, if_neg (by simp <;> omega), hget_alloc, if_pos (by simp)], by rw [hget_alloc, if_pos (by simp)], (((Below.refl _ _).alloc (Nat.le_refl _) _).alloc (by simp) _).alloc (by simp; omega) _⟩
/-- The message with the ports of other ends. -/
def portM (pr : Int) (m : ByteArray) (xp yp : Int) : ByteArray := if pr = 1 then putWord m 4 (numI m xp yp) else putWord (putWord m 0 xp) 2 yp
theorem portM_size (pr : Int) (m : ByteArray) (xp yp : Int) (h6 : 6 ≤ m.size) : (portM pr m xp yp).size = m.size := by
  unfold portM
  split
  · rw [size_put _ _ _ (by omega)]
  · have e1 : (putWord m 0 xp).size = m.size := size_put _ _ _ (by omega)
    rw [size_put _ _ _ (by omega), e1]
set_option maxRecDepth 100000 in
set_option maxHeartbeats 1000000 in
theorem ported_any (pr fa fp ta tp : Int) (m : ByteArray) (iq : Bool) (xa xp ya yp : Int) (w : World) (hm : m.size ≤ 1000) (h6 : 6 ≤ m.size) :
    Calls Tryz.prog 123 #[.agg #[.int .i64 pr, .int .i64 fa, .int .i64 fp, .int .i64 ta, .int .i64 tp, .string m, .bool iq], .agg #[.int .i64 xa, .int .i64 xp], .agg #[.int .i64 ya, .int .i64 yp]] w fun e w' => e = .returned (.string (portM pr m xp yp)) ∧ Below w.heap.size w w' := by
  have hB0 : Hid (Below w.heap.size w (((w.alloc (.cells #[.int .i64 pr, .int .i64 fa, .int .i64 fp, .int .i64 ta, .int .i64 tp, .string m, .bool iq] 106)).alloc (.cells #[.int .i64 xa, .int .i64 xp] 98)).alloc (.cells #[.int .i64 ya, .int .i64 yp] 98))) := (((Below.refl _ _).alloc (Nat.le_refl _) _).alloc (by simp) _).alloc (by simp; omega) _
  by_cases h1 : pr = 1
  · have hp : (pr == 1) = true := by simpa using h1
    have P : Hid (∀ w, Calls Tryz.prog 109 #[.string m, .int .i64 4, .int .i64 (numI m xp yp)] w fun e w' => e = .returned (.string (portM pr m xp yp)) ∧ Below w.heap.size w w') := fun w => by
      have e : portM pr m xp yp = putWord m 4 (numI m xp yp) := if_pos h1
      rw [e]; exact PutWord_any m 4 _ w (by omega) (by omega)
    have HN : Hid (∀ W, Calls Tryz.prog 131 #[.agg #[.int .i64 pr, .int .i64 fa, .int .i64 fp, .int .i64 ta, .int .i64 tp, .string m, .bool iq], .agg #[.int .i64 xa, .int .i64 xp], .agg #[.int .i64 ya, .int .i64 yp]] W fun e w' => e = .returned (.int .i64 (numI m xp yp)) ∧ Below W.heap.size W w') := fun W => number_any pr fa fp ta tp m iq xa xp ya yp W
    generalize portM pr m xp yp = PM at P
    generalize numI m xp yp = NM at P HN
    clear h1
    have hM1 := PortMid.start w #[.int .i64 pr, .int .i64 fa, .int .i64 fp, .int .i64 ta, .int .i64 tp, .string m, .bool iq] #[.int .i64 xa, .int .i64 xp] #[.int .i64 ya, .int .i64 yp]
    obtain ⟨⟨d0, d1, d2, d3, d4, d5, d6⟩, df⟩ := c7 hM1.dg; obtain ⟨⟨x0, x1⟩, xf⟩ := c2 hM1.fr; obtain ⟨⟨y0, y1⟩, yf⟩ := c2 hM1.tt
    have hM : Hid _ := hM1.drew
    clear hM1 hB0
    go_enter Tryz.func123, Tryz.ntmps123
    go_wp2_with fail
    go_region_held3 (fun w' => w'.cell? ⟨w.heap.size, 0, none⟩ = some (.int .i64 pr) ∧ w'.cell? ⟨w.heap.size, 1, none⟩ = some (.int .i64 fa) ∧ w'.cell? ⟨w.heap.size, 2, none⟩ = some (.int .i64 fp) ∧ w'.cell? ⟨w.heap.size, 3, none⟩ = some (.int .i64 ta) ∧ w'.cell? ⟨w.heap.size, 4, none⟩ = some (.int .i64 tp) ∧ w'.cell? ⟨w.heap.size, 5, none⟩ = some (.string m) ∧ w'.cell? ⟨w.heap.size, 6, none⟩ = some (.bool iq) ∧ w'.cell? ⟨w.heap.size + 1, 0, none⟩ = some (.int .i64 xa) ∧ w'.cell? ⟨w.heap.size + 1, 1, none⟩ = some (.int .i64 xp) ∧ w'.cell? ⟨w.heap.size + 1 + 1, 0, none⟩ = some (.int .i64 ya) ∧ w'.cell? ⟨w.heap.size + 1 + 1, 1, none⟩ = some (.int .i64 yp)) (simp [*]) (first
      | (go_at_call 131; refine (HN.out _).mono ?_; rintro e w1 ⟨rfl, hb1⟩; have hM1 := hM.out.call hb1; clear hM hb1; clear d0 d1 d2 d3 d4 d5 d6 df x0 x1 xf y0 y1 yf; obtain ⟨⟨d0, d1, d2, d3, d4, d5, d6⟩, df⟩ := c7 hM1.dg; obtain ⟨⟨x0, x1⟩, xf⟩ := c2 hM1.fr; obtain ⟨⟨y0, y1⟩, yf⟩ := c2 hM1.tt; have hM : Hid _ := hM1; clear hM1)
      | (go_at_call 109; refine (P.out _).mono ?_; rintro e w2 ⟨rfl, hb1⟩; have hM1 := hM.out.call hb1; clear hM hb1; clear d0 d1 d2 d3 d4 d5 d6 df x0 x1 xf y0 y1 yf; obtain ⟨⟨d0, d1, d2, d3, d4, d5, d6⟩, df⟩ := c7 hM1.dg; obtain ⟨⟨x0, x1⟩, xf⟩ := c2 hM1.fr; obtain ⟨⟨y0, y1⟩, yf⟩ := c2 hM1.tt; have hM : Hid _ := hM1; clear hM1))
    go_wp2_with fail
    go_ret
    exact ⟨rfl, hM.out.bl⟩
  · have hp : (pr == 1) = false := by simpa using h1
    obtain ⟨m1, e1⟩ : ∃ z, z = putWord m 0 xp := ⟨_, rfl⟩
    have z1 : m1.size = m.size := by rw [e1, size_put _ _ _ (by omega)]
    have P1 : Hid (∀ w, Calls Tryz.prog 109 #[.string m, .int .i64 0, .int .i64 xp] w fun e w' => e = .returned (.string m1) ∧ Below w.heap.size w w') := fun w => by rw [e1]; exact PutWord_any m 0 xp w (by omega) (by omega)
    have P2 : Hid (∀ w, Calls Tryz.prog 109 #[.string m1, .int .i64 2, .int .i64 yp] w fun e w' => e = .returned (.string (portM pr m xp yp)) ∧ Below w.heap.size w w') := fun w => by
      have e : portM pr m xp yp = putWord m1 2 yp := by rw [e1]; exact if_neg h1
      rw [e]; exact PutWord_any m1 2 yp w (by omega) (by omega)
    generalize portM pr m xp yp = PM at P2
    clear h1 e1
    go_enter Tryz.func123, Tryz.ntmps123
    go_wp2_with fail
    refine (P1.out _).mono ?_; rintro e w1 ⟨rfl, hb1⟩
    obtain ⟨hc1, hf1⟩ := bcell' hb1
    have hz1 : w.heap.size + 1 + 1 < w1.heap.size := Nat.lt_of_lt_of_le (by simp) hb1.size
    have hB1 := hB0.out.trans (hb1.mono hB0.out.size)
    clear hB0 hb1
    have hB : Hid _ := hB1
    clear hB1
    go_wp2_with fail
    refine (P2.out _).mono ?_; rintro e w2 ⟨rfl, hb2⟩
    have hB1 := hB.out.trans (hb2.mono hB.out.size)
    go_wp2_with fail
    go_ret
    exact ⟨rfl, hB1⟩

/-- The message between other ends. -/
def btwM (pr : Int) (m : ByteArray) (xa xp ya yp : Int) : ByteArray := sealM pr xa ya (portM pr m xp yp)
set_option maxRecDepth 100000 in
set_option maxHeartbeats 1000000 in
theorem Between_any (pr fa fp ta tp : Int) (m : ByteArray) (iq : Bool) (xa xp ya yp : Int) (w : World) (hm : m.size ≤ 1000) (hat : sumAtI pr + 2 ≤ m.size) (h6 : 6 ≤ m.size) (hp0 : 0 ≤ pr) (hp1 : pr ≤ 255) (hf0 : 0 ≤ xa) (hf1 : xa ≤ 4294967295) (ht0 : 0 ≤ ya) (ht1 : ya ≤ 4294967295) :
    Calls Tryz.prog 106 #[.agg #[.int .i64 pr, .int .i64 fa, .int .i64 fp, .int .i64 ta, .int .i64 tp, .string m, .bool iq], .agg #[.int .i64 xa, .int .i64 xp], .agg #[.int .i64 ya, .int .i64 yp]] w fun e w' => e = .returned (.agg #[.int .i64 pr, .int .i64 xa, .int .i64 xp, .int .i64 ya, .int .i64 yp, .string (btwM pr m xa xp ya yp), .bool iq]) ∧ Below w.heap.size w w' := by
  have z2 := portM_size pr m xp yp h6
  have P1 : Hid (∀ w, Calls Tryz.prog 123 #[.agg #[.int .i64 pr, .int .i64 fa, .int .i64 fp, .int .i64 ta, .int .i64 tp, .string m, .bool iq], .agg #[.int .i64 xa, .int .i64 xp], .agg #[.int .i64 ya, .int .i64 yp]] w fun e w' => e = .returned (.string (portM pr m xp yp)) ∧ Below w.heap.size w w') := fun w => ported_any pr fa fp ta tp m iq xa xp ya yp w hm h6
  have P3 : Hid (∀ w, Calls Tryz.prog 124 #[.agg #[.int .i64 pr, .int .i64 xa, .int .i64 xp, .int .i64 ya, .int .i64 yp, .string (portM pr m xp yp), .bool iq]] w fun e w' => e = .returned (.agg #[.int .i64 pr, .int .i64 xa, .int .i64 xp, .int .i64 ya, .int .i64 yp, .string (btwM pr m xa xp ya yp), .bool iq]) ∧ Below w.heap.size w w') := fun w => sealed_any pr xa xp ya yp _ iq w (by omega) (by omega) hp0 hp1 hf0 hf1 ht0 ht1
  generalize btwM pr m xa xp ya yp = BM at P3
  generalize portM pr m xp yp = PM at P1 P3 z2
  have HM0 : Hid (LMid w ((((w.alloc (.cells #[.int .i64 pr, .int .i64 fa, .int .i64 fp, .int .i64 ta, .int .i64 tp, .string m, .bool iq] 106)).alloc (.cells #[.int .i64 xa, .int .i64 xp] 98)).alloc (.cells #[.int .i64 ya, .int .i64 yp] 98)).alloc (.cells #[.int .i64 0, .int .i64 0, .int .i64 0, .int .i64 0, .int .i64 0, .string ⟨#[]⟩, .bool false] 106)) [(w.heap.size + 3, #[.int .i64 0, .int .i64 0, .int .i64 0, .int .i64 0, .int .i64 0, .string ⟨#[]⟩, .bool false], 106), (w.heap.size + 2, #[.int .i64 ya, .int .i64 yp], 98), (w.heap.size + 1, #[.int .i64 xa, .int .i64 xp], 98), (w.heap.size, #[.int .i64 pr, .int .i64 fa, .int .i64 fp, .int .i64 ta, .int .i64 tp, .string m, .bool iq], 106)]) := ((((LMid.start w).alloc' _ _ _ rfl).alloc' _ _ _ (by simp)).alloc' _ _ _ (by simp)).alloc' _ _ _ (by simp)
  go_enter Tryz.func106, Tryz.ntmps106
  go_wp2_with fail
  refine (P1.out _).mono ?_; rintro e w1 ⟨rfl, hb1⟩
  have hM1 := HM0.out.call hb1
  clear hb1
  obtain ⟨⟨d0, d1, d2, d3, d4, d5, d6⟩, df⟩ := c7 hM1.at3
  obtain ⟨⟨f0, f1⟩, ff⟩ := c2 hM1.at2
  obtain ⟨⟨t0, t1⟩, tf⟩ := c2 hM1.at1
  have hM : Hid _ := hM1
  clear hM1
  go_wp2_with fail
  refine (P3.out _).mono ?_; rintro e w3 ⟨rfl, hb3⟩
  have hM1 := (((((hM.out.set3 5 (.string PM)).set3 1 (.int .i64 xa)).set3 2 (.int .i64 xp)).set3 3 (.int .i64 ya)).set3 4 (.int .i64 yp)).call hb3
  clear hb3 hM d0 d1 d2 d3 d4 d5 d6 df f0 f1 ff t0 t1 tf
  obtain ⟨⟨r0, r1, r2, r3, r4, r5, r6⟩, rf⟩ := c7 hM1.at0
  have hM : Hid _ := hM1
  clear hM1
  go_wp2_with fail
  refine bodyPost_ret (v := .agg #[.int .i64 pr, .int .i64 xa, .int .i64 xp, .int .i64 ya, .int .i64 yp, .string BM, .bool iq]) (by simp [results, Tryz.results106, go_sem, r0, r1, r2, r3, r4, r5, r6]) rfl ⟨rfl, ?_⟩
  have := hM.out.bl
  exact ((((((this.setCell (by simp; omega) _).setCell (by simp; omega) _).setCell (by simp; omega) _).setCell (by simp; omega) _).setCell (by simp; omega) _).setCell (by simp; omega) _).setCell (by simp; omega) _
end Go.Proofs.YtfkjobiapjhacabGreat
