/- Contracts of package wire: a message that may be cut, between other ends. Own work. -/
import Derived.Test.YtfkjobiapjhacabGreatTa
namespace Go.Proofs.YtfkjobiapjhacabGreat
open Go.RowKit
attribute [local go_sem ↓] Go.wp_at_zero Go.wp_at_succ

set_option maxRecDepth 100000 in
set_option maxHeartbeats 1000000 in
theorem EndChange_any (xa xp ya yp : Int) (w : World) (a0 : 0 ≤ xa) (a1 : xa ≤ 4294967295) (p0 : 0 ≤ xp) (p1 : xp ≤ 65535) (b0 : 0 ≤ ya) (b1 : ya ≤ 4294967295) (q0 : 0 ≤ yp) (q1 : yp ≤ 65535) :
    Calls Tryz.prog 135 #[.agg #[.int .i64 xa, .int .i64 xp], .agg #[.int .i64 ya, .int .i64 yp]] w fun e w' => e = .returned (.int .i64 (endChg xa xp ya yp)) ∧ Below w.heap.size w w' := by
  have HE : Hid (endChg xa xp ya yp = 196605 - (xa / 65536 + xa % 65536) - xp + (ya / 65536 + ya % 65536) + yp) := rfl
  have hM1 : LMid w ((w.alloc (.cells #[.int .i64 xa, .int .i64 xp] 98)).alloc (.cells #[.int .i64 ya, .int .i64 yp] 98)) [(w.heap.size + 1, #[.int .i64 ya, .int .i64 yp], 98), (w.heap.size, #[.int .i64 xa, .int .i64 xp], 98)] := ((LMid.start w).alloc' _ _ _ rfl).alloc' _ _ _ (by simp)
  obtain ⟨⟨x0, x1⟩, xf⟩ := c2 hM1.at1; obtain ⟨⟨y0, y1⟩, yf⟩ := c2 hM1.at0
  have hM : Hid _ := hM1.drew
  clear hM1
  go_enter Tryz.func135, Tryz.ntmps135
  go_wp2_with fail
  go_region_held3 (fun w' => w'.cell? ⟨w.heap.size, 0, none⟩ = some (.int .i64 xa) ∧ w'.cell? ⟨w.heap.size, 1, none⟩ = some (.int .i64 xp) ∧ w'.cell? ⟨w.heap.size + 1, 0, none⟩ = some (.int .i64 ya) ∧ w'.cell? ⟨w.heap.size + 1, 1, none⟩ = some (.int .i64 yp)) (simp [*]) (first | (go_at_call 113; refine (addressWords_any _ _ _ (by assumption) (by assumption)).mono ?_; rintro e w1 ⟨rfl, hb1⟩; have hM1 := hM.out.call hb1; clear hM hb1; clear x0 x1 xf y0 y1 yf; obtain ⟨⟨x0, x1⟩, xf⟩ := c2 hM1.at1; obtain ⟨⟨y0, y1⟩, yf⟩ := c2 hM1.at0; have hM : Hid _ := hM1; clear hM1))
  go_wp2_with fail
  go_ret
  refine ⟨g_int ?_, hM.out.bl⟩
  rw [HE.out]
  simp only [IntKind.wrap_i64]
  omega
theorem endChg_bd (xa xp ya yp : Int) (a0 : 0 ≤ xa) (a1 : xa ≤ 4294967295) (p0 : 0 ≤ xp) (p1 : xp ≤ 65535) (b0 : 0 ≤ ya) (b1 : ya ≤ 4294967295) (q0 : 0 ≤ yp) (q1 : yp ≤ 65535) : 0 ≤ endChg xa xp ya yp ∧ endChg xa xp ya yp ≤ 393210 := by
  unfold endChg; omega
set_option maxRecDepth 100000 in
set_option maxHeartbeats 1000000 in
theorem change_any (pr fa fp ta tp : Int) (m : ByteArray) (iq : Bool) (o : ByteArray) (xa xp ya yp : Int) (w : World) (f0 : 0 ≤ fa) (f1 : fa ≤ 4294967295) (p0 : 0 ≤ fp) (p1 : fp ≤ 65535) (t0 : 0 ≤ ta) (t1 : ta ≤ 4294967295) (u0 : 0 ≤ tp) (u1 : tp ≤ 65535)
    (a0 : 0 ≤ xa) (a1 : xa ≤ 4294967295) (q0 : 0 ≤ xp) (q1 : xp ≤ 65535) (b0 : 0 ≤ ya) (b1 : ya ≤ 4294967295) (r0 : 0 ≤ yp) (r1 : yp ≤ 65535) :
    Calls Tryz.prog 134 #[.agg #[.int .i64 pr, .int .i64 fa, .int .i64 fp, .int .i64 ta, .int .i64 tp, .string m, .bool iq], .agg #[.int .i64 pr, .int .i64 xa, .int .i64 xp, .int .i64 ya, .int .i64 yp, .string o, .bool false]] w fun e w' => e = .returned (.int .i64 (chgI pr fa fp ta tp m o xa xp ya yp)) ∧ Below w.heap.size w w' := by
  have hM1 : LMid w ((w.alloc (.cells #[.int .i64 pr, .int .i64 fa, .int .i64 fp, .int .i64 ta, .int .i64 tp, .string m, .bool iq] 106)).alloc (.cells #[.int .i64 pr, .int .i64 xa, .int .i64 xp, .int .i64 ya, .int .i64 yp, .string o, .bool false] 106)) [(w.heap.size + 1, #[.int .i64 pr, .int .i64 xa, .int .i64 xp, .int .i64 ya, .int .i64 yp, .string o, .bool false], 106), (w.heap.size, #[.int .i64 pr, .int .i64 fa, .int .i64 fp, .int .i64 ta, .int .i64 tp, .string m, .bool iq], 106)] := ((LMid.start w).alloc' _ _ _ rfl).alloc' _ _ _ (by simp)
  obtain ⟨⟨d0, d1, d2, d3, d4, d5, d6⟩, df⟩ := c7 hM1.at1; obtain ⟨⟨o0, o1, o2, o3, o4, o5, o6⟩, of⟩ := c7 hM1.at0
  have hM : Hid _ := hM1.drew
  clear hM1
  by_cases h1 : pr = 1
  · have hp : (pr == 1) = true := by simp [h1]
    have HE : Hid (chgI pr fa fp ta tp m o xa xp ya yp = 65535 - wordAt m 4 + wordAt o 4) := if_pos h1
    have w0 := wordAt_bd m 4
    have w1 := wordAt_bd o 4
    clear h1
    go_enter Tryz.func134, Tryz.ntmps134
    go_wp2_with fail
    go_region_held3 (fun w' => w'.cell? ⟨w.heap.size, 5, none⟩ = some (.string m) ∧ w'.cell? ⟨w.heap.size + 1, 5, none⟩ = some (.string o)) (simp [*]) (first | (go_at_call 74; refine (Word_any _ _ _ (by first | assumption | decide) (by first | assumption | decide)).mono ?_; rintro e w' ⟨rfl, rfl⟩))
    go_wp2_with fail
    go_ret
    refine ⟨g_int ?_, hM.out.bl⟩
    rw [HE.out]
    simp only [IntKind.wrap_i64]
    omega
  · have hp : (pr == 1) = false := by simp [h1]
    have HE : Hid (chgI pr fa fp ta tp m o xa xp ya yp = endChg fa fp xa xp + endChg ta tp ya yp) := if_neg h1
    have e0 := endChg_bd fa fp xa xp f0 f1 p0 p1 a0 a1 q0 q1
    have e1 := endChg_bd ta tp ya yp t0 t1 u0 u1 b0 b1 r0 r1
    clear h1
    go_enter Tryz.func134, Tryz.ntmps134
    go_wp2_with fail
    go_region_held3 (fun w' => w'.cell? ⟨w.heap.size, 1, none⟩ = some (.int .i64 fa) ∧ w'.cell? ⟨w.heap.size, 2, none⟩ = some (.int .i64 fp) ∧ w'.cell? ⟨w.heap.size, 3, none⟩ = some (.int .i64 ta) ∧ w'.cell? ⟨w.heap.size, 4, none⟩ = some (.int .i64 tp) ∧ w'.cell? ⟨w.heap.size + 1, 1, none⟩ = some (.int .i64 xa) ∧ w'.cell? ⟨w.heap.size + 1, 2, none⟩ = some (.int .i64 xp) ∧ w'.cell? ⟨w.heap.size + 1, 3, none⟩ = some (.int .i64 ya) ∧ w'.cell? ⟨w.heap.size + 1, 4, none⟩ = some (.int .i64 yp)) (simp [*]) (first | (go_at_call 135; refine (EndChange_any _ _ _ _ _ (by assumption) (by assumption) (by assumption) (by assumption) (by assumption) (by assumption) (by assumption) (by assumption)).mono ?_; rintro e w1 ⟨rfl, hb1⟩; have hM1 := hM.out.call hb1; clear hM hb1; clear d0 d1 d2 d3 d4 d5 d6 df o0 o1 o2 o3 o4 o5 o6 of; obtain ⟨⟨d0, d1, d2, d3, d4, d5, d6⟩, df⟩ := c7 hM1.at1; obtain ⟨⟨o0, o1, o2, o3, o4, o5, o6⟩, of⟩ := c7 hM1.at0; have hM : Hid _ := hM1; clear hM1))
    go_wp2_with fail
    go_ret
    refine ⟨g_int ?_, hM.out.bl⟩
    rw [HE.out]
    try (simp only [IntKind.wrap_i64]; omega)
end Go.Proofs.YtfkjobiapjhacabGreat
