/- Contracts of package gateway: turn, fromOutside. Own work. -/
import Derived.Test.YtapahmhpjmnebabGwQ
namespace Go.Proofs.Ytapahmhpjmnebab
open Go.RowKit
attribute [local go_sem ↓] Go.wp_at_zero Go.wp_at_succ

/-- A way that goes nowhere. -/
def wayV (k : Int) : Value := .agg #[.int .i64 k, .int .i64 0, .int .i64 0, .int .i64 0, .int .i64 0, .int .i64 0, .int .i64 0, .string ⟨#[]⟩]
/-- A way out. -/
def wayS (side pr xa xp ya yp : Int) (m : ByteArray) : Value := .agg #[.int .i64 0, .int .i64 side, .int .i64 pr, .int .i64 xa, .int .i64 xp, .int .i64 ya, .int .i64 yp, .string m]
def turnV (s : BX) (pr : Int) (m : ByteArray) (xa xp ya yp : Int) : Value := if hasS pr ya yp xa xp s.l = true then wayS 0 pr xa xp ya yp (btwM pr m xa xp ya yp) else wayV 17
def turnL (s : BX) (pr : Int) (m : ByteArray) (xa xp ya yp : Int) : List SD := if hasS pr ya yp xa xp s.l = true then passL pr ya yp xa xp 1 (byteAt m 13) s.tm s.l else s.l
set_option maxRecDepth 100000 in
set_option maxHeartbeats 2000000 in
theorem turn_any {w : World} {b : Nat} {v : Value} {s : BX} (h : BoxAt w b v s) (hn : s.l.length ≤ 1000) (hq0 : 0 ≤ s.tm) (hq1 : s.tm ≤ 1000000000000000) (pr fa fp ta tp : Int) (m : ByteArray) (xa xp ya yp : Int) (hm : m.size ≤ 1000) (hat : sumAtI pr + 2 ≤ m.size) (h4 : 6 ≤ m.size) (hp0 : 0 ≤ pr) (hp1 : pr ≤ 255) (hf0 : 0 ≤ xa) (hf1 : xa ≤ 4294967295) (ht0 : 0 ≤ ya) (ht1 : ya ≤ 4294967295) :
    Calls Try.prog 75 #[.pointer (some ⟨b, 0, none⟩), .agg #[.int .i64 pr, .int .i64 fa, .int .i64 fp, .int .i64 ta, .int .i64 tp, .string m], .agg #[.int .i64 xa, .int .i64 xp], .agg #[.int .i64 ya, .int .i64 yp]] w fun e w' => e = .returned (turnV s pr m xa xp ya yp) ∧ BoxAt w' b v { s with l := turnL s pr m xa xp ya yp } ∧ Chg b v w w' v := by
  have hM1 : GMid w ((((w.alloc (.cells #[.int .i64 pr, .int .i64 fa, .int .i64 fp, .int .i64 ta, .int .i64 tp, .string m] 80)).alloc (.cells #[.int .i64 xa, .int .i64 xp] 78)).alloc (.cells #[.int .i64 ya, .int .i64 yp] 78)).alloc (.cells #[.int .i64 0, .int .i64 0, .int .i64 0, .int .i64 0, .int .i64 0, .int .i64 0, .int .i64 0, .string ⟨#[]⟩] 83)) b v v s [(w.heap.size + 3, #[.int .i64 0, .int .i64 0, .int .i64 0, .int .i64 0, .int .i64 0, .int .i64 0, .int .i64 0, .string ⟨#[]⟩], 83), (w.heap.size + 2, #[.int .i64 ya, .int .i64 yp], 78), (w.heap.size + 1, #[.int .i64 xa, .int .i64 xp], 78), (w.heap.size, #[.int .i64 pr, .int .i64 fa, .int .i64 fp, .int .i64 ta, .int .i64 tp, .string m], 80)] := ((((GMid.start h).alloc' _ _ _ rfl).alloc' _ _ _ (by simp)).alloc' _ _ _ (by simp)).alloc' _ _ _ (by simp)
  have hlt := h.lt
  clear h
  have HDE : Hid (∀ W, BoxAt W b v s → Calls Try.prog 78 #[.pointer (some ⟨b, 0, none⟩), .agg #[.int .i64 pr, .int .i64 fa, .int .i64 fp, .int .i64 ta, .int .i64 tp, .string m], .agg #[.int .i64 xa, .int .i64 xp], .agg #[.int .i64 ya, .int .i64 yp]] W fun e w' => e = .returned (.agg #[.int .i64 0, .int .i64 0, .int .i64 pr, .int .i64 xa, .int .i64 xp, .int .i64 ya, .int .i64 yp, .string (btwM pr m xa xp ya yp)]) ∧ BoxAt w' b v { s with l := passL pr ya yp xa xp 1 (byteAt m 13) s.tm s.l } ∧ Chg b v W w' v) := fun W hW => deliver_any hW hn hq0 hq1 pr fa fp ta tp m xa xp ya yp hm hat h4 hp0 hp1 hf0 hf1 ht0 ht1
  obtain ⟨⟨a0, a1, a2, a3, a4, a5, a6, a7, a8⟩, af⟩ := hM1.box.get; obtain ⟨⟨z0, z1, z2, z3, z4, z5, z6, z7⟩, zf⟩ := c8g hM1.at0; obtain ⟨⟨y0, y1⟩, yf⟩ := c2 hM1.at1; obtain ⟨⟨x0, x1⟩, xf⟩ := c2 hM1.at2; obtain ⟨⟨d0, d1, d2, d3, d4, d5⟩, df⟩ := c6 hM1.at3
  have hM : Hid _ := hM1
  clear hM1
  cases c1 : hasS pr ya yp xa xp s.l
  · have HV : Hid (turnV s pr m xa xp ya yp = .agg #[.int .i64 17, .int .i64 0, .int .i64 0, .int .i64 0, .int .i64 0, .int .i64 0, .int .i64 0, .string ⟨#[]⟩]) := by show _ = _; unfold turnV; rw [c1]; rfl
    have HL : Hid (turnL s pr m xa xp ya yp = s.l) := by show _ = _; unfold turnL; rw [c1]; rfl
    go_enter Try.func75, Try.ntmps75
    go_wp2_with fail
    go_region_held3 (fun w' => w'.cell? ⟨w.heap.size, 0, none⟩ = some (.int .i64 pr) ∧ w'.cell? ⟨w.heap.size + 1, 0, none⟩ = some (.int .i64 xa) ∧ w'.cell? ⟨w.heap.size + 1, 1, none⟩ = some (.int .i64 xp) ∧ w'.cell? ⟨w.heap.size + 2, 0, none⟩ = some (.int .i64 ya) ∧ w'.cell? ⟨w.heap.size + 2, 1, none⟩ = some (.int .i64 yp)) (simp [*]) (first | (go_at_call 77; refine (bHas hM.out.drew.box hn _ _ _ _ _).mono ?_; rintro e w1 ⟨rfl, hb1⟩; have hM1 := hM.out.drew.call hb1; clear hM hb1; clear a0 a1 a2 a3 a4 a5 a6 a7 a8 af z0 z1 z2 z3 z4 z5 z6 z7 zf y0 y1 yf x0 x1 xf d0 d1 d2 d3 d4 d5 df; obtain ⟨⟨a0, a1, a2, a3, a4, a5, a6, a7, a8⟩, af⟩ := hM1.box.get; obtain ⟨⟨z0, z1, z2, z3, z4, z5, z6, z7⟩, zf⟩ := c8g hM1.at0; obtain ⟨⟨y0, y1⟩, yf⟩ := c2 hM1.at1; obtain ⟨⟨x0, x1⟩, xf⟩ := c2 hM1.at2; obtain ⟨⟨d0, d1, d2, d3, d4, d5⟩, df⟩ := c6 hM1.at3; have hM : Hid _ := hM1; clear hM1))
    go_wp2_with fail
    refine bodyPost_ret (v := .agg #[.int .i64 17, .int .i64 0, .int .i64 0, .int .i64 0, .int .i64 0, .int .i64 0, .int .i64 0, .string ⟨#[]⟩]) (by simp [results, Try.results75, go_sem, z0, z1, z2, z3, z4, z5, z6, z7]) rfl ⟨by rw [HV.out], ?_⟩
    have hE := (((((((hM.out.set0 0 (.int .i64 17)).set0 1 (.int .i64 0)).set0 2 (.int .i64 0)).set0 3 (.int .i64 0)).set0 4 (.int .i64 0)).set0 5 (.int .i64 0)).set0 6 (.int .i64 0)).set0 7 (.string ⟨#[]⟩)
    rw [HL.out]
    exact ⟨hE.box, hE.chg⟩
  · have HV : Hid (turnV s pr m xa xp ya yp = .agg #[.int .i64 0, .int .i64 0, .int .i64 pr, .int .i64 xa, .int .i64 xp, .int .i64 ya, .int .i64 yp, .string (btwM pr m xa xp ya yp)]) := by show _ = _; unfold turnV; rw [c1]; rfl
    have HL : Hid (turnL s pr m xa xp ya yp = passL pr ya yp xa xp 1 (byteAt m 13) s.tm s.l) := by show _ = _; unfold turnL; rw [c1]; rfl
    generalize btwM pr m xa xp ya yp = BM at HV HDE
    generalize passL pr ya yp xa xp 1 (byteAt m 13) s.tm s.l = PL at HL HDE
    go_enter Try.func75, Try.ntmps75
    go_wp2_with fail
    go_region_held3 (fun w' => w'.cell? ⟨w.heap.size, 0, none⟩ = some (.int .i64 pr) ∧ w'.cell? ⟨w.heap.size + 1, 0, none⟩ = some (.int .i64 xa) ∧ w'.cell? ⟨w.heap.size + 1, 1, none⟩ = some (.int .i64 xp) ∧ w'.cell? ⟨w.heap.size + 2, 0, none⟩ = some (.int .i64 ya) ∧ w'.cell? ⟨w.heap.size + 2, 1, none⟩ = some (.int .i64 yp)) (simp [*]) (first | (go_at_call 77; refine (bHas hM.out.drew.box hn _ _ _ _ _).mono ?_; rintro e w1 ⟨rfl, hb1⟩; have hM1 := hM.out.drew.call hb1; clear hM hb1; clear a0 a1 a2 a3 a4 a5 a6 a7 a8 af z0 z1 z2 z3 z4 z5 z6 z7 zf y0 y1 yf x0 x1 xf d0 d1 d2 d3 d4 d5 df; obtain ⟨⟨a0, a1, a2, a3, a4, a5, a6, a7, a8⟩, af⟩ := hM1.box.get; obtain ⟨⟨z0, z1, z2, z3, z4, z5, z6, z7⟩, zf⟩ := c8g hM1.at0; obtain ⟨⟨y0, y1⟩, yf⟩ := c2 hM1.at1; obtain ⟨⟨x0, x1⟩, xf⟩ := c2 hM1.at2; obtain ⟨⟨d0, d1, d2, d3, d4, d5⟩, df⟩ := c6 hM1.at3; have hM : Hid _ := hM1; clear hM1))
    go_wp2_with (go_at_call 78; refine (HDE.out _ hM.out.box).mono ?_; rintro e w2 ⟨rfl, hbx2, hch2⟩; have hM1 := hM.out.change hbx2 hch2; clear hM hbx2 hch2; clear a0 a1 a2 a3 a4 a5 a6 a7 a8 af z0 z1 z2 z3 z4 z5 z6 z7 zf y0 y1 yf x0 x1 xf d0 d1 d2 d3 d4 d5 df; obtain ⟨⟨a0, a1, a2, a3, a4, a5, a6, a7, a8⟩, af⟩ := hM1.box.get; obtain ⟨⟨z0, z1, z2, z3, z4, z5, z6, z7⟩, zf⟩ := c8g hM1.at0; obtain ⟨⟨y0, y1⟩, yf⟩ := c2 hM1.at1; obtain ⟨⟨x0, x1⟩, xf⟩ := c2 hM1.at2; obtain ⟨⟨d0, d1, d2, d3, d4, d5⟩, df⟩ := c6 hM1.at3; have hM : Hid _ := hM1; clear hM1)
    refine bodyPost_ret (v := .agg #[.int .i64 0, .int .i64 0, .int .i64 pr, .int .i64 xa, .int .i64 xp, .int .i64 ya, .int .i64 yp, .string BM]) (by simp [results, Try.results75, go_sem, z0, z1, z2, z3, z4, z5, z6, z7]) rfl ⟨by rw [HV.out], ?_⟩
    have hE := (((((((hM.out.set0 0 (.int .i64 0)).set0 1 (.int .i64 0)).set0 2 (.int .i64 pr)).set0 3 (.int .i64 xa)).set0 4 (.int .i64 xp)).set0 5 (.int .i64 ya)).set0 6 (.int .i64 yp)).set0 7 (.string BM)
    rw [HL.out]
    exact ⟨hE.box, hE.chg⟩
end Go.Proofs.Ytapahmhpjmnebab
