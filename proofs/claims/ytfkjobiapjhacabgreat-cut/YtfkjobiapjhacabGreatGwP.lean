/- Contracts of package gateway: who may pass; what is delivered. Own work. -/
import Derived.Test.YtfkjobiapjhacabGreatG1
namespace Go.Proofs.YtfkjobiapjhacabGreat
open Go.RowKit
attribute [local go_sem ↓] Go.wp_at_zero Go.wp_at_succ

theorem c9g {w : World} {b : Nat} {v0 v1 v2 v3 v4 v5 v6 v7 v8 : Value} {t : TypeId} (h : w.heap[b]? = some (.cells #[v0, v1, v2, v3, v4, v5, v6, v7, v8] t (0, 0))) :
    (w.cell? ⟨b, 0, none⟩ = some v0 ∧ w.cell? ⟨b, 1, none⟩ = some v1 ∧ w.cell? ⟨b, 2, none⟩ = some v2 ∧ w.cell? ⟨b, 3, none⟩ = some v3 ∧ w.cell? ⟨b, 4, none⟩ = some v4 ∧ w.cell? ⟨b, 5, none⟩ = some v5 ∧ w.cell? ⟨b, 6, none⟩ = some v6 ∧ w.cell? ⟨b, 7, none⟩ = some v7 ∧ w.cell? ⟨b, 8, none⟩ = some v8) ∧ ∀ j, w.frozen? ⟨b, j, none⟩ = false := by
  have hc : ∀ j, w.cell? ⟨b, j, none⟩ = (#[v0, v1, v2, v3, v4, v5, v6, v7, v8] : Array Value)[j]? := fun j => by simp [World.cell?, h]
  exact ⟨⟨hc 0, hc 1, hc 2, hc 3, hc 4, hc 5, hc 6, hc 7, hc 8⟩, fun j => by simp [World.frozen?, h]⟩
def mayB (s : BX) (side src dst : Int) : Bool := if side = 0 then (innerB s.ne s.bi src && !innerB s.ne s.bi dst) else (!innerB s.ne s.bi src && (src != s.ou) && (dst == s.ou))
set_option maxRecDepth 100000 in
set_option maxHeartbeats 1000000 in
theorem mayPass_any {w : World} {b : Nat} {v : Value} {s : BX} (h : BoxAt w b v s) (side src dst : Int) (hs0 : 0 ≤ src) (hs1 : src ≤ 4294967295) (hd0 : 0 ≤ dst) (hd1 : dst ≤ 4294967295) (hn0 : 0 ≤ s.ne) (hn1 : s.ne ≤ 4294967296) :
    Calls Tryz.prog 47 #[.pointer (some ⟨b, 0, none⟩), .int .i64 side, .int .i64 src, .int .i64 dst] w fun e w' => e = .returned (.bool (mayB s side src dst)) ∧ Below w.heap.size w w' := by
  have hB : Hid (Below w.heap.size w w) := Below.refl _ _
  have hbx : Hid (BoxAt w b v s) := h
  obtain ⟨⟨a0, a1, a2, a3, a4, a5, a6, a7, a8⟩, af⟩ := h.get
  clear h
  by_cases hsd : side = 0
  · have hV : Hid (mayB s side src dst = (innerB s.ne s.bi src && !innerB s.ne s.bi dst)) := if_pos hsd
    have hsb : (side == 0) = true := by simpa using hsd
    cases hi : innerB s.ne s.bi src
    all_goals
      go_enter Tryz.func47, Tryz.ntmps47
      go_wp2_with (go_at_call 57; refine (inner_any _ _ _ _ _ _ _ _ _ (by omega) (by omega) (by omega) (by omega)).mono ?_; rintro e w1 ⟨rfl, hb1⟩; have hB1 := hB.out.trans (hb1.mono hB.out.size); clear hB hb1 a0 a1 a2 a3 a4 a5 a6 a7 a8 af; obtain ⟨⟨a0, a1, a2, a3, a4, a5, a6, a7, a8⟩, af⟩ := (hbx.out.call hB1).get; have hB : Hid (Below w.heap.size w w1) := hB1; clear hB1)
    all_goals
      go_ret
      refine ⟨g_bool ?_, hB.out⟩
      rw [hV.out, hi] <;> simp
  · have hV : Hid (mayB s side src dst = (!innerB s.ne s.bi src && (src != s.ou) && (dst == s.ou))) := if_neg hsd
    have hsb : (side == 0) = false := by simpa using hsd
    cases hi : innerB s.ne s.bi src <;> cases hj : (src != s.ou)
    all_goals
      go_enter Tryz.func47, Tryz.ntmps47
      go_wp2_with (go_at_call 57; refine (inner_any _ _ _ _ _ _ _ _ _ (by omega) (by omega) (by omega) (by omega)).mono ?_; rintro e w1 ⟨rfl, hb1⟩; have hB1 := hB.out.trans (hb1.mono hB.out.size); clear hB hb1 a0 a1 a2 a3 a4 a5 a6 a7 a8 af; obtain ⟨⟨a0, a1, a2, a3, a4, a5, a6, a7, a8⟩, af⟩ := (hbx.out.call hB1).get; have hB : Hid (Below w.heap.size w w1) := hB1; clear hB1)
    all_goals
      go_ret
      refine ⟨g_bool ?_, hB.out⟩
      rw [hV.out, hi, hj] <;> simp

set_option maxRecDepth 100000 in
set_option maxHeartbeats 2000000 in
theorem deliver_any {w : World} {b : Nat} {v : Value} {s : BX} (h : BoxAt w b v s) (hn : s.l.length ≤ 1000) (hq0 : 0 ≤ s.tm) (hq1 : s.tm ≤ 1000000000000000) (pr fa fp ta tp : Int) (m : ByteArray) (iq : Bool) (xa xp ya yp : Int) (hm : m.size ≤ 1000) (hat : sumAtI pr + 2 ≤ m.size) (h4 : 6 ≤ m.size) (hp0 : 0 ≤ pr) (hp1 : pr ≤ 255) (hf0 : 0 ≤ xa) (hf1 : xa ≤ 4294967295) (ht0 : 0 ≤ ya) (ht1 : ya ≤ 4294967295) :
    Calls Tryz.prog 108 #[.pointer (some ⟨b, 0, none⟩), .agg #[.int .i64 pr, .int .i64 fa, .int .i64 fp, .int .i64 ta, .int .i64 tp, .string m, .bool iq], .agg #[.int .i64 xa, .int .i64 xp], .agg #[.int .i64 ya, .int .i64 yp]] w fun e w' => e = .returned (.agg #[.int .i64 0, .int .i64 0, .int .i64 pr, .int .i64 xa, .int .i64 xp, .int .i64 ya, .int .i64 yp, .string (btwM pr m xa xp ya yp), .bool iq]) ∧ BoxAt w' b v { s with l := passL pr ya yp xa xp 1 (byteAt m 13) s.tm s.l } ∧ Chg b v w w' v := by
  have hM1 : GMid w ((((w.alloc (.cells #[.int .i64 pr, .int .i64 fa, .int .i64 fp, .int .i64 ta, .int .i64 tp, .string m, .bool iq] 106)).alloc (.cells #[.int .i64 xa, .int .i64 xp] 98)).alloc (.cells #[.int .i64 ya, .int .i64 yp] 98)).alloc (.cells #[.int .i64 0, .int .i64 0, .int .i64 0, .int .i64 0, .int .i64 0, .int .i64 0, .int .i64 0, .string ⟨#[]⟩, .bool false] 109)) b v v s [(w.heap.size + 3, #[.int .i64 0, .int .i64 0, .int .i64 0, .int .i64 0, .int .i64 0, .int .i64 0, .int .i64 0, .string ⟨#[]⟩, .bool false], 109), (w.heap.size + 2, #[.int .i64 ya, .int .i64 yp], 98), (w.heap.size + 1, #[.int .i64 xa, .int .i64 xp], 98), (w.heap.size, #[.int .i64 pr, .int .i64 fa, .int .i64 fp, .int .i64 ta, .int .i64 tp, .string m, .bool iq], 106)] := ((((GMid.start h).alloc' _ _ _ rfl).alloc' _ _ _ (by simp)).alloc' _ _ _ (by simp)).alloc' _ _ _ (by simp)
  have hlt := h.lt
  clear h
  have HPA : Hid (∀ W, BoxAt W b v s → Calls Tryz.prog 103 #[.pointer (some ⟨b, 26, none⟩), .int .i64 pr, .agg #[.int .i64 ya, .int .i64 yp], .agg #[.int .i64 xa, .int .i64 xp], .int .i64 1, .int .i64 (byteAt m 13), .int .i64 s.tm] W fun e w' => e = .returned (.tuple #[]) ∧ BoxAt w' b v { s with l := passL pr ya yp xa xp 1 (byteAt m 13) s.tm s.l } ∧ Chg b v W w' v) := fun W hW => bPass hW hn pr ya yp xa xp 1 (byteAt m 13) s.tm hq0 hq1
  have HBT : Hid (∀ W, Calls Tryz.prog 106 #[.agg #[.int .i64 pr, .int .i64 fa, .int .i64 fp, .int .i64 ta, .int .i64 tp, .string m, .bool iq], .agg #[.int .i64 xa, .int .i64 xp], .agg #[.int .i64 ya, .int .i64 yp]] W fun e w' => e = .returned (.agg #[.int .i64 pr, .int .i64 xa, .int .i64 xp, .int .i64 ya, .int .i64 yp, .string (btwM pr m xa xp ya yp), .bool iq]) ∧ Below W.heap.size W w') := fun W => Between_any pr fa fp ta tp m iq xa xp ya yp W hm hat h4 hp0 hp1 hf0 hf1 ht0 ht1
  generalize btwM pr m xa xp ya yp = BM at HBT ⊢
  obtain ⟨⟨a0, a1, a2, a3, a4, a5, a6, a7, a8⟩, af⟩ := hM1.box.get; obtain ⟨⟨z0, z1, z2, z3, z4, z5, z6, z7, z8⟩, zf⟩ := c9g hM1.at0; obtain ⟨⟨y0, y1⟩, yf⟩ := c2 hM1.at1; obtain ⟨⟨x0, x1⟩, xf⟩ := c2 hM1.at2; obtain ⟨⟨d0, d1, d2, d3, d4, d5, d6⟩, df⟩ := c7 hM1.at3
  have hM : Hid _ := hM1
  clear hM1
  go_enter Tryz.func108, Tryz.ntmps108
  go_wp2_with (go_at_call 102; refine (Flags_any _ _ _ _ _ _ _ _).mono ?_; rintro e w1 ⟨rfl, hb1⟩; have hM1 := hM.out.call hb1; clear hM hb1; clear a0 a1 a2 a3 a4 a5 a6 a7 a8 af z0 z1 z2 z3 z4 z5 z6 z7 z8 zf y0 y1 yf x0 x1 xf d0 d1 d2 d3 d4 d5 d6 df; obtain ⟨⟨a0, a1, a2, a3, a4, a5, a6, a7, a8⟩, af⟩ := hM1.box.get; obtain ⟨⟨z0, z1, z2, z3, z4, z5, z6, z7, z8⟩, zf⟩ := c9g hM1.at0; obtain ⟨⟨y0, y1⟩, yf⟩ := c2 hM1.at1; obtain ⟨⟨x0, x1⟩, xf⟩ := c2 hM1.at2; obtain ⟨⟨d0, d1, d2, d3, d4, d5, d6⟩, df⟩ := c7 hM1.at3; have hM : Hid _ := hM1; clear hM1)
  go_region_held3 (fun w' => w'.cell? ⟨w.heap.size, 0, none⟩ = some (.int .i64 pr) ∧ w'.cell? ⟨w.heap.size + 1, 0, none⟩ = some (.int .i64 xa) ∧ w'.cell? ⟨w.heap.size + 1, 1, none⟩ = some (.int .i64 xp) ∧ w'.cell? ⟨w.heap.size + 2, 0, none⟩ = some (.int .i64 ya) ∧ w'.cell? ⟨w.heap.size + 2, 1, none⟩ = some (.int .i64 yp) ∧ w'.cell? ⟨b, 7, none⟩ = some (.int .i64 s.tm)) (simp [*]) (first | (go_at_call 103; refine (HPA.out _ (hM.out.box.call (Below.refl _ _).drew)).mono ?_; rintro e w2 ⟨rfl, hbx2, hch2⟩; have hM1 := hM.out.drew.change hbx2 hch2; clear hM hbx2 hch2; clear a0 a1 a2 a3 a4 a5 a6 a7 a8 af z0 z1 z2 z3 z4 z5 z6 z7 z8 zf y0 y1 yf x0 x1 xf d0 d1 d2 d3 d4 d5 d6 df; obtain ⟨⟨a0, a1, a2, a3, a4, a5, a6, a7, a8⟩, af⟩ := hM1.box.get; obtain ⟨⟨z0, z1, z2, z3, z4, z5, z6, z7, z8⟩, zf⟩ := c9g hM1.at0; obtain ⟨⟨y0, y1⟩, yf⟩ := c2 hM1.at1; obtain ⟨⟨x0, x1⟩, xf⟩ := c2 hM1.at2; obtain ⟨⟨d0, d1, d2, d3, d4, d5, d6⟩, df⟩ := c7 hM1.at3; have hM : Hid _ := hM1; clear hM1))
  go_wp2_with (go_at_call 106; refine (HBT.out _).mono ?_; rintro e w3 ⟨rfl, hb3⟩; have hM1 := hM.out.call hb3; clear hM hb3; clear a0 a1 a2 a3 a4 a5 a6 a7 a8 af z0 z1 z2 z3 z4 z5 z6 z7 z8 zf y0 y1 yf x0 x1 xf d0 d1 d2 d3 d4 d5 d6 df; obtain ⟨⟨a0, a1, a2, a3, a4, a5, a6, a7, a8⟩, af⟩ := hM1.box.get; obtain ⟨⟨z0, z1, z2, z3, z4, z5, z6, z7, z8⟩, zf⟩ := c9g hM1.at0; obtain ⟨⟨y0, y1⟩, yf⟩ := c2 hM1.at1; obtain ⟨⟨x0, x1⟩, xf⟩ := c2 hM1.at2; obtain ⟨⟨d0, d1, d2, d3, d4, d5, d6⟩, df⟩ := c7 hM1.at3; have hM : Hid _ := hM1; clear hM1)
  refine bodyPost_ret (v := .agg #[.int .i64 0, .int .i64 0, .int .i64 pr, .int .i64 xa, .int .i64 xp, .int .i64 ya, .int .i64 yp, .string BM, .bool iq]) (by simp [results, Tryz.results108, go_sem, z0, z1, z2, z3, z4, z5, z6, z7, z8]) rfl ⟨rfl, ?_⟩
  have hE := ((((((((hM.out.set0 0 (.int .i64 0)).set0 1 (.int .i64 0)).set0 2 (.int .i64 pr)).set0 3 (.int .i64 xa)).set0 4 (.int .i64 xp)).set0 5 (.int .i64 ya)).set0 6 (.int .i64 yp)).set0 7 (.string BM)).set0 8 (.bool iq)
  exact ⟨hE.box, hE.chg⟩
end Go.Proofs.YtfkjobiapjhacabGreat
