/- Own work. -/
import Derived.Test.YtfkjobiapjhacabGreatG2
/- Contracts of package gateway: fromOutside. Own work. -/
namespace Go.Proofs.YtfkjobiapjhacabGreat
open Go.RowKit
attribute [local go_sem ↓] Go.wp_at_zero Go.wp_at_succ

def outsV (s : BX) (pr : Int) (m : ByteArray) (fa fp tp : Int) (iq : Bool) : Value := match innerI pr tp s.l with
  | none => wayV 16
  | some x => if hasS pr x.ia x.ip fa fp s.l = true then wayS 0 pr fa fp x.ia x.ip (btwM pr m fa fp x.ia x.ip) iq else wayV 16
def outsL (s : BX) (pr : Int) (m : ByteArray) (fa fp tp : Int) : List SD := match innerI pr tp s.l with
  | none => s.l
  | some x => if hasS pr x.ia x.ip fa fp s.l = true then passL pr x.ia x.ip fa fp 1 (byteAt m 13) s.tm s.l else s.l
set_option maxRecDepth 100000 in
set_option maxHeartbeats 2000000 in
theorem fromOutside_any {w : World} {b : Nat} {v : Value} {s : BX} (h : BoxAt w b v s) (hn : s.l.length ≤ 1000) (hia : ∀ x ∈ s.l, 0 ≤ x.ia ∧ x.ia ≤ 4294967295) (hq0 : 0 ≤ s.tm) (hq1 : s.tm ≤ 1000000000000000) (pr fa fp ta tp : Int) (m : ByteArray) (iq : Bool) (hm : m.size ≤ 1000) (hat : sumAtI pr + 2 ≤ m.size) (h4 : 6 ≤ m.size) (hp0 : 0 ≤ pr) (hp1 : pr ≤ 255) (hf0 : 0 ≤ fa) (hf1 : fa ≤ 4294967295) :
    Calls Tryz.prog 82 #[.pointer (some ⟨b, 0, none⟩), .agg #[.int .i64 pr, .int .i64 fa, .int .i64 fp, .int .i64 ta, .int .i64 tp, .string m, .bool iq]] w fun e w' => e = .returned (outsV s pr m fa fp tp iq) ∧ BoxAt w' b v { s with l := outsL s pr m fa fp tp } ∧ Chg b v w w' v := by
  have hM1 : GMid w ((w.alloc (.cells #[.int .i64 pr, .int .i64 fa, .int .i64 fp, .int .i64 ta, .int .i64 tp, .string m, .bool iq] 106)).alloc (.cells #[.int .i64 0, .int .i64 0, .int .i64 0, .int .i64 0, .int .i64 0, .int .i64 0, .int .i64 0, .string ⟨#[]⟩, .bool false] 109)) b v v s [(w.heap.size + 1, #[.int .i64 0, .int .i64 0, .int .i64 0, .int .i64 0, .int .i64 0, .int .i64 0, .int .i64 0, .string ⟨#[]⟩, .bool false], 109), (w.heap.size, #[.int .i64 pr, .int .i64 fa, .int .i64 fp, .int .i64 ta, .int .i64 tp, .string m, .bool iq], 106)] := (((GMid.start h).alloc' _ _ _ rfl).alloc' _ _ _ (by simp))
  have hlt := h.lt
  clear h
  obtain ⟨⟨a0, a1, a2, a3, a4, a5, a6, a7, a8⟩, af⟩ := hM1.box.get; obtain ⟨⟨z0, z1, z2, z3, z4, z5, z6, z7, z8⟩, zf⟩ := c9g hM1.at0; obtain ⟨⟨d0, d1, d2, d3, d4, d5, d6⟩, df⟩ := c7 hM1.at1
  have hM : Hid _ := hM1
  clear hM1
  rcases ci : innerI pr tp s.l with _ | x
  · have HV : Hid (outsV s pr m fa fp tp iq = .agg #[.int .i64 16, .int .i64 0, .int .i64 0, .int .i64 0, .int .i64 0, .int .i64 0, .int .i64 0, .string ⟨#[]⟩, .bool false]) := by show _ = _; unfold outsV; rw [ci]; rfl
    have HL : Hid (outsL s pr m fa fp tp = s.l) := by show _ = _; unfold outsL; rw [ci]
    have hiv := innerV_none ci
    go_enter Tryz.func82, Tryz.ntmps82
    go_upto_region 1 with fail
    go_cut [5, 6] (fun s5 s6 wx => ∃ k, s5 = .pointer (some ⟨k, 0, none⟩) ∧ s6 = .bool false ∧ GMid w wx b v v s ((k, #[.int .i64 0, .int .i64 0], 98) :: [(w.heap.size + 1, #[.int .i64 0, .int .i64 0, .int .i64 0, .int .i64 0, .int .i64 0, .int .i64 0, .int .i64 0, .string ⟨#[]⟩, .bool false], 109), (w.heap.size, #[.int .i64 pr, .int .i64 fa, .int .i64 fp, .int .i64 ta, .int .i64 tp, .string m, .bool iq], 106)]))
    case first =>
      go_region_held3 (fun w' => w'.cell? ⟨w.heap.size, 0, none⟩ = some (.int .i64 pr) ∧ w'.cell? ⟨w.heap.size, 1, none⟩ = some (.int .i64 fa) ∧ w'.cell? ⟨w.heap.size, 2, none⟩ = some (.int .i64 fp) ∧ w'.cell? ⟨w.heap.size, 4, none⟩ = some (.int .i64 tp)) (first | (simp [*]; done) | (have hne := lt_of_block hM.out.at1; simp only [cell_alloc_lt hne]; simp [*]; done) | (simp only [cell_set_lt (show w.heap.size < w.heap.size + 1 + 1 by omega)]; simp [*]; done) | (have hne := lt_of_block hM.out.at1; simp only [cell_set_lt hne, cell_alloc_lt hne]; simp [*]; done) | go_keep) (first | (go_at_call 100; refine (bInner hM.out.drew.box hn _ _).mono ?_; rintro e w1 ⟨rfl, hb1⟩; rw [hiv]; have hM1 := hM.out.drew.call hb1; clear hM hb1; clear a0 a1 a2 a3 a4 a5 a6 a7 a8 af z0 z1 z2 z3 z4 z5 z6 z7 z8 zf d0 d1 d2 d3 d4 d5 d6 df; obtain ⟨⟨a0, a1, a2, a3, a4, a5, a6, a7, a8⟩, af⟩ := hM1.box.get; obtain ⟨⟨z0, z1, z2, z3, z4, z5, z6, z7, z8⟩, zf⟩ := c9g hM1.at0; obtain ⟨⟨d0, d1, d2, d3, d4, d5, d6⟩, df⟩ := c7 hM1.at1; have hM : Hid _ := hM1; clear hM1) | (go_at_call 100; refine (bInner (hM.out.alloc' #[.int .i64 0, .int .i64 0] 98 (w.heap.size + 2) (by simp)).drew.box hn _ _).mono ?_; rintro e w1 ⟨rfl, hb1⟩; rw [hiv]; have hM1 := (hM.out.alloc' #[.int .i64 0, .int .i64 0] 98 (w.heap.size + 2) (by simp)).drew.call hb1; clear hM hb1; clear a0 a1 a2 a3 a4 a5 a6 a7 a8 af z0 z1 z2 z3 z4 z5 z6 z7 z8 zf d0 d1 d2 d3 d4 d5 d6 df; obtain ⟨⟨a0, a1, a2, a3, a4, a5, a6, a7, a8⟩, af⟩ := hM1.box.get; obtain ⟨⟨e0, e1⟩, ef⟩ := c2 hM1.at0; obtain ⟨⟨z0, z1, z2, z3, z4, z5, z6, z7, z8⟩, zf⟩ := c9g hM1.at1; obtain ⟨⟨d0, d1, d2, d3, d4, d5, d6⟩, df⟩ := c7 hM1.at2; have hM : Hid _ := hM1; clear hM1))
      all_goals (go_wp2_with fail; go_meet; first | exact ⟨w1.heap.size, rfl, rfl, hM.out.alloc' _ _ _ rfl⟩ | exact ⟨w.heap.size + 2, rfl, rfl, (hM.out.set0 0 _).set0 1 _⟩)
    case rest =>
      obtain ⟨k, rfl, rfl, hM1⟩ := hcut
      clear hM
      clear a0 a1 a2 a3 a4 a5 a6 a7 a8 af z0 z1 z2 z3 z4 z5 z6 z7 z8 zf d0 d1 d2 d3 d4 d5 d6 df
      obtain ⟨⟨a0, a1, a2, a3, a4, a5, a6, a7, a8⟩, af⟩ := hM1.box.get; obtain ⟨⟨e0, e1⟩, ef⟩ := c2 hM1.at0; obtain ⟨⟨z0, z1, z2, z3, z4, z5, z6, z7, z8⟩, zf⟩ := c9g hM1.at1; obtain ⟨⟨d0, d1, d2, d3, d4, d5, d6⟩, df⟩ := c7 hM1.at2
      have hM : Hid _ := hM1
      clear hM1
      go_wp2_with fail
      go_region
      go_wp2_with fail
      refine bodyPost_ret (v := .agg #[.int .i64 16, .int .i64 0, .int .i64 0, .int .i64 0, .int .i64 0, .int .i64 0, .int .i64 0, .string ⟨#[]⟩, .bool false]) (by simp [results, Tryz.results82, go_sem, z0, z1, z2, z3, z4, z5, z6, z7, z8]) rfl ⟨by rw [HV.out], ?_⟩
      have hE := (((((((((hM.out.set1 0 (.int .i64 16)).set1 1 (.int .i64 0)).set1 2 (.int .i64 0)).set1 3 (.int .i64 0)).set1 4 (.int .i64 0)).set1 5 (.int .i64 0)).set1 6 (.int .i64 0)).set1 7 (.string ⟨#[]⟩)).set1 8 (.bool false)).drew
      rw [HL.out]
      exact ⟨hE.box, hE.chg⟩
  · obtain ⟨xia, xib⟩ := hia x (List.mem_of_find?_eq_some ci)
    have hiv := innerV_some ci
    have HDE : Hid (∀ W, BoxAt W b v s → Calls Tryz.prog 108 #[.pointer (some ⟨b, 0, none⟩), .agg #[.int .i64 pr, .int .i64 fa, .int .i64 fp, .int .i64 ta, .int .i64 tp, .string m, .bool iq], .agg #[.int .i64 fa, .int .i64 fp], .agg #[.int .i64 x.ia, .int .i64 x.ip]] W fun e w' => e = .returned (.agg #[.int .i64 0, .int .i64 0, .int .i64 pr, .int .i64 fa, .int .i64 fp, .int .i64 x.ia, .int .i64 x.ip, .string (btwM pr m fa fp x.ia x.ip), .bool iq]) ∧ BoxAt w' b v { s with l := passL pr x.ia x.ip fa fp 1 (byteAt m 13) s.tm s.l } ∧ Chg b v W w' v) := fun W hW => deliver_any hW hn hq0 hq1 pr fa fp ta tp m iq fa fp x.ia x.ip hm hat h4 hp0 hp1 hf0 hf1 xia xib
    cases c1 : hasS pr x.ia x.ip fa fp s.l
    · have HV : Hid (outsV s pr m fa fp tp iq = .agg #[.int .i64 16, .int .i64 0, .int .i64 0, .int .i64 0, .int .i64 0, .int .i64 0, .int .i64 0, .string ⟨#[]⟩, .bool false]) := by show _ = _; unfold outsV; rw [ci]; simp only [c1]; rfl
      have HL : Hid (outsL s pr m fa fp tp = s.l) := by show _ = _; unfold outsL; rw [ci]; simp only [c1]; rfl
      clear ci HDE
      go_enter Tryz.func82, Tryz.ntmps82
      go_upto_region 1 with fail
      go_cut [5, 6] (fun s5 s6 wx => ∃ k, s5 = .pointer (some ⟨k, 0, none⟩) ∧ s6 = .bool true ∧ GMid w wx b v v s ((k, #[.int .i64 x.ia, .int .i64 x.ip], 98) :: [(w.heap.size + 1, #[.int .i64 0, .int .i64 0, .int .i64 0, .int .i64 0, .int .i64 0, .int .i64 0, .int .i64 0, .string ⟨#[]⟩, .bool false], 109), (w.heap.size, #[.int .i64 pr, .int .i64 fa, .int .i64 fp, .int .i64 ta, .int .i64 tp, .string m, .bool iq], 106)]))
      case first =>
        go_region_held3 (fun w' => w'.cell? ⟨w.heap.size, 0, none⟩ = some (.int .i64 pr) ∧ w'.cell? ⟨w.heap.size, 1, none⟩ = some (.int .i64 fa) ∧ w'.cell? ⟨w.heap.size, 2, none⟩ = some (.int .i64 fp) ∧ w'.cell? ⟨w.heap.size, 4, none⟩ = some (.int .i64 tp)) (first | (simp [*]; done) | (have hne := lt_of_block hM.out.at1; simp only [cell_alloc_lt hne]; simp [*]; done) | (simp only [cell_set_lt (show w.heap.size < w.heap.size + 1 + 1 by omega)]; simp [*]; done) | (have hne := lt_of_block hM.out.at1; simp only [cell_set_lt hne, cell_alloc_lt hne]; simp [*]; done) | go_keep) (first | (go_at_call 100; refine (bInner hM.out.drew.box hn _ _).mono ?_; rintro e w1 ⟨rfl, hb1⟩; rw [hiv]; have hM1 := hM.out.drew.call hb1; clear hM hb1; clear a0 a1 a2 a3 a4 a5 a6 a7 a8 af z0 z1 z2 z3 z4 z5 z6 z7 z8 zf d0 d1 d2 d3 d4 d5 d6 df; obtain ⟨⟨a0, a1, a2, a3, a4, a5, a6, a7, a8⟩, af⟩ := hM1.box.get; obtain ⟨⟨z0, z1, z2, z3, z4, z5, z6, z7, z8⟩, zf⟩ := c9g hM1.at0; obtain ⟨⟨d0, d1, d2, d3, d4, d5, d6⟩, df⟩ := c7 hM1.at1; have hM : Hid _ := hM1; clear hM1) | (go_at_call 100; refine (bInner (hM.out.alloc' #[.int .i64 0, .int .i64 0] 98 (w.heap.size + 2) (by simp)).drew.box hn _ _).mono ?_; rintro e w1 ⟨rfl, hb1⟩; rw [hiv]; have hM1 := (hM.out.alloc' #[.int .i64 0, .int .i64 0] 98 (w.heap.size + 2) (by simp)).drew.call hb1; clear hM hb1; clear a0 a1 a2 a3 a4 a5 a6 a7 a8 af z0 z1 z2 z3 z4 z5 z6 z7 z8 zf d0 d1 d2 d3 d4 d5 d6 df; obtain ⟨⟨a0, a1, a2, a3, a4, a5, a6, a7, a8⟩, af⟩ := hM1.box.get; obtain ⟨⟨e0, e1⟩, ef⟩ := c2 hM1.at0; obtain ⟨⟨z0, z1, z2, z3, z4, z5, z6, z7, z8⟩, zf⟩ := c9g hM1.at1; obtain ⟨⟨d0, d1, d2, d3, d4, d5, d6⟩, df⟩ := c7 hM1.at2; have hM : Hid _ := hM1; clear hM1))
        all_goals (go_wp2_with fail; go_meet; first | exact ⟨w1.heap.size, rfl, rfl, hM.out.alloc' _ _ _ rfl⟩ | exact ⟨w.heap.size + 2, rfl, rfl, (hM.out.set0 0 _).set0 1 _⟩)
      case rest =>
        obtain ⟨k, rfl, rfl, hM1⟩ := hcut
        clear hM
        clear a0 a1 a2 a3 a4 a5 a6 a7 a8 af z0 z1 z2 z3 z4 z5 z6 z7 z8 zf d0 d1 d2 d3 d4 d5 d6 df
        obtain ⟨⟨a0, a1, a2, a3, a4, a5, a6, a7, a8⟩, af⟩ := hM1.box.get; obtain ⟨⟨e0, e1⟩, ef⟩ := c2 hM1.at0; obtain ⟨⟨z0, z1, z2, z3, z4, z5, z6, z7, z8⟩, zf⟩ := c9g hM1.at1; obtain ⟨⟨d0, d1, d2, d3, d4, d5, d6⟩, df⟩ := c7 hM1.at2
        have hM : Hid _ := hM1
        clear hM1
        go_wp2_with fail
        go_region_held3 (fun w' => w'.cell? ⟨w.heap.size, 0, none⟩ = some (.int .i64 pr) ∧ w'.cell? ⟨w.heap.size, 1, none⟩ = some (.int .i64 fa) ∧ w'.cell? ⟨w.heap.size, 2, none⟩ = some (.int .i64 fp) ∧ w'.cell? ⟨k, 0, none⟩ = some (.int .i64 x.ia) ∧ w'.cell? ⟨k, 1, none⟩ = some (.int .i64 x.ip)) (simp [*]) (first | (go_at_call 107; refine (bHas hM.out.drew.box hn _ _ _ _ _).mono ?_; rintro e w1 ⟨rfl, hb1⟩; have hM1 := hM.out.drew.call hb1; clear hM hb1 e0 e1 ef; clear a0 a1 a2 a3 a4 a5 a6 a7 a8 af z0 z1 z2 z3 z4 z5 z6 z7 z8 zf d0 d1 d2 d3 d4 d5 d6 df; obtain ⟨⟨a0, a1, a2, a3, a4, a5, a6, a7, a8⟩, af⟩ := hM1.box.get; obtain ⟨⟨e0, e1⟩, ef⟩ := c2 hM1.at0; obtain ⟨⟨z0, z1, z2, z3, z4, z5, z6, z7, z8⟩, zf⟩ := c9g hM1.at1; obtain ⟨⟨d0, d1, d2, d3, d4, d5, d6⟩, df⟩ := c7 hM1.at2; have hM : Hid _ := hM1; clear hM1))
        go_wp2_with fail
        refine bodyPost_ret (v := .agg #[.int .i64 16, .int .i64 0, .int .i64 0, .int .i64 0, .int .i64 0, .int .i64 0, .int .i64 0, .string ⟨#[]⟩, .bool false]) (by simp [results, Tryz.results82, go_sem, z0, z1, z2, z3, z4, z5, z6, z7, z8]) rfl ⟨by rw [HV.out], ?_⟩
        have hE := ((((((((hM.out.set1 0 (.int .i64 16)).set1 1 (.int .i64 0)).set1 2 (.int .i64 0)).set1 3 (.int .i64 0)).set1 4 (.int .i64 0)).set1 5 (.int .i64 0)).set1 6 (.int .i64 0)).set1 7 (.string ⟨#[]⟩)).set1 8 (.bool false)
        rw [HL.out]
        exact ⟨hE.box, hE.chg⟩
    · have HV : Hid (outsV s pr m fa fp tp iq = .agg #[.int .i64 0, .int .i64 0, .int .i64 pr, .int .i64 fa, .int .i64 fp, .int .i64 x.ia, .int .i64 x.ip, .string (btwM pr m fa fp x.ia x.ip), .bool iq]) := by show _ = _; unfold outsV; rw [ci]; simp only [c1]; rfl
      have HL : Hid (outsL s pr m fa fp tp = passL pr x.ia x.ip fa fp 1 (byteAt m 13) s.tm s.l) := by show _ = _; unfold outsL; rw [ci]; simp only [c1]; rfl
      clear ci
      generalize btwM pr m fa fp x.ia x.ip = BM at HV HDE
      generalize passL pr x.ia x.ip fa fp 1 (byteAt m 13) s.tm s.l = PL at HL HDE
      go_enter Tryz.func82, Tryz.ntmps82
      go_upto_region 1 with fail
      go_cut [5, 6] (fun s5 s6 wx => ∃ k, s5 = .pointer (some ⟨k, 0, none⟩) ∧ s6 = .bool true ∧ GMid w wx b v v s ((k, #[.int .i64 x.ia, .int .i64 x.ip], 98) :: [(w.heap.size + 1, #[.int .i64 0, .int .i64 0, .int .i64 0, .int .i64 0, .int .i64 0, .int .i64 0, .int .i64 0, .string ⟨#[]⟩, .bool false], 109), (w.heap.size, #[.int .i64 pr, .int .i64 fa, .int .i64 fp, .int .i64 ta, .int .i64 tp, .string m, .bool iq], 106)]))
      case first =>
        go_region_held3 (fun w' => w'.cell? ⟨w.heap.size, 0, none⟩ = some (.int .i64 pr) ∧ w'.cell? ⟨w.heap.size, 1, none⟩ = some (.int .i64 fa) ∧ w'.cell? ⟨w.heap.size, 2, none⟩ = some (.int .i64 fp) ∧ w'.cell? ⟨w.heap.size, 4, none⟩ = some (.int .i64 tp)) (first | (simp [*]; done) | (have hne := lt_of_block hM.out.at1; simp only [cell_alloc_lt hne]; simp [*]; done) | (simp only [cell_set_lt (show w.heap.size < w.heap.size + 1 + 1 by omega)]; simp [*]; done) | (have hne := lt_of_block hM.out.at1; simp only [cell_set_lt hne, cell_alloc_lt hne]; simp [*]; done) | go_keep) (first | (go_at_call 100; refine (bInner hM.out.drew.box hn _ _).mono ?_; rintro e w1 ⟨rfl, hb1⟩; rw [hiv]; have hM1 := hM.out.drew.call hb1; clear hM hb1; clear a0 a1 a2 a3 a4 a5 a6 a7 a8 af z0 z1 z2 z3 z4 z5 z6 z7 z8 zf d0 d1 d2 d3 d4 d5 d6 df; obtain ⟨⟨a0, a1, a2, a3, a4, a5, a6, a7, a8⟩, af⟩ := hM1.box.get; obtain ⟨⟨z0, z1, z2, z3, z4, z5, z6, z7, z8⟩, zf⟩ := c9g hM1.at0; obtain ⟨⟨d0, d1, d2, d3, d4, d5, d6⟩, df⟩ := c7 hM1.at1; have hM : Hid _ := hM1; clear hM1) | (go_at_call 100; refine (bInner (hM.out.alloc' #[.int .i64 0, .int .i64 0] 98 (w.heap.size + 2) (by simp)).drew.box hn _ _).mono ?_; rintro e w1 ⟨rfl, hb1⟩; rw [hiv]; have hM1 := (hM.out.alloc' #[.int .i64 0, .int .i64 0] 98 (w.heap.size + 2) (by simp)).drew.call hb1; clear hM hb1; clear a0 a1 a2 a3 a4 a5 a6 a7 a8 af z0 z1 z2 z3 z4 z5 z6 z7 z8 zf d0 d1 d2 d3 d4 d5 d6 df; obtain ⟨⟨a0, a1, a2, a3, a4, a5, a6, a7, a8⟩, af⟩ := hM1.box.get; obtain ⟨⟨e0, e1⟩, ef⟩ := c2 hM1.at0; obtain ⟨⟨z0, z1, z2, z3, z4, z5, z6, z7, z8⟩, zf⟩ := c9g hM1.at1; obtain ⟨⟨d0, d1, d2, d3, d4, d5, d6⟩, df⟩ := c7 hM1.at2; have hM : Hid _ := hM1; clear hM1))
        all_goals (go_wp2_with fail; go_meet; first | exact ⟨w1.heap.size, rfl, rfl, hM.out.alloc' _ _ _ rfl⟩ | exact ⟨w.heap.size + 2, rfl, rfl, (hM.out.set0 0 _).set0 1 _⟩)
      case rest =>
        obtain ⟨k, rfl, rfl, hM1⟩ := hcut
        clear hM
        clear a0 a1 a2 a3 a4 a5 a6 a7 a8 af z0 z1 z2 z3 z4 z5 z6 z7 z8 zf d0 d1 d2 d3 d4 d5 d6 df
        obtain ⟨⟨a0, a1, a2, a3, a4, a5, a6, a7, a8⟩, af⟩ := hM1.box.get; obtain ⟨⟨e0, e1⟩, ef⟩ := c2 hM1.at0; obtain ⟨⟨z0, z1, z2, z3, z4, z5, z6, z7, z8⟩, zf⟩ := c9g hM1.at1; obtain ⟨⟨d0, d1, d2, d3, d4, d5, d6⟩, df⟩ := c7 hM1.at2
        have hM : Hid _ := hM1
        clear hM1
        go_wp2_with fail
        go_region_held3 (fun w' => w'.cell? ⟨w.heap.size, 0, none⟩ = some (.int .i64 pr) ∧ w'.cell? ⟨w.heap.size, 1, none⟩ = some (.int .i64 fa) ∧ w'.cell? ⟨w.heap.size, 2, none⟩ = some (.int .i64 fp) ∧ w'.cell? ⟨k, 0, none⟩ = some (.int .i64 x.ia) ∧ w'.cell? ⟨k, 1, none⟩ = some (.int .i64 x.ip)) (simp [*]) (first | (go_at_call 107; refine (bHas hM.out.drew.box hn _ _ _ _ _).mono ?_; rintro e w1 ⟨rfl, hb1⟩; have hM1 := hM.out.drew.call hb1; clear hM hb1 e0 e1 ef; clear a0 a1 a2 a3 a4 a5 a6 a7 a8 af z0 z1 z2 z3 z4 z5 z6 z7 z8 zf d0 d1 d2 d3 d4 d5 d6 df; obtain ⟨⟨a0, a1, a2, a3, a4, a5, a6, a7, a8⟩, af⟩ := hM1.box.get; obtain ⟨⟨e0, e1⟩, ef⟩ := c2 hM1.at0; obtain ⟨⟨z0, z1, z2, z3, z4, z5, z6, z7, z8⟩, zf⟩ := c9g hM1.at1; obtain ⟨⟨d0, d1, d2, d3, d4, d5, d6⟩, df⟩ := c7 hM1.at2; have hM : Hid _ := hM1; clear hM1))
        go_wp2_with (go_at_call 108; refine (HDE.out _ hM.out.box).mono ?_; rintro e w2 ⟨rfl, hbx2, hch2⟩; have hM1 := hM.out.change hbx2 hch2; clear hM hbx2 hch2 e0 e1 ef; clear a0 a1 a2 a3 a4 a5 a6 a7 a8 af z0 z1 z2 z3 z4 z5 z6 z7 z8 zf d0 d1 d2 d3 d4 d5 d6 df; obtain ⟨⟨a0, a1, a2, a3, a4, a5, a6, a7, a8⟩, af⟩ := hM1.box.get; obtain ⟨⟨e0, e1⟩, ef⟩ := c2 hM1.at0; obtain ⟨⟨z0, z1, z2, z3, z4, z5, z6, z7, z8⟩, zf⟩ := c9g hM1.at1; obtain ⟨⟨d0, d1, d2, d3, d4, d5, d6⟩, df⟩ := c7 hM1.at2; have hM : Hid _ := hM1; clear hM1)
        refine bodyPost_ret (v := .agg #[.int .i64 0, .int .i64 0, .int .i64 pr, .int .i64 fa, .int .i64 fp, .int .i64 x.ia, .int .i64 x.ip, .string BM, .bool iq]) (by simp [results, Tryz.results82, go_sem, z0, z1, z2, z3, z4, z5, z6, z7, z8]) rfl ⟨by rw [HV.out], ?_⟩
        have hE := ((((((((hM.out.set1 0 (.int .i64 0)).set1 1 (.int .i64 0)).set1 2 (.int .i64 pr)).set1 3 (.int .i64 fa)).set1 4 (.int .i64 fp)).set1 5 (.int .i64 x.ia)).set1 6 (.int .i64 x.ip)).set1 7 (.string BM)).set1 8 (.bool iq)
        rw [HL.out]
        exact ⟨hE.box, hE.chg⟩
end Go.Proofs.YtfkjobiapjhacabGreat
/- Contracts of package gateway: fromInside. Own work. -/
namespace Go.Proofs.YtfkjobiapjhacabGreat
open Go.RowKit
attribute [local go_sem ↓] Go.wp_at_zero Go.wp_at_succ

/-- The sessions behind what came from inside and was let out; the outer port. -/
def insL (s : BX) (pr : Int) (m : ByteArray) (fa fp ta tp : Int) : List SD := passL pr fa fp ta tp 0 (byteAt m 13) s.tm (askL s pr fa fp ta tp (byteAt m 13))
def insP (s : BX) (pr : Int) (m : ByteArray) (fa fp ta tp : Int) : Int := outerI pr fa fp (insL s pr m fa fp ta tp)
/-- Inner's answer, as data. -/
def innE (pr tp : Int) (l : List SD) : Bool × Int × Int := match innerI pr tp l with
  | some x => (true, x.ia, x.ip)
  | none => (false, 0, 0)
theorem innerV_eq (pr tp : Int) (l : List SD) : innerV pr tp l = .tuple #[.agg #[.int .i64 (innE pr tp l).2.1, .int .i64 (innE pr tp l).2.2], .bool (innE pr tp l).1] := by
  unfold innerV innE; rcases innerI pr tp l with _ | x <;> rfl
theorem innE_bd (pr tp : Int) (l : List SD) (h : ∀ x ∈ l, 0 ≤ x.ia ∧ x.ia ≤ 4294967295) : 0 ≤ (innE pr tp l).2.1 ∧ (innE pr tp l).2.1 ≤ 4294967295 := by
  unfold innE
  rcases e : innerI pr tp l with _ | x
  · exact ⟨Int.le_refl _, by decide⟩
  · exact h x (List.mem_of_find?_eq_some e)
theorem insTo_all (n : SD) (l : List SD) (k : Nat) : (insTo n l k).1.length ≤ 2 * k := insTo_len n l k
theorem askL_len (s : BX) (pr fa fp ta tp fg : Int) (h : s.l.length ≤ 100) : (askL s pr fa fp ta tp fg).length ≤ 1000 := by
  unfold askL
  split
  · omega
  · split
    · unfold insS
      have := insTo_len (freshS pr fa fp ta tp (askP s pr fa fp)) s.l s.l.length
      split
      · omega
      · simp; omega
    · omega
/-- A way's value. -/
structure WYD where
  what : Int
  side : Int
  pr : Int
  xa : Int
  xp : Int
  ya : Int
  yp : Int
  m : ByteArray
def WYD.val (t : WYD) (qb : Bool) : Value := .agg #[.int .i64 t.what, .int .i64 t.side, .int .i64 t.pr, .int .i64 t.xa, .int .i64 t.xp, .int .i64 t.ya, .int .i64 t.yp, .string t.m, .bool qb]
theorem turnV_shape (s : BX) (pr : Int) (m : ByteArray) (xa xp ya yp : Int) (iq : Bool) : ∃ (t : WYD) (qb : Bool), turnV s pr m xa xp ya yp iq = t.val qb := by
  unfold turnV
  split
  · exact ⟨⟨0, 0, pr, xa, xp, ya, yp, btwM pr m xa xp ya yp⟩, iq, rfl⟩
  · exact ⟨⟨17, 0, 0, 0, 0, 0, 0, ⟨#[]⟩⟩, false, rfl⟩
def insV (s : BX) (pr : Int) (m : ByteArray) (fa fp ta tp : Int) (iq : Bool) : Value :=
  if ta = s.ou ∧ (innE pr tp s.l).1 = false then wayV 16
  else if ¬ askW s pr fa fp ta tp (byteAt m 13) = 0 then wayV (askW s pr fa fp ta tp (byteAt m 13))
  else if ta = s.ou then turnV { s with l := insL s pr m fa fp ta tp } pr m s.ou (insP s pr m fa fp ta tp) (innE pr tp s.l).2.1 (innE pr tp s.l).2.2 iq
  else wayS 1 pr s.ou (insP s pr m fa fp ta tp) ta tp (btwM pr m s.ou (insP s pr m fa fp ta tp) ta tp) iq
def insF (s : BX) (pr : Int) (m : ByteArray) (fa fp ta tp : Int) : List SD :=
  if ta = s.ou ∧ (innE pr tp s.l).1 = false then s.l
  else if ¬ askW s pr fa fp ta tp (byteAt m 13) = 0 then askL s pr fa fp ta tp (byteAt m 13)
  else if ta = s.ou then turnL { s with l := insL s pr m fa fp ta tp } pr m s.ou (insP s pr m fa fp ta tp) (innE pr tp s.l).2.1 (innE pr tp s.l).2.2
  else insL s pr m fa fp ta tp
theorem GMid.set2 {w W : World} {b : Nat} {v0 v : Value} {s : BX} {p0 p1 : Nat × Array Value × TypeId} {post : List (Nat × Array Value × TypeId)} {k : Nat} {c : Array Value} {t : TypeId} (h : GMid w W b v0 v s (p0 :: p1 :: (k, c, t) :: post)) (j : Nat) (u : Value) (ht : t ≠ 94 ∧ t ≠ 83 := by decide) : GMid w (W.setCell ⟨k, j, none⟩ u) b v0 v s (p0 :: p1 :: (k, c.setIfInBounds j u, t) :: post) := h.setAt (pre := [p0, p1]) j u ht
set_option maxRecDepth 100000 in
set_option maxHeartbeats 8000000 in
theorem fromInside_any {w : World} {b : Nat} {v : Value} {s : BX} (h : BoxAt w b v s) (hn : s.l.length ≤ 1000) (pr fa fp ta tp : Int) (m : ByteArray) (iq : Bool) (hl0 : 0 ≤ s.lo) (hl1 : s.lo ≤ s.hi) (hl2 : s.hi ≤ 100000) (hq0 : 0 ≤ s.tm) (hq1 : s.tm ≤ 1000000000000000) (hm : m.size ≤ 1000) (hat : sumAtI pr + 2 ≤ m.size) (h4 : 6 ≤ m.size) (hp0 : 0 ≤ pr) (hp1 : pr ≤ 255) (hf0 : 0 ≤ s.ou) (hf1 : s.ou ≤ 4294967295) (hia : ∀ x ∈ s.l, 0 ≤ x.ia ∧ x.ia ≤ 4294967295) (ht0 : 0 ≤ ta) (ht1 : ta ≤ 4294967295) (hlen : s.l.length ≤ 100) :
    Calls Tryz.prog 81 #[.pointer (some ⟨b, 0, none⟩), .agg #[.int .i64 pr, .int .i64 fa, .int .i64 fp, .int .i64 ta, .int .i64 tp, .string m, .bool iq]] w fun e w' => e = .returned (insV s pr m fa fp ta tp iq) ∧ ∃ v', BoxAt w' b v' { s with l := insF s pr m fa fp ta tp } ∧ Chg b v w w' v' := by
  obtain ⟨IV, HV0⟩ : ∃ IV, IV = insV s pr m fa fp ta tp iq := ⟨_, rfl⟩
  obtain ⟨IF, HF0⟩ : ∃ IF, IF = insF s pr m fa fp ta tp := ⟨_, rfl⟩
  rw [← HV0, ← HF0]
  unfold insV at HV0
  unfold insF at HF0
  have hiv := innerV_eq pr tp s.l
  have hxb := innE_bd pr tp s.l hia
  clear hia
  generalize innE pr tp s.l = E at HV0 HF0 hiv hxb
  obtain ⟨kn, xia, xip⟩ := E
  simp only at HV0 HF0 hiv hxb
  obtain ⟨hx0, hx1⟩ := hxb
  have hn1 := askL_len s pr fa fp ta tp (byteAt m 13) hlen
  have hn2 : (insL s pr m fa fp ta tp).length ≤ 1000 := by unfold insL; rw [passL_length]; exact hn1
  have hl1' : insL s pr m fa fp ta tp = passL pr fa fp ta tp 0 (byteAt m 13) s.tm (askL s pr fa fp ta tp (byteAt m 13)) := rfl
  have HP0 : insP s pr m fa fp ta tp = outerI pr fa fp (insL s pr m fa fp ta tp) := rfl
  have HPA : Hid (∀ W v, BoxAt W b v { s with l := askL s pr fa fp ta tp (byteAt m 13) } → Calls Tryz.prog 103 #[.pointer (some ⟨b, 26, none⟩), .int .i64 pr, .agg #[.int .i64 fa, .int .i64 fp], .agg #[.int .i64 ta, .int .i64 tp], .int .i64 0, .int .i64 (byteAt m 13), .int .i64 s.tm] W fun e w' => e = .returned (.tuple #[]) ∧ BoxAt w' b v { s with l := insL s pr m fa fp ta tp } ∧ Chg b v W w' v) := fun W v hW => bPass hW hn1 pr fa fp ta tp 0 (byteAt m 13) s.tm hq0 hq1
  have HOU : Hid (∀ W v, BoxAt W b v { s with l := insL s pr m fa fp ta tp } → Calls Tryz.prog 104 #[.pointer (some ⟨b, 26, none⟩), .int .i64 pr, .agg #[.int .i64 fa, .int .i64 fp]] W fun e w' => e = .returned (.int .i64 (insP s pr m fa fp ta tp)) ∧ Below W.heap.size W w') := fun W v hW => bOuter hW hn2 pr fa fp
  have HBT : Hid (∀ W, Calls Tryz.prog 106 #[.agg #[.int .i64 pr, .int .i64 fa, .int .i64 fp, .int .i64 ta, .int .i64 tp, .string m, .bool iq], .agg #[.int .i64 s.ou, .int .i64 (insP s pr m fa fp ta tp)], .agg #[.int .i64 ta, .int .i64 tp]] W fun e w' => e = .returned (.agg #[.int .i64 pr, .int .i64 s.ou, .int .i64 (insP s pr m fa fp ta tp), .int .i64 ta, .int .i64 tp, .string (btwM pr m s.ou (insP s pr m fa fp ta tp) ta tp), .bool iq]) ∧ Below W.heap.size W w') := fun W => Between_any pr fa fp ta tp m iq s.ou (insP s pr m fa fp ta tp) ta tp W hm hat h4 hp0 hp1 hf0 hf1 ht0 ht1
  have HTU : Hid (∀ W v, BoxAt W b v { s with l := insL s pr m fa fp ta tp } → Calls Tryz.prog 105 #[.pointer (some ⟨b, 0, none⟩), .agg #[.int .i64 pr, .int .i64 fa, .int .i64 fp, .int .i64 ta, .int .i64 tp, .string m, .bool iq], .agg #[.int .i64 s.ou, .int .i64 (insP s pr m fa fp ta tp)], .agg #[.int .i64 xia, .int .i64 xip]] W fun e w' => e = .returned (turnV { s with l := insL s pr m fa fp ta tp } pr m s.ou (insP s pr m fa fp ta tp) xia xip iq) ∧ BoxAt w' b v { s with l := turnL { s with l := insL s pr m fa fp ta tp } pr m s.ou (insP s pr m fa fp ta tp) xia xip } ∧ Chg b v W w' v) := fun W v hW => turn_any hW hn2 hq0 hq1 pr fa fp ta tp m iq s.ou (insP s pr m fa fp ta tp) xia xip hm hat h4 hp0 hp1 hf0 hf1 hx0 hx1
  have HAS : Hid (∀ W v, BoxAt W b v s → Calls Tryz.prog 101 #[.pointer (some ⟨b, 0, none⟩), .agg #[.int .i64 pr, .int .i64 fa, .int .i64 fp, .int .i64 ta, .int .i64 tp, .string m, .bool iq]] W fun e w' => e = .returned (.int .i64 (askW s pr fa fp ta tp (byteAt m 13))) ∧ ∃ v', BoxAt w' b v' { s with l := askL s pr fa fp ta tp (byteAt m 13) } ∧ Chg b v W w' v') := fun W v hW => ask_any hW hn hl0 hl1 hl2 pr fa fp ta tp m iq
  clear hl1' HP0 hm hat h4 hp0 hp1 hf0 hf1 ht0 ht1 hx0 hx1 hq0 hq1 hl0 hl1 hl2 hn1 hn2 hlen
  generalize insP s pr m fa fp ta tp = PT at HV0 HF0 HOU HBT HTU
  generalize insL s pr m fa fp ta tp = L2 at HV0 HF0 HPA HOU HTU
  generalize askL s pr fa fp ta tp (byteAt m 13) = L1 at HF0 HPA HAS
  generalize askW s pr fa fp ta tp (byteAt m 13) = AW at HV0 HF0 HAS
  generalize btwM pr m s.ou PT ta tp = BM at HV0 HBT
  obtain ⟨TV, qb, hTV⟩ := turnV_shape { s with l := L2 } pr m s.ou PT xia xip iq
  generalize turnV { s with l := L2 } pr m s.ou PT xia xip iq = TVV at HV0 HTU hTV
  generalize turnL { s with l := L2 } pr m s.ou PT xia xip = TL at HF0 HTU
  have hM1 : GMid w ((w.alloc (.cells #[.int .i64 pr, .int .i64 fa, .int .i64 fp, .int .i64 ta, .int .i64 tp, .string m, .bool iq] 106)).alloc (.cells #[.int .i64 0, .int .i64 0, .int .i64 0, .int .i64 0, .int .i64 0, .int .i64 0, .int .i64 0, .string ⟨#[]⟩, .bool false] 109)) b v v s [(w.heap.size + 1, #[.int .i64 0, .int .i64 0, .int .i64 0, .int .i64 0, .int .i64 0, .int .i64 0, .int .i64 0, .string ⟨#[]⟩, .bool false], 109), (w.heap.size, #[.int .i64 pr, .int .i64 fa, .int .i64 fp, .int .i64 ta, .int .i64 tp, .string m, .bool iq], 106)] := (((GMid.start h).alloc' _ _ _ rfl).alloc' _ _ _ (by simp)); have hlt := h.lt; clear h; obtain ⟨⟨a0, a1, a2, a3, a4, a5, a6, a7, a8⟩, af⟩ := hM1.box.get; obtain ⟨⟨z0, z1, z2, z3, z4, z5, z6, z7, z8⟩, zf⟩ := c9g hM1.at0; obtain ⟨⟨d0, d1, d2, d3, d4, d5, d6⟩, df⟩ := c7 hM1.at1; have hM : Hid _ := hM1; clear hM1
  go_enter Tryz.func81, Tryz.ntmps81
  go_wp2_with fail
  go_region_held3 (fun w' => w'.cell? ⟨w.heap.size, 0, none⟩ = some (.int .i64 pr) ∧ w'.cell? ⟨w.heap.size, 1, none⟩ = some (.int .i64 fa) ∧ w'.cell? ⟨w.heap.size, 2, none⟩ = some (.int .i64 fp) ∧ w'.cell? ⟨w.heap.size, 3, none⟩ = some (.int .i64 ta) ∧ w'.cell? ⟨w.heap.size, 4, none⟩ = some (.int .i64 tp) ∧ w'.cell? ⟨b, 0, none⟩ = some (.int .i64 s.ou)) (simp [*]) (fail)
  have hM1 := hM.out.drew
  clear hM
  have hM : Hid _ := hM1
  clear hM1
  go_upto_region 2 with fail
  go_cut [5, 6, 7] (fun s5 s6 s7 wx => s5 = .bool (ta == s.ou) ∧ ∃ k, s6 = .pointer (some ⟨k, 0, none⟩) ∧ s7 = .bool kn ∧ GMid w wx b v v s ((k, #[.int .i64 xia, .int .i64 xip], 98) :: [(w.heap.size + 1, #[.int .i64 0, .int .i64 0, .int .i64 0, .int .i64 0, .int .i64 0, .int .i64 0, .int .i64 0, .string ⟨#[]⟩, .bool false], 109), (w.heap.size, #[.int .i64 pr, .int .i64 fa, .int .i64 fp, .int .i64 ta, .int .i64 tp, .string m, .bool iq], 106)]))
  case first =>
    (go_region_held3 (fun w' => w'.cell? ⟨w.heap.size, 0, none⟩ = some (.int .i64 pr) ∧ w'.cell? ⟨w.heap.size, 1, none⟩ = some (.int .i64 fa) ∧ w'.cell? ⟨w.heap.size, 2, none⟩ = some (.int .i64 fp) ∧ w'.cell? ⟨w.heap.size, 3, none⟩ = some (.int .i64 ta) ∧ w'.cell? ⟨w.heap.size, 4, none⟩ = some (.int .i64 tp)) (first | (simp [*]; done) | (have hne := lt_of_block hM.out.at1; simp only [cell_alloc_lt hne]; simp [*]; done) | (simp only [cell_set_lt (show w.heap.size < w.heap.size + 1 + 1 by omega)]; simp [*]; done) | (have hne := lt_of_block hM.out.at1; simp only [cell_set_lt hne, cell_alloc_lt hne]; simp [*]; done) | go_keep) (first | (go_at_call 100; refine (bInner hM.out.drew.box hn _ _).mono ?_; rintro e w1 ⟨rfl, hb1⟩; rw [hiv]; have hM1 := hM.out.drew.call hb1; clear hM hb1; clear a0 a1 a2 a3 a4 a5 a6 a7 a8 af z0 z1 z2 z3 z4 z5 z6 z7 z8 zf d0 d1 d2 d3 d4 d5 d6 df; obtain ⟨⟨a0, a1, a2, a3, a4, a5, a6, a7, a8⟩, af⟩ := hM1.box.get; obtain ⟨⟨z0, z1, z2, z3, z4, z5, z6, z7, z8⟩, zf⟩ := c9g hM1.at0; obtain ⟨⟨d0, d1, d2, d3, d4, d5, d6⟩, df⟩ := c7 hM1.at1; have hM : Hid _ := hM1; clear hM1) | (go_at_call 100; refine (bInner (hM.out.alloc' #[.int .i64 0, .int .i64 0] 98 (w.heap.size + 2) (by simp)).drew.box hn _ _).mono ?_; rintro e w1 ⟨rfl, hb1⟩; rw [hiv]; have hM1 := (hM.out.alloc' #[.int .i64 0, .int .i64 0] 98 (w.heap.size + 2) (by simp)).drew.call hb1; clear hM hb1; clear a0 a1 a2 a3 a4 a5 a6 a7 a8 af z0 z1 z2 z3 z4 z5 z6 z7 z8 zf d0 d1 d2 d3 d4 d5 d6 df; obtain ⟨⟨a0, a1, a2, a3, a4, a5, a6, a7, a8⟩, af⟩ := hM1.box.get; obtain ⟨⟨e0, e1⟩, ef⟩ := c2 hM1.at0; obtain ⟨⟨z0, z1, z2, z3, z4, z5, z6, z7, z8⟩, zf⟩ := c9g hM1.at1; obtain ⟨⟨d0, d1, d2, d3, d4, d5, d6⟩, df⟩ := c7 hM1.at2; have hM : Hid _ := hM1; clear hM1)); all_goals (go_wp2_with fail; go_meet; first | exact ⟨rfl, w1.heap.size, rfl, rfl, hM.out.alloc' _ _ _ rfl⟩ | exact ⟨rfl, w.heap.size + 2, rfl, rfl, (hM.out.set0 0 _).set0 1 _⟩))
  case rest =>
    obtain ⟨rfl, k, rfl, rfl, hM1⟩ := hcut; clear hM; clear a0 a1 a2 a3 a4 a5 a6 a7 a8 af z0 z1 z2 z3 z4 z5 z6 z7 z8 zf d0 d1 d2 d3 d4 d5 d6 df; obtain ⟨⟨a0, a1, a2, a3, a4, a5, a6, a7, a8⟩, af⟩ := hM1.box.get; obtain ⟨⟨e0, e1⟩, ef⟩ := c2 hM1.at0; obtain ⟨⟨z0, z1, z2, z3, z4, z5, z6, z7, z8⟩, zf⟩ := c9g hM1.at1; obtain ⟨⟨d0, d1, d2, d3, d4, d5, d6⟩, df⟩ := c7 hM1.at2; have hM : Hid _ := hM1; clear hM1
    by_cases ht : ta = s.ou
    · have htb : (ta == s.ou) = true := by simpa using ht
      cases kn
      · rw [if_pos ⟨ht, rfl⟩] at HV0 HF0
        have HV : Hid (IV = .agg #[.int .i64 16, .int .i64 0, .int .i64 0, .int .i64 0, .int .i64 0, .int .i64 0, .int .i64 0, .string ⟨#[]⟩, .bool false]) := HV0
        have HF : Hid (IF = s.l) := HF0
        clear HV0 HF0 ht
        go_wp2_with fail
        refine bodyPost_ret (v := .agg #[.int .i64 16, .int .i64 0, .int .i64 0, .int .i64 0, .int .i64 0, .int .i64 0, .int .i64 0, .string ⟨#[]⟩, .bool false]) (by simp [results, Tryz.results81, go_sem, z0, z1, z2, z3, z4, z5, z6, z7, z8]) rfl ⟨by rw [HV.out], ?_⟩
        have hE := ((((((((hM.out.set1 0 (.int .i64 16)).set1 1 (.int .i64 0)).set1 2 (.int .i64 0)).set1 3 (.int .i64 0)).set1 4 (.int .i64 0)).set1 5 (.int .i64 0)).set1 6 (.int .i64 0)).set1 7 (.string ⟨#[]⟩)).set1 8 (.bool false)
        rw [HF.out]
        exact ⟨v, hE.box, hE.chg⟩
      · rw [if_neg (by simp)] at HV0 HF0
        by_cases hw : AW = 0
        · rw [if_neg (by simp [hw]), if_pos ht] at HV0 HF0
          rw [hTV] at HV0 HTU
          simp only [WYD.val] at HV0 HTU
          have HV : Hid (IV = .agg #[.int .i64 TV.what, .int .i64 TV.side, .int .i64 TV.pr, .int .i64 TV.xa, .int .i64 TV.xp, .int .i64 TV.ya, .int .i64 TV.yp, .string TV.m, .bool qb]) := HV0
          have HF : Hid (IF = TL) := HF0
          have hwb : (AW != 0) = false := by simp [hw]
          clear HV0 HF0 ht hw hTV
          go_wp2_with (first | (go_at_call 101; refine (HAS.out _ _ hM.out.box).mono ?_; rintro e w2 ⟨rfl, v2, hbx2, hch2⟩; have hM1 := hM.out.change hbx2 hch2; clear hM hbx2 hch2; clear e0 e1 ef; clear a0 a1 a2 a3 a4 a5 a6 a7 a8 af z0 z1 z2 z3 z4 z5 z6 z7 z8 zf d0 d1 d2 d3 d4 d5 d6 df; obtain ⟨⟨a0, a1, a2, a3, a4, a5, a6, a7, a8⟩, af⟩ := hM1.box.get; obtain ⟨⟨e0, e1⟩, ef⟩ := c2 hM1.at0; obtain ⟨⟨z0, z1, z2, z3, z4, z5, z6, z7, z8⟩, zf⟩ := c9g hM1.at1; obtain ⟨⟨d0, d1, d2, d3, d4, d5, d6⟩, df⟩ := c7 hM1.at2; have hM : Hid _ := hM1; clear hM1) | (go_at_call 102; refine (Flags_any _ _ _ _ _ _ _ _).mono ?_; rintro e w3 ⟨rfl, hb3⟩; have hM1 := hM.out.call hb3; clear hM hb3; clear e0 e1 ef; clear a0 a1 a2 a3 a4 a5 a6 a7 a8 af z0 z1 z2 z3 z4 z5 z6 z7 z8 zf d0 d1 d2 d3 d4 d5 d6 df; obtain ⟨⟨a0, a1, a2, a3, a4, a5, a6, a7, a8⟩, af⟩ := hM1.box.get; obtain ⟨⟨e0, e1⟩, ef⟩ := c2 hM1.at0; obtain ⟨⟨z0, z1, z2, z3, z4, z5, z6, z7, z8⟩, zf⟩ := c9g hM1.at1; obtain ⟨⟨d0, d1, d2, d3, d4, d5, d6⟩, df⟩ := c7 hM1.at2; have hM : Hid _ := hM1; clear hM1))
          go_region_held3 (fun w' => w'.cell? ⟨w.heap.size, 0, none⟩ = some (.int .i64 pr) ∧ w'.cell? ⟨w.heap.size, 1, none⟩ = some (.int .i64 fa) ∧ w'.cell? ⟨w.heap.size, 2, none⟩ = some (.int .i64 fp) ∧ w'.cell? ⟨w.heap.size, 3, none⟩ = some (.int .i64 ta) ∧ w'.cell? ⟨w.heap.size, 4, none⟩ = some (.int .i64 tp) ∧ w'.cell? ⟨b, 7, none⟩ = some (.int .i64 s.tm)) (simp [*]) (first | (go_at_call 103; refine (HPA.out _ _ hM.out.drew.box).mono ?_; rintro e w4 ⟨rfl, hbx4, hch4⟩; have hM1 := hM.out.drew.change hbx4 hch4; clear hM hbx4 hch4; clear e0 e1 ef; clear a0 a1 a2 a3 a4 a5 a6 a7 a8 af z0 z1 z2 z3 z4 z5 z6 z7 z8 zf d0 d1 d2 d3 d4 d5 d6 df; obtain ⟨⟨a0, a1, a2, a3, a4, a5, a6, a7, a8⟩, af⟩ := hM1.box.get; obtain ⟨⟨e0, e1⟩, ef⟩ := c2 hM1.at0; obtain ⟨⟨z0, z1, z2, z3, z4, z5, z6, z7, z8⟩, zf⟩ := c9g hM1.at1; obtain ⟨⟨d0, d1, d2, d3, d4, d5, d6⟩, df⟩ := c7 hM1.at2; have hM : Hid _ := hM1; clear hM1))
          go_wp2_with fail
          go_region_held3 (fun w' => w'.cell? ⟨w.heap.size, 0, none⟩ = some (.int .i64 pr) ∧ w'.cell? ⟨w.heap.size, 1, none⟩ = some (.int .i64 fa) ∧ w'.cell? ⟨w.heap.size, 2, none⟩ = some (.int .i64 fp) ∧ w'.cell? ⟨w.heap.size, 3, none⟩ = some (.int .i64 ta) ∧ w'.cell? ⟨w.heap.size, 4, none⟩ = some (.int .i64 tp) ∧ w'.cell? ⟨b, 7, none⟩ = some (.int .i64 s.tm)) (simp [*]) (first | (go_at_call 104; refine (HOU.out _ _ hM.out.drew.box).mono ?_; rintro e w5 ⟨rfl, hb5⟩; have hM1 := hM.out.drew.call hb5; clear hM hb5; clear e0 e1 ef; clear a0 a1 a2 a3 a4 a5 a6 a7 a8 af z0 z1 z2 z3 z4 z5 z6 z7 z8 zf d0 d1 d2 d3 d4 d5 d6 df; obtain ⟨⟨a0, a1, a2, a3, a4, a5, a6, a7, a8⟩, af⟩ := hM1.box.get; obtain ⟨⟨e0, e1⟩, ef⟩ := c2 hM1.at0; obtain ⟨⟨z0, z1, z2, z3, z4, z5, z6, z7, z8⟩, zf⟩ := c9g hM1.at1; obtain ⟨⟨d0, d1, d2, d3, d4, d5, d6⟩, df⟩ := c7 hM1.at2; have hM : Hid _ := hM1; clear hM1))
          have hs5 := lt_of_block hM.out.at1
          have hs6 := lt_of_block hM.out.at2
          have hs7 := lt_of_block hM.out.at0
          have hs8 := hM.out.box.lt
          go_wp2_with fail
          refine (HTU.out _ _ (hM.out.alloc' #[.int .i64 s.ou, .int .i64 PT] 98 w5.heap.size rfl).box).mono ?_
          rintro e w6 ⟨rfl, hbx6, hch6⟩
          have hM1 := (hM.out.alloc' #[.int .i64 s.ou, .int .i64 PT] 98 w5.heap.size rfl).change hbx6 hch6
          clear hM hbx6 hch6 e0 e1 ef
          clear a0 a1 a2 a3 a4 a5 a6 a7 a8 af z0 z1 z2 z3 z4 z5 z6 z7 z8 zf d0 d1 d2 d3 d4 d5 d6 df
          obtain ⟨⟨z0, z1, z2, z3, z4, z5, z6, z7, z8⟩, zf⟩ := c9g hM1.at2
          have hM : Hid _ := hM1
          clear hM1
          go_wp2_with fail
          refine bodyPost_ret (v := .agg #[.int .i64 TV.what, .int .i64 TV.side, .int .i64 TV.pr, .int .i64 TV.xa, .int .i64 TV.xp, .int .i64 TV.ya, .int .i64 TV.yp, .string TV.m, .bool qb]) (by simp [results, Tryz.results81, go_sem, z0, z1, z2, z3, z4, z5, z6, z7, z8]) rfl ⟨by rw [HV.out], ?_⟩
          have hE := ((((((((hM.out.set2 0 (.int .i64 TV.what)).set2 1 (.int .i64 TV.side)).set2 2 (.int .i64 TV.pr)).set2 3 (.int .i64 TV.xa)).set2 4 (.int .i64 TV.xp)).set2 5 (.int .i64 TV.ya)).set2 6 (.int .i64 TV.yp)).set2 7 (.string TV.m)).set2 8 (.bool qb)
          rw [HF.out]
          exact ⟨_, hE.box, hE.chg⟩
        · rw [if_pos hw] at HV0 HF0
          have HV : Hid (IV = .agg #[.int .i64 AW, .int .i64 0, .int .i64 0, .int .i64 0, .int .i64 0, .int .i64 0, .int .i64 0, .string ⟨#[]⟩, .bool false]) := HV0
          have HF : Hid (IF = L1) := HF0
          have hwb : (AW != 0) = true := by simp [hw]
          clear HV0 HF0 ht hw hTV
          go_wp2_with (first | (go_at_call 101; refine (HAS.out _ _ hM.out.box).mono ?_; rintro e w2 ⟨rfl, v2, hbx2, hch2⟩; have hM1 := hM.out.change hbx2 hch2; clear hM hbx2 hch2; clear e0 e1 ef; clear a0 a1 a2 a3 a4 a5 a6 a7 a8 af z0 z1 z2 z3 z4 z5 z6 z7 z8 zf d0 d1 d2 d3 d4 d5 d6 df; obtain ⟨⟨a0, a1, a2, a3, a4, a5, a6, a7, a8⟩, af⟩ := hM1.box.get; obtain ⟨⟨e0, e1⟩, ef⟩ := c2 hM1.at0; obtain ⟨⟨z0, z1, z2, z3, z4, z5, z6, z7, z8⟩, zf⟩ := c9g hM1.at1; obtain ⟨⟨d0, d1, d2, d3, d4, d5, d6⟩, df⟩ := c7 hM1.at2; have hM : Hid _ := hM1; clear hM1) | (go_at_call 102; refine (Flags_any _ _ _ _ _ _ _ _).mono ?_; rintro e w3 ⟨rfl, hb3⟩; have hM1 := hM.out.call hb3; clear hM hb3; clear e0 e1 ef; clear a0 a1 a2 a3 a4 a5 a6 a7 a8 af z0 z1 z2 z3 z4 z5 z6 z7 z8 zf d0 d1 d2 d3 d4 d5 d6 df; obtain ⟨⟨a0, a1, a2, a3, a4, a5, a6, a7, a8⟩, af⟩ := hM1.box.get; obtain ⟨⟨e0, e1⟩, ef⟩ := c2 hM1.at0; obtain ⟨⟨z0, z1, z2, z3, z4, z5, z6, z7, z8⟩, zf⟩ := c9g hM1.at1; obtain ⟨⟨d0, d1, d2, d3, d4, d5, d6⟩, df⟩ := c7 hM1.at2; have hM : Hid _ := hM1; clear hM1))
          refine bodyPost_ret (v := .agg #[.int .i64 AW, .int .i64 0, .int .i64 0, .int .i64 0, .int .i64 0, .int .i64 0, .int .i64 0, .string ⟨#[]⟩, .bool false]) (by simp [results, Tryz.results81, go_sem, z0, z1, z2, z3, z4, z5, z6, z7, z8]) rfl ⟨by rw [HV.out], ?_⟩
          have hE := ((((((((hM.out.set1 0 (.int .i64 AW)).set1 1 (.int .i64 0)).set1 2 (.int .i64 0)).set1 3 (.int .i64 0)).set1 4 (.int .i64 0)).set1 5 (.int .i64 0)).set1 6 (.int .i64 0)).set1 7 (.string ⟨#[]⟩)).set1 8 (.bool false)
          rw [HF.out]
          exact ⟨_, hE.box, hE.chg⟩
    · have htb : (ta == s.ou) = false := by simpa using ht
      rw [if_neg (fun h => ht h.1)] at HV0 HF0
      by_cases hw : AW = 0
      · rw [if_neg (by simp [hw]), if_neg ht] at HV0 HF0
        have HV : Hid (IV = .agg #[.int .i64 0, .int .i64 1, .int .i64 pr, .int .i64 s.ou, .int .i64 PT, .int .i64 ta, .int .i64 tp, .string BM, .bool iq]) := HV0
        have HF : Hid (IF = L2) := HF0
        have hwb : (AW != 0) = false := by simp [hw]
        clear HV0 HF0 ht hw hTV
        go_wp2_with (first | (go_at_call 101; refine (HAS.out _ _ hM.out.box).mono ?_; rintro e w2 ⟨rfl, v2, hbx2, hch2⟩; have hM1 := hM.out.change hbx2 hch2; clear hM hbx2 hch2; clear e0 e1 ef; clear a0 a1 a2 a3 a4 a5 a6 a7 a8 af z0 z1 z2 z3 z4 z5 z6 z7 z8 zf d0 d1 d2 d3 d4 d5 d6 df; obtain ⟨⟨a0, a1, a2, a3, a4, a5, a6, a7, a8⟩, af⟩ := hM1.box.get; obtain ⟨⟨e0, e1⟩, ef⟩ := c2 hM1.at0; obtain ⟨⟨z0, z1, z2, z3, z4, z5, z6, z7, z8⟩, zf⟩ := c9g hM1.at1; obtain ⟨⟨d0, d1, d2, d3, d4, d5, d6⟩, df⟩ := c7 hM1.at2; have hM : Hid _ := hM1; clear hM1) | (go_at_call 102; refine (Flags_any _ _ _ _ _ _ _ _).mono ?_; rintro e w3 ⟨rfl, hb3⟩; have hM1 := hM.out.call hb3; clear hM hb3; clear e0 e1 ef; clear a0 a1 a2 a3 a4 a5 a6 a7 a8 af z0 z1 z2 z3 z4 z5 z6 z7 z8 zf d0 d1 d2 d3 d4 d5 d6 df; obtain ⟨⟨a0, a1, a2, a3, a4, a5, a6, a7, a8⟩, af⟩ := hM1.box.get; obtain ⟨⟨e0, e1⟩, ef⟩ := c2 hM1.at0; obtain ⟨⟨z0, z1, z2, z3, z4, z5, z6, z7, z8⟩, zf⟩ := c9g hM1.at1; obtain ⟨⟨d0, d1, d2, d3, d4, d5, d6⟩, df⟩ := c7 hM1.at2; have hM : Hid _ := hM1; clear hM1))
        go_region_held3 (fun w' => w'.cell? ⟨w.heap.size, 0, none⟩ = some (.int .i64 pr) ∧ w'.cell? ⟨w.heap.size, 1, none⟩ = some (.int .i64 fa) ∧ w'.cell? ⟨w.heap.size, 2, none⟩ = some (.int .i64 fp) ∧ w'.cell? ⟨w.heap.size, 3, none⟩ = some (.int .i64 ta) ∧ w'.cell? ⟨w.heap.size, 4, none⟩ = some (.int .i64 tp) ∧ w'.cell? ⟨b, 7, none⟩ = some (.int .i64 s.tm)) (simp [*]) (first | (go_at_call 103; refine (HPA.out _ _ hM.out.drew.box).mono ?_; rintro e w4 ⟨rfl, hbx4, hch4⟩; have hM1 := hM.out.drew.change hbx4 hch4; clear hM hbx4 hch4; clear e0 e1 ef; clear a0 a1 a2 a3 a4 a5 a6 a7 a8 af z0 z1 z2 z3 z4 z5 z6 z7 z8 zf d0 d1 d2 d3 d4 d5 d6 df; obtain ⟨⟨a0, a1, a2, a3, a4, a5, a6, a7, a8⟩, af⟩ := hM1.box.get; obtain ⟨⟨e0, e1⟩, ef⟩ := c2 hM1.at0; obtain ⟨⟨z0, z1, z2, z3, z4, z5, z6, z7, z8⟩, zf⟩ := c9g hM1.at1; obtain ⟨⟨d0, d1, d2, d3, d4, d5, d6⟩, df⟩ := c7 hM1.at2; have hM : Hid _ := hM1; clear hM1))
        go_wp2_with fail
        go_region_held3 (fun w' => w'.cell? ⟨w.heap.size, 0, none⟩ = some (.int .i64 pr) ∧ w'.cell? ⟨w.heap.size, 1, none⟩ = some (.int .i64 fa) ∧ w'.cell? ⟨w.heap.size, 2, none⟩ = some (.int .i64 fp) ∧ w'.cell? ⟨w.heap.size, 3, none⟩ = some (.int .i64 ta) ∧ w'.cell? ⟨w.heap.size, 4, none⟩ = some (.int .i64 tp) ∧ w'.cell? ⟨b, 7, none⟩ = some (.int .i64 s.tm)) (simp [*]) (first | (go_at_call 104; refine (HOU.out _ _ hM.out.drew.box).mono ?_; rintro e w5 ⟨rfl, hb5⟩; have hM1 := hM.out.drew.call hb5; clear hM hb5; clear e0 e1 ef; clear a0 a1 a2 a3 a4 a5 a6 a7 a8 af z0 z1 z2 z3 z4 z5 z6 z7 z8 zf d0 d1 d2 d3 d4 d5 d6 df; obtain ⟨⟨a0, a1, a2, a3, a4, a5, a6, a7, a8⟩, af⟩ := hM1.box.get; obtain ⟨⟨e0, e1⟩, ef⟩ := c2 hM1.at0; obtain ⟨⟨z0, z1, z2, z3, z4, z5, z6, z7, z8⟩, zf⟩ := c9g hM1.at1; obtain ⟨⟨d0, d1, d2, d3, d4, d5, d6⟩, df⟩ := c7 hM1.at2; have hM : Hid _ := hM1; clear hM1))
        have hs5 := lt_of_block hM.out.at1
        have hs6 := lt_of_block hM.out.at2
        have hs7 := lt_of_block hM.out.at0
        have hs8 := hM.out.box.lt
        go_wp2_with fail
        refine (HBT.out _).mono ?_
        rintro e w6 ⟨rfl, hb6⟩
        have hM1 := (hM.out.alloc' #[.int .i64 s.ou, .int .i64 PT] 98 w5.heap.size rfl).call hb6
        clear hM hb6 e0 e1 ef
        clear a0 a1 a2 a3 a4 a5 a6 a7 a8 af z0 z1 z2 z3 z4 z5 z6 z7 z8 zf d0 d1 d2 d3 d4 d5 d6 df
        obtain ⟨⟨z0, z1, z2, z3, z4, z5, z6, z7, z8⟩, zf⟩ := c9g hM1.at2
        have hM : Hid _ := hM1
        clear hM1
        go_wp2_with fail
        refine bodyPost_ret (v := .agg #[.int .i64 0, .int .i64 1, .int .i64 pr, .int .i64 s.ou, .int .i64 PT, .int .i64 ta, .int .i64 tp, .string BM, .bool iq]) (by simp [results, Tryz.results81, go_sem, z0, z1, z2, z3, z4, z5, z6, z7, z8]) rfl ⟨by rw [HV.out], ?_⟩
        have hE := ((((((((hM.out.set2 0 (.int .i64 0)).set2 1 (.int .i64 1)).set2 2 (.int .i64 pr)).set2 3 (.int .i64 s.ou)).set2 4 (.int .i64 PT)).set2 5 (.int .i64 ta)).set2 6 (.int .i64 tp)).set2 7 (.string BM)).set2 8 (.bool iq)
        rw [HF.out]
        exact ⟨_, hE.box, hE.chg⟩
      · rw [if_pos hw] at HV0 HF0
        have HV : Hid (IV = .agg #[.int .i64 AW, .int .i64 0, .int .i64 0, .int .i64 0, .int .i64 0, .int .i64 0, .int .i64 0, .string ⟨#[]⟩, .bool false]) := HV0
        have HF : Hid (IF = L1) := HF0
        have hwb : (AW != 0) = true := by simp [hw]
        clear HV0 HF0 ht hw hTV
        go_wp2_with (first | (go_at_call 101; refine (HAS.out _ _ hM.out.box).mono ?_; rintro e w2 ⟨rfl, v2, hbx2, hch2⟩; have hM1 := hM.out.change hbx2 hch2; clear hM hbx2 hch2; clear e0 e1 ef; clear a0 a1 a2 a3 a4 a5 a6 a7 a8 af z0 z1 z2 z3 z4 z5 z6 z7 z8 zf d0 d1 d2 d3 d4 d5 d6 df; obtain ⟨⟨a0, a1, a2, a3, a4, a5, a6, a7, a8⟩, af⟩ := hM1.box.get; obtain ⟨⟨e0, e1⟩, ef⟩ := c2 hM1.at0; obtain ⟨⟨z0, z1, z2, z3, z4, z5, z6, z7, z8⟩, zf⟩ := c9g hM1.at1; obtain ⟨⟨d0, d1, d2, d3, d4, d5, d6⟩, df⟩ := c7 hM1.at2; have hM : Hid _ := hM1; clear hM1) | (go_at_call 102; refine (Flags_any _ _ _ _ _ _ _ _).mono ?_; rintro e w3 ⟨rfl, hb3⟩; have hM1 := hM.out.call hb3; clear hM hb3; clear e0 e1 ef; clear a0 a1 a2 a3 a4 a5 a6 a7 a8 af z0 z1 z2 z3 z4 z5 z6 z7 z8 zf d0 d1 d2 d3 d4 d5 d6 df; obtain ⟨⟨a0, a1, a2, a3, a4, a5, a6, a7, a8⟩, af⟩ := hM1.box.get; obtain ⟨⟨e0, e1⟩, ef⟩ := c2 hM1.at0; obtain ⟨⟨z0, z1, z2, z3, z4, z5, z6, z7, z8⟩, zf⟩ := c9g hM1.at1; obtain ⟨⟨d0, d1, d2, d3, d4, d5, d6⟩, df⟩ := c7 hM1.at2; have hM : Hid _ := hM1; clear hM1))
        refine bodyPost_ret (v := .agg #[.int .i64 AW, .int .i64 0, .int .i64 0, .int .i64 0, .int .i64 0, .int .i64 0, .int .i64 0, .string ⟨#[]⟩, .bool false]) (by simp [results, Tryz.results81, go_sem, z0, z1, z2, z3, z4, z5, z6, z7, z8]) rfl ⟨by rw [HV.out], ?_⟩
        have hE := ((((((((hM.out.set1 0 (.int .i64 AW)).set1 1 (.int .i64 0)).set1 2 (.int .i64 0)).set1 3 (.int .i64 0)).set1 4 (.int .i64 0)).set1 5 (.int .i64 0)).set1 6 (.int .i64 0)).set1 7 (.string ⟨#[]⟩)).set1 8 (.bool false)
        rw [HF.out]
        exact ⟨_, hE.box, hE.chg⟩
end Go.Proofs.YtfkjobiapjhacabGreat
