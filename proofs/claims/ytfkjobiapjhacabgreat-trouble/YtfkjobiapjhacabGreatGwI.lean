/- Contracts of package gateway: fromOutside. Own work. -/
import Derived.Test.YtfkjobiapjhacabGreatGwR
namespace Go.Proofs.YtfkjobiapjhacabGreat
open Go.RowKit
attribute [local go_sem ↓] Go.wp_at_zero Go.wp_at_succ

def outsV (s : BX) (pr : Int) (m : ByteArray) (fa fp tp : Int) (iq : Bool) : Value := match innerI pr tp s.l with
  | none => wayV 16
  | some x => if hasS pr x.ia x.ip fa fp s.l = true then wayS 0 pr fa fp x.ia x.ip (btwM pr m fa fp x.ia x.ip) iq else wayV 16
def outsL (s : BX) (pr : Int) (m : ByteArray) (fa fp tp : Int) : List SD := match innerI pr tp s.l with
  | none => s.l
  | some x => if hasS pr x.ia x.ip fa fp s.l = true then passL pr x.ia x.ip fa fp 1 (byteAt m 13) s.tm s.l else s.l
set_option maxRecDepth 100000 in
set_option maxHeartbeats 2000000 in
theorem fromOutside_any {w : World} {b : Nat} {v : Value} {s : BX} (h : BoxAt w b v s) (hn : s.l.length ≤ 1000) (hia : ∀ x ∈ s.l, 0 ≤ x.ia ∧ x.ia ≤ 4294967295) (hq0 : 0 ≤ s.tm) (hq1 : s.tm ≤ 1000000000000000) (pr fa fp ta tp : Int) (m : ByteArray) (iq : Bool) (hm : m.size ≤ 1000) (hat : sumAtI pr + 2 ≤ m.size) (h4 : 6 ≤ m.size) (hp0 : 0 ≤ pr) (hp1 : pr ≤ 255) (hf0 : 0 ≤ fa) (hf1 : fa ≤ 4294967295) :
    Calls Tryz.prog 82 #[.pointer (some ⟨b, 0, none⟩), .agg #[.int .i64 pr, .int .i64 fa, .int .i64 fp, .int .i64 ta, .int .i64 tp, .string m, .bool iq]] w fun e w' => e = .returned (outsV s pr m fa fp tp iq) ∧ BoxAt w' b v { s with l := outsL s pr m fa fp tp } ∧ Chg b v w w' v := by
  have hM1 : GMid w ((w.alloc (.cells #[.int .i64 pr, .int .i64 fa, .int .i64 fp, .int .i64 ta, .int .i64 tp, .string m, .bool iq] 106)).alloc (.cells #[.int .i64 0, .int .i64 0, .int .i64 0, .int .i64 0, .int .i64 0, .int .i64 0, .int .i64 0, .string ⟨#[]⟩, .bool false] 109)) b v v s [(w.heap.size + 1, #[.int .i64 0, .int .i64 0, .int .i64 0, .int .i64 0, .int .i64 0, .int .i64 0, .int .i64 0, .string ⟨#[]⟩, .bool false], 109), (w.heap.size, #[.int .i64 pr, .int .i64 fa, .int .i64 fp, .int .i64 ta, .int .i64 tp, .string m, .bool iq], 106)] := (((GMid.start h).alloc' _ _ _ rfl).alloc' _ _ _ (by simp))
  have hlt := h.lt
  clear h
  obtain ⟨⟨a0, a1, a2, a3, a4, a5, a6, a7, a8⟩, af⟩ := hM1.box.get; obtain ⟨⟨z0, z1, z2, z3, z4, z5, z6, z7, z8⟩, zf⟩ := c9g hM1.at0; obtain ⟨⟨d0, d1, d2, d3, d4, d5, d6⟩, df⟩ := c7 hM1.at1
  have hM : Hid _ := hM1
  clear hM1
  rcases ci : innerI pr tp s.l with _ | x
  · have HV : Hid (outsV s pr m fa fp tp iq = .agg #[.int .i64 16, .int .i64 0, .int .i64 0, .int .i64 0, .int .i64 0, .int .i64 0, .int .i64 0, .string ⟨#[]⟩, .bool false]) := by show _ = _; unfold outsV; rw [ci]; rfl
    have HL : Hid (outsL s pr m fa fp tp = s.l) := by show _ = _; unfold outsL; rw [ci]
    have hiv := innerV_none ci
    go_enter Tryz.func82, Tryz.ntmps82
    go_upto_region 1 with fail
    go_cut [5, 6] (fun s5 s6 wx => ∃ k, s5 = .pointer (some ⟨k, 0, none⟩) ∧ s6 = .bool false ∧ GMid w wx b v v s ((k, #[.int .i64 0, .int .i64 0], 98) :: [(w.heap.size + 1, #[.int .i64 0, .int .i64 0, .int .i64 0, .int .i64 0, .int .i64 0, .int .i64 0, .int .i64 0, .string ⟨#[]⟩, .bool false], 109), (w.heap.size, #[.int .i64 pr, .int .i64 fa, .int .i64 fp, .int .i64 ta, .int .i64 tp, .string m, .bool iq], 106)]))
    case first =>
      go_region_held3 (fun w' => w'.cell? ⟨w.heap.size, 0, none⟩ = some (.int .i64 pr) ∧ w'.cell? ⟨w.heap.size, 1, none⟩ = some (.int .i64 fa) ∧ w'.cell? ⟨w.heap.size, 2, none⟩ = some (.int .i64 fp) ∧ w'.cell? ⟨w.heap.size, 4, none⟩ = some (.int .i64 tp)) (first | (simp [*]; done) | (have hne := lt_of_block hM.out.at1; simp only [cell_alloc_lt hne]; simp [*]; done) | (simp only [cell_set_lt (show w.heap.size < w.heap.size + 1 + 1 by omega)]; simp [*]; done) | (have hne := lt_of_block hM.out.at1; simp only [cell_set_lt hne, cell_alloc_lt hne]; simp [*]; done) | go_keep) (first | (go_at_call 100; refine (bInner hM.out.drew.box hn _ _).mono ?_; rintro e w1 ⟨rfl, hb1⟩; rw [hiv]; have hM1 := hM.out.drew.call hb1; clear hM hb1; clear a0 a1 a2 a3 a4 a5 a6 a7 a8 af z0 z1 z2 z3 z4 z5 z6 z7 z8 zf d0 d1 d2 d3 d4 d5 d6 df; obtain ⟨⟨a0, a1, a2, a3, a4, a5, a6, a7, a8⟩, af⟩ := hM1.box.get; obtain ⟨⟨z0, z1, z2, z3, z4, z5, z6, z7, z8⟩, zf⟩ := c9g hM1.at0; obtain ⟨⟨d0, d1, d2, d3, d4, d5, d6⟩, df⟩ := c7 hM1.at1; have hM : Hid _ := hM1; clear hM1) | (go_at_call 100; refine (bInner (hM.out.alloc' #[.int .i64 0, .int .i64 0] 98 (w.heap.size + 2) (by simp)).drew.box hn _ _).mono ?_; rintro e w1 ⟨rfl, hb1⟩; rw [hiv]; have hM1 := (hM.out.alloc' #[.int .i64 0, .int .i64 0] 98 (w.heap.size + 2) (by simp)).drew.call hb1; clear hM hb1; clear a0 a1 a2 a3 a4 a5 a6 a7 a8 af z0 z1 z2 z3 z4 z5 z6 z7 z8 zf d0 d1 d2 d3 d4 d5 d6 df; obtain ⟨⟨a0, a1, a2, a3, a4, a5, a6, a7, a8⟩, af⟩ := hM1.box.get; obtain ⟨⟨e0, e1⟩, ef⟩ := c2 hM1.at0; obtain ⟨⟨z0, z1, z2, z3, z4, z5, z6, z7, z8⟩, zf⟩ := c9g hM1.at1; obtain ⟨⟨d0, d1, d2, d3, d4, d5, d6⟩, df⟩ := c7 hM1.at2; have hM : Hid _ := hM1; clear hM1))
      all_goals (go_wp2_with fail; go_meet; first | exact ⟨w1.heap.size, rfl, rfl, hM.out.alloc' _ _ _ rfl⟩ | exact ⟨w.heap.size + 2, rfl, rfl, (hM.out.set0 0 _).set0 1 _⟩)
    case rest =>
      obtain ⟨k, rfl, rfl, hM1⟩ := hcut
      clear hM
      clear a0 a1 a2 a3 a4 a5 a6 a7 a8 af z0 z1 z2 z3 z4 z5 z6 z7 z8 zf d0 d1 d2 d3 d4 d5 d6 df
      obtain ⟨⟨a0, a1, a2, a3, a4, a5, a6, a7, a8⟩, af⟩ := hM1.box.get; obtain ⟨⟨e0, e1⟩, ef⟩ := c2 hM1.at0; obtain ⟨⟨z0, z1, z2, z3, z4, z5, z6, z7, z8⟩, zf⟩ := c9g hM1.at1; obtain ⟨⟨d0, d1, d2, d3, d4, d5, d6⟩, df⟩ := c7 hM1.at2
      have hM : Hid _ := hM1
      clear hM1
      go_wp2_with fail
      go_region
      go_wp2_with fail
      refine bodyPost_ret (v := .agg #[.int .i64 16, .int .i64 0, .int .i64 0, .int .i64 0, .int .i64 0, .int .i64 0, .int .i64 0, .string ⟨#[]⟩, .bool false]) (by simp [results, Tryz.results82, go_sem, z0, z1, z2, z3, z4, z5, z6, z7, z8]) rfl ⟨by rw [HV.out], ?_⟩
      have hE := (((((((((hM.out.set1 0 (.int .i64 16)).set1 1 (.int .i64 0)).set1 2 (.int .i64 0)).set1 3 (.int .i64 0)).set1 4 (.int .i64 0)).set1 5 (.int .i64 0)).set1 6 (.int .i64 0)).set1 7 (.string ⟨#[]⟩)).set1 8 (.bool false)).drew
      rw [HL.out]
      exact ⟨hE.box, hE.chg⟩
  · obtain ⟨xia, xib⟩ := hia x (List.mem_of_find?_eq_some ci)
    have hiv := innerV_some ci
    have HDE : Hid (∀ W, BoxAt W b v s → Calls Tryz.prog 108 #[.pointer (some ⟨b, 0, none⟩), .agg #[.int .i64 pr, .int .i64 fa, .int .i64 fp, .int .i64 ta, .int .i64 tp, .string m, .bool iq], .agg #[.int .i64 fa, .int .i64 fp], .agg #[.int .i64 x.ia, .int .i64 x.ip]] W fun e w' => e = .returned (.agg #[.int .i64 0, .int .i64 0, .int .i64 pr, .int .i64 fa, .int .i64 fp, .int .i64 x.ia, .int .i64 x.ip, .string (btwM pr m fa fp x.ia x.ip), .bool iq]) ∧ BoxAt w' b v { s with l := passL pr x.ia x.ip fa fp 1 (byteAt m 13) s.tm s.l } ∧ Chg b v W w' v) := fun W hW => deliver_any hW hn hq0 hq1 pr fa fp ta tp m iq fa fp x.ia x.ip hm hat h4 hp0 hp1 hf0 hf1 xia xib
    cases c1 : hasS pr x.ia x.ip fa fp s.l
    · have HV : Hid (outsV s pr m fa fp tp iq = .agg #[.int .i64 16, .int .i64 0, .int .i64 0, .int .i64 0, .int .i64 0, .int .i64 0, .int .i64 0, .string ⟨#[]⟩, .bool false]) := by show _ = _; unfold outsV; rw [ci]; simp only [c1]; rfl
      have HL : Hid (outsL s pr m fa fp tp = s.l) := by show _ = _; unfold outsL; rw [ci]; simp only [c1]; rfl
      clear ci HDE
      go_enter Tryz.func82, Tryz.ntmps82
      go_upto_region 1 with fail
      go_cut [5, 6] (fun s5 s6 wx => ∃ k, s5 = .pointer (some ⟨k, 0, none⟩) ∧ s6 = .bool true ∧ GMid w wx b v v s ((k, #[.int .i64 x.ia, .int .i64 x.ip], 98) :: [(w.heap.size + 1, #[.int .i64 0, .int .i64 0, .int .i64 0, .int .i64 0, .int .i64 0, .int .i64 0, .int .i64 0, .string ⟨#[]⟩, .bool false], 109), (w.heap.size, #[.int .i64 pr, .int .i64 fa, .int .i64 fp, .int .i64 ta, .int .i64 tp, .string m, .bool iq], 106)]))
      case first =>
        go_region_held3 (fun w' => w'.cell? ⟨w.heap.size, 0, none⟩ = some (.int .i64 pr) ∧ w'.cell? ⟨w.heap.size, 1, none⟩ = some (.int .i64 fa) ∧ w'.cell? ⟨w.heap.size, 2, none⟩ = some (.int .i64 fp) ∧ w'.cell? ⟨w.heap.size, 4, none⟩ = some (.int .i64 tp)) (first | (simp [*]; done) | (have hne := lt_of_block hM.out.at1; simp only [cell_alloc_lt hne]; simp [*]; done) | (simp only [cell_set_lt (show w.heap.size < w.heap.size + 1 + 1 by omega)]; simp [*]; done) | (have hne := lt_of_block hM.out.at1; simp only [cell_set_lt hne, cell_alloc_lt hne]; simp [*]; done) | go_keep) (first | (go_at_call 100; refine (bInner hM.out.drew.box hn _ _).mono ?_; rintro e w1 ⟨rfl, hb1⟩; rw [hiv]; have hM1 := hM.out.drew.call hb1; clear hM hb1; clear a0 a1 a2 a3 a4 a5 a6 a7 a8 af z0 z1 z2 z3 z4 z5 z6 z7 z8 zf d0 d1 d2 d3 d4 d5 d6 df; obtain ⟨⟨a0, a1, a2, a3, a4, a5, a6, a7, a8⟩, af⟩ := hM1.box.get; obtain ⟨⟨z0, z1, z2, z3, z4, z5, z6, z7, z8⟩, zf⟩ := c9g hM1.at0; obtain ⟨⟨d0, d1, d2, d3, d4, d5, d6⟩, df⟩ := c7 hM1.at1; have hM : Hid _ := hM1; clear hM1) | (go_at_call 100; refine (bInner (hM.out.alloc' #[.int .i64 0, .int .i64 0] 98 (w.heap.size + 2) (by simp)).drew.box hn _ _).mono ?_; rintro e w1 ⟨rfl, hb1⟩; rw [hiv]; have hM1 := (hM.out.alloc' #[.int .i64 0, .int .i64 0] 98 (w.heap.size + 2) (by simp)).drew.call hb1; clear hM hb1; clear a0 a1 a2 a3 a4 a5 a6 a7 a8 af z0 z1 z2 z3 z4 z5 z6 z7 z8 zf d0 d1 d2 d3 d4 d5 d6 df; obtain ⟨⟨a0, a1, a2, a3, a4, a5, a6, a7, a8⟩, af⟩ := hM1.box.get; obtain ⟨⟨e0, e1⟩, ef⟩ := c2 hM1.at0; obtain ⟨⟨z0, z1, z2, z3, z4, z5, z6, z7, z8⟩, zf⟩ := c9g hM1.at1; obtain ⟨⟨d0, d1, d2, d3, d4, d5, d6⟩, df⟩ := c7 hM1.at2; have hM : Hid _ := hM1; clear hM1))
        all_goals (go_wp2_with fail; go_meet; first | exact ⟨w1.heap.size, rfl, rfl, hM.out.alloc' _ _ _ rfl⟩ | exact ⟨w.heap.size + 2, rfl, rfl, (hM.out.set0 0 _).set0 1 _⟩)
      case rest =>
        obtain ⟨k, rfl, rfl, hM1⟩ := hcut
        clear hM
        clear a0 a1 a2 a3 a4 a5 a6 a7 a8 af z0 z1 z2 z3 z4 z5 z6 z7 z8 zf d0 d1 d2 d3 d4 d5 d6 df
        obtain ⟨⟨a0, a1, a2, a3, a4, a5, a6, a7, a8⟩, af⟩ := hM1.box.get; obtain ⟨⟨e0, e1⟩, ef⟩ := c2 hM1.at0; obtain ⟨⟨z0, z1, z2, z3, z4, z5, z6, z7, z8⟩, zf⟩ := c9g hM1.at1; obtain ⟨⟨d0, d1, d2, d3, d4, d5, d6⟩, df⟩ := c7 hM1.at2
        have hM : Hid _ := hM1
        clear hM1
        go_wp2_with fail
        go_region_held3 (fun w' => w'.cell? ⟨w.heap.size, 0, none⟩ = some (.int .i64 pr) ∧ w'.cell? ⟨w.heap.size, 1, none⟩ = some (.int .i64 fa) ∧ w'.cell? ⟨w.heap.size, 2, none⟩ = some (.int .i64 fp) ∧ w'.cell? ⟨k, 0, none⟩ = some (.int .i64 x.ia) ∧ w'.cell? ⟨k, 1, none⟩ = some (.int .i64 x.ip)) (simp [*]) (first | (go_at_call 107; refine (bHas hM.out.drew.box hn _ _ _ _ _).mono ?_; rintro e w1 ⟨rfl, hb1⟩; have hM1 := hM.out.drew.call hb1; clear hM hb1 e0 e1 ef; clear a0 a1 a2 a3 a4 a5 a6 a7 a8 af z0 z1 z2 z3 z4 z5 z6 z7 z8 zf d0 d1 d2 d3 d4 d5 d6 df; obtain ⟨⟨a0, a1, a2, a3, a4, a5, a6, a7, a8⟩, af⟩ := hM1.box.get; obtain ⟨⟨e0, e1⟩, ef⟩ := c2 hM1.at0; obtain ⟨⟨z0, z1, z2, z3, z4, z5, z6, z7, z8⟩, zf⟩ := c9g hM1.at1; obtain ⟨⟨d0, d1, d2, d3, d4, d5, d6⟩, df⟩ := c7 hM1.at2; have hM : Hid _ := hM1; clear hM1))
        go_wp2_with fail
        refine bodyPost_ret (v := .agg #[.int .i64 16, .int .i64 0, .int .i64 0, .int .i64 0, .int .i64 0, .int .i64 0, .int .i64 0, .string ⟨#[]⟩, .bool false]) (by simp [results, Tryz.results82, go_sem, z0, z1, z2, z3, z4, z5, z6, z7, z8]) rfl ⟨by rw [HV.out], ?_⟩
        have hE := ((((((((hM.out.set1 0 (.int .i64 16)).set1 1 (.int .i64 0)).set1 2 (.int .i64 0)).set1 3 (.int .i64 0)).set1 4 (.int .i64 0)).set1 5 (.int .i64 0)).set1 6 (.int .i64 0)).set1 7 (.string ⟨#[]⟩)).set1 8 (.bool false)
        rw [HL.out]
        exact ⟨hE.box, hE.chg⟩
    · have HV : Hid (outsV s pr m fa fp tp iq = .agg #[.int .i64 0, .int .i64 0, .int .i64 pr, .int .i64 fa, .int .i64 fp, .int .i64 x.ia, .int .i64 x.ip, .string (btwM pr m fa fp x.ia x.ip), .bool iq]) := by show _ = _; unfold outsV; rw [ci]; simp only [c1]; rfl
      have HL : Hid (outsL s pr m fa fp tp = passL pr x.ia x.ip fa fp 1 (byteAt m 13) s.tm s.l) := by show _ = _; unfold outsL; rw [ci]; simp only [c1]; rfl
      clear ci
      generalize btwM pr m fa fp x.ia x.ip = BM at HV HDE
      generalize passL pr x.ia x.ip fa fp 1 (byteAt m 13) s.tm s.l = PL at HL HDE
      go_enter Tryz.func82, Tryz.ntmps82
      go_upto_region 1 with fail
      go_cut [5, 6] (fun s5 s6 wx => ∃ k, s5 = .pointer (some ⟨k, 0, none⟩) ∧ s6 = .bool true ∧ GMid w wx b v v s ((k, #[.int .i64 x.ia, .int .i64 x.ip], 98) :: [(w.heap.size + 1, #[.int .i64 0, .int .i64 0, .int .i64 0, .int .i64 0, .int .i64 0, .int .i64 0, .int .i64 0, .string ⟨#[]⟩, .bool false], 109), (w.heap.size, #[.int .i64 pr, .int .i64 fa, .int .i64 fp, .int .i64 ta, .int .i64 tp, .string m, .bool iq], 106)]))
      case first =>
        go_region_held3 (fun w' => w'.cell? ⟨w.heap.size, 0, none⟩ = some (.int .i64 pr) ∧ w'.cell? ⟨w.heap.size, 1, none⟩ = some (.int .i64 fa) ∧ w'.cell? ⟨w.heap.size, 2, none⟩ = some (.int .i64 fp) ∧ w'.cell? ⟨w.heap.size, 4, none⟩ = some (.int .i64 tp)) (first | (simp [*]; done) | (have hne := lt_of_block hM.out.at1; simp only [cell_alloc_lt hne]; simp [*]; done) | (simp only [cell_set_lt (show w.heap.size < w.heap.size + 1 + 1 by omega)]; simp [*]; done) | (have hne := lt_of_block hM.out.at1; simp only [cell_set_lt hne, cell_alloc_lt hne]; simp [*]; done) | go_keep) (first | (go_at_call 100; refine (bInner hM.out.drew.box hn _ _).mono ?_; rintro e w1 ⟨rfl, hb1⟩; rw [hiv]; have hM1 := hM.out.drew.call hb1; clear hM hb1; clear a0 a1 a2 a3 a4 a5 a6 a7 a8 af z0 z1 z2 z3 z4 z5 z6 z7 z8 zf d0 d1 d2 d3 d4 d5 d6 df; obtain ⟨⟨a0, a1, a2, a3, a4, a5, a6, a7, a8⟩, af⟩ := hM1.box.get; obtain ⟨⟨z0, z1, z2, z3, z4, z5, z6, z7, z8⟩, zf⟩ := c9g hM1.at0; obtain ⟨⟨d0, d1, d2, d3, d4, d5, d6⟩, df⟩ := c7 hM1.at1; have hM : Hid _ := hM1; clear hM1) | (go_at_call 100; refine (bInner (hM.out.alloc' #[.int .i64 0, .int .i64 0] 98 (w.heap.size + 2) (by simp)).drew.box hn _ _).mono ?_; rintro e w1 ⟨rfl, hb1⟩; rw [hiv]; have hM1 := (hM.out.alloc' #[.int .i64 0, .int .i64 0] 98 (w.heap.size + 2) (by simp)).drew.call hb1; clear hM hb1; clear a0 a1 a2 a3 a4 a5 a6 a7 a8 af z0 z1 z2 z3 z4 z5 z6 z7 z8 zf d0 d1 d2 d3 d4 d5 d6 df; obtain ⟨⟨a0, a1, a2, a3, a4, a5, a6, a7, a8⟩, af⟩ := hM1.box.get; obtain ⟨⟨e0, e1⟩, ef⟩ := c2 hM1.at0; obtain ⟨⟨z0, z1, z2, z3, z4, z5, z6, z7, z8⟩, zf⟩ := c9g hM1.at1; obtain ⟨⟨d0, d1, d2, d3, d4, d5, d6⟩, df⟩ := c7 hM1.at2; have hM : Hid _ := hM1; clear hM1))
        all_goals (go_wp2_with fail; go_meet; first | exact ⟨w1.heap.size, rfl, rfl, hM.out.alloc' _ _ _ rfl⟩ | exact ⟨w.heap.size + 2, rfl, rfl, (hM.out.set0 0 _).set0 1 _⟩)
      case rest =>
        obtain ⟨k, rfl, rfl, hM1⟩ := hcut
        clear hM
        clear a0 a1 a2 a3 a4 a5 a6 a7 a8 af z0 z1 z2 z3 z4 z5 z6 z7 z8 zf d0 d1 d2 d3 d4 d5 d6 df
        obtain ⟨⟨a0, a1, a2, a3, a4, a5, a6, a7, a8⟩, af⟩ := hM1.box.get; obtain ⟨⟨e0, e1⟩, ef⟩ := c2 hM1.at0; obtain ⟨⟨z0, z1, z2, z3, z4, z5, z6, z7, z8⟩, zf⟩ := c9g hM1.at1; obtain ⟨⟨d0, d1, d2, d3, d4, d5, d6⟩, df⟩ := c7 hM1.at2
        have hM : Hid _ := hM1
        clear hM1
        go_wp2_with fail
        go_region_held3 (fun w' => w'.cell? ⟨w.heap.size, 0, none⟩ = some (.int .i64 pr) ∧ w'.cell? ⟨w.heap.size, 1, none⟩ = some (.int .i64 fa) ∧ w'.cell? ⟨w.heap.size, 2, none⟩ = some (.int .i64 fp) ∧ w'.cell? ⟨k, 0, none⟩ = some (.int .i64 x.ia) ∧ w'.cell? ⟨k, 1, none⟩ = some (.int .i64 x.ip)) (simp [*]) (first | (go_at_call 107; refine (bHas hM.out.drew.box hn _ _ _ _ _).mono ?_; rintro e w1 ⟨rfl, hb1⟩; have hM1 := hM.out.drew.call hb1; clear hM hb1 e0 e1 ef; clear a0 a1 a2 a3 a4 a5 a6 a7 a8 af z0 z1 z2 z3 z4 z5 z6 z7 z8 zf d0 d1 d2 d3 d4 d5 d6 df; obtain ⟨⟨a0, a1, a2, a3, a4, a5, a6, a7, a8⟩, af⟩ := hM1.box.get; obtain ⟨⟨e0, e1⟩, ef⟩ := c2 hM1.at0; obtain ⟨⟨z0, z1, z2, z3, z4, z5, z6, z7, z8⟩, zf⟩ := c9g hM1.at1; obtain ⟨⟨d0, d1, d2, d3, d4, d5, d6⟩, df⟩ := c7 hM1.at2; have hM : Hid _ := hM1; clear hM1))
        go_wp2_with (go_at_call 108; refine (HDE.out _ hM.out.box).mono ?_; rintro e w2 ⟨rfl, hbx2, hch2⟩; have hM1 := hM.out.change hbx2 hch2; clear hM hbx2 hch2 e0 e1 ef; clear a0 a1 a2 a3 a4 a5 a6 a7 a8 af z0 z1 z2 z3 z4 z5 z6 z7 z8 zf d0 d1 d2 d3 d4 d5 d6 df; obtain ⟨⟨a0, a1, a2, a3, a4, a5, a6, a7, a8⟩, af⟩ := hM1.box.get; obtain ⟨⟨e0, e1⟩, ef⟩ := c2 hM1.at0; obtain ⟨⟨z0, z1, z2, z3, z4, z5, z6, z7, z8⟩, zf⟩ := c9g hM1.at1; obtain ⟨⟨d0, d1, d2, d3, d4, d5, d6⟩, df⟩ := c7 hM1.at2; have hM : Hid _ := hM1; clear hM1)
        refine bodyPost_ret (v := .agg #[.int .i64 0, .int .i64 0, .int .i64 pr, .int .i64 fa, .int .i64 fp, .int .i64 x.ia, .int .i64 x.ip, .string BM, .bool iq]) (by simp [results, Tryz.results82, go_sem, z0, z1, z2, z3, z4, z5, z6, z7, z8]) rfl ⟨by rw [HV.out], ?_⟩
        have hE := ((((((((hM.out.set1 0 (.int .i64 0)).set1 1 (.int .i64 0)).set1 2 (.int .i64 pr)).set1 3 (.int .i64 fa)).set1 4 (.int .i64 fp)).set1 5 (.int .i64 x.ia)).set1 6 (.int .i64 x.ip)).set1 7 (.string BM)).set1 8 (.bool iq)
        rw [HL.out]
        exact ⟨hE.box, hE.chg⟩
end Go.Proofs.YtfkjobiapjhacabGreat
