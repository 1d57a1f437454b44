/- Contracts of package gateway: errors from outside. Own work. -/
import Derived.Test.YtfkjobiapjhacabGreatTd
import Derived.Test.YtfkjobiapjhacabGreatG4
namespace Go.Proofs.YtfkjobiapjhacabGreat
open Go.RowKit
attribute [local go_sem ↓] Go.wp_at_zero Go.wp_at_succ

/-- What errors want of a box's sessions besides. -/
def OKT (s : BX) : Prop := ∀ x ∈ s.l, (0 ≤ x.ip ∧ x.ip ≤ 65535) ∧ (0 ≤ x.port ∧ x.port ≤ 65535)
def noV (k : Int) : Value := .agg #[.int .i64 k, .int .i64 0, .int .i64 0, .int .i64 0, .int .i64 0, .int .i64 0, .int .i64 0, .string ⟨#[]⟩, .bool false]
set_option maxRecDepth 100000 in
set_option maxHeartbeats 2000000 in
theorem troubleOut_any {w : World} {b : Nat} {v : Value} {s : BX} (h : BoxAt w b v s) (hk : OKB s) (ht : OKT s) (fa fp ta tp : Int) (m : ByteArray) (iq : Bool) (q aa ap ba bp : Int) (hm : m.size ≤ 900) (h36 : 36 ≤ m.size)
    (f0 : 0 ≤ fa) (f1 : fa ≤ 4294967295) (b0 : 0 ≤ ba) (b1 : ba ≤ 4294967295) (r0 : 0 ≤ bp) (r1 : bp ≤ 65535) :
    Calls Tryz.prog 97 #[.pointer (some ⟨b, 0, none⟩), .agg #[.int .i64 1, .int .i64 fa, .int .i64 fp, .int .i64 ta, .int .i64 tp, .string m, .bool iq], .agg #[.int .i64 q, .int .i64 aa, .int .i64 ap, .int .i64 ba, .int .i64 bp, .string (abB m), .bool false]] w fun e w' => (∃ qb, e = .returned ((trOut s 1 fa fp tp q aa ap ba bp m).val qb)) ∧ BoxAt w' b v s ∧ Chg b v w w' v := by
  have hn : s.l.length ≤ 1000 := by have := hk.len; omega
  have HRE : Hid (∀ x, innerI q ap s.l = some x → ∀ W, Calls Tryz.prog 116 #[.agg #[.int .i64 1, .int .i64 fa, .int .i64 fp, .int .i64 ta, .int .i64 tp, .string m, .bool iq], .int .i64 fa, .int .i64 x.ia, .agg #[.int .i64 x.ia, .int .i64 x.ip], .agg #[.int .i64 ba, .int .i64 bp]] W fun e w' => e = .returned (.agg #[.int .i64 1, .int .i64 fa, .int .i64 fp, .int .i64 x.ia, .int .i64 tp, .string (retM m fa x.ia x.ia x.ip ba bp), .bool iq]) ∧ Below W.heap.size W w') := fun x hx W => by
    have hmem := List.mem_of_find?_eq_some hx
    obtain ⟨i0, i1⟩ := hk.ia x hmem
    obtain ⟨⟨p0, p1⟩, -⟩ := ht x hmem
    exact Retold_any fa fp ta tp m iq fa x.ia x.ia x.ip ba bp W hm h36 f0 f1 i0 i1 i0 i1 p0 p1 b0 b1 r0 r1
  clear hk ht hm h36 f0 f1 b0 b1 r0 r1
  obtain ⟨TR, hTR⟩ : ∃ TR, TR = trOut s 1 fa fp tp q aa ap ba bp m := ⟨_, rfl⟩
  rw [← hTR]
  unfold trOut at hTR
  generalize abB m = B at hTR ⊢
  have hM1 : GMid w (((w.alloc (.cells #[.int .i64 1, .int .i64 fa, .int .i64 fp, .int .i64 ta, .int .i64 tp, .string m, .bool iq] 106)).alloc (.cells #[.int .i64 q, .int .i64 aa, .int .i64 ap, .int .i64 ba, .int .i64 bp, .string B, .bool false] 106)).alloc (.cells #[.int .i64 0, .int .i64 0, .int .i64 0, .int .i64 0, .int .i64 0, .int .i64 0, .int .i64 0, .string ⟨#[]⟩, .bool false] 109)) b v v s [(w.heap.size + 2, #[.int .i64 0, .int .i64 0, .int .i64 0, .int .i64 0, .int .i64 0, .int .i64 0, .int .i64 0, .string ⟨#[]⟩, .bool false], 109), (w.heap.size + 1, #[.int .i64 q, .int .i64 aa, .int .i64 ap, .int .i64 ba, .int .i64 bp, .string B, .bool false], 106), (w.heap.size, #[.int .i64 1, .int .i64 fa, .int .i64 fp, .int .i64 ta, .int .i64 tp, .string m, .bool iq], 106)] := (((GMid.start h).alloc' _ _ _ rfl).alloc' _ _ _ (by simp)).alloc' _ _ _ (by simp)
  have hlt := h.lt
  clear h
  obtain ⟨⟨a0, a1, a2, a3, a4, a5, a6, a7, a8⟩, af⟩ := hM1.box.get; obtain ⟨⟨z0, z1, z2, z3, z4, z5, z6, z7, z8⟩, zf⟩ := c9g hM1.at0; obtain ⟨⟨y0, y1, y2, y3, y4, y5, y6⟩, yf⟩ := c7 hM1.at1; obtain ⟨⟨d0, d1, d2, d3, d4, d5, d6⟩, df⟩ := c7 hM1.at2
  have hM : Hid _ := hM1
  clear hM1
  by_cases c1 : q = 1 ∧ ¬ byteAt B 0 = 8
  · rw [if_pos c1] at hTR
    have kq : (q == 1) = true := by simp [c1.1]
    have kk : (byteAt B 0 != 8) = true := by simp [c1.2]
    subst hTR
    clear c1 HRE
    go_enter Tryz.func97, Tryz.ntmps97
    go_wp2_with (first | (go_at_call 91; refine (Kind_any _ _ _ _ _ _ _ _).mono ?_; rintro e wk ⟨rfl, hb1⟩; have hM1 := hM.out.call hb1; clear hM hb1; clear a0 a1 a2 a3 a4 a5 a6 a7 a8 af z0 z1 z2 z3 z4 z5 z6 z7 z8 zf y0 y1 y2 y3 y4 y5 y6 yf d0 d1 d2 d3 d4 d5 d6 df; obtain ⟨⟨a0, a1, a2, a3, a4, a5, a6, a7, a8⟩, af⟩ := hM1.box.get; obtain ⟨⟨z0, z1, z2, z3, z4, z5, z6, z7, z8⟩, zf⟩ := c9g hM1.at0; obtain ⟨⟨y0, y1, y2, y3, y4, y5, y6⟩, yf⟩ := c7 hM1.at1; obtain ⟨⟨d0, d1, d2, d3, d4, d5, d6⟩, df⟩ := c7 hM1.at2; have hM : Hid _ := hM1; clear hM1))
    refine bodyPost_ret (v := .agg #[.int .i64 16, .int .i64 0, .int .i64 0, .int .i64 0, .int .i64 0, .int .i64 0, .int .i64 0, .string ⟨#[]⟩, .bool false]) (by simp [results, Tryz.results97, go_sem, z0, z1, z2, z3, z4, z5, z6, z7, z8]) rfl ⟨⟨_, rfl⟩, ?_⟩
    have hE := ((((((((hM.out.set0 0 (.int .i64 16)).set0 1 (.int .i64 0)).set0 2 (.int .i64 0)).set0 3 (.int .i64 0)).set0 4 (.int .i64 0)).set0 5 (.int .i64 0)).set0 6 (.int .i64 0)).set0 7 (.string ⟨#[]⟩)).set0 8 (.bool false)
    exact ⟨hE.box, hE.chg⟩
  · rw [if_neg c1] at hTR
    have hq : (q == 1) = false ∨ (q == 1) = true ∧ (byteAt B 0 != 8) = false := by
      by_cases e : q = 1
      · right
        have : byteAt B 0 = 8 := Decidable.byContradiction fun h => c1 ⟨e, h⟩
        simp [e, this]
      · left; simp [e]
    clear c1
    rcases ci : innerI q ap s.l with _ | x
    · rw [ci] at hTR
      simp only at hTR
      subst hTR
      have hiv := innerV_none ci
      clear HRE ci
      go_enter Tryz.func97, Tryz.ntmps97
      go_upto_region 1 with fail
      go_cut [17] (fun s17 wx => s17 = .bool false ∧ GMid w wx b v v s [(w.heap.size + 2, #[.int .i64 0, .int .i64 0, .int .i64 0, .int .i64 0, .int .i64 0, .int .i64 0, .int .i64 0, .string ⟨#[]⟩, .bool false], 109), (w.heap.size + 1, #[.int .i64 q, .int .i64 aa, .int .i64 ap, .int .i64 ba, .int .i64 bp, .string B, .bool false], 106), (w.heap.size, #[.int .i64 1, .int .i64 fa, .int .i64 fp, .int .i64 ta, .int .i64 tp, .string m, .bool iq], 106)])
      case first =>
        rcases hq with kq | ⟨kq, kk⟩
        · go_wp2_with (first | (go_at_call 91; refine (Kind_any _ _ _ _ _ _ _ _).mono ?_; rintro e wk ⟨rfl, hb1⟩; have hM1 := hM.out.call hb1; clear hM hb1; clear a0 a1 a2 a3 a4 a5 a6 a7 a8 af z0 z1 z2 z3 z4 z5 z6 z7 z8 zf y0 y1 y2 y3 y4 y5 y6 yf d0 d1 d2 d3 d4 d5 d6 df; obtain ⟨⟨a0, a1, a2, a3, a4, a5, a6, a7, a8⟩, af⟩ := hM1.box.get; obtain ⟨⟨z0, z1, z2, z3, z4, z5, z6, z7, z8⟩, zf⟩ := c9g hM1.at0; obtain ⟨⟨y0, y1, y2, y3, y4, y5, y6⟩, yf⟩ := c7 hM1.at1; obtain ⟨⟨d0, d1, d2, d3, d4, d5, d6⟩, df⟩ := c7 hM1.at2; have hM : Hid _ := hM1; clear hM1))
          go_meet
          exact ⟨rfl, hM.out⟩
        · go_wp2_with (first | (go_at_call 91; refine (Kind_any _ _ _ _ _ _ _ _).mono ?_; rintro e wk ⟨rfl, hb1⟩; have hM1 := hM.out.call hb1; clear hM hb1; clear a0 a1 a2 a3 a4 a5 a6 a7 a8 af z0 z1 z2 z3 z4 z5 z6 z7 z8 zf y0 y1 y2 y3 y4 y5 y6 yf d0 d1 d2 d3 d4 d5 d6 df; obtain ⟨⟨a0, a1, a2, a3, a4, a5, a6, a7, a8⟩, af⟩ := hM1.box.get; obtain ⟨⟨z0, z1, z2, z3, z4, z5, z6, z7, z8⟩, zf⟩ := c9g hM1.at0; obtain ⟨⟨y0, y1, y2, y3, y4, y5, y6⟩, yf⟩ := c7 hM1.at1; obtain ⟨⟨d0, d1, d2, d3, d4, d5, d6⟩, df⟩ := c7 hM1.at2; have hM : Hid _ := hM1; clear hM1))
          go_meet
          exact ⟨rfl, hM.out⟩
      case rest =>
        obtain ⟨rfl, hM1⟩ := hcut
        clear hM
        clear a0 a1 a2 a3 a4 a5 a6 a7 a8 af z0 z1 z2 z3 z4 z5 z6 z7 z8 zf y0 y1 y2 y3 y4 y5 y6 yf d0 d1 d2 d3 d4 d5 d6 df; obtain ⟨⟨a0, a1, a2, a3, a4, a5, a6, a7, a8⟩, af⟩ := hM1.box.get; obtain ⟨⟨z0, z1, z2, z3, z4, z5, z6, z7, z8⟩, zf⟩ := c9g hM1.at0; obtain ⟨⟨y0, y1, y2, y3, y4, y5, y6⟩, yf⟩ := c7 hM1.at1; obtain ⟨⟨d0, d1, d2, d3, d4, d5, d6⟩, df⟩ := c7 hM1.at2; have hM : Hid _ := hM1; clear hM1
        clear hq
        have hwc := lt_of_block hM.out.at1
        go_upto_region 3 with fail
        go_cut [7, 8] (fun s7 s8 wx => ∃ k, s7 = .pointer (some ⟨k, 0, none⟩) ∧ s8 = .bool false ∧ GMid w wx b v v s ((k, #[.int .i64 0, .int .i64 0], 98) :: [(w.heap.size + 2, #[.int .i64 0, .int .i64 0, .int .i64 0, .int .i64 0, .int .i64 0, .int .i64 0, .int .i64 0, .string ⟨#[]⟩, .bool false], 109), (w.heap.size + 1, #[.int .i64 q, .int .i64 aa, .int .i64 ap, .int .i64 ba, .int .i64 bp, .string B, .bool false], 106), (w.heap.size, #[.int .i64 1, .int .i64 fa, .int .i64 fp, .int .i64 ta, .int .i64 tp, .string m, .bool iq], 106)]))
        case first =>
          go_region_held3 (fun w' => w'.cell? ⟨w.heap.size + 1, 0, none⟩ = some (.int .i64 q) ∧ w'.cell? ⟨w.heap.size + 1, 2, none⟩ = some (.int .i64 ap)) (first | (simp [*]; done) | (have hne := lt_of_block hM.out.at1; simp only [cell_alloc_lt hne]; simp [*]; done) | (simp only [cell_set_lt hwc]; simp [*]; done) | (simp only [cell_set_lt hwc]; exact ⟨y0, y2⟩) | (simp only [cell_set_lt hwc]; exact y0) | (simp only [cell_set_lt hwc]; exact y2) | (have hne := lt_of_block hM.out.at1; simp only [cell_set_lt hne, cell_alloc_lt hne]; simp [*]; done) | go_keep) (first | (go_at_call 100; refine (bInner hM.out.drew.box hn _ _).mono ?_; rintro e w1 ⟨rfl, hb1⟩; rw [hiv]; have hM1 := hM.out.drew.call hb1; clear hM hb1; clear a0 a1 a2 a3 a4 a5 a6 a7 a8 af z0 z1 z2 z3 z4 z5 z6 z7 z8 zf y0 y1 y2 y3 y4 y5 y6 yf d0 d1 d2 d3 d4 d5 d6 df; obtain ⟨⟨a0, a1, a2, a3, a4, a5, a6, a7, a8⟩, af⟩ := hM1.box.get; obtain ⟨⟨z0, z1, z2, z3, z4, z5, z6, z7, z8⟩, zf⟩ := c9g hM1.at0; obtain ⟨⟨y0, y1, y2, y3, y4, y5, y6⟩, yf⟩ := c7 hM1.at1; obtain ⟨⟨d0, d1, d2, d3, d4, d5, d6⟩, df⟩ := c7 hM1.at2; have hM : Hid _ := hM1; clear hM1) | (go_at_call 100; refine (bInner (hM.out.alloc' #[.int .i64 0, .int .i64 0] 98 wc.heap.size rfl).drew.box hn _ _).mono ?_; rintro e w1 ⟨rfl, hb1⟩; rw [hiv]; have hM1 := (hM.out.alloc' #[.int .i64 0, .int .i64 0] 98 wc.heap.size rfl).drew.call hb1; clear hM hb1; clear a0 a1 a2 a3 a4 a5 a6 a7 a8 af z0 z1 z2 z3 z4 z5 z6 z7 z8 zf y0 y1 y2 y3 y4 y5 y6 yf d0 d1 d2 d3 d4 d5 d6 df; obtain ⟨⟨a0, a1, a2, a3, a4, a5, a6, a7, a8⟩, af⟩ := hM1.box.get; obtain ⟨⟨e0, e1⟩, ef⟩ := c2 hM1.at0; obtain ⟨⟨z0, z1, z2, z3, z4, z5, z6, z7, z8⟩, zf⟩ := c9g hM1.at1; obtain ⟨⟨y0, y1, y2, y3, y4, y5, y6⟩, yf⟩ := c7 hM1.at2; obtain ⟨⟨d0, d1, d2, d3, d4, d5, d6⟩, df⟩ := c7 hM1.at3; have hM : Hid _ := hM1; clear hM1))
          · go_wp2_with fail; go_meet; exact ⟨w1.heap.size, rfl, rfl, hM.out.alloc' _ _ _ rfl⟩
          · go_wp2_with fail; go_meet; exact ⟨wc.heap.size, rfl, rfl, (hM.out.set0 0 (.int .i64 0)).set0 1 (.int .i64 0)⟩
        case rest =>
          obtain ⟨k, rfl, rfl, hM1⟩ := hcut
          clear hM
          clear a0 a1 a2 a3 a4 a5 a6 a7 a8 af z0 z1 z2 z3 z4 z5 z6 z7 z8 zf y0 y1 y2 y3 y4 y5 y6 yf d0 d1 d2 d3 d4 d5 d6 df
          obtain ⟨⟨a0, a1, a2, a3, a4, a5, a6, a7, a8⟩, af⟩ := hM1.box.get; obtain ⟨⟨e0, e1⟩, ef⟩ := c2 hM1.at0; obtain ⟨⟨z0, z1, z2, z3, z4, z5, z6, z7, z8⟩, zf⟩ := c9g hM1.at1; obtain ⟨⟨y0, y1, y2, y3, y4, y5, y6⟩, yf⟩ := c7 hM1.at2; obtain ⟨⟨d0, d1, d2, d3, d4, d5, d6⟩, df⟩ := c7 hM1.at3
          have hM : Hid _ := hM1
          clear hM1
          go_wp2_with fail
          go_region
          go_wp2_with fail
          refine bodyPost_ret (v := .agg #[.int .i64 16, .int .i64 0, .int .i64 0, .int .i64 0, .int .i64 0, .int .i64 0, .int .i64 0, .string ⟨#[]⟩, .bool false]) (by simp [results, Tryz.results97, go_sem, z0, z1, z2, z3, z4, z5, z6, z7, z8]) rfl ⟨⟨_, rfl⟩, ?_⟩
          have hE := (((((((((hM.out.set1 0 (.int .i64 16)).set1 1 (.int .i64 0)).set1 2 (.int .i64 0)).set1 3 (.int .i64 0)).set1 4 (.int .i64 0)).set1 5 (.int .i64 0)).set1 6 (.int .i64 0)).set1 7 (.string ⟨#[]⟩)).set1 8 (.bool false)).drew
          exact ⟨hE.box, hE.chg⟩
    · rw [ci] at hTR
      simp only at hTR
      have hiv := innerV_some ci
      have HR2 : Hid _ := HRE.out x ci
      clear HRE ci
      generalize retM m fa x.ia x.ia x.ip ba bp = RM' at HR2 hTR
      go_enter Tryz.func97, Tryz.ntmps97
      go_upto_region 1 with fail
      go_cut [17] (fun s17 wx => s17 = .bool false ∧ GMid w wx b v v s [(w.heap.size + 2, #[.int .i64 0, .int .i64 0, .int .i64 0, .int .i64 0, .int .i64 0, .int .i64 0, .int .i64 0, .string ⟨#[]⟩, .bool false], 109), (w.heap.size + 1, #[.int .i64 q, .int .i64 aa, .int .i64 ap, .int .i64 ba, .int .i64 bp, .string B, .bool false], 106), (w.heap.size, #[.int .i64 1, .int .i64 fa, .int .i64 fp, .int .i64 ta, .int .i64 tp, .string m, .bool iq], 106)])
      case first =>
        rcases hq with kq | ⟨kq, kk⟩
        · go_wp2_with (first | (go_at_call 91; refine (Kind_any _ _ _ _ _ _ _ _).mono ?_; rintro e wk ⟨rfl, hb1⟩; have hM1 := hM.out.call hb1; clear hM hb1; clear a0 a1 a2 a3 a4 a5 a6 a7 a8 af z0 z1 z2 z3 z4 z5 z6 z7 z8 zf y0 y1 y2 y3 y4 y5 y6 yf d0 d1 d2 d3 d4 d5 d6 df; obtain ⟨⟨a0, a1, a2, a3, a4, a5, a6, a7, a8⟩, af⟩ := hM1.box.get; obtain ⟨⟨z0, z1, z2, z3, z4, z5, z6, z7, z8⟩, zf⟩ := c9g hM1.at0; obtain ⟨⟨y0, y1, y2, y3, y4, y5, y6⟩, yf⟩ := c7 hM1.at1; obtain ⟨⟨d0, d1, d2, d3, d4, d5, d6⟩, df⟩ := c7 hM1.at2; have hM : Hid _ := hM1; clear hM1))
          go_meet
          exact ⟨rfl, hM.out⟩
        · go_wp2_with (first | (go_at_call 91; refine (Kind_any _ _ _ _ _ _ _ _).mono ?_; rintro e wk ⟨rfl, hb1⟩; have hM1 := hM.out.call hb1; clear hM hb1; clear a0 a1 a2 a3 a4 a5 a6 a7 a8 af z0 z1 z2 z3 z4 z5 z6 z7 z8 zf y0 y1 y2 y3 y4 y5 y6 yf d0 d1 d2 d3 d4 d5 d6 df; obtain ⟨⟨a0, a1, a2, a3, a4, a5, a6, a7, a8⟩, af⟩ := hM1.box.get; obtain ⟨⟨z0, z1, z2, z3, z4, z5, z6, z7, z8⟩, zf⟩ := c9g hM1.at0; obtain ⟨⟨y0, y1, y2, y3, y4, y5, y6⟩, yf⟩ := c7 hM1.at1; obtain ⟨⟨d0, d1, d2, d3, d4, d5, d6⟩, df⟩ := c7 hM1.at2; have hM : Hid _ := hM1; clear hM1))
          go_meet
          exact ⟨rfl, hM.out⟩
      case rest =>
        obtain ⟨rfl, hM1⟩ := hcut
        clear hM
        clear a0 a1 a2 a3 a4 a5 a6 a7 a8 af z0 z1 z2 z3 z4 z5 z6 z7 z8 zf y0 y1 y2 y3 y4 y5 y6 yf d0 d1 d2 d3 d4 d5 d6 df; obtain ⟨⟨a0, a1, a2, a3, a4, a5, a6, a7, a8⟩, af⟩ := hM1.box.get; obtain ⟨⟨z0, z1, z2, z3, z4, z5, z6, z7, z8⟩, zf⟩ := c9g hM1.at0; obtain ⟨⟨y0, y1, y2, y3, y4, y5, y6⟩, yf⟩ := c7 hM1.at1; obtain ⟨⟨d0, d1, d2, d3, d4, d5, d6⟩, df⟩ := c7 hM1.at2; have hM : Hid _ := hM1; clear hM1
        clear hq
        have hwc := lt_of_block hM.out.at1
        go_upto_region 3 with fail
        go_cut [7, 8] (fun s7 s8 wx => ∃ k, s7 = .pointer (some ⟨k, 0, none⟩) ∧ s8 = .bool true ∧ GMid w wx b v v s ((k, #[.int .i64 x.ia, .int .i64 x.ip], 98) :: [(w.heap.size + 2, #[.int .i64 0, .int .i64 0, .int .i64 0, .int .i64 0, .int .i64 0, .int .i64 0, .int .i64 0, .string ⟨#[]⟩, .bool false], 109), (w.heap.size + 1, #[.int .i64 q, .int .i64 aa, .int .i64 ap, .int .i64 ba, .int .i64 bp, .string B, .bool false], 106), (w.heap.size, #[.int .i64 1, .int .i64 fa, .int .i64 fp, .int .i64 ta, .int .i64 tp, .string m, .bool iq], 106)]))
        case first =>
          go_region_held3 (fun w' => w'.cell? ⟨w.heap.size + 1, 0, none⟩ = some (.int .i64 q) ∧ w'.cell? ⟨w.heap.size + 1, 2, none⟩ = some (.int .i64 ap)) (first | (simp [*]; done) | (have hne := lt_of_block hM.out.at1; simp only [cell_alloc_lt hne]; simp [*]; done) | (simp only [cell_set_lt hwc]; simp [*]; done) | (simp only [cell_set_lt hwc]; exact ⟨y0, y2⟩) | (simp only [cell_set_lt hwc]; exact y0) | (simp only [cell_set_lt hwc]; exact y2) | (have hne := lt_of_block hM.out.at1; simp only [cell_set_lt hne, cell_alloc_lt hne]; simp [*]; done) | go_keep) (first | (go_at_call 100; refine (bInner hM.out.drew.box hn _ _).mono ?_; rintro e w1 ⟨rfl, hb1⟩; rw [hiv]; have hM1 := hM.out.drew.call hb1; clear hM hb1; clear a0 a1 a2 a3 a4 a5 a6 a7 a8 af z0 z1 z2 z3 z4 z5 z6 z7 z8 zf y0 y1 y2 y3 y4 y5 y6 yf d0 d1 d2 d3 d4 d5 d6 df; obtain ⟨⟨a0, a1, a2, a3, a4, a5, a6, a7, a8⟩, af⟩ := hM1.box.get; obtain ⟨⟨z0, z1, z2, z3, z4, z5, z6, z7, z8⟩, zf⟩ := c9g hM1.at0; obtain ⟨⟨y0, y1, y2, y3, y4, y5, y6⟩, yf⟩ := c7 hM1.at1; obtain ⟨⟨d0, d1, d2, d3, d4, d5, d6⟩, df⟩ := c7 hM1.at2; have hM : Hid _ := hM1; clear hM1) | (go_at_call 100; refine (bInner (hM.out.alloc' #[.int .i64 0, .int .i64 0] 98 wc.heap.size rfl).drew.box hn _ _).mono ?_; rintro e w1 ⟨rfl, hb1⟩; rw [hiv]; have hM1 := (hM.out.alloc' #[.int .i64 0, .int .i64 0] 98 wc.heap.size rfl).drew.call hb1; clear hM hb1; clear a0 a1 a2 a3 a4 a5 a6 a7 a8 af z0 z1 z2 z3 z4 z5 z6 z7 z8 zf y0 y1 y2 y3 y4 y5 y6 yf d0 d1 d2 d3 d4 d5 d6 df; obtain ⟨⟨a0, a1, a2, a3, a4, a5, a6, a7, a8⟩, af⟩ := hM1.box.get; obtain ⟨⟨e0, e1⟩, ef⟩ := c2 hM1.at0; obtain ⟨⟨z0, z1, z2, z3, z4, z5, z6, z7, z8⟩, zf⟩ := c9g hM1.at1; obtain ⟨⟨y0, y1, y2, y3, y4, y5, y6⟩, yf⟩ := c7 hM1.at2; obtain ⟨⟨d0, d1, d2, d3, d4, d5, d6⟩, df⟩ := c7 hM1.at3; have hM : Hid _ := hM1; clear hM1))
          · go_wp2_with fail; go_meet; exact ⟨w1.heap.size, rfl, rfl, hM.out.alloc' _ _ _ rfl⟩
          · go_wp2_with fail; go_meet; exact ⟨wc.heap.size, rfl, rfl, (hM.out.set0 0 (.int .i64 x.ia)).set0 1 (.int .i64 x.ip)⟩
        case rest =>
          obtain ⟨k, rfl, rfl, hM1⟩ := hcut
          clear hM
          clear a0 a1 a2 a3 a4 a5 a6 a7 a8 af z0 z1 z2 z3 z4 z5 z6 z7 z8 zf y0 y1 y2 y3 y4 y5 y6 yf d0 d1 d2 d3 d4 d5 d6 df
          obtain ⟨⟨a0, a1, a2, a3, a4, a5, a6, a7, a8⟩, af⟩ := hM1.box.get; obtain ⟨⟨e0, e1⟩, ef⟩ := c2 hM1.at0; obtain ⟨⟨z0, z1, z2, z3, z4, z5, z6, z7, z8⟩, zf⟩ := c9g hM1.at1; obtain ⟨⟨y0, y1, y2, y3, y4, y5, y6⟩, yf⟩ := c7 hM1.at2; obtain ⟨⟨d0, d1, d2, d3, d4, d5, d6⟩, df⟩ := c7 hM1.at3
          have hM : Hid _ := hM1
          clear hM1
          by_cases c2 : aa = s.ou
          · have k2 : (aa != s.ou) = false := by simp [c2]
            cases c3 : hasS q x.ia x.ip ba bp s.l
            · rw [if_pos (Or.inr c3)] at hTR
              subst hTR
              clear c2 HR2
              go_wp2_with fail
              go_region_held3 (fun w' => w'.cell? ⟨w.heap.size + 1, 0, none⟩ = some (.int .i64 q) ∧ w'.cell? ⟨w.heap.size + 1, 1, none⟩ = some (.int .i64 aa) ∧ w'.cell? ⟨w.heap.size + 1, 3, none⟩ = some (.int .i64 ba) ∧ w'.cell? ⟨w.heap.size + 1, 4, none⟩ = some (.int .i64 bp) ∧ w'.cell? ⟨b, 0, none⟩ = some (.int .i64 s.ou) ∧ w'.cell? ⟨k, 0, none⟩ = some (.int .i64 x.ia) ∧ w'.cell? ⟨k, 1, none⟩ = some (.int .i64 x.ip)) (simp [*]) (first | (go_at_call 107; refine (bHas hM.out.drew.box hn _ _ _ _ _).mono ?_; rintro e w1 ⟨rfl, hb1⟩; have hM1 := hM.out.drew.call hb1; clear hM hb1 e0 e1 ef; clear a0 a1 a2 a3 a4 a5 a6 a7 a8 af z0 z1 z2 z3 z4 z5 z6 z7 z8 zf y0 y1 y2 y3 y4 y5 y6 yf d0 d1 d2 d3 d4 d5 d6 df; obtain ⟨⟨a0, a1, a2, a3, a4, a5, a6, a7, a8⟩, af⟩ := hM1.box.get; obtain ⟨⟨e0, e1⟩, ef⟩ := c2 hM1.at0; obtain ⟨⟨z0, z1, z2, z3, z4, z5, z6, z7, z8⟩, zf⟩ := c9g hM1.at1; obtain ⟨⟨y0, y1, y2, y3, y4, y5, y6⟩, yf⟩ := c7 hM1.at2; obtain ⟨⟨d0, d1, d2, d3, d4, d5, d6⟩, df⟩ := c7 hM1.at3; have hM : Hid _ := hM1; clear hM1))
              go_wp2_with fail
              refine bodyPost_ret (v := .agg #[.int .i64 16, .int .i64 0, .int .i64 0, .int .i64 0, .int .i64 0, .int .i64 0, .int .i64 0, .string ⟨#[]⟩, .bool false]) (by simp [results, Tryz.results97, go_sem, z0, z1, z2, z3, z4, z5, z6, z7, z8]) rfl ⟨⟨_, rfl⟩, ?_⟩
              have hE := ((((((((hM.out.set1 0 (.int .i64 16)).set1 1 (.int .i64 0)).set1 2 (.int .i64 0)).set1 3 (.int .i64 0)).set1 4 (.int .i64 0)).set1 5 (.int .i64 0)).set1 6 (.int .i64 0)).set1 7 (.string ⟨#[]⟩)).set1 8 (.bool false)
              exact ⟨hE.box, hE.chg⟩
            · rw [if_neg (fun h => h.elim (fun h => h c2) (fun h => absurd (c3.symm.trans h) (by decide)))] at hTR
              subst hTR
              clear c2
              go_wp2_with fail
              go_region_held3 (fun w' => w'.cell? ⟨w.heap.size + 1, 0, none⟩ = some (.int .i64 q) ∧ w'.cell? ⟨w.heap.size + 1, 1, none⟩ = some (.int .i64 aa) ∧ w'.cell? ⟨w.heap.size + 1, 3, none⟩ = some (.int .i64 ba) ∧ w'.cell? ⟨w.heap.size + 1, 4, none⟩ = some (.int .i64 bp) ∧ w'.cell? ⟨b, 0, none⟩ = some (.int .i64 s.ou) ∧ w'.cell? ⟨k, 0, none⟩ = some (.int .i64 x.ia) ∧ w'.cell? ⟨k, 1, none⟩ = some (.int .i64 x.ip)) (simp [*]) (first | (go_at_call 107; refine (bHas hM.out.drew.box hn _ _ _ _ _).mono ?_; rintro e w1 ⟨rfl, hb1⟩; have hM1 := hM.out.drew.call hb1; clear hM hb1 e0 e1 ef; clear a0 a1 a2 a3 a4 a5 a6 a7 a8 af z0 z1 z2 z3 z4 z5 z6 z7 z8 zf y0 y1 y2 y3 y4 y5 y6 yf d0 d1 d2 d3 d4 d5 d6 df; obtain ⟨⟨a0, a1, a2, a3, a4, a5, a6, a7, a8⟩, af⟩ := hM1.box.get; obtain ⟨⟨e0, e1⟩, ef⟩ := c2 hM1.at0; obtain ⟨⟨z0, z1, z2, z3, z4, z5, z6, z7, z8⟩, zf⟩ := c9g hM1.at1; obtain ⟨⟨y0, y1, y2, y3, y4, y5, y6⟩, yf⟩ := c7 hM1.at2; obtain ⟨⟨d0, d1, d2, d3, d4, d5, d6⟩, df⟩ := c7 hM1.at3; have hM : Hid _ := hM1; clear hM1))
              go_wp2_with fail
              refine (HR2.out _).mono ?_
              rintro e w3 ⟨rfl, hb1⟩
              have hM1 := hM.out.call hb1
              have hz3 := lt_of_block hM1.at1
              clear hM hb1 e0 e1 ef
              clear a0 a1 a2 a3 a4 a5 a6 a7 a8 af z0 z1 z2 z3 z4 z5 z6 z7 z8 zf y0 y1 y2 y3 y4 y5 y6 yf d0 d1 d2 d3 d4 d5 d6 df
              obtain ⟨⟨z0, z1, z2, z3, z4, z5, z6, z7, z8⟩, zf⟩ := c9g hM1.at1
              have hM : Hid _ := hM1
              clear hM1
              go_wp2_with fail
              refine bodyPost_ret (v := .agg #[.int .i64 0, .int .i64 0, .int .i64 1, .int .i64 fa, .int .i64 fp, .int .i64 x.ia, .int .i64 tp, .string RM', .bool iq]) (by simp [results, Tryz.results97, go_sem, z0, z1, z2, z3, z4, z5, z6, z7, z8, hz3]) rfl ⟨⟨_, rfl⟩, ?_⟩
              have hE := (((((((((hM.out.set1 0 (.int .i64 0)).set1 1 (.int .i64 0)).set1 2 (.int .i64 1)).set1 3 (.int .i64 fa)).set1 4 (.int .i64 fp)).set1 5 (.int .i64 x.ia)).set1 6 (.int .i64 tp)).set1 7 (.string RM')).set1 8 (.bool iq)).alloc' #[.int .i64 1, .int .i64 fa, .int .i64 fp, .int .i64 x.ia, .int .i64 tp, .string RM', .bool iq] 106 w3.heap.size (by simp)
              exact ⟨hE.box, hE.chg⟩
          · have k2 : (aa != s.ou) = true := by simp [c2]
            rw [if_pos (Or.inl c2)] at hTR
            subst hTR
            clear c2 HR2
            go_wp2_with fail
            go_region
            go_wp2_with fail
            refine bodyPost_ret (v := .agg #[.int .i64 16, .int .i64 0, .int .i64 0, .int .i64 0, .int .i64 0, .int .i64 0, .int .i64 0, .string ⟨#[]⟩, .bool false]) (by simp [results, Tryz.results97, go_sem, z0, z1, z2, z3, z4, z5, z6, z7, z8]) rfl ⟨⟨_, rfl⟩, ?_⟩
            have hE := (((((((((hM.out.set1 0 (.int .i64 16)).set1 1 (.int .i64 0)).set1 2 (.int .i64 0)).set1 3 (.int .i64 0)).set1 4 (.int .i64 0)).set1 5 (.int .i64 0)).set1 6 (.int .i64 0)).set1 7 (.string ⟨#[]⟩)).set1 8 (.bool false)).drew
            exact ⟨hE.box, hE.chg⟩
end Go.Proofs.YtfkjobiapjhacabGreat
