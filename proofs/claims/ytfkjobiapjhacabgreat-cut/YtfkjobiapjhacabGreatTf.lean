/- Contracts of package gateway: errors from inside; trouble. Own work. -/
import Derived.Test.YtfkjobiapjhacabGreatTe
namespace Go.Proofs.YtfkjobiapjhacabGreat
open Go.RowKit
attribute [local go_sem ↓] Go.wp_at_zero Go.wp_at_succ

theorem outerI_bd {s : BX} (ht : OKT s) (q a p : Int) : 0 ≤ outerI q a p s.l ∧ outerI q a p s.l ≤ 65535 := by
  unfold outerI
  split
  · rename_i x hx
    exact (ht x (List.mem_of_find?_eq_some hx)).2
  · decide
set_option maxRecDepth 100000 in
set_option maxHeartbeats 2000000 in
theorem troubleIn_any {w : World} {b : Nat} {v : Value} {s : BX} (h : BoxAt w b v s) (hk : OKB s) (ht : OKT s) (fa fp ta tp : Int) (m : ByteArray) (iq : Bool) (q aa ap ba bp : Int) (hm : m.size ≤ 900) (h36 : 36 ≤ m.size)
    (t0 : 0 ≤ ta) (t1 : ta ≤ 4294967295) (b0 : 0 ≤ aa) (b1 : aa ≤ 4294967295) (r0 : 0 ≤ ap) (r1 : ap ≤ 65535) :
    Calls Tryz.prog 96 #[.pointer (some ⟨b, 0, none⟩), .agg #[.int .i64 1, .int .i64 fa, .int .i64 fp, .int .i64 ta, .int .i64 tp, .string m, .bool iq], .agg #[.int .i64 q, .int .i64 aa, .int .i64 ap, .int .i64 ba, .int .i64 bp, .string (abB m), .bool false]] w fun e w' => (∃ qb, e = .returned ((trIn s 1 fp ta tp q aa ap ba bp m).val qb)) ∧ BoxAt w' b v s ∧ Chg b v w w' v := by
  have hn : s.l.length ≤ 1000 := by have := hk.len; omega
  have hob := outerI_bd ht q ba bp
  have HR2 : Hid (∀ W, Calls Tryz.prog 116 #[.agg #[.int .i64 1, .int .i64 fa, .int .i64 fp, .int .i64 ta, .int .i64 tp, .string m, .bool iq], .int .i64 s.ou, .int .i64 ta, .agg #[.int .i64 aa, .int .i64 ap], .agg #[.int .i64 s.ou, .int .i64 (outerI q ba bp s.l)]] W fun e w' => e = .returned (.agg #[.int .i64 1, .int .i64 s.ou, .int .i64 fp, .int .i64 ta, .int .i64 tp, .string (retM m s.ou ta aa ap s.ou (outerI q ba bp s.l)), .bool iq]) ∧ Below W.heap.size W w') := fun W =>
    Retold_any fa fp ta tp m iq s.ou ta aa ap s.ou (outerI q ba bp s.l) W hm h36 hk.o0 hk.o1 t0 t1 b0 b1 r0 r1 hk.o0 hk.o1 hob.1 hob.2
  clear hk ht hm h36 t0 t1 b0 b1 r0 r1 hob
  obtain ⟨TR, hTR⟩ : ∃ TR, TR = trIn s 1 fp ta tp q aa ap ba bp m := ⟨_, rfl⟩
  rw [← hTR]
  unfold trIn at hTR
  generalize abB m = B at hTR ⊢
  generalize retM m s.ou ta aa ap s.ou (outerI q ba bp s.l) = RM' at HR2 hTR
  have hM1 : GMid w (((w.alloc (.cells #[.int .i64 1, .int .i64 fa, .int .i64 fp, .int .i64 ta, .int .i64 tp, .string m, .bool iq] 106)).alloc (.cells #[.int .i64 q, .int .i64 aa, .int .i64 ap, .int .i64 ba, .int .i64 bp, .string B, .bool false] 106)).alloc (.cells #[.int .i64 0, .int .i64 0, .int .i64 0, .int .i64 0, .int .i64 0, .int .i64 0, .int .i64 0, .string ⟨#[]⟩, .bool false] 109)) b v v s [(w.heap.size + 2, #[.int .i64 0, .int .i64 0, .int .i64 0, .int .i64 0, .int .i64 0, .int .i64 0, .int .i64 0, .string ⟨#[]⟩, .bool false], 109), (w.heap.size + 1, #[.int .i64 q, .int .i64 aa, .int .i64 ap, .int .i64 ba, .int .i64 bp, .string B, .bool false], 106), (w.heap.size, #[.int .i64 1, .int .i64 fa, .int .i64 fp, .int .i64 ta, .int .i64 tp, .string m, .bool iq], 106)] := (((GMid.start h).alloc' _ _ _ rfl).alloc' _ _ _ (by simp)).alloc' _ _ _ (by simp)
  have hlt := h.lt
  clear h
  obtain ⟨⟨a0, a1, a2, a3, a4, a5, a6, a7, a8⟩, af⟩ := hM1.box.get; obtain ⟨⟨z0, z1, z2, z3, z4, z5, z6, z7, z8⟩, zf⟩ := c9g hM1.at0; obtain ⟨⟨y0, y1, y2, y3, y4, y5, y6⟩, yf⟩ := c7 hM1.at1; obtain ⟨⟨d0, d1, d2, d3, d4, d5, d6⟩, df⟩ := c7 hM1.at2
  have hM : Hid _ := hM1
  clear hM1
  by_cases c1 : q = 1 ∧ ¬ byteAt B 0 = 0
  · rw [if_pos c1] at hTR
    have kq : (q == 1) = true := by simp [c1.1]
    have kk : (byteAt B 0 != 0) = true := by simp [c1.2]
    subst hTR
    clear c1 HR2
    go_enter Tryz.func96, Tryz.ntmps96
    go_wp2_with (first | (go_at_call 91; refine (Kind_any _ _ _ _ _ _ _ _).mono ?_; rintro e wk ⟨rfl, hb1⟩; have hM1 := hM.out.call hb1; clear hM hb1; clear a0 a1 a2 a3 a4 a5 a6 a7 a8 af z0 z1 z2 z3 z4 z5 z6 z7 z8 zf y0 y1 y2 y3 y4 y5 y6 yf d0 d1 d2 d3 d4 d5 d6 df; obtain ⟨⟨a0, a1, a2, a3, a4, a5, a6, a7, a8⟩, af⟩ := hM1.box.get; obtain ⟨⟨z0, z1, z2, z3, z4, z5, z6, z7, z8⟩, zf⟩ := c9g hM1.at0; obtain ⟨⟨y0, y1, y2, y3, y4, y5, y6⟩, yf⟩ := c7 hM1.at1; obtain ⟨⟨d0, d1, d2, d3, d4, d5, d6⟩, df⟩ := c7 hM1.at2; have hM : Hid _ := hM1; clear hM1))
    refine bodyPost_ret (v := .agg #[.int .i64 16, .int .i64 0, .int .i64 0, .int .i64 0, .int .i64 0, .int .i64 0, .int .i64 0, .string ⟨#[]⟩, .bool false]) (by simp [results, Tryz.results96, go_sem, z0, z1, z2, z3, z4, z5, z6, z7, z8]) rfl ⟨⟨_, rfl⟩, ?_⟩
    have hE := ((((((((hM.out.set0 0 (.int .i64 16)).set0 1 (.int .i64 0)).set0 2 (.int .i64 0)).set0 3 (.int .i64 0)).set0 4 (.int .i64 0)).set0 5 (.int .i64 0)).set0 6 (.int .i64 0)).set0 7 (.string ⟨#[]⟩)).set0 8 (.bool false)
    exact ⟨hE.box, hE.chg⟩
  · rw [if_neg c1] at hTR
    have hq : (q == 1) = false ∨ (q == 1) = true ∧ (byteAt B 0 != 0) = false := by
      by_cases e : q = 1
      · right
        have : byteAt B 0 = 0 := Decidable.byContradiction fun h => c1 ⟨e, h⟩
        simp [e, this]
      · left; simp [e]
    clear c1
    go_enter Tryz.func96, Tryz.ntmps96
    go_upto_region 1 with fail
    go_cut [17] (fun s17 wx => s17 = .bool false ∧ GMid w wx b v v s [(w.heap.size + 2, #[.int .i64 0, .int .i64 0, .int .i64 0, .int .i64 0, .int .i64 0, .int .i64 0, .int .i64 0, .string ⟨#[]⟩, .bool false], 109), (w.heap.size + 1, #[.int .i64 q, .int .i64 aa, .int .i64 ap, .int .i64 ba, .int .i64 bp, .string B, .bool false], 106), (w.heap.size, #[.int .i64 1, .int .i64 fa, .int .i64 fp, .int .i64 ta, .int .i64 tp, .string m, .bool iq], 106)])
    case first =>
      rcases hq with kq | ⟨kq, kk⟩
      · go_wp2_with (first | (go_at_call 91; refine (Kind_any _ _ _ _ _ _ _ _).mono ?_; rintro e wk ⟨rfl, hb1⟩; have hM1 := hM.out.call hb1; clear hM hb1; clear a0 a1 a2 a3 a4 a5 a6 a7 a8 af z0 z1 z2 z3 z4 z5 z6 z7 z8 zf y0 y1 y2 y3 y4 y5 y6 yf d0 d1 d2 d3 d4 d5 d6 df; obtain ⟨⟨a0, a1, a2, a3, a4, a5, a6, a7, a8⟩, af⟩ := hM1.box.get; obtain ⟨⟨z0, z1, z2, z3, z4, z5, z6, z7, z8⟩, zf⟩ := c9g hM1.at0; obtain ⟨⟨y0, y1, y2, y3, y4, y5, y6⟩, yf⟩ := c7 hM1.at1; obtain ⟨⟨d0, d1, d2, d3, d4, d5, d6⟩, df⟩ := c7 hM1.at2; have hM : Hid _ := hM1; clear hM1))
        go_meet
        exact ⟨rfl, hM.out⟩
      · go_wp2_with (first | (go_at_call 91; refine (Kind_any _ _ _ _ _ _ _ _).mono ?_; rintro e wk ⟨rfl, hb1⟩; have hM1 := hM.out.call hb1; clear hM hb1; clear a0 a1 a2 a3 a4 a5 a6 a7 a8 af z0 z1 z2 z3 z4 z5 z6 z7 z8 zf y0 y1 y2 y3 y4 y5 y6 yf d0 d1 d2 d3 d4 d5 d6 df; obtain ⟨⟨a0, a1, a2, a3, a4, a5, a6, a7, a8⟩, af⟩ := hM1.box.get; obtain ⟨⟨z0, z1, z2, z3, z4, z5, z6, z7, z8⟩, zf⟩ := c9g hM1.at0; obtain ⟨⟨y0, y1, y2, y3, y4, y5, y6⟩, yf⟩ := c7 hM1.at1; obtain ⟨⟨d0, d1, d2, d3, d4, d5, d6⟩, df⟩ := c7 hM1.at2; have hM : Hid _ := hM1; clear hM1))
        go_meet
        exact ⟨rfl, hM.out⟩
    case rest =>
      obtain ⟨rfl, hM1⟩ := hcut
      clear hM
      clear a0 a1 a2 a3 a4 a5 a6 a7 a8 af z0 z1 z2 z3 z4 z5 z6 z7 z8 zf y0 y1 y2 y3 y4 y5 y6 yf d0 d1 d2 d3 d4 d5 d6 df; obtain ⟨⟨a0, a1, a2, a3, a4, a5, a6, a7, a8⟩, af⟩ := hM1.box.get; obtain ⟨⟨z0, z1, z2, z3, z4, z5, z6, z7, z8⟩, zf⟩ := c9g hM1.at0; obtain ⟨⟨y0, y1, y2, y3, y4, y5, y6⟩, yf⟩ := c7 hM1.at1; obtain ⟨⟨d0, d1, d2, d3, d4, d5, d6⟩, df⟩ := c7 hM1.at2; have hM : Hid _ := hM1; clear hM1
      clear hq
      by_cases c2 : ta = s.ou
      · have k2 : (ta == s.ou) = true := by simp [c2]
        rw [if_pos (Or.inl c2)] at hTR
        subst hTR
        clear c2 HR2
        go_wp2_with fail
        go_region
        go_wp2_with fail
        refine bodyPost_ret (v := .agg #[.int .i64 16, .int .i64 0, .int .i64 0, .int .i64 0, .int .i64 0, .int .i64 0, .int .i64 0, .string ⟨#[]⟩, .bool false]) (by simp [results, Tryz.results96, go_sem, z0, z1, z2, z3, z4, z5, z6, z7, z8]) rfl ⟨⟨_, rfl⟩, ?_⟩
        have hE := (((((((((hM.out.set0 0 (.int .i64 16)).set0 1 (.int .i64 0)).set0 2 (.int .i64 0)).set0 3 (.int .i64 0)).set0 4 (.int .i64 0)).set0 5 (.int .i64 0)).set0 6 (.int .i64 0)).set0 7 (.string ⟨#[]⟩)).set0 8 (.bool false)).drew
        exact ⟨hE.box, hE.chg⟩
      · have k2 : (ta == s.ou) = false := by simp [c2]
        cases c3 : hasS q ba bp aa ap s.l
        · rw [if_pos (Or.inr c3)] at hTR
          subst hTR
          clear c2 HR2
          go_wp2_with fail
          go_region_held3 (fun w' => w'.cell? ⟨w.heap.size + 1, 0, none⟩ = some (.int .i64 q) ∧ w'.cell? ⟨w.heap.size + 1, 1, none⟩ = some (.int .i64 aa) ∧ w'.cell? ⟨w.heap.size + 1, 2, none⟩ = some (.int .i64 ap) ∧ w'.cell? ⟨w.heap.size + 1, 3, none⟩ = some (.int .i64 ba) ∧ w'.cell? ⟨w.heap.size + 1, 4, none⟩ = some (.int .i64 bp) ∧ w'.cell? ⟨w.heap.size, 3, none⟩ = some (.int .i64 ta) ∧ w'.cell? ⟨b, 0, none⟩ = some (.int .i64 s.ou)) (simp [*]) (first | (go_at_call 107; refine (bHas hM.out.drew.box hn _ _ _ _ _).mono ?_; rintro e w1 ⟨rfl, hb1⟩; have hM1 := hM.out.drew.call hb1; clear hM hb1; clear a0 a1 a2 a3 a4 a5 a6 a7 a8 af z0 z1 z2 z3 z4 z5 z6 z7 z8 zf y0 y1 y2 y3 y4 y5 y6 yf d0 d1 d2 d3 d4 d5 d6 df; obtain ⟨⟨a0, a1, a2, a3, a4, a5, a6, a7, a8⟩, af⟩ := hM1.box.get; obtain ⟨⟨z0, z1, z2, z3, z4, z5, z6, z7, z8⟩, zf⟩ := c9g hM1.at0; obtain ⟨⟨y0, y1, y2, y3, y4, y5, y6⟩, yf⟩ := c7 hM1.at1; obtain ⟨⟨d0, d1, d2, d3, d4, d5, d6⟩, df⟩ := c7 hM1.at2; have hM : Hid _ := hM1; clear hM1))
          go_wp2_with fail
          refine bodyPost_ret (v := .agg #[.int .i64 16, .int .i64 0, .int .i64 0, .int .i64 0, .int .i64 0, .int .i64 0, .int .i64 0, .string ⟨#[]⟩, .bool false]) (by simp [results, Tryz.results96, go_sem, z0, z1, z2, z3, z4, z5, z6, z7, z8]) rfl ⟨⟨_, rfl⟩, ?_⟩
          have hE := ((((((((hM.out.set0 0 (.int .i64 16)).set0 1 (.int .i64 0)).set0 2 (.int .i64 0)).set0 3 (.int .i64 0)).set0 4 (.int .i64 0)).set0 5 (.int .i64 0)).set0 6 (.int .i64 0)).set0 7 (.string ⟨#[]⟩)).set0 8 (.bool false)
          exact ⟨hE.box, hE.chg⟩
        · rw [if_neg (fun h => h.elim c2 (fun h => absurd (c3.symm.trans h) (by decide)))] at hTR
          subst hTR
          clear c2
          obtain ⟨OP, hOP⟩ : ∃ OP, OP = outerI q ba bp s.l := ⟨_, rfl⟩
          rw [← hOP] at HR2
          go_wp2_with fail
          go_region_held3 (fun w' => w'.cell? ⟨w.heap.size + 1, 0, none⟩ = some (.int .i64 q) ∧ w'.cell? ⟨w.heap.size + 1, 1, none⟩ = some (.int .i64 aa) ∧ w'.cell? ⟨w.heap.size + 1, 2, none⟩ = some (.int .i64 ap) ∧ w'.cell? ⟨w.heap.size + 1, 3, none⟩ = some (.int .i64 ba) ∧ w'.cell? ⟨w.heap.size + 1, 4, none⟩ = some (.int .i64 bp) ∧ w'.cell? ⟨w.heap.size, 3, none⟩ = some (.int .i64 ta) ∧ w'.cell? ⟨b, 0, none⟩ = some (.int .i64 s.ou)) (simp [*]) (first | (go_at_call 107; refine (bHas hM.out.drew.box hn _ _ _ _ _).mono ?_; rintro e w1 ⟨rfl, hb1⟩; have hM1 := hM.out.drew.call hb1; clear hM hb1; clear a0 a1 a2 a3 a4 a5 a6 a7 a8 af z0 z1 z2 z3 z4 z5 z6 z7 z8 zf y0 y1 y2 y3 y4 y5 y6 yf d0 d1 d2 d3 d4 d5 d6 df; obtain ⟨⟨a0, a1, a2, a3, a4, a5, a6, a7, a8⟩, af⟩ := hM1.box.get; obtain ⟨⟨z0, z1, z2, z3, z4, z5, z6, z7, z8⟩, zf⟩ := c9g hM1.at0; obtain ⟨⟨y0, y1, y2, y3, y4, y5, y6⟩, yf⟩ := c7 hM1.at1; obtain ⟨⟨d0, d1, d2, d3, d4, d5, d6⟩, df⟩ := c7 hM1.at2; have hM : Hid _ := hM1; clear hM1))
          go_wp2_with fail
          go_region_held3 (fun w' => w'.cell? ⟨w.heap.size + 1, 0, none⟩ = some (.int .i64 q) ∧ w'.cell? ⟨w.heap.size + 1, 1, none⟩ = some (.int .i64 aa) ∧ w'.cell? ⟨w.heap.size + 1, 2, none⟩ = some (.int .i64 ap) ∧ w'.cell? ⟨w.heap.size + 1, 3, none⟩ = some (.int .i64 ba) ∧ w'.cell? ⟨w.heap.size + 1, 4, none⟩ = some (.int .i64 bp) ∧ w'.cell? ⟨w.heap.size, 3, none⟩ = some (.int .i64 ta) ∧ w'.cell? ⟨b, 0, none⟩ = some (.int .i64 s.ou)) (simp [*]) (first | (go_at_call 104; refine (bOuter hM.out.drew.box hn _ _ _).mono ?_; rintro e w2 ⟨rfl, hb1⟩; have hM1 := hM.out.drew.call hb1; clear hM hb1; clear a0 a1 a2 a3 a4 a5 a6 a7 a8 af z0 z1 z2 z3 z4 z5 z6 z7 z8 zf y0 y1 y2 y3 y4 y5 y6 yf d0 d1 d2 d3 d4 d5 d6 df; obtain ⟨⟨a0, a1, a2, a3, a4, a5, a6, a7, a8⟩, af⟩ := hM1.box.get; obtain ⟨⟨z0, z1, z2, z3, z4, z5, z6, z7, z8⟩, zf⟩ := c9g hM1.at0; obtain ⟨⟨y0, y1, y2, y3, y4, y5, y6⟩, yf⟩ := c7 hM1.at1; obtain ⟨⟨d0, d1, d2, d3, d4, d5, d6⟩, df⟩ := c7 hM1.at2; have hM : Hid _ := hM1; clear hM1))
          rw [← hOP]
          clear hOP
          go_upto_region 7 with fail
          have hM1 := hM.out.alloc' #[.int .i64 s.ou, .int .i64 OP] 98 w2.heap.size rfl
          clear hM
          clear a0 a1 a2 a3 a4 a5 a6 a7 a8 af z0 z1 z2 z3 z4 z5 z6 z7 z8 zf y0 y1 y2 y3 y4 y5 y6 yf d0 d1 d2 d3 d4 d5 d6 df
          obtain ⟨⟨a0, a1, a2, a3, a4, a5, a6, a7, a8⟩, af⟩ := hM1.box.get; obtain ⟨⟨e0, e1⟩, ef⟩ := c2 hM1.at0; obtain ⟨⟨z0, z1, z2, z3, z4, z5, z6, z7, z8⟩, zf⟩ := c9g hM1.at1; obtain ⟨⟨y0, y1, y2, y3, y4, y5, y6⟩, yf⟩ := c7 hM1.at2; obtain ⟨⟨d0, d1, d2, d3, d4, d5, d6⟩, df⟩ := c7 hM1.at3
          have n0 : w.heap.size < w2.heap.size + 1 := by have := lt_of_block hM1.at3; simpa using this
          have n1 : w.heap.size + 1 < w2.heap.size + 1 := by have := lt_of_block hM1.at2; simpa using this
          have nb : b < w2.heap.size + 1 := by have := hM1.box.lt; simpa using this
          have ne : w2.heap.size < w2.heap.size + 1 := by omega
          have hM : Hid _ := hM1
          clear hM1
          go_cut [9] (fun s9 wx => ∃ k, s9 = .pointer (some ⟨k, 0, none⟩) ∧ GMid w wx b v v s ((k, #[.int .i64 1, .int .i64 s.ou, .int .i64 fp, .int .i64 ta, .int .i64 tp, .string RM', .bool iq], 106) :: (w2.heap.size, #[.int .i64 s.ou, .int .i64 OP], 98) :: [(w.heap.size + 2, #[.int .i64 0, .int .i64 0, .int .i64 0, .int .i64 0, .int .i64 0, .int .i64 0, .int .i64 0, .string ⟨#[]⟩, .bool false], 109), (w.heap.size + 1, #[.int .i64 q, .int .i64 aa, .int .i64 ap, .int .i64 ba, .int .i64 bp, .string B, .bool false], 106), (w.heap.size, #[.int .i64 1, .int .i64 fa, .int .i64 fp, .int .i64 ta, .int .i64 tp, .string m, .bool iq], 106)]))
          case first =>
            go_region_held3 (fun w' => w'.cell? ⟨w.heap.size, 0, none⟩ = some (.int .i64 1) ∧ w'.cell? ⟨w.heap.size, 1, none⟩ = some (.int .i64 fa) ∧ w'.cell? ⟨w.heap.size, 2, none⟩ = some (.int .i64 fp) ∧ w'.cell? ⟨w.heap.size, 3, none⟩ = some (.int .i64 ta) ∧ w'.cell? ⟨w.heap.size, 4, none⟩ = some (.int .i64 tp) ∧ w'.cell? ⟨w.heap.size, 5, none⟩ = some (.string m) ∧ w'.cell? ⟨w.heap.size, 6, none⟩ = some (.bool iq) ∧ w'.cell? ⟨w.heap.size + 1, 1, none⟩ = some (.int .i64 aa) ∧ w'.cell? ⟨w.heap.size + 1, 2, none⟩ = some (.int .i64 ap) ∧ w'.cell? ⟨b, 0, none⟩ = some (.int .i64 s.ou) ∧ w'.cell? ⟨w2.heap.size, 0, none⟩ = some (.int .i64 s.ou) ∧ w'.cell? ⟨w2.heap.size, 1, none⟩ = some (.int .i64 OP)) (first | (simp [*]; done) | (simp only [cell_set_lt n0, cell_set_lt n1, cell_set_lt nb, cell_set_lt ne]; exact ⟨d0, d1, d2, d3, d4, d5, d6, y1, y2, a0, e0, e1⟩) | (have q0 := lt_of_block hM.out.at3; have q1 := lt_of_block hM.out.at2; have qb := hM.out.box.lt; have qe := lt_of_block hM.out.at0; simp only [cell_alloc_lt q0, cell_alloc_lt q1, cell_alloc_lt qb, cell_alloc_lt qe]; exact ⟨d0, d1, d2, d3, d4, d5, d6, y1, y2, a0, e0, e1⟩) | (have q0 := lt_of_block hM.out.at3; have q1 := lt_of_block hM.out.at2; have qb := hM.out.box.lt; have qe := lt_of_block hM.out.at0; simp only [cell_set_lt q0, cell_set_lt q1, cell_set_lt qb, cell_set_lt qe, cell_alloc_lt q0, cell_alloc_lt q1, cell_alloc_lt qb, cell_alloc_lt qe]; exact ⟨d0, d1, d2, d3, d4, d5, d6, y1, y2, a0, e0, e1⟩) | go_keep) (first | (go_at_call 116; refine (HR2.out _).mono ?_; rintro e w3 ⟨rfl, hb1⟩; have hM1 := hM.out.drew.call hb1; clear hM hb1; clear e0 e1 ef; clear a0 a1 a2 a3 a4 a5 a6 a7 a8 af z0 z1 z2 z3 z4 z5 z6 z7 z8 zf y0 y1 y2 y3 y4 y5 y6 yf d0 d1 d2 d3 d4 d5 d6 df; obtain ⟨⟨a0, a1, a2, a3, a4, a5, a6, a7, a8⟩, af⟩ := hM1.box.get; obtain ⟨⟨e0, e1⟩, ef⟩ := c2 hM1.at0; obtain ⟨⟨z0, z1, z2, z3, z4, z5, z6, z7, z8⟩, zf⟩ := c9g hM1.at1; obtain ⟨⟨y0, y1, y2, y3, y4, y5, y6⟩, yf⟩ := c7 hM1.at2; obtain ⟨⟨d0, d1, d2, d3, d4, d5, d6⟩, df⟩ := c7 hM1.at3; have hM : Hid _ := hM1; clear hM1) | (go_at_call 116; refine (HR2.out _).mono ?_; rintro e w3 ⟨rfl, hb1⟩; have hM1 := (hM.out.alloc' #[.int .i64 0, .int .i64 0, .int .i64 0, .int .i64 0, .int .i64 0, .string ⟨#[]⟩, .bool false] 106 (w2.heap.size + 1) (by simp)).drew.call hb1; clear hM hb1; clear e0 e1 ef; clear a0 a1 a2 a3 a4 a5 a6 a7 a8 af z0 z1 z2 z3 z4 z5 z6 z7 z8 zf y0 y1 y2 y3 y4 y5 y6 yf d0 d1 d2 d3 d4 d5 d6 df; obtain ⟨⟨a0, a1, a2, a3, a4, a5, a6, a7, a8⟩, af⟩ := hM1.box.get; obtain ⟨⟨g0, g1, g2, g3, g4, g5, g6⟩, gf⟩ := c7 hM1.at0; obtain ⟨⟨e0, e1⟩, ef⟩ := c2 hM1.at1; obtain ⟨⟨z0, z1, z2, z3, z4, z5, z6, z7, z8⟩, zf⟩ := c9g hM1.at2; obtain ⟨⟨y0, y1, y2, y3, y4, y5, y6⟩, yf⟩ := c7 hM1.at3; obtain ⟨⟨d0, d1, d2, d3, d4, d5, d6⟩, df⟩ := c7 hM1.at4; have hM : Hid _ := hM1; clear hM1))
            · go_wp2_with fail; go_meet; exact ⟨w3.heap.size, rfl, hM.out.alloc' _ _ _ rfl⟩
            · go_wp2_with fail; go_meet; exact ⟨w2.heap.size + 1, rfl, ((((((hM.out.set0 0 (.int .i64 1)).set0 1 (.int .i64 s.ou)).set0 2 (.int .i64 fp)).set0 3 (.int .i64 ta)).set0 4 (.int .i64 tp)).set0 5 (.string RM')).set0 6 (.bool iq)⟩
          case rest =>
            obtain ⟨k, rfl, hM1⟩ := hcut
            clear hM
            clear e0 e1 ef; clear a0 a1 a2 a3 a4 a5 a6 a7 a8 af z0 z1 z2 z3 z4 z5 z6 z7 z8 zf y0 y1 y2 y3 y4 y5 y6 yf d0 d1 d2 d3 d4 d5 d6 df
            obtain ⟨⟨a0, a1, a2, a3, a4, a5, a6, a7, a8⟩, af⟩ := hM1.box.get; obtain ⟨⟨g0, g1, g2, g3, g4, g5, g6⟩, gf⟩ := c7 hM1.at0; obtain ⟨⟨e0, e1⟩, ef⟩ := c2 hM1.at1; obtain ⟨⟨z0, z1, z2, z3, z4, z5, z6, z7, z8⟩, zf⟩ := c9g hM1.at2; obtain ⟨⟨y0, y1, y2, y3, y4, y5, y6⟩, yf⟩ := c7 hM1.at3; obtain ⟨⟨d0, d1, d2, d3, d4, d5, d6⟩, df⟩ := c7 hM1.at4
            have hM : Hid _ := hM1
            clear hM1
            go_wp2_with fail
            refine bodyPost_ret (v := .agg #[.int .i64 0, .int .i64 1, .int .i64 1, .int .i64 s.ou, .int .i64 fp, .int .i64 ta, .int .i64 tp, .string RM', .bool iq]) (by simp [results, Tryz.results96, go_sem, z0, z1, z2, z3, z4, z5, z6, z7, z8]) rfl ⟨⟨_, rfl⟩, ?_⟩
            have hE := ((((((((hM.out.set2 0 (.int .i64 0)).set2 1 (.int .i64 1)).set2 2 (.int .i64 1)).set2 3 (.int .i64 s.ou)).set2 4 (.int .i64 fp)).set2 5 (.int .i64 ta)).set2 6 (.int .i64 tp)).set2 7 (.string RM')).set2 8 (.bool iq)
            exact ⟨hE.box, hE.chg⟩
end Go.Proofs.YtfkjobiapjhacabGreat
