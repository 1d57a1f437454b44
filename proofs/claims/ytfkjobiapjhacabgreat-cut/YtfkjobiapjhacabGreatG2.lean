/- Own work. -/
import Derived.Test.YtfkjobiapjhacabGreatGwP
/- Contracts of package gateway: ask. Own work. -/
namespace Go.Proofs.YtfkjobiapjhacabGreat
open Go.RowKit
attribute [local go_sem ↓] Go.wp_at_zero Go.wp_at_succ

/-- The outer port that an inner end has, or would have; 0: there is none. -/
def askP (s : BX) (pr fa fp : Int) : Int := if outerI pr fa fp s.l = 0 then freeI pr s.l s.lo (s.hi - s.lo + 1).toNat else outerI pr fa fp s.l
def askW (s : BX) (pr fa fp ta tp fg : Int) : Int :=
  if hasS pr fa fp ta tp s.l = true then 0 else if pr = 6 ∧ ¬ fl fg 23 = 2 then 16 else if 10 ≤ s.l.length then 14 else if askP s pr fa fp = 0 then 15 else 0
def askL (s : BX) (pr fa fp ta tp fg : Int) : List SD :=
  if hasS pr fa fp ta tp s.l = true then s.l else if askW s pr fa fp ta tp fg = 0 then insS (freshS pr fa fp ta tp (askP s pr fa fp)) s.l else s.l
set_option maxRecDepth 100000 in
set_option maxHeartbeats 2000000 in
theorem ask_any {w : World} {b : Nat} {v : Value} {s : BX} (h : BoxAt w b v s) (hn : s.l.length ≤ 1000) (hl0 : 0 ≤ s.lo) (hl1 : s.lo ≤ s.hi) (hl2 : s.hi ≤ 100000) (pr fa fp ta tp : Int) (m : ByteArray) (iq : Bool) :
    Calls Tryz.prog 101 #[.pointer (some ⟨b, 0, none⟩), .agg #[.int .i64 pr, .int .i64 fa, .int .i64 fp, .int .i64 ta, .int .i64 tp, .string m, .bool iq]] w fun e w' => e = .returned (.int .i64 (askW s pr fa fp ta tp (byteAt m 13))) ∧ ∃ v', BoxAt w' b v' { s with l := askL s pr fa fp ta tp (byteAt m 13) } ∧ Chg b v w w' v' := by
  have hM1 : GMid w (w.alloc (.cells #[.int .i64 pr, .int .i64 fa, .int .i64 fp, .int .i64 ta, .int .i64 tp, .string m, .bool iq] 106)) b v v s [(w.heap.size, #[.int .i64 pr, .int .i64 fa, .int .i64 fp, .int .i64 ta, .int .i64 tp, .string m, .bool iq], 106)] := (GMid.start h).alloc' _ _ _ rfl
  have hlt := h.lt
  clear h
  obtain ⟨⟨a0, a1, a2, a3, a4, a5, a6, a7, a8⟩, af⟩ := hM1.box.get; obtain ⟨⟨d0, d1, d2, d3, d4, d5, d6⟩, df⟩ := c7 hM1.at0
  have hM : Hid _ := hM1
  clear hM1
  by_cases c1 : hasS pr fa fp ta tp s.l = true
  · have HW : Hid (askW s pr fa fp ta tp (byteAt m 13) = 0) := if_pos c1
    have HL : Hid (askL s pr fa fp ta tp (byteAt m 13) = s.l) := if_pos c1
    go_enter Tryz.func101, Tryz.ntmps101
    go_wp2_with fail
    go_region_held3 (fun w' => w'.cell? ⟨w.heap.size, 0, none⟩ = some (.int .i64 pr) ∧ w'.cell? ⟨w.heap.size, 1, none⟩ = some (.int .i64 fa) ∧ w'.cell? ⟨w.heap.size, 2, none⟩ = some (.int .i64 fp) ∧ w'.cell? ⟨w.heap.size, 3, none⟩ = some (.int .i64 ta) ∧ w'.cell? ⟨w.heap.size, 4, none⟩ = some (.int .i64 tp) ∧ w'.cell? ⟨b, 3, none⟩ = some (.int .i64 s.lo) ∧ w'.cell? ⟨b, 4, none⟩ = some (.int .i64 s.hi)) (simp [*]) (first | (go_at_call 107; refine (bHas hM.out.drew.box hn _ _ _ _ _).mono ?_; rintro e w1 ⟨rfl, hb1⟩; have hM1 := hM.out.drew.call hb1; clear hM hb1; clear a0 a1 a2 a3 a4 a5 a6 a7 a8 af d0 d1 d2 d3 d4 d5 d6 df; obtain ⟨⟨a0, a1, a2, a3, a4, a5, a6, a7, a8⟩, af⟩ := hM1.box.get; obtain ⟨⟨d0, d1, d2, d3, d4, d5, d6⟩, df⟩ := c7 hM1.at0; have hM : Hid _ := hM1; clear hM1))
    go_wp2
    go_ret
    refine ⟨g_int HW.out.symm, v, ?_, hM.out.chg⟩
    rw [HL.out]; exact hM.out.box
  · have c1' : hasS pr fa fp ta tp s.l = false := by simpa using c1
    have HW1 : askW s pr fa fp ta tp (byteAt m 13) = if pr = 6 ∧ ¬ fl (byteAt m 13) 23 = 2 then 16 else if 10 ≤ s.l.length then 14 else if askP s pr fa fp = 0 then 15 else 0 := if_neg c1
    have HL1 : askL s pr fa fp ta tp (byteAt m 13) = if askW s pr fa fp ta tp (byteAt m 13) = 0 then insS (freshS pr fa fp ta tp (askP s pr fa fp)) s.l else s.l := if_neg c1
    clear c1
    by_cases c2 : pr = 6 ∧ ¬ fl (byteAt m 13) 23 = 2
    · rw [if_pos c2] at HW1
      rw [HW1, if_neg (by decide)] at HL1
      have HW : Hid (askW s pr fa fp ta tp (byteAt m 13) = 16) := HW1
      have HL : Hid (askL s pr fa fp ta tp (byteAt m 13) = s.l) := HL1
      obtain ⟨c2a, c2b⟩ := c2
      have c2c : (pr == 6) = true := by simpa using c2a
      have c2d : (bits .and .i64 (byteAt m 13) 23 != 2) = true := by simpa [fl] using c2b
      clear HW1 HL1 c2a c2b
      go_enter Tryz.func101, Tryz.ntmps101
      go_wp2_with fail
      go_region_held3 (fun w' => w'.cell? ⟨w.heap.size, 0, none⟩ = some (.int .i64 pr) ∧ w'.cell? ⟨w.heap.size, 1, none⟩ = some (.int .i64 fa) ∧ w'.cell? ⟨w.heap.size, 2, none⟩ = some (.int .i64 fp) ∧ w'.cell? ⟨w.heap.size, 3, none⟩ = some (.int .i64 ta) ∧ w'.cell? ⟨w.heap.size, 4, none⟩ = some (.int .i64 tp) ∧ w'.cell? ⟨b, 3, none⟩ = some (.int .i64 s.lo) ∧ w'.cell? ⟨b, 4, none⟩ = some (.int .i64 s.hi)) (simp [*]) (first | (go_at_call 107; refine (bHas hM.out.drew.box hn _ _ _ _ _).mono ?_; rintro e w1 ⟨rfl, hb1⟩; have hM1 := hM.out.drew.call hb1; clear hM hb1; clear a0 a1 a2 a3 a4 a5 a6 a7 a8 af d0 d1 d2 d3 d4 d5 d6 df; obtain ⟨⟨a0, a1, a2, a3, a4, a5, a6, a7, a8⟩, af⟩ := hM1.box.get; obtain ⟨⟨d0, d1, d2, d3, d4, d5, d6⟩, df⟩ := c7 hM1.at0; have hM : Hid _ := hM1; clear hM1))
      go_wp2_with (go_at_call 102; refine (Flags_any _ _ _ _ _ _ _ _).mono ?_; rintro e w2 ⟨rfl, hb2⟩; have hM1 := hM.out.call hb2; clear hM hb2; clear a0 a1 a2 a3 a4 a5 a6 a7 a8 af d0 d1 d2 d3 d4 d5 d6 df; obtain ⟨⟨a0, a1, a2, a3, a4, a5, a6, a7, a8⟩, af⟩ := hM1.box.get; obtain ⟨⟨d0, d1, d2, d3, d4, d5, d6⟩, df⟩ := c7 hM1.at0; have hM : Hid _ := hM1; clear hM1)
      go_ret
      refine ⟨g_int HW.out.symm, v, ?_, hM.out.chg⟩
      rw [HL.out]; exact hM.out.box
    · rw [if_neg c2] at HW1
      have hg : (pr == 6) = false ∨ (pr == 6) = true ∧ (bits .and .i64 (byteAt m 13) 23 != 2) = false := by
        by_cases e : pr = 6
        · right; refine ⟨by simpa using e, ?_⟩
          have : fl (byteAt m 13) 23 = 2 := Decidable.byContradiction fun h => c2 ⟨e, h⟩
          simpa [fl] using this
        · left; simpa using e
      clear c2
      by_cases c3 : 10 ≤ s.l.length
      · rw [if_pos c3] at HW1
        rw [HW1, if_neg (by decide)] at HL1
        have HW : Hid (askW s pr fa fp ta tp (byteAt m 13) = 14) := HW1
        have HL : Hid (askL s pr fa fp ta tp (byteAt m 13) = s.l) := HL1
        clear HW1 HL1
        rcases hg with hg | ⟨hg, hg2⟩
        all_goals
          go_enter Tryz.func101, Tryz.ntmps101
          go_wp2_with fail
          go_region_held3 (fun w' => w'.cell? ⟨w.heap.size, 0, none⟩ = some (.int .i64 pr) ∧ w'.cell? ⟨w.heap.size, 1, none⟩ = some (.int .i64 fa) ∧ w'.cell? ⟨w.heap.size, 2, none⟩ = some (.int .i64 fp) ∧ w'.cell? ⟨w.heap.size, 3, none⟩ = some (.int .i64 ta) ∧ w'.cell? ⟨w.heap.size, 4, none⟩ = some (.int .i64 tp) ∧ w'.cell? ⟨b, 3, none⟩ = some (.int .i64 s.lo) ∧ w'.cell? ⟨b, 4, none⟩ = some (.int .i64 s.hi)) (simp [*]) (first | (go_at_call 107; refine (bHas hM.out.drew.box hn _ _ _ _ _).mono ?_; rintro e w1 ⟨rfl, hb1⟩; have hM1 := hM.out.drew.call hb1; clear hM hb1; clear a0 a1 a2 a3 a4 a5 a6 a7 a8 af d0 d1 d2 d3 d4 d5 d6 df; obtain ⟨⟨a0, a1, a2, a3, a4, a5, a6, a7, a8⟩, af⟩ := hM1.box.get; obtain ⟨⟨d0, d1, d2, d3, d4, d5, d6⟩, df⟩ := c7 hM1.at0; have hM : Hid _ := hM1; clear hM1))
          go_wp2_with (first | (go_at_call 102; refine (Flags_any _ _ _ _ _ _ _ _).mono ?_; rintro e w2 ⟨rfl, hb2⟩; have hM1 := hM.out.call hb2; clear hM hb2; clear a0 a1 a2 a3 a4 a5 a6 a7 a8 af d0 d1 d2 d3 d4 d5 d6 df; obtain ⟨⟨a0, a1, a2, a3, a4, a5, a6, a7, a8⟩, af⟩ := hM1.box.get; obtain ⟨⟨d0, d1, d2, d3, d4, d5, d6⟩, df⟩ := c7 hM1.at0; have hM : Hid _ := hM1; clear hM1) | (go_at_call 117; refine (bFull hM.out.box).mono ?_; rintro e w3 ⟨rfl, rfl⟩))
          go_ret
          refine ⟨g_int HW.out.symm, v, ?_, hM.out.chg⟩
          rw [HL.out]; exact hM.out.box
      · rw [if_neg c3] at HW1
        have c3' : decide (10 ≤ s.l.length) = false := by simpa using c3
        clear c3
        by_cases c4 : outerI pr fa fp s.l = 0
        · have HP : askP s pr fa fp = freeI pr s.l s.lo (s.hi - s.lo + 1).toNat := if_pos c4
          rw [HP] at HW1 HL1
          by_cases c5 : freeI pr s.l s.lo (s.hi - s.lo + 1).toNat = 0
          · rw [if_pos c5] at HW1
            rw [HW1, if_neg (by decide)] at HL1
            have HW : Hid (askW s pr fa fp ta tp (byteAt m 13) = 15) := HW1
            have HL : Hid (askL s pr fa fp ta tp (byteAt m 13) = s.l) := HL1
            clear HW1 HL1 HP
            rcases hg with hg | ⟨hg, hg2⟩
            all_goals
              go_enter Tryz.func101, Tryz.ntmps101
              go_wp2_with fail
              go_region_held3 (fun w' => w'.cell? ⟨w.heap.size, 0, none⟩ = some (.int .i64 pr) ∧ w'.cell? ⟨w.heap.size, 1, none⟩ = some (.int .i64 fa) ∧ w'.cell? ⟨w.heap.size, 2, none⟩ = some (.int .i64 fp) ∧ w'.cell? ⟨w.heap.size, 3, none⟩ = some (.int .i64 ta) ∧ w'.cell? ⟨w.heap.size, 4, none⟩ = some (.int .i64 tp) ∧ w'.cell? ⟨b, 3, none⟩ = some (.int .i64 s.lo) ∧ w'.cell? ⟨b, 4, none⟩ = some (.int .i64 s.hi)) (simp [*]) (first | (go_at_call 107; refine (bHas hM.out.drew.box hn _ _ _ _ _).mono ?_; rintro e w1 ⟨rfl, hb1⟩; have hM1 := hM.out.drew.call hb1; clear hM hb1; clear a0 a1 a2 a3 a4 a5 a6 a7 a8 af d0 d1 d2 d3 d4 d5 d6 df; obtain ⟨⟨a0, a1, a2, a3, a4, a5, a6, a7, a8⟩, af⟩ := hM1.box.get; obtain ⟨⟨d0, d1, d2, d3, d4, d5, d6⟩, df⟩ := c7 hM1.at0; have hM : Hid _ := hM1; clear hM1))
              go_wp2_with (first | (go_at_call 102; refine (Flags_any _ _ _ _ _ _ _ _).mono ?_; rintro e w2 ⟨rfl, hb2⟩; have hM1 := hM.out.call hb2; clear hM hb2; clear a0 a1 a2 a3 a4 a5 a6 a7 a8 af d0 d1 d2 d3 d4 d5 d6 df; obtain ⟨⟨a0, a1, a2, a3, a4, a5, a6, a7, a8⟩, af⟩ := hM1.box.get; obtain ⟨⟨d0, d1, d2, d3, d4, d5, d6⟩, df⟩ := c7 hM1.at0; have hM : Hid _ := hM1; clear hM1) | (go_at_call 117; refine (bFull hM.out.box).mono ?_; rintro e w3 ⟨rfl, rfl⟩))
              go_region_held3 (fun w' => w'.cell? ⟨w.heap.size, 0, none⟩ = some (.int .i64 pr) ∧ w'.cell? ⟨w.heap.size, 1, none⟩ = some (.int .i64 fa) ∧ w'.cell? ⟨w.heap.size, 2, none⟩ = some (.int .i64 fp) ∧ w'.cell? ⟨w.heap.size, 3, none⟩ = some (.int .i64 ta) ∧ w'.cell? ⟨w.heap.size, 4, none⟩ = some (.int .i64 tp) ∧ w'.cell? ⟨b, 3, none⟩ = some (.int .i64 s.lo) ∧ w'.cell? ⟨b, 4, none⟩ = some (.int .i64 s.hi)) (simp [*]) (first | (go_at_call 104; refine (bOuter hM.out.drew.box hn _ _ _).mono ?_; rintro e w4 ⟨rfl, hb4⟩; have hM1 := hM.out.drew.call hb4; clear hM hb4; clear a0 a1 a2 a3 a4 a5 a6 a7 a8 af d0 d1 d2 d3 d4 d5 d6 df; obtain ⟨⟨a0, a1, a2, a3, a4, a5, a6, a7, a8⟩, af⟩ := hM1.box.get; obtain ⟨⟨d0, d1, d2, d3, d4, d5, d6⟩, df⟩ := c7 hM1.at0; have hM : Hid _ := hM1; clear hM1))
              go_wp2_with fail
              go_region_held3 (fun w' => w'.cell? ⟨w.heap.size, 0, none⟩ = some (.int .i64 pr) ∧ w'.cell? ⟨w.heap.size, 1, none⟩ = some (.int .i64 fa) ∧ w'.cell? ⟨w.heap.size, 2, none⟩ = some (.int .i64 fp) ∧ w'.cell? ⟨w.heap.size, 3, none⟩ = some (.int .i64 ta) ∧ w'.cell? ⟨w.heap.size, 4, none⟩ = some (.int .i64 tp) ∧ w'.cell? ⟨b, 3, none⟩ = some (.int .i64 s.lo) ∧ w'.cell? ⟨b, 4, none⟩ = some (.int .i64 s.hi)) (simp [*]) (first | (go_at_call 118; refine (bFree hM.out.drew.box hn _ _ _ hl0 hl1 hl2).mono ?_; rintro e w5 ⟨rfl, hb5⟩; have hM1 := hM.out.drew.call hb5; clear hM hb5; clear a0 a1 a2 a3 a4 a5 a6 a7 a8 af d0 d1 d2 d3 d4 d5 d6 df; obtain ⟨⟨a0, a1, a2, a3, a4, a5, a6, a7, a8⟩, af⟩ := hM1.box.get; obtain ⟨⟨d0, d1, d2, d3, d4, d5, d6⟩, df⟩ := c7 hM1.at0; have hM : Hid _ := hM1; clear hM1))
              go_wp2_with fail
              go_ret
              refine ⟨g_int HW.out.symm, v, ?_, hM.out.chg⟩
              rw [HL.out]; exact hM.out.box
          · rw [if_neg c5] at HW1
            rw [HW1, if_pos rfl] at HL1
            have HW : Hid (askW s pr fa fp ta tp (byteAt m 13) = 0) := HW1
            have HL : Hid (askL s pr fa fp ta tp (byteAt m 13) = insS (freshS pr fa fp ta tp (freeI pr s.l s.lo (s.hi - s.lo + 1).toNat)) s.l) := HL1
            clear HW1 HL1 HP
            rcases hg with hg | ⟨hg, hg2⟩
            all_goals
              go_enter Tryz.func101, Tryz.ntmps101
              go_wp2_with fail
              go_region_held3 (fun w' => w'.cell? ⟨w.heap.size, 0, none⟩ = some (.int .i64 pr) ∧ w'.cell? ⟨w.heap.size, 1, none⟩ = some (.int .i64 fa) ∧ w'.cell? ⟨w.heap.size, 2, none⟩ = some (.int .i64 fp) ∧ w'.cell? ⟨w.heap.size, 3, none⟩ = some (.int .i64 ta) ∧ w'.cell? ⟨w.heap.size, 4, none⟩ = some (.int .i64 tp) ∧ w'.cell? ⟨b, 3, none⟩ = some (.int .i64 s.lo) ∧ w'.cell? ⟨b, 4, none⟩ = some (.int .i64 s.hi)) (simp [*]) (first | (go_at_call 107; refine (bHas hM.out.drew.box hn _ _ _ _ _).mono ?_; rintro e w1 ⟨rfl, hb1⟩; have hM1 := hM.out.drew.call hb1; clear hM hb1; clear a0 a1 a2 a3 a4 a5 a6 a7 a8 af d0 d1 d2 d3 d4 d5 d6 df; obtain ⟨⟨a0, a1, a2, a3, a4, a5, a6, a7, a8⟩, af⟩ := hM1.box.get; obtain ⟨⟨d0, d1, d2, d3, d4, d5, d6⟩, df⟩ := c7 hM1.at0; have hM : Hid _ := hM1; clear hM1))
              go_wp2_with (first | (go_at_call 102; refine (Flags_any _ _ _ _ _ _ _ _).mono ?_; rintro e w2 ⟨rfl, hb2⟩; have hM1 := hM.out.call hb2; clear hM hb2; clear a0 a1 a2 a3 a4 a5 a6 a7 a8 af d0 d1 d2 d3 d4 d5 d6 df; obtain ⟨⟨a0, a1, a2, a3, a4, a5, a6, a7, a8⟩, af⟩ := hM1.box.get; obtain ⟨⟨d0, d1, d2, d3, d4, d5, d6⟩, df⟩ := c7 hM1.at0; have hM : Hid _ := hM1; clear hM1) | (go_at_call 117; refine (bFull hM.out.box).mono ?_; rintro e w3 ⟨rfl, rfl⟩))
              go_region_held3 (fun w' => w'.cell? ⟨w.heap.size, 0, none⟩ = some (.int .i64 pr) ∧ w'.cell? ⟨w.heap.size, 1, none⟩ = some (.int .i64 fa) ∧ w'.cell? ⟨w.heap.size, 2, none⟩ = some (.int .i64 fp) ∧ w'.cell? ⟨w.heap.size, 3, none⟩ = some (.int .i64 ta) ∧ w'.cell? ⟨w.heap.size, 4, none⟩ = some (.int .i64 tp) ∧ w'.cell? ⟨b, 3, none⟩ = some (.int .i64 s.lo) ∧ w'.cell? ⟨b, 4, none⟩ = some (.int .i64 s.hi)) (simp [*]) (first | (go_at_call 104; refine (bOuter hM.out.drew.box hn _ _ _).mono ?_; rintro e w4 ⟨rfl, hb4⟩; have hM1 := hM.out.drew.call hb4; clear hM hb4; clear a0 a1 a2 a3 a4 a5 a6 a7 a8 af d0 d1 d2 d3 d4 d5 d6 df; obtain ⟨⟨a0, a1, a2, a3, a4, a5, a6, a7, a8⟩, af⟩ := hM1.box.get; obtain ⟨⟨d0, d1, d2, d3, d4, d5, d6⟩, df⟩ := c7 hM1.at0; have hM : Hid _ := hM1; clear hM1))
              go_wp2_with fail
              go_region_held3 (fun w' => w'.cell? ⟨w.heap.size, 0, none⟩ = some (.int .i64 pr) ∧ w'.cell? ⟨w.heap.size, 1, none⟩ = some (.int .i64 fa) ∧ w'.cell? ⟨w.heap.size, 2, none⟩ = some (.int .i64 fp) ∧ w'.cell? ⟨w.heap.size, 3, none⟩ = some (.int .i64 ta) ∧ w'.cell? ⟨w.heap.size, 4, none⟩ = some (.int .i64 tp) ∧ w'.cell? ⟨b, 3, none⟩ = some (.int .i64 s.lo) ∧ w'.cell? ⟨b, 4, none⟩ = some (.int .i64 s.hi)) (simp [*]) (first | (go_at_call 118; refine (bFree hM.out.drew.box hn _ _ _ hl0 hl1 hl2).mono ?_; rintro e w5 ⟨rfl, hb5⟩; have hM1 := hM.out.drew.call hb5; clear hM hb5; clear a0 a1 a2 a3 a4 a5 a6 a7 a8 af d0 d1 d2 d3 d4 d5 d6 df; obtain ⟨⟨a0, a1, a2, a3, a4, a5, a6, a7, a8⟩, af⟩ := hM1.box.get; obtain ⟨⟨d0, d1, d2, d3, d4, d5, d6⟩, df⟩ := c7 hM1.at0; have hM : Hid _ := hM1; clear hM1))
              go_wp2_with fail
              go_region_held3 (fun w' => w'.cell? ⟨w.heap.size, 0, none⟩ = some (.int .i64 pr) ∧ w'.cell? ⟨w.heap.size, 1, none⟩ = some (.int .i64 fa) ∧ w'.cell? ⟨w.heap.size, 2, none⟩ = some (.int .i64 fp) ∧ w'.cell? ⟨w.heap.size, 3, none⟩ = some (.int .i64 ta) ∧ w'.cell? ⟨w.heap.size, 4, none⟩ = some (.int .i64 tp) ∧ w'.cell? ⟨b, 3, none⟩ = some (.int .i64 s.lo) ∧ w'.cell? ⟨b, 4, none⟩ = some (.int .i64 s.hi)) (simp [*]) (first | (go_at_call 119; refine (bBegin hM.out.drew.box hn _ _ _ _ _ _).mono ?_; rintro e w6 ⟨rfl, v6, hbx6, hch6⟩; have hM1 := hM.out.drew.change hbx6 hch6; clear hM hbx6 hch6; clear a0 a1 a2 a3 a4 a5 a6 a7 a8 af d0 d1 d2 d3 d4 d5 d6 df; obtain ⟨⟨a0, a1, a2, a3, a4, a5, a6, a7, a8⟩, af⟩ := hM1.box.get; obtain ⟨⟨d0, d1, d2, d3, d4, d5, d6⟩, df⟩ := c7 hM1.at0; have hM : Hid _ := hM1; clear hM1))
              go_wp2_with fail
              go_ret
              refine ⟨g_int HW.out.symm, v6, ?_, hM.out.chg⟩
              rw [HL.out]; exact hM.out.box
        · have HP : askP s pr fa fp = outerI pr fa fp s.l := if_neg c4
          rw [HP] at HW1 HL1
          rw [if_neg c4] at HW1
          rw [HW1, if_pos rfl] at HL1
          have HW : Hid (askW s pr fa fp ta tp (byteAt m 13) = 0) := HW1
          have HL : Hid (askL s pr fa fp ta tp (byteAt m 13) = insS (freshS pr fa fp ta tp (outerI pr fa fp s.l)) s.l) := HL1
          clear HW1 HL1 HP
          rcases hg with hg | ⟨hg, hg2⟩
          all_goals
            go_enter Tryz.func101, Tryz.ntmps101
            go_wp2_with fail
            go_region_held3 (fun w' => w'.cell? ⟨w.heap.size, 0, none⟩ = some (.int .i64 pr) ∧ w'.cell? ⟨w.heap.size, 1, none⟩ = some (.int .i64 fa) ∧ w'.cell? ⟨w.heap.size, 2, none⟩ = some (.int .i64 fp) ∧ w'.cell? ⟨w.heap.size, 3, none⟩ = some (.int .i64 ta) ∧ w'.cell? ⟨w.heap.size, 4, none⟩ = some (.int .i64 tp) ∧ w'.cell? ⟨b, 3, none⟩ = some (.int .i64 s.lo) ∧ w'.cell? ⟨b, 4, none⟩ = some (.int .i64 s.hi)) (simp [*]) (first | (go_at_call 107; refine (bHas hM.out.drew.box hn _ _ _ _ _).mono ?_; rintro e w1 ⟨rfl, hb1⟩; have hM1 := hM.out.drew.call hb1; clear hM hb1; clear a0 a1 a2 a3 a4 a5 a6 a7 a8 af d0 d1 d2 d3 d4 d5 d6 df; obtain ⟨⟨a0, a1, a2, a3, a4, a5, a6, a7, a8⟩, af⟩ := hM1.box.get; obtain ⟨⟨d0, d1, d2, d3, d4, d5, d6⟩, df⟩ := c7 hM1.at0; have hM : Hid _ := hM1; clear hM1))
            go_wp2_with (first | (go_at_call 102; refine (Flags_any _ _ _ _ _ _ _ _).mono ?_; rintro e w2 ⟨rfl, hb2⟩; have hM1 := hM.out.call hb2; clear hM hb2; clear a0 a1 a2 a3 a4 a5 a6 a7 a8 af d0 d1 d2 d3 d4 d5 d6 df; obtain ⟨⟨a0, a1, a2, a3, a4, a5, a6, a7, a8⟩, af⟩ := hM1.box.get; obtain ⟨⟨d0, d1, d2, d3, d4, d5, d6⟩, df⟩ := c7 hM1.at0; have hM : Hid _ := hM1; clear hM1) | (go_at_call 117; refine (bFull hM.out.box).mono ?_; rintro e w3 ⟨rfl, rfl⟩))
            go_region_held3 (fun w' => w'.cell? ⟨w.heap.size, 0, none⟩ = some (.int .i64 pr) ∧ w'.cell? ⟨w.heap.size, 1, none⟩ = some (.int .i64 fa) ∧ w'.cell? ⟨w.heap.size, 2, none⟩ = some (.int .i64 fp) ∧ w'.cell? ⟨w.heap.size, 3, none⟩ = some (.int .i64 ta) ∧ w'.cell? ⟨w.heap.size, 4, none⟩ = some (.int .i64 tp) ∧ w'.cell? ⟨b, 3, none⟩ = some (.int .i64 s.lo) ∧ w'.cell? ⟨b, 4, none⟩ = some (.int .i64 s.hi)) (simp [*]) (first | (go_at_call 104; refine (bOuter hM.out.drew.box hn _ _ _).mono ?_; rintro e w4 ⟨rfl, hb4⟩; have hM1 := hM.out.drew.call hb4; clear hM hb4; clear a0 a1 a2 a3 a4 a5 a6 a7 a8 af d0 d1 d2 d3 d4 d5 d6 df; obtain ⟨⟨a0, a1, a2, a3, a4, a5, a6, a7, a8⟩, af⟩ := hM1.box.get; obtain ⟨⟨d0, d1, d2, d3, d4, d5, d6⟩, df⟩ := c7 hM1.at0; have hM : Hid _ := hM1; clear hM1))
            go_wp2_with fail
            go_region_held3 (fun w' => w'.cell? ⟨w.heap.size, 0, none⟩ = some (.int .i64 pr) ∧ w'.cell? ⟨w.heap.size, 1, none⟩ = some (.int .i64 fa) ∧ w'.cell? ⟨w.heap.size, 2, none⟩ = some (.int .i64 fp) ∧ w'.cell? ⟨w.heap.size, 3, none⟩ = some (.int .i64 ta) ∧ w'.cell? ⟨w.heap.size, 4, none⟩ = some (.int .i64 tp) ∧ w'.cell? ⟨b, 3, none⟩ = some (.int .i64 s.lo) ∧ w'.cell? ⟨b, 4, none⟩ = some (.int .i64 s.hi)) (simp [*]) (first | (go_at_call 119; refine (bBegin hM.out.drew.box hn _ _ _ _ _ _).mono ?_; rintro e w6 ⟨rfl, v6, hbx6, hch6⟩; have hM1 := hM.out.drew.change hbx6 hch6; clear hM hbx6 hch6; clear a0 a1 a2 a3 a4 a5 a6 a7 a8 af d0 d1 d2 d3 d4 d5 d6 df; obtain ⟨⟨a0, a1, a2, a3, a4, a5, a6, a7, a8⟩, af⟩ := hM1.box.get; obtain ⟨⟨d0, d1, d2, d3, d4, d5, d6⟩, df⟩ := c7 hM1.at0; have hM : Hid _ := hM1; clear hM1))
            go_wp2_with fail
            go_ret
            refine ⟨g_int HW.out.symm, v6, ?_, hM.out.chg⟩
            rw [HL.out]; exact hM.out.box
end Go.Proofs.YtfkjobiapjhacabGreat
/- Contracts of package gateway: turn, fromOutside. Own work. -/
namespace Go.Proofs.YtfkjobiapjhacabGreat
open Go.RowKit
attribute [local go_sem ↓] Go.wp_at_zero Go.wp_at_succ

/-- A way that goes nowhere. -/
def wayV (k : Int) : Value := .agg #[.int .i64 k, .int .i64 0, .int .i64 0, .int .i64 0, .int .i64 0, .int .i64 0, .int .i64 0, .string ⟨#[]⟩, .bool false]
/-- A way out. -/
def wayS (side pr xa xp ya yp : Int) (m : ByteArray) (iq : Bool) : Value := .agg #[.int .i64 0, .int .i64 side, .int .i64 pr, .int .i64 xa, .int .i64 xp, .int .i64 ya, .int .i64 yp, .string m, .bool iq]
def turnV (s : BX) (pr : Int) (m : ByteArray) (xa xp ya yp : Int) (iq : Bool) : Value := if hasS pr ya yp xa xp s.l = true then wayS 0 pr xa xp ya yp (btwM pr m xa xp ya yp) iq else wayV 17
def turnL (s : BX) (pr : Int) (m : ByteArray) (xa xp ya yp : Int) : List SD := if hasS pr ya yp xa xp s.l = true then passL pr ya yp xa xp 1 (byteAt m 13) s.tm s.l else s.l
set_option maxRecDepth 100000 in
set_option maxHeartbeats 2000000 in
theorem turn_any {w : World} {b : Nat} {v : Value} {s : BX} (h : BoxAt w b v s) (hn : s.l.length ≤ 1000) (hq0 : 0 ≤ s.tm) (hq1 : s.tm ≤ 1000000000000000) (pr fa fp ta tp : Int) (m : ByteArray) (iq : Bool) (xa xp ya yp : Int) (hm : m.size ≤ 1000) (hat : sumAtI pr + 2 ≤ m.size) (h4 : 6 ≤ m.size) (hp0 : 0 ≤ pr) (hp1 : pr ≤ 255) (hf0 : 0 ≤ xa) (hf1 : xa ≤ 4294967295) (ht0 : 0 ≤ ya) (ht1 : ya ≤ 4294967295) :
    Calls Tryz.prog 105 #[.pointer (some ⟨b, 0, none⟩), .agg #[.int .i64 pr, .int .i64 fa, .int .i64 fp, .int .i64 ta, .int .i64 tp, .string m, .bool iq], .agg #[.int .i64 xa, .int .i64 xp], .agg #[.int .i64 ya, .int .i64 yp]] w fun e w' => e = .returned (turnV s pr m xa xp ya yp iq) ∧ BoxAt w' b v { s with l := turnL s pr m xa xp ya yp } ∧ Chg b v w w' v := by
  have hM1 : GMid w ((((w.alloc (.cells #[.int .i64 pr, .int .i64 fa, .int .i64 fp, .int .i64 ta, .int .i64 tp, .string m, .bool iq] 106)).alloc (.cells #[.int .i64 xa, .int .i64 xp] 98)).alloc (.cells #[.int .i64 ya, .int .i64 yp] 98)).alloc (.cells #[.int .i64 0, .int .i64 0, .int .i64 0, .int .i64 0, .int .i64 0, .int .i64 0, .int .i64 0, .string ⟨#[]⟩, .bool false] 109)) b v v s [(w.heap.size + 3, #[.int .i64 0, .int .i64 0, .int .i64 0, .int .i64 0, .int .i64 0, .int .i64 0, .int .i64 0, .string ⟨#[]⟩, .bool false], 109), (w.heap.size + 2, #[.int .i64 ya, .int .i64 yp], 98), (w.heap.size + 1, #[.int .i64 xa, .int .i64 xp], 98), (w.heap.size, #[.int .i64 pr, .int .i64 fa, .int .i64 fp, .int .i64 ta, .int .i64 tp, .string m, .bool iq], 106)] := ((((GMid.start h).alloc' _ _ _ rfl).alloc' _ _ _ (by simp)).alloc' _ _ _ (by simp)).alloc' _ _ _ (by simp)
  have hlt := h.lt
  clear h
  have HDE : Hid (∀ W, BoxAt W b v s → Calls Tryz.prog 108 #[.pointer (some ⟨b, 0, none⟩), .agg #[.int .i64 pr, .int .i64 fa, .int .i64 fp, .int .i64 ta, .int .i64 tp, .string m, .bool iq], .agg #[.int .i64 xa, .int .i64 xp], .agg #[.int .i64 ya, .int .i64 yp]] W fun e w' => e = .returned (.agg #[.int .i64 0, .int .i64 0, .int .i64 pr, .int .i64 xa, .int .i64 xp, .int .i64 ya, .int .i64 yp, .string (btwM pr m xa xp ya yp), .bool iq]) ∧ BoxAt w' b v { s with l := passL pr ya yp xa xp 1 (byteAt m 13) s.tm s.l } ∧ Chg b v W w' v) := fun W hW => deliver_any hW hn hq0 hq1 pr fa fp ta tp m iq xa xp ya yp hm hat h4 hp0 hp1 hf0 hf1 ht0 ht1
  obtain ⟨⟨a0, a1, a2, a3, a4, a5, a6, a7, a8⟩, af⟩ := hM1.box.get; obtain ⟨⟨z0, z1, z2, z3, z4, z5, z6, z7, z8⟩, zf⟩ := c9g hM1.at0; obtain ⟨⟨y0, y1⟩, yf⟩ := c2 hM1.at1; obtain ⟨⟨x0, x1⟩, xf⟩ := c2 hM1.at2; obtain ⟨⟨d0, d1, d2, d3, d4, d5, d6⟩, df⟩ := c7 hM1.at3
  have hM : Hid _ := hM1
  clear hM1
  cases c1 : hasS pr ya yp xa xp s.l
  · have HV : Hid (turnV s pr m xa xp ya yp iq = .agg #[.int .i64 17, .int .i64 0, .int .i64 0, .int .i64 0, .int .i64 0, .int .i64 0, .int .i64 0, .string ⟨#[]⟩, .bool false]) := by show _ = _; unfold turnV; rw [c1]; rfl
    have HL : Hid (turnL s pr m xa xp ya yp = s.l) := by show _ = _; unfold turnL; rw [c1]; rfl
    go_enter Tryz.func105, Tryz.ntmps105
    go_wp2_with fail
    go_region_held3 (fun w' => w'.cell? ⟨w.heap.size, 0, none⟩ = some (.int .i64 pr) ∧ w'.cell? ⟨w.heap.size + 1, 0, none⟩ = some (.int .i64 xa) ∧ w'.cell? ⟨w.heap.size + 1, 1, none⟩ = some (.int .i64 xp) ∧ w'.cell? ⟨w.heap.size + 2, 0, none⟩ = some (.int .i64 ya) ∧ w'.cell? ⟨w.heap.size + 2, 1, none⟩ = some (.int .i64 yp)) (simp [*]) (first | (go_at_call 107; refine (bHas hM.out.drew.box hn _ _ _ _ _).mono ?_; rintro e w1 ⟨rfl, hb1⟩; have hM1 := hM.out.drew.call hb1; clear hM hb1; clear a0 a1 a2 a3 a4 a5 a6 a7 a8 af z0 z1 z2 z3 z4 z5 z6 z7 z8 zf y0 y1 yf x0 x1 xf d0 d1 d2 d3 d4 d5 d6 df; obtain ⟨⟨a0, a1, a2, a3, a4, a5, a6, a7, a8⟩, af⟩ := hM1.box.get; obtain ⟨⟨z0, z1, z2, z3, z4, z5, z6, z7, z8⟩, zf⟩ := c9g hM1.at0; obtain ⟨⟨y0, y1⟩, yf⟩ := c2 hM1.at1; obtain ⟨⟨x0, x1⟩, xf⟩ := c2 hM1.at2; obtain ⟨⟨d0, d1, d2, d3, d4, d5, d6⟩, df⟩ := c7 hM1.at3; have hM : Hid _ := hM1; clear hM1))
    go_wp2_with fail
    refine bodyPost_ret (v := .agg #[.int .i64 17, .int .i64 0, .int .i64 0, .int .i64 0, .int .i64 0, .int .i64 0, .int .i64 0, .string ⟨#[]⟩, .bool false]) (by simp [results, Tryz.results105, go_sem, z0, z1, z2, z3, z4, z5, z6, z7, z8]) rfl ⟨by rw [HV.out], ?_⟩
    have hE := ((((((((hM.out.set0 0 (.int .i64 17)).set0 1 (.int .i64 0)).set0 2 (.int .i64 0)).set0 3 (.int .i64 0)).set0 4 (.int .i64 0)).set0 5 (.int .i64 0)).set0 6 (.int .i64 0)).set0 7 (.string ⟨#[]⟩)).set0 8 (.bool false)
    rw [HL.out]
    exact ⟨hE.box, hE.chg⟩
  · have HV : Hid (turnV s pr m xa xp ya yp iq = .agg #[.int .i64 0, .int .i64 0, .int .i64 pr, .int .i64 xa, .int .i64 xp, .int .i64 ya, .int .i64 yp, .string (btwM pr m xa xp ya yp), .bool iq]) := by show _ = _; unfold turnV; rw [c1]; rfl
    have HL : Hid (turnL s pr m xa xp ya yp = passL pr ya yp xa xp 1 (byteAt m 13) s.tm s.l) := by show _ = _; unfold turnL; rw [c1]; rfl
    generalize btwM pr m xa xp ya yp = BM at HV HDE
    generalize passL pr ya yp xa xp 1 (byteAt m 13) s.tm s.l = PL at HL HDE
    go_enter Tryz.func105, Tryz.ntmps105
    go_wp2_with fail
    go_region_held3 (fun w' => w'.cell? ⟨w.heap.size, 0, none⟩ = some (.int .i64 pr) ∧ w'.cell? ⟨w.heap.size + 1, 0, none⟩ = some (.int .i64 xa) ∧ w'.cell? ⟨w.heap.size + 1, 1, none⟩ = some (.int .i64 xp) ∧ w'.cell? ⟨w.heap.size + 2, 0, none⟩ = some (.int .i64 ya) ∧ w'.cell? ⟨w.heap.size + 2, 1, none⟩ = some (.int .i64 yp)) (simp [*]) (first | (go_at_call 107; refine (bHas hM.out.drew.box hn _ _ _ _ _).mono ?_; rintro e w1 ⟨rfl, hb1⟩; have hM1 := hM.out.drew.call hb1; clear hM hb1; clear a0 a1 a2 a3 a4 a5 a6 a7 a8 af z0 z1 z2 z3 z4 z5 z6 z7 z8 zf y0 y1 yf x0 x1 xf d0 d1 d2 d3 d4 d5 d6 df; obtain ⟨⟨a0, a1, a2, a3, a4, a5, a6, a7, a8⟩, af⟩ := hM1.box.get; obtain ⟨⟨z0, z1, z2, z3, z4, z5, z6, z7, z8⟩, zf⟩ := c9g hM1.at0; obtain ⟨⟨y0, y1⟩, yf⟩ := c2 hM1.at1; obtain ⟨⟨x0, x1⟩, xf⟩ := c2 hM1.at2; obtain ⟨⟨d0, d1, d2, d3, d4, d5, d6⟩, df⟩ := c7 hM1.at3; have hM : Hid _ := hM1; clear hM1))
    go_wp2_with (go_at_call 108; refine (HDE.out _ hM.out.box).mono ?_; rintro e w2 ⟨rfl, hbx2, hch2⟩; have hM1 := hM.out.change hbx2 hch2; clear hM hbx2 hch2; clear a0 a1 a2 a3 a4 a5 a6 a7 a8 af z0 z1 z2 z3 z4 z5 z6 z7 z8 zf y0 y1 yf x0 x1 xf d0 d1 d2 d3 d4 d5 d6 df; obtain ⟨⟨a0, a1, a2, a3, a4, a5, a6, a7, a8⟩, af⟩ := hM1.box.get; obtain ⟨⟨z0, z1, z2, z3, z4, z5, z6, z7, z8⟩, zf⟩ := c9g hM1.at0; obtain ⟨⟨y0, y1⟩, yf⟩ := c2 hM1.at1; obtain ⟨⟨x0, x1⟩, xf⟩ := c2 hM1.at2; obtain ⟨⟨d0, d1, d2, d3, d4, d5, d6⟩, df⟩ := c7 hM1.at3; have hM : Hid _ := hM1; clear hM1)
    refine bodyPost_ret (v := .agg #[.int .i64 0, .int .i64 0, .int .i64 pr, .int .i64 xa, .int .i64 xp, .int .i64 ya, .int .i64 yp, .string BM, .bool iq]) (by simp [results, Tryz.results105, go_sem, z0, z1, z2, z3, z4, z5, z6, z7, z8]) rfl ⟨by rw [HV.out], ?_⟩
    have hE := ((((((((hM.out.set0 0 (.int .i64 0)).set0 1 (.int .i64 0)).set0 2 (.int .i64 pr)).set0 3 (.int .i64 xa)).set0 4 (.int .i64 xp)).set0 5 (.int .i64 ya)).set0 6 (.int .i64 yp)).set0 7 (.string BM)).set0 8 (.bool iq)
    rw [HL.out]
    exact ⟨hE.box, hE.chg⟩
end Go.Proofs.YtfkjobiapjhacabGreat
