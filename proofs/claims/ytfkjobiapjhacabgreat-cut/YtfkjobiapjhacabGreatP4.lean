/- Own work. -/
import Derived.Test.YtfkjobiapjhacabGreatP3
/- Contracts of package pieces: whole, clashes. Own work. -/
namespace Go.Proofs.YtfkjobiapjhacabGreat
open Go.RowKit
attribute [local go_sem ↓] Go.wp_at_zero Go.wp_at_succ

def whTo (l : List KP) (k : Nat) : Int × Int := (l.take k).foldl whStep (0, 0)
theorem whTo_succ (l : List KP) (k : Nat) (h : k < l.length) : whTo l (k + 1) = whStep (whTo l k) l[k] := by
  unfold whTo
  rw [List.take_succ_eq_append_getElem h, List.foldl_append]
  rfl
theorem whTo_bd (l : List KP) (h : ∀ p ∈ l, p.b.size ≤ 1000) (k : Nat) (hk : k ≤ l.length) : 0 ≤ (whTo l k).1 ∧ (whTo l k).1 ≤ 66528 ∧ 0 ≤ (whTo l k).2 ∧ (whTo l k).2 ≤ 1000 * k := by
  induction k with
  | zero => simp [whTo]
  | succ k ih =>
    have h1 := ih (by omega)
    rw [whTo_succ l k (by omega)]
    have h2 := h l[k] (List.getElem_mem _)
    have h3 := endI_bd l[k] h2
    unfold whStep
    dsimp only
    split <;> omega
set_option maxRecDepth 100000 in
set_option maxHeartbeats 1000000 in
theorem whole_any (d : PD) (hv : Value) (w : World) (hk : KsAt w hv d.held) (hn : d.held.length ≤ 1000) (hb : ∀ p ∈ d.held, p.b.size ≤ 1000) :
    Calls Tryz.prog 69 #[.agg #[.int .i64 d.sd, .int .i64 d.sr, .int .i64 d.ds, .int .i64 d.pr, .int .i64 d.nu, .bool d.gu, .int .i64 d.dl, hv]] w fun e w' => e = .returned (.bool (wholeB d.held)) ∧ Below w.heap.size w w' := by
  have HBD : Hid (∀ p ∈ d.held, p.b.size ≤ 1000) := hb
  clear hb
  obtain ⟨hao, hcp, hhv⟩ := hk.shape; subst hhv; have HK : Hid (KsAt w (.slice hao d.held.length hcp) d.held) := hk; clear hk; generalize hlen : d.held.length = len at hn HK ⊢; have HE : Hid (d.held.length = len) := hlen; clear hlen
  go_enter Tryz.func69, Tryz.ntmps69
  go_wp2
  go_loopw [3, 4, 10] (fun en by' i wr => ∃ k : Nat, k ≤ len ∧ i = .int .i64 k ∧ en = .int .i64 (whTo d.held k).1 ∧ by' = .int .i64 (whTo d.held k).2 ∧ LMid w wr []) (fun _ _ i _ => len - (intOf i).toNat)
  case atStart => exact ⟨0, Nat.zero_le _, rfl, rfl, rfl, (LMid.start w).call ((Below.refl _ _).alloc (Nat.le_refl _) _)⟩
  case round =>
    obtain ⟨k, hk, rfl, rfl, rfl, hM1⟩ := hrel
    obtain ⟨b0, b1, b2, b3⟩ := whTo_bd d.held HBD.out k (by have := HE.out; omega)
    by_cases hlt : k < len
    · have hlo : k < d.held.length := by have := HE.out; omega
      obtain ⟨g, cp, hv, hg, q0, q1, q2, q3, q4⟩ := KsAt.get (LsAt.keep HK.out hM1.bl) k hlo
      simp at hv
      obtain ⟨rfl, -, rfl⟩ := hv
      have HSU : Hid (whTo d.held (k + 1) = whStep (whTo d.held k) d.held[k]) := whTo_succ _ k hlo
      have hob := HBD.out d.held[k] (List.getElem_mem _)
      generalize d.held[k] = o at q0 q1 q2 q3 q4 HSU hob
      generalize whTo d.held k = x at b0 b1 b2 b3 HSU ⊢
      obtain ⟨en, bt⟩ := x
      simp only at b0 b1 b2 b3 ⊢
      have HST : Hid (whStep (en, bt) o = (if moreB o.h = true then en else endI o, bt + (o.b.size : Int))) := rfl
      have hobI : (o.b.size : Int) ≤ 1000 := by omega
      have hkI : (0 : Int) ≤ (k : Int) := by omega
      have hkL : (k : Int) < (len : Int) := by omega
      have hM2 := hM1.alloc' #[.string o.h, .int .i64 o.sr, .int .i64 o.ds, .int .i64 o.pr, .string o.b] 83 wr.heap.size rfl
      clear hM1
      rename LMid _ _ _ => hM1
      obtain ⟨⟨o0, o1, o2, o3, o4⟩, of⟩ := c5 hM1.at0; have m0 := lt_of_block hM1.at0
      have hM : Hid _ := hM1
      clear hM1
      cases hmo : moreB o.h
      · have HN : Hid (whTo d.held (k + 1) = (endI o, bt + (o.b.size : Int))) := by show _ = _; rw [HSU.out, HST.out, hmo]; rfl
        have HMO : Hid (∀ W, Calls Tryz.prog 58 #[.agg #[.string o.h, .int .i64 o.sr, .int .i64 o.ds, .int .i64 o.pr, .string o.b]] W fun e w' => e = .returned (.bool false) ∧ Below W.heap.size W w') := fun W => by rw [← hmo]; exact kMore o W
        clear HSU HST hmo
        go_wp2_with (first | (go_at_call 58; refine (HMO.out _).mono ?_; rintro e w1 ⟨rfl, hb1⟩; have hM1 := hM.out.call hb1; clear hM hb1 o0 o1 o2 o3 o4 of m0; obtain ⟨⟨o0, o1, o2, o3, o4⟩, of⟩ := c5 hM1.at0; have m0 := lt_of_block hM1.at0; have hM : Hid _ := hM1; clear hM1) | (go_at_call 88; refine (kEnd _ _ (by assumption)).mono ?_; rintro e w1 ⟨rfl, hb1⟩; have hM1 := hM.out.call hb1; clear hM hb1 o0 o1 o2 o3 o4 of m0; obtain ⟨⟨o0, o1, o2, o3, o4⟩, of⟩ := c5 hM1.at0; have m0 := lt_of_block hM1.at0; have hM : Hid _ := hM1; clear hM1))
        go_roundw
        case rel => exact ⟨k + 1, by omega, by go_num, by rw [HN.out], by rw [HN.out], hM.out.tail⟩
        case measure => simp [intOf]; omega
      · have HN : Hid (whTo d.held (k + 1) = (en, bt + (o.b.size : Int))) := by show _ = _; rw [HSU.out, HST.out, hmo]; rfl
        have HMO : Hid (∀ W, Calls Tryz.prog 58 #[.agg #[.string o.h, .int .i64 o.sr, .int .i64 o.ds, .int .i64 o.pr, .string o.b]] W fun e w' => e = .returned (.bool true) ∧ Below W.heap.size W w') := fun W => by rw [← hmo]; exact kMore o W
        clear HSU HST hmo
        go_wp2_with (go_at_call 58; refine (HMO.out _).mono ?_; rintro e w1 ⟨rfl, hb1⟩; have hM1 := hM.out.call hb1; clear hM hb1 o0 o1 o2 o3 o4 of m0; obtain ⟨⟨o0, o1, o2, o3, o4⟩, of⟩ := c5 hM1.at0; have m0 := lt_of_block hM1.at0; have hM : Hid _ := hM1; clear hM1)
        go_roundw
        case rel => exact ⟨k + 1, by omega, by go_num, by rw [HN.out], by rw [HN.out], hM.out.tail⟩
        case measure => simp [intOf]; omega
    · have HX : Hid (wholeB d.held = (decide (0 < (whTo d.held k).1) && ((whTo d.held k).2 == (whTo d.held k).1))) := by
        show _ = _
        have : whTo d.held k = d.held.foldl whStep (0, 0) := by unfold whTo; rw [List.take_of_length_le (by have := HE.out; omega)]
        rw [this]
        rfl
      generalize whTo d.held k = x at b0 b1 b2 b3 HX ⊢
      obtain ⟨en, bt⟩ := x
      simp only at b0 b1 b2 b3 HX ⊢
      have hM : Hid _ := hM1
      clear hM1
      by_cases he : 0 < en
      · go_wp2
        go_ret
        exact ⟨g_bool (by rw [HX.out]; simp [*]), hM.out.bl⟩
      · go_wp2
        go_ret
        exact ⟨g_bool (by rw [HX.out, show decide (0 < en) = false from decide_eq_false (by omega)]; simp), hM.out.bl⟩
def clash1 (p h : KP) : Bool := overB h p || beyondB h p || beyondB p h
set_option maxRecDepth 100000 in
set_option maxHeartbeats 1000000 in
theorem clashes_any (d : PD) (hv : Value) (p : KP) (w : World) (hk : KsAt w hv d.held) (hn : d.held.length ≤ 1000) (hb : ∀ p ∈ d.held, p.b.size ≤ 1000) (hp : p.b.size ≤ 1000) :
    Calls Tryz.prog 86 #[.agg #[.int .i64 d.sd, .int .i64 d.sr, .int .i64 d.ds, .int .i64 d.pr, .int .i64 d.nu, .bool d.gu, .int .i64 d.dl, hv], .agg #[.string p.h, .int .i64 p.sr, .int .i64 p.ds, .int .i64 p.pr, .string p.b]] w fun e w' => e = .returned (.bool (clashB d.held p)) ∧ Below w.heap.size w w' := by
  have HBD : Hid (∀ p ∈ d.held, p.b.size ≤ 1000) := hb
  have HCB : Hid (clashB d.held p = ((decide (0 < d.held.length) && decide (65535 < endI p)) || d.held.any (clash1 p))) := rfl
  clear hb
  obtain ⟨hao, hcp, hhv⟩ := hk.shape; subst hhv; have HK : Hid (KsAt w (.slice hao d.held.length hcp) d.held) := hk; clear hk; generalize hlen : d.held.length = len at hn HK ⊢; have HE : Hid (d.held.length = len) := hlen; clear hlen
  have HEN : Hid (∀ W, Calls Tryz.prog 88 #[.agg #[.string p.h, .int .i64 p.sr, .int .i64 p.ds, .int .i64 p.pr, .string p.b]] W fun e w' => e = .returned (.int .i64 (endI p)) ∧ Below W.heap.size W w') := fun W => kEnd p W hp
  have hM1 : LMid w ((w.alloc (.cells #[.int .i64 d.sd, .int .i64 d.sr, .int .i64 d.ds, .int .i64 d.pr, .int .i64 d.nu, .bool d.gu, .int .i64 d.dl, .slice hao len hcp] 94)).alloc (.cells #[.string p.h, .int .i64 p.sr, .int .i64 p.ds, .int .i64 p.pr, .string p.b] 83)) [(w.heap.size + 1, #[.string p.h, .int .i64 p.sr, .int .i64 p.ds, .int .i64 p.pr, .string p.b], 83), (w.heap.size, #[.int .i64 d.sd, .int .i64 d.sr, .int .i64 d.ds, .int .i64 d.pr, .int .i64 d.nu, .bool d.gu, .int .i64 d.dl, .slice hao len hcp], 94)] := ((LMid.start w).alloc' _ _ _ rfl).alloc' _ _ _ (by simp)
  have hM : Hid _ := hM1
  clear hM1
  go_enter Tryz.func86, Tryz.ntmps86
  go_upto_region 1 with fail
  go_cut [15] (fun s15 wx => s15 = .bool (decide (0 < len) && decide (65535 < endI p)) ∧ LMid w wx [(w.heap.size + 1, #[.string p.h, .int .i64 p.sr, .int .i64 p.ds, .int .i64 p.pr, .string p.b], 83), (w.heap.size, #[.int .i64 d.sd, .int .i64 d.sr, .int .i64 d.ds, .int .i64 d.pr, .int .i64 d.nu, .bool d.gu, .int .i64 d.dl, .slice hao len hcp], 94)])
  case first =>
    by_cases hl0 : 0 < len
    · have hl0' : (0 : Int) < (len : Int) := by omega
      go_wp2_with fail
      refine (HEN.out _).mono ?_
      rintro e w1 ⟨rfl, hb1⟩
      go_wp2_with fail
      go_meet
      exact ⟨by simp [hl0], hM.out.call hb1⟩
    · have hl0' : len = 0 := by omega
      subst hl0'
      go_wp2_with fail
      go_meet
      exact ⟨by simp, hM.out⟩
  case rest =>
    obtain ⟨rfl, hM1⟩ := hcut
    clear hM
    obtain ⟨⟨d0, d1, d2, d3, d4, d5, d6, d7⟩, df⟩ := c8h hM1.at1
    have hM : Hid _ := hM1
    clear hM1
    cases hbb : (decide (0 < len) && decide (65535 < endI p))
    · have HC2 : Hid (clashB d.held p = d.held.any (clash1 p)) := by
        show _ = _
        rw [HCB.out, HE.out, hbb]; simp
      clear HCB hbb
      go_wp2_with fail
      go_loopw [19] (fun i wr => ∃ k : Nat, k ≤ len ∧ i = .int .i64 k ∧ (∀ j (hj : j < d.held.length), j < k → clash1 p d.held[j] = false) ∧ LMid w wr [(w.heap.size + 1, #[.string p.h, .int .i64 p.sr, .int .i64 p.ds, .int .i64 p.pr, .string p.b], 83)]) (fun i _ => len - (intOf i).toNat)
      case atStart => exact ⟨0, Nat.zero_le _, rfl, fun _ _ h => absurd h (Nat.not_lt_zero _), ⟨hM.out.bl, fun q hq => hM.out.bk q (by simp at hq ⊢; exact Or.inl hq), by simp⟩⟩
      case round =>
        obtain ⟨k, hk, rfl, hno, hM1⟩ := hrel
        clear hM d0 d1 d2 d3 d4 d5 d6 d7 df
        by_cases hlt : k < len
        · have hlo : k < d.held.length := by have := HE.out; omega
          obtain ⟨g, cp, hv, hg, q0, q1, q2, q3, q4⟩ := KsAt.get (LsAt.keep HK.out hM1.bl) k hlo
          simp at hv
          obtain ⟨rfl, -, rfl⟩ := hv
          have HHIT : Hid (clash1 p d.held[k] = true → clashB d.held p = true) := fun hy => HC2.out.trans (any_hit _ _ k hlo hy)
          have HNX : Hid (clash1 p d.held[k] = false → ∀ j (hj : j < d.held.length), j < k + 1 → clash1 p d.held[j] = false) := fun hy j hj hjk => by
            rcases Nat.lt_succ_iff_lt_or_eq.1 hjk with h | h
            · exact hno j hj h
            · subst h; exact hy
          have HCL : Hid (clash1 p d.held[k] = (overB d.held[k] p || beyondB d.held[k] p || beyondB p d.held[k])) := rfl
          have hob := HBD.out d.held[k] (List.getElem_mem _)
          clear hno
          generalize d.held[k] = o at q0 q1 q2 q3 q4 HHIT HNX HCL hob
          have HOV : Hid (∀ W, Calls Tryz.prog 111 #[.agg #[.string o.h, .int .i64 o.sr, .int .i64 o.ds, .int .i64 o.pr, .string o.b], .agg #[.string p.h, .int .i64 p.sr, .int .i64 p.ds, .int .i64 p.pr, .string p.b]] W fun e w' => e = .returned (.bool (overB o p)) ∧ Below W.heap.size W w') := fun W => overlap_any o p W hob hp
          have HB1 : Hid (∀ W, Calls Tryz.prog 112 #[.agg #[.string o.h, .int .i64 o.sr, .int .i64 o.ds, .int .i64 o.pr, .string o.b], .agg #[.string p.h, .int .i64 p.sr, .int .i64 p.ds, .int .i64 p.pr, .string p.b]] W fun e w' => e = .returned (.bool (beyondB o p)) ∧ Below W.heap.size W w') := fun W => beyond_any o p W hob hp
          have HB2 : Hid (∀ W, Calls Tryz.prog 112 #[.agg #[.string p.h, .int .i64 p.sr, .int .i64 p.ds, .int .i64 p.pr, .string p.b], .agg #[.string o.h, .int .i64 o.sr, .int .i64 o.ds, .int .i64 o.pr, .string o.b]] W fun e w' => e = .returned (.bool (beyondB p o)) ∧ Below W.heap.size W w') := fun W => beyond_any p o W hp hob
          have hkI : (0 : Int) ≤ (k : Int) := by omega
          have hkL : (k : Int) < (len : Int) := by omega
          have hM2 := hM1.alloc' #[.string o.h, .int .i64 o.sr, .int .i64 o.ds, .int .i64 o.pr, .string o.b] 83 wr.heap.size rfl
          clear hM1
          rename LMid _ _ _ => hM1
          obtain ⟨⟨o0, o1, o2, o3, o4⟩, of⟩ := c5 hM1.at0; obtain ⟨⟨p0, p1, p2, p3, p4⟩, pf⟩ := c5 hM1.at1; have m0 := lt_of_block hM1.at0; have m1 := lt_of_block hM1.at1
          have hM : Hid _ := hM1
          clear hM1
          go_upto_region 6 with fail
          clear q0 q1 q2 q3 q4
          go_cut [35] (fun s35 wx => s35 = .bool (clash1 p o) ∧ LMid w wx ((wr.heap.size, #[.string o.h, .int .i64 o.sr, .int .i64 o.ds, .int .i64 o.pr, .string o.b], 83) :: [(w.heap.size + 1, #[.string p.h, .int .i64 p.sr, .int .i64 p.ds, .int .i64 p.pr, .string p.b], 83)]))
          case first =>
            cases c1 : overB o p
            · rw [c1] at HOV HCL
              cases c2 : beyondB o p
              · rw [c2] at HB1 HCL
                go_wp2_with fail
                refine (HOV.out _).mono ?_
                rintro e w1 ⟨rfl, hb1⟩
                have hM1 := hM.out.call hb1
                clear hM hb1 o0 o1 o2 o3 o4 of m0 p0 p1 p2 p3 p4 pf m1; obtain ⟨⟨o0, o1, o2, o3, o4⟩, of⟩ := c5 hM1.at0; obtain ⟨⟨p0, p1, p2, p3, p4⟩, pf⟩ := c5 hM1.at1; have m0 := lt_of_block hM1.at0; have m1 := lt_of_block hM1.at1; have hM : Hid _ := hM1; clear hM1
                go_wp2_with fail
                refine (HB1.out _).mono ?_
                rintro e w2 ⟨rfl, hb1⟩
                have hM1 := hM.out.call hb1
                clear hM hb1 o0 o1 o2 o3 o4 of m0 p0 p1 p2 p3 p4 pf m1; obtain ⟨⟨o0, o1, o2, o3, o4⟩, of⟩ := c5 hM1.at0; obtain ⟨⟨p0, p1, p2, p3, p4⟩, pf⟩ := c5 hM1.at1; have m0 := lt_of_block hM1.at0; have m1 := lt_of_block hM1.at1; have hM : Hid _ := hM1; clear hM1
                go_wp2_with fail
                refine (HB2.out _).mono ?_
                rintro e w3 ⟨rfl, hb1⟩
                have hM1 := hM.out.call hb1
                clear hM hb1 o0 o1 o2 o3 o4 of m0 p0 p1 p2 p3 p4 pf m1; obtain ⟨⟨o0, o1, o2, o3, o4⟩, of⟩ := c5 hM1.at0; obtain ⟨⟨p0, p1, p2, p3, p4⟩, pf⟩ := c5 hM1.at1; have m0 := lt_of_block hM1.at0; have m1 := lt_of_block hM1.at1; have hM : Hid _ := hM1; clear hM1
                go_wp2_with fail
                go_meet
                exact ⟨by rw [HCL.out]; simp, hM.out⟩
              · rw [c2] at HB1 HCL
                go_wp2_with fail
                refine (HOV.out _).mono ?_
                rintro e w1 ⟨rfl, hb1⟩
                have hM1 := hM.out.call hb1
                clear hM hb1 o0 o1 o2 o3 o4 of m0 p0 p1 p2 p3 p4 pf m1; obtain ⟨⟨o0, o1, o2, o3, o4⟩, of⟩ := c5 hM1.at0; obtain ⟨⟨p0, p1, p2, p3, p4⟩, pf⟩ := c5 hM1.at1; have m0 := lt_of_block hM1.at0; have m1 := lt_of_block hM1.at1; have hM : Hid _ := hM1; clear hM1
                go_wp2_with fail
                refine (HB1.out _).mono ?_
                rintro e w2 ⟨rfl, hb1⟩
                have hM1 := hM.out.call hb1
                clear hM hb1 o0 o1 o2 o3 o4 of m0 p0 p1 p2 p3 p4 pf m1; obtain ⟨⟨o0, o1, o2, o3, o4⟩, of⟩ := c5 hM1.at0; obtain ⟨⟨p0, p1, p2, p3, p4⟩, pf⟩ := c5 hM1.at1; have m0 := lt_of_block hM1.at0; have m1 := lt_of_block hM1.at1; have hM : Hid _ := hM1; clear hM1
                go_wp2_with fail
                go_meet
                exact ⟨by rw [HCL.out]; simp, hM.out⟩
            · rw [c1] at HOV HCL
              go_wp2_with fail
              refine (HOV.out _).mono ?_
              rintro e w1 ⟨rfl, hb1⟩
              have hM1 := hM.out.call hb1
              clear hM hb1 o0 o1 o2 o3 o4 of m0 p0 p1 p2 p3 p4 pf m1; obtain ⟨⟨o0, o1, o2, o3, o4⟩, of⟩ := c5 hM1.at0; obtain ⟨⟨p0, p1, p2, p3, p4⟩, pf⟩ := c5 hM1.at1; have m0 := lt_of_block hM1.at0; have m1 := lt_of_block hM1.at1; have hM : Hid _ := hM1; clear hM1
              go_wp2_with fail
              go_meet
              exact ⟨by rw [HCL.out]; simp, hM.out⟩
          case rest =>
            obtain ⟨rfl, hM1⟩ := hcut
            clear hM o0 o1 o2 o3 o4 of m0 p0 p1 p2 p3 p4 pf m1
            have hM : Hid _ := hM1
            clear hM1
            cases hy : clash1 p o
            · go_wp2_with fail
              go_roundw
              case rel => exact ⟨k + 1, by omega, by go_num, HNX.out hy, hM.out.tail⟩
              case measure => simp [intOf]; omega
            · go_wp2_with fail
              go_ret
              exact ⟨g_bool (HHIT.out hy).symm, hM.out.bl⟩
        · have HNO : Hid (clashB d.held p = false) := HC2.out.trans (any_miss _ _ (fun i hi => hno i hi (by have := HE.out; omega)))
          have hM : Hid _ := hM1
          clear hM1 hno
          go_wp2
          go_ret
          exact ⟨g_bool HNO.out.symm, hM.out.bl⟩
    · have HC2 : Hid (clashB d.held p = true) := by
        show _ = _
        rw [HCB.out, HE.out, hbb]; simp
      clear HCB hbb
      go_wp2_with fail
      go_ret
      exact ⟨g_bool HC2.out.symm, hM.out.bl⟩
end Go.Proofs.YtfkjobiapjhacabGreat
/- Contracts of package pieces: fault. Own work. -/
namespace Go.Proofs.YtfkjobiapjhacabGreat
open Go.RowKit
attribute [local go_sem ↓] Go.wp_at_zero Go.wp_at_succ

set_option maxRecDepth 100000 in
set_option maxHeartbeats 2000000 in
theorem Pfault_any (sb so : Nat) (v : Value) (rl : List PR) (d : PD) (hv : Value) (p : KP) (ou ne bi lo hi ps gl : Int) (w : World) (hc : w.cell? ⟨sb, so, none⟩ = some v) (hl : PsAt w v rl) (hn : rl.length ≤ 1000) (hh : HeldOK rl) (hk : KsAt w hv d.held) (hdn : d.held.length ≤ 1000) (hb : ∀ p ∈ d.held, p.b.size ≤ 1000) (hp : p.b.size ≤ 1000) :
    Calls Tryz.prog 65 #[.pointer (some ⟨sb, so, none⟩), .agg #[.int .i64 d.sd, .int .i64 d.sr, .int .i64 d.ds, .int .i64 d.pr, .int .i64 d.nu, .bool d.gu, .int .i64 d.dl, hv], .agg #[.string p.h, .int .i64 p.sr, .int .i64 p.ds, .int .i64 p.pr, .string p.b], .agg #[.int .i64 ou, .int .i64 ne, .int .i64 bi, .int .i64 lo, .int .i64 hi, .int .i64 ps, .int .i64 gl]] w fun e w' => e = .returned (.int .i64 (faultP (rl.map PR.d) d p ps gl)) ∧ Below w.heap.size w w' := by
  obtain ⟨F, hF⟩ : ∃ F, F = faultP (rl.map PR.d) d p ps gl := ⟨_, rfl⟩
  rw [← hF]
  unfold faultP at hF
  rw [List.length_map] at hF
  have htb := lt_of_cell hc
  obtain ⟨ao, cap, hvs⟩ := hl.1.shape
  subst hvs
  have HCC : Hid (w.cell? ⟨sb, so, none⟩ = some (.slice ao rl.length cap)) := hc
  have HTM : Hid (∀ W, Below w.heap.size w W → Calls Tryz.prog 87 #[.pointer (some ⟨sb, so, none⟩), .agg #[.string p.h, .int .i64 p.sr, .int .i64 p.ds, .int .i64 p.pr, .string p.b], .agg #[.int .i64 ou, .int .i64 ne, .int .i64 bi, .int .i64 lo, .int .i64 hi, .int .i64 ps, .int .i64 gl]] W fun e w' => e = .returned (.bool (muchB (rl.map PR.d) p ps gl)) ∧ Below W.heap.size W w') := fun W hW => tooMuch_any sb so _ rl p ou ne bi lo hi ps gl W ((hW.cell (p := ⟨sb, so, none⟩) htb).trans HCC.out) (PsAt.keep hl hW) hn hh hp
  obtain ⟨hao, hcp, hhv⟩ := hk.shape
  subst hhv
  have HHA : Hid (∀ W, Below w.heap.size w W → Calls Tryz.prog 85 #[.agg #[.int .i64 d.sd, .int .i64 d.sr, .int .i64 d.ds, .int .i64 d.pr, .int .i64 d.nu, .bool d.gu, .int .i64 d.dl, .slice hao d.held.length hcp], .agg #[.string p.h, .int .i64 p.sr, .int .i64 p.ds, .int .i64 p.pr, .string p.b]] W fun e w' => e = .returned (.bool (hasP d.held p)) ∧ Below W.heap.size W w') := fun W hW => has_any d _ p W (LsAt.keep hk hW) hdn
  have HCL : Hid (∀ W, Below w.heap.size w W → Calls Tryz.prog 86 #[.agg #[.int .i64 d.sd, .int .i64 d.sr, .int .i64 d.ds, .int .i64 d.pr, .int .i64 d.nu, .bool d.gu, .int .i64 d.dl, .slice hao d.held.length hcp], .agg #[.string p.h, .int .i64 p.sr, .int .i64 p.ds, .int .i64 p.pr, .string p.b]] W fun e w' => e = .returned (.bool (clashB d.held p)) ∧ Below W.heap.size W w') := fun W hW => clashes_any d _ p W (LsAt.keep hk hW) hdn hb hp
  have HEN : Hid (∀ W, Calls Tryz.prog 88 #[.agg #[.string p.h, .int .i64 p.sr, .int .i64 p.ds, .int .i64 p.pr, .string p.b]] W fun e w' => e = .returned (.int .i64 (endI p)) ∧ Below W.heap.size W w') := fun W => kEnd p W hp
  clear hl hh hk hc hb
  generalize d.held.length = len at hF HHA HCL hdn ⊢
  generalize d.gu = gu at hF HHA HCL ⊢
  generalize rl.length = rln at hF hn HCC
  generalize hasP d.held p = hs at hF HHA
  generalize clashB d.held p = cs at hF HCL
  generalize muchB (rl.map PR.d) p ps gl = mc at hF HTM
  generalize endI p = en at hF HEN
  have hM1 : LMid w (((w.alloc (.cells #[.int .i64 d.sd, .int .i64 d.sr, .int .i64 d.ds, .int .i64 d.pr, .int .i64 d.nu, .bool gu, .int .i64 d.dl, .slice hao len hcp] 94)).alloc (.cells #[.string p.h, .int .i64 p.sr, .int .i64 p.ds, .int .i64 p.pr, .string p.b] 83)).alloc (.cells #[.int .i64 ou, .int .i64 ne, .int .i64 bi, .int .i64 lo, .int .i64 hi, .int .i64 ps, .int .i64 gl] 65)) [(w.heap.size + 1 + 1, #[.int .i64 ou, .int .i64 ne, .int .i64 bi, .int .i64 lo, .int .i64 hi, .int .i64 ps, .int .i64 gl], 65), (w.heap.size + 1, #[.string p.h, .int .i64 p.sr, .int .i64 p.ds, .int .i64 p.pr, .string p.b], 83), (w.heap.size, #[.int .i64 d.sd, .int .i64 d.sr, .int .i64 d.ds, .int .i64 d.pr, .int .i64 d.nu, .bool gu, .int .i64 d.dl, .slice hao len hcp], 94)] := (((LMid.start w).alloc' _ _ _ rfl).alloc' _ _ _ (by simp)).alloc' _ _ _ (by simp)
  have hM : Hid _ := hM1
  obtain ⟨⟨c0, c1, c2, c3, c4, c5', c6'⟩, cf⟩ := c7 hM1.at0; obtain ⟨⟨p0, p1, p2, p3, p4⟩, pf⟩ := c5 hM1.at1; obtain ⟨⟨d0, d1, d2, d3, d4, d5, d6, d7⟩, df⟩ := c8h hM1.at2; have hsc := (hM1.bl.cell (p := ⟨sb, so, none⟩) htb).trans HCC.out; have m0 := lt_of_block hM1.at0; have m1 := lt_of_block hM1.at1; have m2 := lt_of_block hM1.at2
  clear hM1
  cases gu
  · rw [if_neg (by simp)] at hF
    cases hs
    · rw [if_neg (by simp)] at hF
      cases cs
      · rw [if_neg (by simp)] at hF
        by_cases h6 : 6 ≤ len
        · rw [if_pos h6] at hF
          subst hF
          have h6' : (6 : Int) ≤ (len : Int) := by omega
          go_enter Tryz.func65, Tryz.ntmps65; go_wp2_with fail
          refine (HHA.out _ hM.out.bl).mono ?_
          rintro e w1 ⟨rfl, hb1⟩; have hM1 := hM.out.call hb1; clear hM hb1 c0 c1 c2 c3 c4 c5' c6' cf p0 p1 p2 p3 p4 pf d0 d1 d2 d3 d4 d5 d6 d7 df hsc m0 m1 m2; obtain ⟨⟨c0, c1, c2, c3, c4, c5', c6'⟩, cf⟩ := c7 hM1.at0; obtain ⟨⟨p0, p1, p2, p3, p4⟩, pf⟩ := c5 hM1.at1; obtain ⟨⟨d0, d1, d2, d3, d4, d5, d6, d7⟩, df⟩ := c8h hM1.at2; have hsc := (hM1.bl.cell (p := ⟨sb, so, none⟩) htb).trans HCC.out; have m0 := lt_of_block hM1.at0; have m1 := lt_of_block hM1.at1; have m2 := lt_of_block hM1.at2; have hM : Hid _ := hM1; clear hM1; go_wp2_with fail
          refine (HCL.out _ hM.out.bl).mono ?_
          rintro e w1 ⟨rfl, hb1⟩; have hM1 := hM.out.call hb1; clear hM hb1 c0 c1 c2 c3 c4 c5' c6' cf p0 p1 p2 p3 p4 pf d0 d1 d2 d3 d4 d5 d6 d7 df hsc m0 m1 m2; obtain ⟨⟨c0, c1, c2, c3, c4, c5', c6'⟩, cf⟩ := c7 hM1.at0; obtain ⟨⟨p0, p1, p2, p3, p4⟩, pf⟩ := c5 hM1.at1; obtain ⟨⟨d0, d1, d2, d3, d4, d5, d6, d7⟩, df⟩ := c8h hM1.at2; have hsc := (hM1.bl.cell (p := ⟨sb, so, none⟩) htb).trans HCC.out; have m0 := lt_of_block hM1.at0; have m1 := lt_of_block hM1.at1; have m2 := lt_of_block hM1.at2; have hM : Hid _ := hM1; clear hM1; go_wp2_with fail
          go_ret
          exact ⟨rfl, hM.out.bl⟩
        · rw [if_neg h6] at hF
          have h6' : ¬ (6 : Int) ≤ (len : Int) := by omega
          cases mc
          · rw [if_neg (by simp)] at hF
            by_cases h0 : len = 0
            · by_cases h4 : 4 ≤ rln
              · rw [if_pos ⟨h0, h4⟩] at hF
                subst hF
                have h4' : (4 : Int) ≤ (rln : Int) := by omega
                have h0' : ((len : Int) == 0) = true := by simp [h0]
                clear h0
                go_enter Tryz.func65, Tryz.ntmps65; go_wp2_with fail
                refine (HHA.out _ hM.out.bl).mono ?_
                rintro e w1 ⟨rfl, hb1⟩; have hM1 := hM.out.call hb1; clear hM hb1 c0 c1 c2 c3 c4 c5' c6' cf p0 p1 p2 p3 p4 pf d0 d1 d2 d3 d4 d5 d6 d7 df hsc m0 m1 m2; obtain ⟨⟨c0, c1, c2, c3, c4, c5', c6'⟩, cf⟩ := c7 hM1.at0; obtain ⟨⟨p0, p1, p2, p3, p4⟩, pf⟩ := c5 hM1.at1; obtain ⟨⟨d0, d1, d2, d3, d4, d5, d6, d7⟩, df⟩ := c8h hM1.at2; have hsc := (hM1.bl.cell (p := ⟨sb, so, none⟩) htb).trans HCC.out; have m0 := lt_of_block hM1.at0; have m1 := lt_of_block hM1.at1; have m2 := lt_of_block hM1.at2; have hM : Hid _ := hM1; clear hM1; go_wp2_with fail
                refine (HCL.out _ hM.out.bl).mono ?_
                rintro e w1 ⟨rfl, hb1⟩; have hM1 := hM.out.call hb1; clear hM hb1 c0 c1 c2 c3 c4 c5' c6' cf p0 p1 p2 p3 p4 pf d0 d1 d2 d3 d4 d5 d6 d7 df hsc m0 m1 m2; obtain ⟨⟨c0, c1, c2, c3, c4, c5', c6'⟩, cf⟩ := c7 hM1.at0; obtain ⟨⟨p0, p1, p2, p3, p4⟩, pf⟩ := c5 hM1.at1; obtain ⟨⟨d0, d1, d2, d3, d4, d5, d6, d7⟩, df⟩ := c8h hM1.at2; have hsc := (hM1.bl.cell (p := ⟨sb, so, none⟩) htb).trans HCC.out; have m0 := lt_of_block hM1.at0; have m1 := lt_of_block hM1.at1; have m2 := lt_of_block hM1.at2; have hM : Hid _ := hM1; clear hM1; go_wp2_with fail
                refine (HTM.out _ hM.out.bl).mono ?_
                rintro e w1 ⟨rfl, hb1⟩; have hM1 := hM.out.call hb1; clear hM hb1 c0 c1 c2 c3 c4 c5' c6' cf p0 p1 p2 p3 p4 pf d0 d1 d2 d3 d4 d5 d6 d7 df hsc m0 m1 m2; obtain ⟨⟨c0, c1, c2, c3, c4, c5', c6'⟩, cf⟩ := c7 hM1.at0; obtain ⟨⟨p0, p1, p2, p3, p4⟩, pf⟩ := c5 hM1.at1; obtain ⟨⟨d0, d1, d2, d3, d4, d5, d6, d7⟩, df⟩ := c8h hM1.at2; have hsc := (hM1.bl.cell (p := ⟨sb, so, none⟩) htb).trans HCC.out; have m0 := lt_of_block hM1.at0; have m1 := lt_of_block hM1.at1; have m2 := lt_of_block hM1.at2; have hM : Hid _ := hM1; clear hM1; go_wp2_with fail
                go_ret
                exact ⟨rfl, hM.out.bl⟩
              · rw [if_neg (fun h => h4 h.2)] at hF
                have h4' : ¬ (4 : Int) ≤ (rln : Int) := by omega
                have h0' : ((len : Int) == 0) = true := by simp [h0]
                clear h0
                go_enter Tryz.func65, Tryz.ntmps65; go_wp2_with fail
                refine (HHA.out _ hM.out.bl).mono ?_
                rintro e w1 ⟨rfl, hb1⟩; have hM1 := hM.out.call hb1; clear hM hb1 c0 c1 c2 c3 c4 c5' c6' cf p0 p1 p2 p3 p4 pf d0 d1 d2 d3 d4 d5 d6 d7 df hsc m0 m1 m2; obtain ⟨⟨c0, c1, c2, c3, c4, c5', c6'⟩, cf⟩ := c7 hM1.at0; obtain ⟨⟨p0, p1, p2, p3, p4⟩, pf⟩ := c5 hM1.at1; obtain ⟨⟨d0, d1, d2, d3, d4, d5, d6, d7⟩, df⟩ := c8h hM1.at2; have hsc := (hM1.bl.cell (p := ⟨sb, so, none⟩) htb).trans HCC.out; have m0 := lt_of_block hM1.at0; have m1 := lt_of_block hM1.at1; have m2 := lt_of_block hM1.at2; have hM : Hid _ := hM1; clear hM1; go_wp2_with fail
                refine (HCL.out _ hM.out.bl).mono ?_
                rintro e w1 ⟨rfl, hb1⟩; have hM1 := hM.out.call hb1; clear hM hb1 c0 c1 c2 c3 c4 c5' c6' cf p0 p1 p2 p3 p4 pf d0 d1 d2 d3 d4 d5 d6 d7 df hsc m0 m1 m2; obtain ⟨⟨c0, c1, c2, c3, c4, c5', c6'⟩, cf⟩ := c7 hM1.at0; obtain ⟨⟨p0, p1, p2, p3, p4⟩, pf⟩ := c5 hM1.at1; obtain ⟨⟨d0, d1, d2, d3, d4, d5, d6, d7⟩, df⟩ := c8h hM1.at2; have hsc := (hM1.bl.cell (p := ⟨sb, so, none⟩) htb).trans HCC.out; have m0 := lt_of_block hM1.at0; have m1 := lt_of_block hM1.at1; have m2 := lt_of_block hM1.at2; have hM : Hid _ := hM1; clear hM1; go_wp2_with fail
                refine (HTM.out _ hM.out.bl).mono ?_
                rintro e w1 ⟨rfl, hb1⟩; have hM1 := hM.out.call hb1; clear hM hb1 c0 c1 c2 c3 c4 c5' c6' cf p0 p1 p2 p3 p4 pf d0 d1 d2 d3 d4 d5 d6 d7 df hsc m0 m1 m2; obtain ⟨⟨c0, c1, c2, c3, c4, c5', c6'⟩, cf⟩ := c7 hM1.at0; obtain ⟨⟨p0, p1, p2, p3, p4⟩, pf⟩ := c5 hM1.at1; obtain ⟨⟨d0, d1, d2, d3, d4, d5, d6, d7⟩, df⟩ := c8h hM1.at2; have hsc := (hM1.bl.cell (p := ⟨sb, so, none⟩) htb).trans HCC.out; have m0 := lt_of_block hM1.at0; have m1 := lt_of_block hM1.at1; have m2 := lt_of_block hM1.at2; have hM : Hid _ := hM1; clear hM1; go_wp2_with fail
                refine (HEN.out _).mono ?_
                rintro e w1 ⟨rfl, hb1⟩; have hM1 := hM.out.call hb1; clear hM hb1 c0 c1 c2 c3 c4 c5' c6' cf p0 p1 p2 p3 p4 pf d0 d1 d2 d3 d4 d5 d6 d7 df hsc m0 m1 m2; obtain ⟨⟨c0, c1, c2, c3, c4, c5', c6'⟩, cf⟩ := c7 hM1.at0; obtain ⟨⟨p0, p1, p2, p3, p4⟩, pf⟩ := c5 hM1.at1; obtain ⟨⟨d0, d1, d2, d3, d4, d5, d6, d7⟩, df⟩ := c8h hM1.at2; have hsc := (hM1.bl.cell (p := ⟨sb, so, none⟩) htb).trans HCC.out; have m0 := lt_of_block hM1.at0; have m1 := lt_of_block hM1.at1; have m2 := lt_of_block hM1.at2; have hM : Hid _ := hM1; clear hM1; go_wp2_with fail
                all_goals
                  go_ret
                  exact ⟨by rw [hF]; simp [*], hM.out.bl⟩
            · rw [if_neg (fun h => h0 h.1)] at hF
              have h0' : ((len : Int) == 0) = false := by simp [h0]
              clear h0
              go_enter Tryz.func65, Tryz.ntmps65; go_wp2_with fail
              refine (HHA.out _ hM.out.bl).mono ?_
              rintro e w1 ⟨rfl, hb1⟩; have hM1 := hM.out.call hb1; clear hM hb1 c0 c1 c2 c3 c4 c5' c6' cf p0 p1 p2 p3 p4 pf d0 d1 d2 d3 d4 d5 d6 d7 df hsc m0 m1 m2; obtain ⟨⟨c0, c1, c2, c3, c4, c5', c6'⟩, cf⟩ := c7 hM1.at0; obtain ⟨⟨p0, p1, p2, p3, p4⟩, pf⟩ := c5 hM1.at1; obtain ⟨⟨d0, d1, d2, d3, d4, d5, d6, d7⟩, df⟩ := c8h hM1.at2; have hsc := (hM1.bl.cell (p := ⟨sb, so, none⟩) htb).trans HCC.out; have m0 := lt_of_block hM1.at0; have m1 := lt_of_block hM1.at1; have m2 := lt_of_block hM1.at2; have hM : Hid _ := hM1; clear hM1; go_wp2_with fail
              refine (HCL.out _ hM.out.bl).mono ?_
              rintro e w1 ⟨rfl, hb1⟩; have hM1 := hM.out.call hb1; clear hM hb1 c0 c1 c2 c3 c4 c5' c6' cf p0 p1 p2 p3 p4 pf d0 d1 d2 d3 d4 d5 d6 d7 df hsc m0 m1 m2; obtain ⟨⟨c0, c1, c2, c3, c4, c5', c6'⟩, cf⟩ := c7 hM1.at0; obtain ⟨⟨p0, p1, p2, p3, p4⟩, pf⟩ := c5 hM1.at1; obtain ⟨⟨d0, d1, d2, d3, d4, d5, d6, d7⟩, df⟩ := c8h hM1.at2; have hsc := (hM1.bl.cell (p := ⟨sb, so, none⟩) htb).trans HCC.out; have m0 := lt_of_block hM1.at0; have m1 := lt_of_block hM1.at1; have m2 := lt_of_block hM1.at2; have hM : Hid _ := hM1; clear hM1; go_wp2_with fail
              refine (HTM.out _ hM.out.bl).mono ?_
              rintro e w1 ⟨rfl, hb1⟩; have hM1 := hM.out.call hb1; clear hM hb1 c0 c1 c2 c3 c4 c5' c6' cf p0 p1 p2 p3 p4 pf d0 d1 d2 d3 d4 d5 d6 d7 df hsc m0 m1 m2; obtain ⟨⟨c0, c1, c2, c3, c4, c5', c6'⟩, cf⟩ := c7 hM1.at0; obtain ⟨⟨p0, p1, p2, p3, p4⟩, pf⟩ := c5 hM1.at1; obtain ⟨⟨d0, d1, d2, d3, d4, d5, d6, d7⟩, df⟩ := c8h hM1.at2; have hsc := (hM1.bl.cell (p := ⟨sb, so, none⟩) htb).trans HCC.out; have m0 := lt_of_block hM1.at0; have m1 := lt_of_block hM1.at1; have m2 := lt_of_block hM1.at2; have hM : Hid _ := hM1; clear hM1; go_wp2_with fail
              refine (HEN.out _).mono ?_
              rintro e w1 ⟨rfl, hb1⟩; have hM1 := hM.out.call hb1; clear hM hb1 c0 c1 c2 c3 c4 c5' c6' cf p0 p1 p2 p3 p4 pf d0 d1 d2 d3 d4 d5 d6 d7 df hsc m0 m1 m2; obtain ⟨⟨c0, c1, c2, c3, c4, c5', c6'⟩, cf⟩ := c7 hM1.at0; obtain ⟨⟨p0, p1, p2, p3, p4⟩, pf⟩ := c5 hM1.at1; obtain ⟨⟨d0, d1, d2, d3, d4, d5, d6, d7⟩, df⟩ := c8h hM1.at2; have hsc := (hM1.bl.cell (p := ⟨sb, so, none⟩) htb).trans HCC.out; have m0 := lt_of_block hM1.at0; have m1 := lt_of_block hM1.at1; have m2 := lt_of_block hM1.at2; have hM : Hid _ := hM1; clear hM1; go_wp2_with fail
              all_goals
                go_ret
                exact ⟨by rw [hF]; simp [*], hM.out.bl⟩
          · rw [if_pos rfl] at hF
            subst hF
            go_enter Tryz.func65, Tryz.ntmps65; go_wp2_with fail
            refine (HHA.out _ hM.out.bl).mono ?_
            rintro e w1 ⟨rfl, hb1⟩; have hM1 := hM.out.call hb1; clear hM hb1 c0 c1 c2 c3 c4 c5' c6' cf p0 p1 p2 p3 p4 pf d0 d1 d2 d3 d4 d5 d6 d7 df hsc m0 m1 m2; obtain ⟨⟨c0, c1, c2, c3, c4, c5', c6'⟩, cf⟩ := c7 hM1.at0; obtain ⟨⟨p0, p1, p2, p3, p4⟩, pf⟩ := c5 hM1.at1; obtain ⟨⟨d0, d1, d2, d3, d4, d5, d6, d7⟩, df⟩ := c8h hM1.at2; have hsc := (hM1.bl.cell (p := ⟨sb, so, none⟩) htb).trans HCC.out; have m0 := lt_of_block hM1.at0; have m1 := lt_of_block hM1.at1; have m2 := lt_of_block hM1.at2; have hM : Hid _ := hM1; clear hM1; go_wp2_with fail
            refine (HCL.out _ hM.out.bl).mono ?_
            rintro e w1 ⟨rfl, hb1⟩; have hM1 := hM.out.call hb1; clear hM hb1 c0 c1 c2 c3 c4 c5' c6' cf p0 p1 p2 p3 p4 pf d0 d1 d2 d3 d4 d5 d6 d7 df hsc m0 m1 m2; obtain ⟨⟨c0, c1, c2, c3, c4, c5', c6'⟩, cf⟩ := c7 hM1.at0; obtain ⟨⟨p0, p1, p2, p3, p4⟩, pf⟩ := c5 hM1.at1; obtain ⟨⟨d0, d1, d2, d3, d4, d5, d6, d7⟩, df⟩ := c8h hM1.at2; have hsc := (hM1.bl.cell (p := ⟨sb, so, none⟩) htb).trans HCC.out; have m0 := lt_of_block hM1.at0; have m1 := lt_of_block hM1.at1; have m2 := lt_of_block hM1.at2; have hM : Hid _ := hM1; clear hM1; go_wp2_with fail
            refine (HTM.out _ hM.out.bl).mono ?_
            rintro e w1 ⟨rfl, hb1⟩; have hM1 := hM.out.call hb1; clear hM hb1 c0 c1 c2 c3 c4 c5' c6' cf p0 p1 p2 p3 p4 pf d0 d1 d2 d3 d4 d5 d6 d7 df hsc m0 m1 m2; obtain ⟨⟨c0, c1, c2, c3, c4, c5', c6'⟩, cf⟩ := c7 hM1.at0; obtain ⟨⟨p0, p1, p2, p3, p4⟩, pf⟩ := c5 hM1.at1; obtain ⟨⟨d0, d1, d2, d3, d4, d5, d6, d7⟩, df⟩ := c8h hM1.at2; have hsc := (hM1.bl.cell (p := ⟨sb, so, none⟩) htb).trans HCC.out; have m0 := lt_of_block hM1.at0; have m1 := lt_of_block hM1.at1; have m2 := lt_of_block hM1.at2; have hM : Hid _ := hM1; clear hM1; go_wp2_with fail
            go_ret
            exact ⟨rfl, hM.out.bl⟩
      · rw [if_pos rfl] at hF
        subst hF
        go_enter Tryz.func65, Tryz.ntmps65; go_wp2_with fail
        refine (HHA.out _ hM.out.bl).mono ?_
        rintro e w1 ⟨rfl, hb1⟩; have hM1 := hM.out.call hb1; clear hM hb1 c0 c1 c2 c3 c4 c5' c6' cf p0 p1 p2 p3 p4 pf d0 d1 d2 d3 d4 d5 d6 d7 df hsc m0 m1 m2; obtain ⟨⟨c0, c1, c2, c3, c4, c5', c6'⟩, cf⟩ := c7 hM1.at0; obtain ⟨⟨p0, p1, p2, p3, p4⟩, pf⟩ := c5 hM1.at1; obtain ⟨⟨d0, d1, d2, d3, d4, d5, d6, d7⟩, df⟩ := c8h hM1.at2; have hsc := (hM1.bl.cell (p := ⟨sb, so, none⟩) htb).trans HCC.out; have m0 := lt_of_block hM1.at0; have m1 := lt_of_block hM1.at1; have m2 := lt_of_block hM1.at2; have hM : Hid _ := hM1; clear hM1; go_wp2_with fail
        refine (HCL.out _ hM.out.bl).mono ?_
        rintro e w1 ⟨rfl, hb1⟩; have hM1 := hM.out.call hb1; clear hM hb1 c0 c1 c2 c3 c4 c5' c6' cf p0 p1 p2 p3 p4 pf d0 d1 d2 d3 d4 d5 d6 d7 df hsc m0 m1 m2; obtain ⟨⟨c0, c1, c2, c3, c4, c5', c6'⟩, cf⟩ := c7 hM1.at0; obtain ⟨⟨p0, p1, p2, p3, p4⟩, pf⟩ := c5 hM1.at1; obtain ⟨⟨d0, d1, d2, d3, d4, d5, d6, d7⟩, df⟩ := c8h hM1.at2; have hsc := (hM1.bl.cell (p := ⟨sb, so, none⟩) htb).trans HCC.out; have m0 := lt_of_block hM1.at0; have m1 := lt_of_block hM1.at1; have m2 := lt_of_block hM1.at2; have hM : Hid _ := hM1; clear hM1; go_wp2_with fail
        go_ret
        exact ⟨rfl, hM.out.bl⟩
    · rw [if_pos rfl] at hF
      subst hF
      go_enter Tryz.func65, Tryz.ntmps65; go_wp2_with fail
      refine (HHA.out _ hM.out.bl).mono ?_
      rintro e w1 ⟨rfl, hb1⟩; have hM1 := hM.out.call hb1; clear hM hb1 c0 c1 c2 c3 c4 c5' c6' cf p0 p1 p2 p3 p4 pf d0 d1 d2 d3 d4 d5 d6 d7 df hsc m0 m1 m2; obtain ⟨⟨c0, c1, c2, c3, c4, c5', c6'⟩, cf⟩ := c7 hM1.at0; obtain ⟨⟨p0, p1, p2, p3, p4⟩, pf⟩ := c5 hM1.at1; obtain ⟨⟨d0, d1, d2, d3, d4, d5, d6, d7⟩, df⟩ := c8h hM1.at2; have hsc := (hM1.bl.cell (p := ⟨sb, so, none⟩) htb).trans HCC.out; have m0 := lt_of_block hM1.at0; have m1 := lt_of_block hM1.at1; have m2 := lt_of_block hM1.at2; have hM : Hid _ := hM1; clear hM1; go_wp2_with fail
      go_ret
      exact ⟨rfl, hM.out.bl⟩
  · rw [if_pos rfl] at hF
    subst hF
    go_enter Tryz.func65, Tryz.ntmps65; go_wp2_with fail
    go_ret
    exact ⟨rfl, hM.out.bl⟩
end Go.Proofs.YtfkjobiapjhacabGreat
