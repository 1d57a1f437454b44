/- Own work. -/
import Derived.Test.YtfkjobiapjhacabGreatG4
/- Contracts of package pieces: two packets. Own work. -/
namespace Go.Proofs.YtfkjobiapjhacabGreat
open Go.RowKit
attribute [local go_sem ↓] Go.wp_at_zero Go.wp_at_succ

/-- A take, with the slot said. -/
theorem hTake {P : Program} {ops : Array Oper} {Q : Exit → Act → World → Prop} {md : Region.Mode} {S : World → Prop} {i d : Nat} {oi : Oper} {v : Value} {fuel : Nat} {listed : Array Bool} {a : Act} {w : World} (hi : ops[i]? = some oi) (hd : oi.dst = some d)
    (hs : Region.noSelect ops = true) (hf : Region.free md ops listed i = true) (hr : (Region.ready md ops listed).contains i = true)
    (hQ : ∀ c a w, Q (.panic c) (a.put oi.dst v) w → Q (.panic c) a w) (hy : YieldsIf P ops S oi v a) (hS : S w)
    (h : wpAnyH P md ops Q S fuel (listed.setIfInBounds i true) (a.put (some d) v) w) : wpAnyH P md ops Q S (fuel + 1) listed a w :=
  wpAnyH_take hi hs hf hr hQ hy hS (by rw [hd]; exact h)
theorem kMore (p : KP) (w : World) : Calls Tryz.prog 58 #[.agg #[.string p.h, .int .i64 p.sr, .int .i64 p.ds, .int .i64 p.pr, .string p.b]] w fun e w' => e = .returned (.bool (moreB p.h)) ∧ Below w.heap.size w w' := by
  refine (More_any p.h p.b p.sr p.ds p.pr w).mono ?_
  rintro e w' ⟨rfl, rfl⟩
  exact ⟨rfl, (Below.refl _ _).alloc (Nat.le_refl _) _⟩
theorem kPlace (p : KP) (w : World) : Calls Tryz.prog 59 #[.agg #[.string p.h, .int .i64 p.sr, .int .i64 p.ds, .int .i64 p.pr, .string p.b]] w fun e w' => e = .returned (.int .i64 (placeI p.h)) ∧ Below w.heap.size w w' := by
  refine (Place_any p.h p.b p.sr p.ds p.pr w).mono ?_
  rintro e w' ⟨rfl, rfl⟩
  exact ⟨rfl, (Below.refl _ _).alloc (Nat.le_refl _) _⟩
set_option maxRecDepth 100000 in
set_option maxHeartbeats 1000000 in
theorem kNumber (p : KP) (w : World) : Calls Tryz.prog 84 #[.agg #[.string p.h, .int .i64 p.sr, .int .i64 p.ds, .int .i64 p.pr, .string p.b]] w fun e w' => e = .returned (.int .i64 (wordAt p.h 4)) ∧ Below w.heap.size w w' := by
  go_enter Tryz.func84, Tryz.ntmps84
  go_wp2_with (go_at_call 74; refine (Word_any _ _ _ (by decide) (by decide)).mono ?_; rintro e w' ⟨rfl, rfl⟩)
  go_ret
  exact ⟨rfl, (Below.refl _ _).alloc (Nat.le_refl _) _⟩
theorem endI_bd (p : KP) (h : p.b.size ≤ 1000) : 0 ≤ endI p ∧ endI p ≤ 66528 := by
  have := placeI_bd p.h
  unfold endI
  omega
set_option maxRecDepth 100000 in
set_option maxHeartbeats 1000000 in
theorem kEnd (p : KP) (w : World) (hp : p.b.size ≤ 1000) : Calls Tryz.prog 88 #[.agg #[.string p.h, .int .i64 p.sr, .int .i64 p.ds, .int .i64 p.pr, .string p.b]] w fun e w' => e = .returned (.int .i64 (endI p)) ∧ Below w.heap.size w w' := by
  have HE : Hid (endI p = placeI p.h + (p.b.size : Int)) := rfl
  have hb := placeI_bd p.h
  have hw : IntKind.i64.wrap (placeI p.h + (p.b.size : Int)) = placeI p.h + (p.b.size : Int) := g_wrap _ (by omega) (by omega)
  have hM1 := (LMid.start w).alloc' #[.string p.h, .int .i64 p.sr, .int .i64 p.ds, .int .i64 p.pr, .string p.b] 83 _ rfl
  obtain ⟨⟨p0, p1, p2, p3, p4⟩, pf⟩ := c5 hM1.at0; have n0 := lt_of_block hM1.at0
  have hM : Hid _ := hM1.drew
  clear hM1
  go_enter Tryz.func88, Tryz.ntmps88
  go_wp2_with fail
  go_region_held3 (fun w' => w'.cell? ⟨w.heap.size, 0, none⟩ = some (.string p.h) ∧ w'.cell? ⟨w.heap.size, 1, none⟩ = some (.int .i64 p.sr) ∧ w'.cell? ⟨w.heap.size, 2, none⟩ = some (.int .i64 p.ds) ∧ w'.cell? ⟨w.heap.size, 3, none⟩ = some (.int .i64 p.pr) ∧ w'.cell? ⟨w.heap.size, 4, none⟩ = some (.string p.b)) (simp [*]) (first | (go_at_call 59; refine (kPlace _ _).mono ?_; rintro e w1 ⟨rfl, hb1⟩; have hM1 := hM.out.call hb1; clear hM hb1 p0 p1 p2 p3 p4 pf n0; obtain ⟨⟨p0, p1, p2, p3, p4⟩, pf⟩ := c5 hM1.at0; have n0 := lt_of_block hM1.at0; have hM : Hid _ := hM1; clear hM1))
  go_wp2_with fail
  go_ret
  exact ⟨g_int HE.out.symm, hM.out.bl⟩
set_option maxRecDepth 100000 in
set_option maxHeartbeats 2000000 in
theorem overlap_any (p q : KP) (w : World) (hp : p.b.size ≤ 1000) (hq : q.b.size ≤ 1000) : Calls Tryz.prog 111 #[.agg #[.string p.h, .int .i64 p.sr, .int .i64 p.ds, .int .i64 p.pr, .string p.b], .agg #[.string q.h, .int .i64 q.sr, .int .i64 q.ds, .int .i64 q.pr, .string q.b]] w fun e w' => e = .returned (.bool (overB p q)) ∧ Below w.heap.size w w' := by
  have HO : Hid (overB p q = (decide (placeI p.h < endI q) && decide (placeI q.h < endI p))) := rfl
  have hM1 : LMid w ((w.alloc (.cells #[.string p.h, .int .i64 p.sr, .int .i64 p.ds, .int .i64 p.pr, .string p.b] 83)).alloc (.cells #[.string q.h, .int .i64 q.sr, .int .i64 q.ds, .int .i64 q.pr, .string q.b] 83)) [(w.heap.size + 1, #[.string q.h, .int .i64 q.sr, .int .i64 q.ds, .int .i64 q.pr, .string q.b], 83), (w.heap.size, #[.string p.h, .int .i64 p.sr, .int .i64 p.ds, .int .i64 p.pr, .string p.b], 83)] := ((LMid.start w).alloc' #[.string p.h, .int .i64 p.sr, .int .i64 p.ds, .int .i64 p.pr, .string p.b] 83 _ rfl).alloc' #[.string q.h, .int .i64 q.sr, .int .i64 q.ds, .int .i64 q.pr, .string q.b] 83 _ (by simp)
  obtain ⟨⟨p0, p1, p2, p3, p4⟩, pf⟩ := c5 hM1.at1; obtain ⟨⟨q0, q1, q2, q3, q4⟩, qf⟩ := c5 hM1.at0; have n0 := lt_of_block hM1.at1; have n1 := lt_of_block hM1.at0
  have hM : Hid _ := hM1.drew
  clear hM1
  cases hd : decide (placeI p.h < endI q)
  · rw [hd] at HO
    go_enter Tryz.func111, Tryz.ntmps111
    go_wp2_with fail
    first | go_region_with (first | (go_at_call 59; refine (kPlace _ _).mono ?_; rintro e w1 ⟨rfl, hb1⟩; have hM1 := hM.out.call hb1; clear hM hb1 p0 p1 p2 p3 p4 pf q0 q1 q2 q3 q4 qf n0 n1; obtain ⟨⟨p0, p1, p2, p3, p4⟩, pf⟩ := c5 hM1.at1; obtain ⟨⟨q0, q1, q2, q3, q4⟩, qf⟩ := c5 hM1.at0; have n0 := lt_of_block hM1.at1; have n1 := lt_of_block hM1.at0; have hM : Hid _ := hM1; clear hM1) | (go_at_call 88; refine (kEnd _ _ (by assumption)).mono ?_; rintro e w1 ⟨rfl, hb1⟩; have hM1 := hM.out.call hb1; clear hM hb1 p0 p1 p2 p3 p4 pf q0 q1 q2 q3 q4 qf n0 n1; obtain ⟨⟨p0, p1, p2, p3, p4⟩, pf⟩ := c5 hM1.at1; obtain ⟨⟨q0, q1, q2, q3, q4⟩, qf⟩ := c5 hM1.at0; have n0 := lt_of_block hM1.at1; have n1 := lt_of_block hM1.at0; have hM : Hid _ := hM1; clear hM1)) | fail
    all_goals
      go_wp2_with fail
      go_ret
      exact ⟨g_bool (by rw [HO.out]; simp), hM.out.bl⟩
  · rw [hd] at HO
    go_enter Tryz.func111, Tryz.ntmps111
    go_wp2_with fail
    go_region_held3 (fun w' => w'.cell? ⟨w.heap.size, 0, none⟩ = some (.string p.h) ∧ w'.cell? ⟨w.heap.size, 1, none⟩ = some (.int .i64 p.sr) ∧ w'.cell? ⟨w.heap.size, 2, none⟩ = some (.int .i64 p.ds) ∧ w'.cell? ⟨w.heap.size, 3, none⟩ = some (.int .i64 p.pr) ∧ w'.cell? ⟨w.heap.size, 4, none⟩ = some (.string p.b) ∧ w'.cell? ⟨w.heap.size + 1, 0, none⟩ = some (.string q.h) ∧ w'.cell? ⟨w.heap.size + 1, 1, none⟩ = some (.int .i64 q.sr) ∧ w'.cell? ⟨w.heap.size + 1, 2, none⟩ = some (.int .i64 q.ds) ∧ w'.cell? ⟨w.heap.size + 1, 3, none⟩ = some (.int .i64 q.pr) ∧ w'.cell? ⟨w.heap.size + 1, 4, none⟩ = some (.string q.b)) (simp [*]) (first | (go_at_call 59; refine (kPlace _ _).mono ?_; rintro e w1 ⟨rfl, hb1⟩; have hM1 := hM.out.call hb1; clear hM hb1 p0 p1 p2 p3 p4 pf q0 q1 q2 q3 q4 qf n0 n1; obtain ⟨⟨p0, p1, p2, p3, p4⟩, pf⟩ := c5 hM1.at1; obtain ⟨⟨q0, q1, q2, q3, q4⟩, qf⟩ := c5 hM1.at0; have n0 := lt_of_block hM1.at1; have n1 := lt_of_block hM1.at0; have hM : Hid _ := hM1; clear hM1) | (go_at_call 88; refine (kEnd _ _ (by assumption)).mono ?_; rintro e w1 ⟨rfl, hb1⟩; have hM1 := hM.out.call hb1; clear hM hb1 p0 p1 p2 p3 p4 pf q0 q1 q2 q3 q4 qf n0 n1; obtain ⟨⟨p0, p1, p2, p3, p4⟩, pf⟩ := c5 hM1.at1; obtain ⟨⟨q0, q1, q2, q3, q4⟩, qf⟩ := c5 hM1.at0; have n0 := lt_of_block hM1.at1; have n1 := lt_of_block hM1.at0; have hM : Hid _ := hM1; clear hM1))
    all_goals
      go_wp2_with fail
      go_ret
      exact ⟨g_bool (by rw [HO.out]; simp), hM.out.bl⟩
set_option maxRecDepth 100000 in
set_option maxHeartbeats 2000000 in
theorem beyond_any (p q : KP) (w : World) (hp : p.b.size ≤ 1000) (hq : q.b.size ≤ 1000) : Calls Tryz.prog 112 #[.agg #[.string p.h, .int .i64 p.sr, .int .i64 p.ds, .int .i64 p.pr, .string p.b], .agg #[.string q.h, .int .i64 q.sr, .int .i64 q.ds, .int .i64 q.pr, .string q.b]] w fun e w' => e = .returned (.bool (beyondB p q)) ∧ Below w.heap.size w w' := by
  have HO : Hid (beyondB p q = (!moreB p.h && decide (endI p < endI q))) := rfl
  have hM1 : LMid w ((w.alloc (.cells #[.string p.h, .int .i64 p.sr, .int .i64 p.ds, .int .i64 p.pr, .string p.b] 83)).alloc (.cells #[.string q.h, .int .i64 q.sr, .int .i64 q.ds, .int .i64 q.pr, .string q.b] 83)) [(w.heap.size + 1, #[.string q.h, .int .i64 q.sr, .int .i64 q.ds, .int .i64 q.pr, .string q.b], 83), (w.heap.size, #[.string p.h, .int .i64 p.sr, .int .i64 p.ds, .int .i64 p.pr, .string p.b], 83)] := ((LMid.start w).alloc' #[.string p.h, .int .i64 p.sr, .int .i64 p.ds, .int .i64 p.pr, .string p.b] 83 _ rfl).alloc' #[.string q.h, .int .i64 q.sr, .int .i64 q.ds, .int .i64 q.pr, .string q.b] 83 _ (by simp)
  obtain ⟨⟨p0, p1, p2, p3, p4⟩, pf⟩ := c5 hM1.at1; obtain ⟨⟨q0, q1, q2, q3, q4⟩, qf⟩ := c5 hM1.at0; have n0 := lt_of_block hM1.at1; have n1 := lt_of_block hM1.at0
  have hM : Hid _ := hM1.drew
  clear hM1
  cases hd : moreB p.h
  · rw [hd] at HO
    go_enter Tryz.func112, Tryz.ntmps112
    go_wp2_with fail
    go_region_held3 (fun w' => w'.cell? ⟨w.heap.size, 0, none⟩ = some (.string p.h) ∧ w'.cell? ⟨w.heap.size, 1, none⟩ = some (.int .i64 p.sr) ∧ w'.cell? ⟨w.heap.size, 2, none⟩ = some (.int .i64 p.ds) ∧ w'.cell? ⟨w.heap.size, 3, none⟩ = some (.int .i64 p.pr) ∧ w'.cell? ⟨w.heap.size, 4, none⟩ = some (.string p.b) ∧ w'.cell? ⟨w.heap.size + 1, 0, none⟩ = some (.string q.h) ∧ w'.cell? ⟨w.heap.size + 1, 1, none⟩ = some (.int .i64 q.sr) ∧ w'.cell? ⟨w.heap.size + 1, 2, none⟩ = some (.int .i64 q.ds) ∧ w'.cell? ⟨w.heap.size + 1, 3, none⟩ = some (.int .i64 q.pr) ∧ w'.cell? ⟨w.heap.size + 1, 4, none⟩ = some (.string q.b)) (simp [*]) (first | (go_at_call 58; refine (kMore _ _).mono ?_; rintro e w1 ⟨rfl, hb1⟩; have hM1 := hM.out.call hb1; clear hM hb1 p0 p1 p2 p3 p4 pf q0 q1 q2 q3 q4 qf n0 n1; obtain ⟨⟨p0, p1, p2, p3, p4⟩, pf⟩ := c5 hM1.at1; obtain ⟨⟨q0, q1, q2, q3, q4⟩, qf⟩ := c5 hM1.at0; have n0 := lt_of_block hM1.at1; have n1 := lt_of_block hM1.at0; have hM : Hid _ := hM1; clear hM1) | (go_at_call 88; refine (kEnd _ _ (by assumption)).mono ?_; rintro e w1 ⟨rfl, hb1⟩; have hM1 := hM.out.call hb1; clear hM hb1 p0 p1 p2 p3 p4 pf q0 q1 q2 q3 q4 qf n0 n1; obtain ⟨⟨p0, p1, p2, p3, p4⟩, pf⟩ := c5 hM1.at1; obtain ⟨⟨q0, q1, q2, q3, q4⟩, qf⟩ := c5 hM1.at0; have n0 := lt_of_block hM1.at1; have n1 := lt_of_block hM1.at0; have hM : Hid _ := hM1; clear hM1))
    all_goals
      go_wp2_with fail
      go_ret
      exact ⟨g_bool (by rw [HO.out]; simp), hM.out.bl⟩
  · rw [hd] at HO
    go_enter Tryz.func112, Tryz.ntmps112
    go_wp2_with fail
    first | go_region_with (first | (go_at_call 58; refine (kMore _ _).mono ?_; rintro e w1 ⟨rfl, hb1⟩; have hM1 := hM.out.call hb1; clear hM hb1 p0 p1 p2 p3 p4 pf q0 q1 q2 q3 q4 qf n0 n1; obtain ⟨⟨p0, p1, p2, p3, p4⟩, pf⟩ := c5 hM1.at1; obtain ⟨⟨q0, q1, q2, q3, q4⟩, qf⟩ := c5 hM1.at0; have n0 := lt_of_block hM1.at1; have n1 := lt_of_block hM1.at0; have hM : Hid _ := hM1; clear hM1) | (go_at_call 88; refine (kEnd _ _ (by assumption)).mono ?_; rintro e w1 ⟨rfl, hb1⟩; have hM1 := hM.out.call hb1; clear hM hb1 p0 p1 p2 p3 p4 pf q0 q1 q2 q3 q4 qf n0 n1; obtain ⟨⟨p0, p1, p2, p3, p4⟩, pf⟩ := c5 hM1.at1; obtain ⟨⟨q0, q1, q2, q3, q4⟩, qf⟩ := c5 hM1.at0; have n0 := lt_of_block hM1.at1; have n1 := lt_of_block hM1.at0; have hM : Hid _ := hM1; clear hM1)) | fail
    all_goals
      go_wp2_with fail
      go_ret
      exact ⟨g_bool (by rw [HO.out]; simp), hM.out.bl⟩
set_option maxRecDepth 100000 in
set_option maxHeartbeats 1000000 in
theorem costK_any (p : KP) (w : World) (hp : p.b.size ≤ 1000) : Calls Tryz.prog 70 #[.agg #[.string p.h, .int .i64 p.sr, .int .i64 p.ds, .int .i64 p.pr, .string p.b]] w fun e w' => e = .returned (.int .i64 (costK p)) ∧ Below w.heap.size w w' := by
  have HE : Hid (costK p = (p.b.size : Int) + 16) := rfl
  go_enter Tryz.func70, Tryz.ntmps70
  go_wp2
  go_ret
  exact ⟨g_int HE.out.symm, (Below.refl _ _).alloc (Nat.le_refl _) _⟩
set_option maxRecDepth 100000 in
set_option maxHeartbeats 1000000 in
theorem nameOf_any (side : Int) (p : KP) (w : World) : Calls Tryz.prog 63 #[.int .i64 side, .agg #[.string p.h, .int .i64 p.sr, .int .i64 p.ds, .int .i64 p.pr, .string p.b]] w fun e w' => e = .returned (.agg #[.int .i64 side, .int .i64 p.sr, .int .i64 p.ds, .int .i64 p.pr, .int .i64 (wordAt p.h 4)]) ∧ Below w.heap.size w w' := by
  have hM1 : LMid w ((w.alloc (.cells #[.string p.h, .int .i64 p.sr, .int .i64 p.ds, .int .i64 p.pr, .string p.b] 83)).alloc (.cells #[.int .i64 0, .int .i64 0, .int .i64 0, .int .i64 0, .int .i64 0] 92)) [(w.heap.size + 1, #[.int .i64 0, .int .i64 0, .int .i64 0, .int .i64 0, .int .i64 0], 92), (w.heap.size, #[.string p.h, .int .i64 p.sr, .int .i64 p.ds, .int .i64 p.pr, .string p.b], 83)] := ((LMid.start w).alloc' #[.string p.h, .int .i64 p.sr, .int .i64 p.ds, .int .i64 p.pr, .string p.b] 83 _ rfl).alloc' _ _ _ (by simp)
  obtain ⟨⟨p0, p1, p2, p3, p4⟩, pf⟩ := c5 hM1.at1; obtain ⟨⟨q0, q1, q2, q3, q4⟩, qf⟩ := c5 hM1.at0; have n0 := lt_of_block hM1.at1; have n1 := lt_of_block hM1.at0
  have hM : Hid _ := hM1.drew
  clear hM1
  go_enter Tryz.func63, Tryz.ntmps63
  go_wp2_with fail
  go_region_held3 (fun w' => w'.cell? ⟨w.heap.size, 0, none⟩ = some (.string p.h) ∧ w'.cell? ⟨w.heap.size, 1, none⟩ = some (.int .i64 p.sr) ∧ w'.cell? ⟨w.heap.size, 2, none⟩ = some (.int .i64 p.ds) ∧ w'.cell? ⟨w.heap.size, 3, none⟩ = some (.int .i64 p.pr) ∧ w'.cell? ⟨w.heap.size, 4, none⟩ = some (.string p.b)) (first | (simp [*]; done) | go_keep) (first | (go_at_call 84; refine (kNumber _ _).mono ?_; rintro e w1 ⟨rfl, hb1⟩; have hM1 := hM.out.call hb1; clear hM hb1 p0 p1 p2 p3 p4 pf q0 q1 q2 q3 q4 qf n0 n1; obtain ⟨⟨p0, p1, p2, p3, p4⟩, pf⟩ := c5 hM1.at1; obtain ⟨⟨q0, q1, q2, q3, q4⟩, qf⟩ := c5 hM1.at0; have n0 := lt_of_block hM1.at1; have n1 := lt_of_block hM1.at0; have hM : Hid _ := hM1; clear hM1))
  go_wp2_with fail
  refine bodyPost_ret (v := .agg #[.int .i64 side, .int .i64 p.sr, .int .i64 p.ds, .int .i64 p.pr, .int .i64 (wordAt p.h 4)]) (by simp [results, Tryz.results63, go_sem, q0, q1, q2, q3, q4]) rfl ⟨rfl, ?_⟩
  exact ((((hM.out.bl.setCell (by simp) _).setCell (by simp) _).setCell (by simp) _).setCell (by simp) _).setCell (by simp) _
end Go.Proofs.YtfkjobiapjhacabGreat
/- Contracts of package pieces: how much is held. Own work. -/
namespace Go.Proofs.YtfkjobiapjhacabGreat
open Go.RowKit
attribute [local go_sem ↓] Go.wp_at_zero Go.wp_at_succ

theorem c8h {w : World} {b : Nat} {v0 v1 v2 v3 v4 v5 v6 v7 : Value} {t : TypeId} (h : w.heap[b]? = some (.cells #[v0, v1, v2, v3, v4, v5, v6, v7] t (0, 0))) :
    (w.cell? ⟨b, 0, none⟩ = some v0 ∧ w.cell? ⟨b, 1, none⟩ = some v1 ∧ w.cell? ⟨b, 2, none⟩ = some v2 ∧ w.cell? ⟨b, 3, none⟩ = some v3 ∧ w.cell? ⟨b, 4, none⟩ = some v4 ∧ w.cell? ⟨b, 5, none⟩ = some v5 ∧ w.cell? ⟨b, 6, none⟩ = some v6 ∧ w.cell? ⟨b, 7, none⟩ = some v7) ∧ ∀ j, w.frozen? ⟨b, j, none⟩ = false := by
  have hc : ∀ j, w.cell? ⟨b, j, none⟩ = (#[v0, v1, v2, v3, v4, v5, v6, v7] : Array Value)[j]? := fun j => by simp [World.cell?, h]
  exact ⟨⟨hc 0, hc 1, hc 2, hc 3, hc 4, hc 5, hc 6, hc 7⟩, fun j => by simp [World.frozen?, h]⟩
theorem any_hit {α : Type} (f : α → Bool) (l : List α) (k : Nat) (h : k < l.length) (hy : f l[k] = true) : l.any f = true := List.any_eq_true.2 ⟨l[k], List.getElem_mem _, hy⟩
theorem any_miss {α : Type} (f : α → Bool) (l : List α) (hno : ∀ i (hi : i < l.length), f l[i] = false) : l.any f = false := by
  rw [List.any_eq_false]
  intro x hx
  obtain ⟨i, hi, rfl⟩ := List.getElem_of_mem hx
  simp [hno i hi]
theorem costD_snoc (l : List KP) (p : KP) : costD (l ++ [p]) = costD l + costK p := by simp [costD]
theorem costD_to (l : List KP) (k : Nat) (h : k < l.length) : costD (l.take (k + 1)) = costD (l.take k) + costK l[k] := by rw [List.take_succ_eq_append_getElem h, costD_snoc]
theorem costK_bd (p : KP) (h : p.b.size ≤ 1000) : 0 ≤ costK p ∧ costK p ≤ 1016 := by unfold costK; omega
theorem costD_bd (l : List KP) (h : ∀ p ∈ l, p.b.size ≤ 1000) : 0 ≤ costD l ∧ costD l ≤ 1016 * l.length := by
  induction l with
  | nil => simp [costD]
  | cons p t ih =>
    have h1 := costK_bd p (h p (by simp))
    have h2 := ih (fun q hq => h q (by simp [hq]))
    have e : costD (p :: t) = costK p + costD t := by simp [costD]
    rw [e, List.length_cons]
    omega
set_option maxRecDepth 100000 in
set_option maxHeartbeats 1000000 in
theorem cost_any (d : PD) (hv : Value) (w : World) (hk : KsAt w hv d.held) (hn : d.held.length ≤ 1000) (hb : ∀ p ∈ d.held, p.b.size ≤ 1000) :
    Calls Tryz.prog 51 #[.agg #[.int .i64 d.sd, .int .i64 d.sr, .int .i64 d.ds, .int .i64 d.pr, .int .i64 d.nu, .bool d.gu, .int .i64 d.dl, hv]] w fun e w' => e = .returned (.int .i64 (costD d.held)) ∧ Below w.heap.size w w' := by
  have HBD : Hid (∀ p ∈ d.held, p.b.size ≤ 1000) := hb
  clear hb
  obtain ⟨hao, hcp, hhv⟩ := hk.shape; subst hhv; have HK : Hid (KsAt w (.slice hao d.held.length hcp) d.held) := hk; clear hk; generalize hlen : d.held.length = len at hn HK ⊢; have HE : Hid (d.held.length = len) := hlen; clear hlen
  go_enter Tryz.func51, Tryz.ntmps51
  go_wp2
  go_loopw [3, 9] (fun s i wr => ∃ k : Nat, k ≤ len ∧ i = .int .i64 k ∧ s = .int .i64 (costD (d.held.take k)) ∧ LMid w wr [(w.heap.size, #[.int .i64 d.sd, .int .i64 d.sr, .int .i64 d.ds, .int .i64 d.pr, .int .i64 d.nu, .bool d.gu, .int .i64 d.dl, .slice hao len hcp], 94)]) (fun _ i _ => len - (intOf i).toNat)
  case atStart => exact ⟨0, Nat.zero_le _, rfl, rfl, (LMid.start w).alloc' _ _ _ rfl⟩
  case round =>
    obtain ⟨k, hk, rfl, rfl, hM1⟩ := hrel
    by_cases hlt : k < len
    · have hlo : k < d.held.length := by have := HE.out; omega
      obtain ⟨g, cp, hv, hg, q0, q1, q2, q3, q4⟩ := KsAt.get (LsAt.keep HK.out hM1.bl) k hlo
      simp at hv
      obtain ⟨rfl, -, rfl⟩ := hv
      have HC : Hid (costD (d.held.take (k + 1)) = costD (d.held.take k) + costK d.held[k]) := costD_to _ k hlo
      have hcb := costD_bd (d.held.take k) (fun p hp => HBD.out p (List.mem_of_mem_take hp))
      have hob := HBD.out d.held[k] (List.getElem_mem _)
      have hkb := costK_bd d.held[k] hob
      have hll : (d.held.take k).length ≤ k := List.length_take_le _ _
      have hc0 := hcb.1
      have hc1 : costD (d.held.take k) ≤ 1016000 := by have := hcb.2; omega
      have hk0 := hkb.1
      have hk1 := hkb.2
      clear hcb hkb hll
      generalize d.held[k] = o at q0 q1 q2 q3 q4 HC hob hk0 hk1
      generalize costD (d.held.take k) = cc at hc0 hc1 HC ⊢
      have hkI : (0 : Int) ≤ (k : Int) := by omega
      have hkL : (k : Int) < (len : Int) := by omega
      have hM : Hid _ := hM1
      clear hM1
      go_wp2_with (go_at_call 70; refine (costK_any _ _ (by assumption)).mono ?_; rintro e w1 ⟨rfl, hb1⟩; have hM1 := (hM.out.alloc' #[.string o.h, .int .i64 o.sr, .int .i64 o.ds, .int .i64 o.pr, .string o.b] 83 wr.heap.size rfl).call hb1; clear hM hb1; have hM : Hid _ := hM1.tail; clear hM1)
      go_roundw
      case rel => exact ⟨k + 1, by omega, by go_num, by rw [HC.out], hM.out⟩
      case measure => simp [intOf]; omega
    · have HX : Hid (costD (d.held.take k) = costD d.held) := by
        show _ = _
        rw [List.take_of_length_le (by have := HE.out; omega)]
      have hM : Hid _ := hM1
      clear hM1
      go_wp2
      go_ret
      exact ⟨g_int HX.out, hM.out.bl⟩
/-- Pieces that may be held. -/
def HeldOK (rl : List PR) : Prop := ∀ r ∈ rl, r.d.held.length ≤ 1000 ∧ ∀ p ∈ r.d.held, p.b.size ≤ 1000
def WlOK (wl : List PD) : Prop := ∀ d ∈ wl, d.held.length ≤ 1000 ∧ ∀ p ∈ d.held, p.b.size ≤ 1000
theorem HeldOK.of {rl : List PR} {wl : List PD} (h : WlOK wl) (e : rl.map PR.d = wl) : HeldOK rl := fun r hr => h r.d (by rw [← e]; exact List.mem_map_of_mem hr)
theorem heldAll_snoc (l : List PD) (d : PD) : heldAll (l ++ [d]) = heldAll l + costD d.held := by simp [heldAll]
theorem heldOf_snoc (l : List PD) (d : PD) (src : Int) : heldOf (l ++ [d]) src = heldOf l src + (if d.sr = src then costD d.held else 0) := by simp [heldOf]
theorem held_bd (l : List PD) (src : Int) (h : WlOK l) : 0 ≤ heldAll l ∧ heldAll l ≤ 1016000 * l.length ∧ 0 ≤ heldOf l src ∧ heldOf l src ≤ 1016000 * l.length := by
  induction l with
  | nil => simp [heldAll, heldOf]
  | cons d t ih =>
    obtain ⟨h0, h1⟩ := h d (by simp)
    have h2 := costD_bd d.held h1
    have h3 := ih (fun q hq => h q (by simp [hq]))
    have e : heldAll (d :: t) = costD d.held + heldAll t := by simp [heldAll]
    have e2 : heldOf (d :: t) src = (if d.sr = src then costD d.held else 0) + heldOf t src := by simp [heldOf]
    rw [e, e2, List.length_cons]
    split <;> omega
set_option maxRecDepth 100000 in
set_option maxHeartbeats 1000000 in
theorem PHeld_any (sb so : Nat) (v : Value) (rl : List PR) (src : Int) (w : World) (hc : w.cell? ⟨sb, so, none⟩ = some v) (hl : PsAt w v rl) (hn : rl.length ≤ 1000) (hh : HeldOK rl) :
    Calls Tryz.prog 41 #[.pointer (some ⟨sb, so, none⟩), .int .i64 src] w fun e w' => e = .returned (.tuple #[.int .i64 (heldAll (rl.map PR.d)), .int .i64 (heldOf (rl.map PR.d) src)]) ∧ Below w.heap.size w w' := by
  have HL : Hid (PsAt w v rl) := hl
  have HH : Hid (HeldOK rl) := hh
  obtain ⟨ao, cap, hv⟩ := hl.1.shape
  clear hl hh
  subst hv
  generalize hlen : rl.length = len at hn hc HL
  have HE : Hid (rl.length = len) := hlen
  clear hlen
  go_enter Tryz.func41, Tryz.ntmps41
  go_wp2
  go_loopw [6, 7, 16] (fun a s i wr => ∃ k : Nat, k ≤ len ∧ i = .int .i64 k ∧ a = .int .i64 (heldAll ((rl.take k).map PR.d)) ∧ s = .int .i64 (heldOf ((rl.take k).map PR.d) src) ∧ LMid w wr []) (fun _ _ i _ => len - (intOf i).toNat)
  case atStart => exact ⟨0, Nat.zero_le _, rfl, rfl, rfl, LMid.start w⟩
  case round =>
    obtain ⟨k, hk, rfl, rfl, rfl, hM1⟩ := hrel
    by_cases hlt : k < len
    · have hlo : k < rl.length := by have := HE.out; omega
      have hks := (PsAt.keep HL.out hM1.bl).2 rl[k] (List.getElem_mem _)
      obtain ⟨g, cp, hv, hg, q0, q1, q2, q3, q4, q5, q6, q7, hao, hln, hcp, hhv⟩ := PsAt.get (PsAt.keep HL.out hM1.bl) k hlo
      simp at hv
      obtain ⟨rfl, -, rfl⟩ := hv
      have HC : Hid (heldAll ((rl.take (k + 1)).map PR.d) = heldAll ((rl.take k).map PR.d) + costD rl[k].d.held) := by
        show _ = _
        rw [List.take_succ_eq_append_getElem hlo, List.map_append]; exact heldAll_snoc _ _
      have HS : Hid (heldOf ((rl.take (k + 1)).map PR.d) src = heldOf ((rl.take k).map PR.d) src + (if rl[k].d.sr = src then costD rl[k].d.held else 0)) := by
        show _ = _
        rw [List.take_succ_eq_append_getElem hlo, List.map_append]; exact heldOf_snoc _ _ _
      have hcb := held_bd ((rl.take k).map PR.d) src (fun d hd => by
        obtain ⟨r, hr, rfl⟩ := List.mem_map.1 hd
        exact HH.out r (List.mem_of_mem_take hr))
      obtain ⟨ho1, ho2⟩ := HH.out rl[k] (List.getElem_mem _)
      have hll : ((rl.take k).map PR.d).length ≤ k := by rw [List.length_map]; exact List.length_take_le _ _
      have hob := costD_bd rl[k].d.held ho2
      have hc0 := hcb.1
      have hc1 : heldAll ((rl.take k).map PR.d) ≤ 1016000000 := by have := hcb.2.1; omega
      have hc2 := hcb.2.2.1
      have hc3 : heldOf ((rl.take k).map PR.d) src ≤ 1016000000 := by have := hcb.2.2.2; omega
      have hb0 := hob.1
      have hb1 : costD rl[k].d.held ≤ 1016000 := by have := hob.2; omega
      clear hcb hob hll
      generalize heldAll ((rl.take k).map PR.d) = ca at hc0 hc1 HC ⊢
      generalize heldOf ((rl.take k).map PR.d) src = cs at hc2 hc3 HS ⊢
      generalize rl[k] = o at q0 q1 q2 q3 q4 q5 q6 q7 hhv HC HS hks ho1 ho2 hb0 hb1
      rw [hhv] at q7 hks
      have HCO : Hid (∀ W, KsAt W (.slice hao hln hcp) o.d.held → Calls Tryz.prog 51 #[.agg #[.int .i64 o.d.sd, .int .i64 o.d.sr, .int .i64 o.d.ds, .int .i64 o.d.pr, .int .i64 o.d.nu, .bool o.d.gu, .int .i64 o.d.dl, .slice hao hln hcp]] W fun e w' => e = .returned (.int .i64 (costD o.d.held)) ∧ Below W.heap.size W w') := fun W hW => cost_any o.d _ W hW ho1 ho2
      have HKS : Hid (KsAt wr (.slice hao hln hcp) o.d.held) := hks
      generalize costD o.d.held = co at HCO HC HS hb0 hb1
      clear hhv hks ho1 ho2
      have hkI : (0 : Int) ≤ (k : Int) := by omega
      have hkL : (k : Int) < (len : Int) := by omega
      have hM : Hid _ := hM1
      clear hM1
      by_cases hs : o.d.sr = src
      · rw [if_pos hs] at HS
        have hsb : (o.d.sr == src) = true := by simp [hs]
        clear hs
        go_wp2_with (go_at_call 51; refine (HCO.out _ (LsAt.keep HKS.out ((Below.refl _ _).alloc (Nat.le_refl _) _))).mono ?_; rintro e w1 ⟨rfl, hb1⟩; have hM1 := (hM.out.alloc' #[.int .i64 o.d.sd, .int .i64 o.d.sr, .int .i64 o.d.ds, .int .i64 o.d.pr, .int .i64 o.d.nu, .bool o.d.gu, .int .i64 o.d.dl, .slice hao hln hcp] 94 wr.heap.size rfl).call hb1; clear hM hb1 q0 q1 q2 q3 q4 q5 q6 q7; obtain ⟨⟨q0, q1, q2, q3, q4, q5, q6, q7⟩, qf⟩ := c8h hM1.at0; have hM : Hid _ := hM1.tail; clear hM1)
        go_roundw
        case rel => exact ⟨k + 1, by omega, by go_num, by rw [HC.out], by rw [HS.out], hM.out⟩
        case measure => simp [intOf]; omega
      · rw [if_neg hs] at HS
        have hsb : (o.d.sr == src) = false := by simp [hs]
        clear hs
        go_wp2_with (go_at_call 51; refine (HCO.out _ (LsAt.keep HKS.out ((Below.refl _ _).alloc (Nat.le_refl _) _))).mono ?_; rintro e w1 ⟨rfl, hb1⟩; have hM1 := (hM.out.alloc' #[.int .i64 o.d.sd, .int .i64 o.d.sr, .int .i64 o.d.ds, .int .i64 o.d.pr, .int .i64 o.d.nu, .bool o.d.gu, .int .i64 o.d.dl, .slice hao hln hcp] 94 wr.heap.size rfl).call hb1; clear hM hb1 q0 q1 q2 q3 q4 q5 q6 q7; obtain ⟨⟨q0, q1, q2, q3, q4, q5, q6, q7⟩, qf⟩ := c8h hM1.at0; have hM : Hid _ := hM1.tail; clear hM1)
        go_roundw
        case rel => exact ⟨k + 1, by omega, by go_num, by rw [HC.out], by rw [HS.out, Int.add_zero], hM.out⟩
        case measure => simp [intOf]; omega
    · have hx : rl.take k = rl := List.take_of_length_le (by have := HE.out; omega)
      rw [hx]
      have hM : Hid _ := hM1
      clear hM1 hx
      go_wp2
      go_ret2
      exact ⟨rfl, hM.out.bl⟩
set_option maxRecDepth 100000 in
set_option maxHeartbeats 1000000 in
theorem tooMuch_any (sb so : Nat) (v : Value) (rl : List PR) (p : KP) (ou ne bi lo hi ps gl : Int) (w : World) (hc : w.cell? ⟨sb, so, none⟩ = some v) (hl : PsAt w v rl) (hn : rl.length ≤ 1000) (hh : HeldOK rl) (hp : p.b.size ≤ 1000) :
    Calls Tryz.prog 87 #[.pointer (some ⟨sb, so, none⟩), .agg #[.string p.h, .int .i64 p.sr, .int .i64 p.ds, .int .i64 p.pr, .string p.b], .agg #[.int .i64 ou, .int .i64 ne, .int .i64 bi, .int .i64 lo, .int .i64 hi, .int .i64 ps, .int .i64 gl]] w fun e w' => e = .returned (.bool (muchB (rl.map PR.d) p ps gl)) ∧ Below w.heap.size w w' := by
  have HL : Hid (PsAt w v rl) := hl
  have htb := lt_of_cell hc
  have HCC : Hid (w.cell? ⟨sb, so, none⟩ = some v) := hc
  have HH : Hid (∀ W, Below w.heap.size w W → Calls Tryz.prog 41 #[.pointer (some ⟨sb, so, none⟩), .int .i64 p.sr] W fun e w' => e = .returned (.tuple #[.int .i64 (heldAll (rl.map PR.d)), .int .i64 (heldOf (rl.map PR.d) p.sr)]) ∧ Below W.heap.size W w') := fun W hW => PHeld_any sb so v rl p.sr W ((hW.cell (p := ⟨sb, so, none⟩) htb).trans HCC.out) (HL.out.keep hW) hn hh
  have hbd := held_bd (rl.map PR.d) p.sr (fun d hd => by
    obtain ⟨r, hr, rfl⟩ := List.mem_map.1 hd
    exact hh r hr)
  rw [List.length_map] at hbd
  have hkb := costK_bd p hp
  have hc0 := hbd.1
  have hc1 : heldAll (rl.map PR.d) ≤ 1016000000 := by have := hbd.2.1; omega
  have hc2 := hbd.2.2.1
  have hc3 : heldOf (rl.map PR.d) p.sr ≤ 1016000000 := by have := hbd.2.2.2; omega
  have hk0 := hkb.1
  have hk1 := hkb.2
  clear hbd hkb
  have HM : Hid (muchB (rl.map PR.d) p ps gl = (decide (ps < heldOf (rl.map PR.d) p.sr + costK p) || decide (gl < heldAll (rl.map PR.d) + costK p))) := rfl
  have HCK : Hid (∀ W, Calls Tryz.prog 70 #[.agg #[.string p.h, .int .i64 p.sr, .int .i64 p.ds, .int .i64 p.pr, .string p.b]] W fun e w' => e = .returned (.int .i64 (costK p)) ∧ Below W.heap.size W w') := fun W => costK_any p W hp
  generalize muchB (rl.map PR.d) p ps gl = mb at HM ⊢
  generalize heldAll (rl.map PR.d) = ca at hc0 hc1 HM HH
  generalize heldOf (rl.map PR.d) p.sr = co at hc2 hc3 HM HH
  generalize costK p = ck at hk0 hk1 HM HCK
  clear hc hl hh
  have hM1 : LMid w ((w.alloc (.cells #[.string p.h, .int .i64 p.sr, .int .i64 p.ds, .int .i64 p.pr, .string p.b] 83)).alloc (.cells #[.int .i64 ou, .int .i64 ne, .int .i64 bi, .int .i64 lo, .int .i64 hi, .int .i64 ps, .int .i64 gl] 65)) [(w.heap.size + 1, #[.int .i64 ou, .int .i64 ne, .int .i64 bi, .int .i64 lo, .int .i64 hi, .int .i64 ps, .int .i64 gl], 65), (w.heap.size, #[.string p.h, .int .i64 p.sr, .int .i64 p.ds, .int .i64 p.pr, .string p.b], 83)] := ((LMid.start w).alloc' _ _ _ rfl).alloc' _ _ _ (by simp)
  have hM : Hid _ := hM1
  clear hM1
  cases hd : decide (ps < co + ck)
  · cases hd2 : decide (gl < ca + ck)
    all_goals
      rw [hd, hd2] at HM
      have h1 : ¬ ps < co + ck := by simpa using hd
      go_enter Tryz.func87, Tryz.ntmps87
      go_wp2_with fail
      refine (HH.out _ hM.out.bl).mono ?_
      rintro e w1 ⟨rfl, hb1⟩
      have hM1 := hM.out.call hb1
      clear hM hb1
      obtain ⟨⟨p0, p1, p2, p3, p4⟩, pf⟩ := c5 hM1.at1
      obtain ⟨⟨c0, c1, c2, c3, c4, c5', c6'⟩, cf⟩ := c7 hM1.at0
      have hM : Hid _ := hM1
      clear hM1
      go_wp2_with fail
      refine (HCK.out _).mono ?_
      rintro e w2 ⟨rfl, hb2⟩
      have hM1 := hM.out.call hb2
      clear hM hb2 p0 p1 p2 p3 p4 pf c0 c1 c2 c3 c4 c5' c6' cf
      obtain ⟨⟨c0, c1, c2, c3, c4, c5', c6'⟩, cf⟩ := c7 hM1.at0
      have hM : Hid _ := hM1
      clear hM1
      go_wp2_with fail
      go_ret
      exact ⟨g_bool (by rw [HM.out]; simp), hM.out.bl⟩
  · rw [hd] at HM
    have h1 : ps < co + ck := by simpa using hd
    go_enter Tryz.func87, Tryz.ntmps87
    go_wp2_with fail
    refine (HH.out _ hM.out.bl).mono ?_
    rintro e w1 ⟨rfl, hb1⟩
    have hM1 := hM.out.call hb1
    clear hM hb1
    obtain ⟨⟨p0, p1, p2, p3, p4⟩, pf⟩ := c5 hM1.at1
    obtain ⟨⟨c0, c1, c2, c3, c4, c5', c6'⟩, cf⟩ := c7 hM1.at0
    have hM : Hid _ := hM1
    clear hM1
    go_wp2_with fail
    refine (HCK.out _).mono ?_
    rintro e w2 ⟨rfl, hb2⟩
    have hM1 := hM.out.call hb2
    clear hM hb2 p0 p1 p2 p3 p4 pf c0 c1 c2 c3 c4 c5' c6' cf
    obtain ⟨⟨c0, c1, c2, c3, c4, c5', c6'⟩, cf⟩ := c7 hM1.at0
    have hM : Hid _ := hM1
    clear hM1
    go_wp2_with fail
    go_ret
    exact ⟨g_bool (by rw [HM.out]; simp), hM.out.bl⟩
end Go.Proofs.YtfkjobiapjhacabGreat
/- Contracts of package pieces: a datagram that waits. Own work. -/
namespace Go.Proofs.YtfkjobiapjhacabGreat
open Go.RowKit
attribute [local go_sem ↓] Go.wp_at_zero Go.wp_at_succ

theorem ba_beq (a b : ByteArray) : (a.toList == b.toList) = (a == b) := by
  obtain ⟨a⟩ := a
  obtain ⟨b⟩ := b
  rw [ByteArray.toList_eq, ByteArray.toList_eq]
  show (a.toList == b.toList) = (a == b)
  rw [Bool.eq_iff_iff, beq_iff_eq, beq_iff_eq, Array.toList_inj]
set_option maxRecDepth 100000 in
set_option maxHeartbeats 2000000 in
theorem has_any (d : PD) (hv : Value) (p : KP) (w : World) (hk : KsAt w hv d.held) (hn : d.held.length ≤ 1000) :
    Calls Tryz.prog 85 #[.agg #[.int .i64 d.sd, .int .i64 d.sr, .int .i64 d.ds, .int .i64 d.pr, .int .i64 d.nu, .bool d.gu, .int .i64 d.dl, hv], .agg #[.string p.h, .int .i64 p.sr, .int .i64 p.ds, .int .i64 p.pr, .string p.b]] w fun e w' => e = .returned (.bool (hasP d.held p)) ∧ Below w.heap.size w w' := by
  obtain ⟨hao, hcp, hhv⟩ := hk.shape; subst hhv; have HK : Hid (KsAt w (.slice hao d.held.length hcp) d.held) := hk; clear hk; generalize hlen : d.held.length = len at hn HK ⊢; have HE : Hid (d.held.length = len) := hlen; clear hlen
  have HM0 : Hid (LMid w ((w.alloc (.cells #[.int .i64 d.sd, .int .i64 d.sr, .int .i64 d.ds, .int .i64 d.pr, .int .i64 d.nu, .bool d.gu, .int .i64 d.dl, .slice hao len hcp] 94)).alloc (.cells #[.string p.h, .int .i64 p.sr, .int .i64 p.ds, .int .i64 p.pr, .string p.b] 83)) [(w.heap.size + 1, #[.string p.h, .int .i64 p.sr, .int .i64 p.ds, .int .i64 p.pr, .string p.b], 83)]) := ((LMid.start w).call ((Below.refl _ _).alloc (Nat.le_refl _) _)).alloc' _ _ _ (by simp)
  go_enter Tryz.func85, Tryz.ntmps85
  go_wp2
  go_loopw [10] (fun i wr => ∃ k : Nat, k ≤ len ∧ i = .int .i64 k ∧ (∀ j (hj : j < d.held.length), j < k → likeB p d.held[j] = false) ∧ LMid w wr [(w.heap.size + 1, #[.string p.h, .int .i64 p.sr, .int .i64 p.ds, .int .i64 p.pr, .string p.b], 83)]) (fun i _ => len - (intOf i).toNat)
  case atStart => exact ⟨0, Nat.zero_le _, rfl, fun _ _ h => absurd h (Nat.not_lt_zero _), HM0.out⟩
  case round =>
    obtain ⟨k, hk, rfl, hno, hM1⟩ := hrel
    by_cases hlt : k < len
    · have hlo : k < d.held.length := by have := HE.out; omega
      obtain ⟨g, cp, hv, hg, q0, q1, q2, q3, q4⟩ := KsAt.get (LsAt.keep HK.out hM1.bl) k hlo
      simp at hv
      obtain ⟨rfl, -, rfl⟩ := hv
      have HHIT : Hid (likeB p d.held[k] = true → hasP d.held p = true) := fun hy => any_hit _ _ k hlo hy
      have HNX : Hid (likeB p d.held[k] = false → ∀ j (hj : j < d.held.length), j < k + 1 → likeB p d.held[j] = false) := fun hy j hj hjk => by
        rcases Nat.lt_succ_iff_lt_or_eq.1 hjk with h | h
        · exact hno j hj h
        · subst h; exact hy
      have HLK : Hid (likeB p d.held[k] = ((placeI d.held[k].h == placeI p.h) && (moreB d.held[k].h == moreB p.h) && (d.held[k].b == p.b))) := rfl
      clear hno
      generalize d.held[k] = o at q0 q1 q2 q3 q4 HHIT HNX HLK
      have hkI : (0 : Int) ≤ (k : Int) := by omega
      have hkL : (k : Int) < (len : Int) := by omega
      have hM2 := hM1.alloc' #[.string o.h, .int .i64 o.sr, .int .i64 o.ds, .int .i64 o.pr, .string o.b] 83 wr.heap.size rfl
      clear hM1
      rename LMid _ _ _ => hM1
      have hMw : Hid (LMid w (wr.alloc (.cells #[.string o.h, .int .i64 o.sr, .int .i64 o.ds, .int .i64 o.pr, .string o.b] 83)) ((wr.heap.size, #[.string o.h, .int .i64 o.sr, .int .i64 o.ds, .int .i64 o.pr, .string o.b], 83) :: [(w.heap.size + 1, #[.string p.h, .int .i64 p.sr, .int .i64 p.ds, .int .i64 p.pr, .string p.b], 83)])) := hM1
      obtain ⟨⟨o0, o1, o2, o3, o4⟩, of⟩ := c5 hM1.at0; obtain ⟨⟨p0, p1, p2, p3, p4⟩, pf⟩ := c5 hM1.at1; have n0 := lt_of_block hM1.at0; have n1 := lt_of_block hM1.at1
      have hM : Hid _ := hM1.drew
      clear hM1
      go_upto_region 4 with fail
      clear q0 q1 q2 q3 q4
      go_cut [32] (fun s32 wx => s32 = .bool (likeB p o) ∧ LMid w wx [(w.heap.size + 1, #[.string p.h, .int .i64 p.sr, .int .i64 p.ds, .int .i64 p.pr, .string p.b], 83)])
      case first =>
        cases c1 : (placeI o.h == placeI p.h)
        · rw [c1] at HLK
          refine wp_region_held_drew (S := (fun w' => w'.cell? ⟨wr.heap.size, 0, none⟩ = some (.string o.h) ∧ w'.cell? ⟨wr.heap.size, 1, none⟩ = some (.int .i64 o.sr) ∧ w'.cell? ⟨wr.heap.size, 2, none⟩ = some (.int .i64 o.ds) ∧ w'.cell? ⟨wr.heap.size, 3, none⟩ = some (.int .i64 o.pr) ∧ w'.cell? ⟨wr.heap.size, 4, none⟩ = some (.string o.b) ∧ w'.cell? ⟨w.heap.size + 1, 0, none⟩ = some (.string p.h) ∧ w'.cell? ⟨w.heap.size + 1, 1, none⟩ = some (.int .i64 p.sr) ∧ w'.cell? ⟨w.heap.size + 1, 2, none⟩ = some (.int .i64 p.ds) ∧ w'.cell? ⟨w.heap.size + 1, 3, none⟩ = some (.int .i64 p.pr) ∧ w'.cell? ⟨w.heap.size + 1, 4, none⟩ = some (.string p.b))) (by kernel_rfl) (by simp [*]) (fun hHeld => ?_)
          refine hTake (i := 0) (d := 14) (v := ?_) rfl rfl (by kernel_rfl) (by kernel_rfl) (by kernel_rfl) (fun _ _ _ h => h) (Or.inl ⟨by rfl, ?_⟩) (by assumption) ?_
          rotate_left
          · intro w hSw
            (try dsimp only at hSw)
            go_simp
            (try with_reducible rfl)
          (try simp only [Act.put, List.setIfInBounds_toArray, List.set_cons_zero, List.set_cons_succ])
          refine hTake (i := 2) (d := 16) (v := ?_) rfl rfl (by kernel_rfl) (by kernel_rfl) (by kernel_rfl) (fun _ _ _ h => h) (Or.inl ⟨by rfl, ?_⟩) (by assumption) ?_
          rotate_left
          · intro w hSw
            (try dsimp only at hSw)
            go_simp
            (try with_reducible rfl)
          (try simp only [Act.put, List.setIfInBounds_toArray, List.set_cons_zero, List.set_cons_succ])
          refine wpAnyH_ready (rs := [1]) (by kernel_rfl) (by simp) ?_
          refine AllReadyH.cons rfl (fun K hK => ?_) AllReadyH.nil
          go_simp
          (refine (kPlace _ _).mono ?_; rintro e w1 ⟨rfl, hb1⟩; have hM1 := hM.out.call hb1; clear hM hb1; clear o0 o1 o2 o3 o4 of p0 p1 p2 p3 p4 pf n0 n1; obtain ⟨⟨o0, o1, o2, o3, o4⟩, of⟩ := c5 hM1.at0; obtain ⟨⟨p0, p1, p2, p3, p4⟩, pf⟩ := c5 hM1.at1; have n0 := lt_of_block hM1.at0; have n1 := lt_of_block hM1.at1; have hM : Hid _ := hM1; clear hM1)
          refine hK.out _ _ ?_ (fun hHeld => ?_)
          · (try dsimp only)
            simp [*]
          clear hK K
          (try simp only [Act.put, List.setIfInBounds_toArray, List.set_cons_zero, List.set_cons_succ])
          refine wpAnyH_ready (rs := [3]) (by kernel_rfl) (by simp) ?_
          refine AllReadyH.cons rfl (fun K hK => ?_) AllReadyH.nil
          go_simp
          (refine (kPlace _ _).mono ?_; rintro e w1 ⟨rfl, hb1⟩; have hM1 := hM.out.call hb1; clear hM hb1; clear o0 o1 o2 o3 o4 of p0 p1 p2 p3 p4 pf n0 n1; obtain ⟨⟨o0, o1, o2, o3, o4⟩, of⟩ := c5 hM1.at0; obtain ⟨⟨p0, p1, p2, p3, p4⟩, pf⟩ := c5 hM1.at1; have n0 := lt_of_block hM1.at0; have n1 := lt_of_block hM1.at1; have hM : Hid _ := hM1; clear hM1)
          refine hK.out _ _ ?_ (fun hHeld => ?_)
          · (try dsimp only)
            simp [*]
          clear hK K
          (try simp only [Act.put, List.setIfInBounds_toArray, List.set_cons_zero, List.set_cons_succ])
          refine hTake (i := 4) (d := 18) (v := ?_) rfl rfl (by kernel_rfl) (by kernel_rfl) (by kernel_rfl) (fun _ _ _ h => h) (Or.inl ⟨by rfl, ?_⟩) (by assumption) ?_
          rotate_left
          · intro w hSw
            (try dsimp only at hSw)
            go_simp
            (try with_reducible rfl)
          (try simp only [Act.put, List.setIfInBounds_toArray, List.set_cons_zero, List.set_cons_succ])
          refine hTake (i := 5) (d := 19) (v := ?_) rfl rfl (by kernel_rfl) (by kernel_rfl) (by kernel_rfl) (fun _ _ _ h => h) (Or.inl ⟨by rfl, ?_⟩) (by assumption) ?_
          rotate_left
          · intro w hSw
            (try dsimp only at hSw)
            go_simp
            (try with_reducible rfl)
          (try simp only [Act.put, List.setIfInBounds_toArray, List.set_cons_zero, List.set_cons_succ])
          refine hTake (i := 6) (d := 20) (v := undef) rfl rfl (by kernel_rfl) (by kernel_rfl) (by kernel_rfl) (fun _ _ _ h => h) (Or.inr ⟨by rfl, rfl⟩) (by assumption) ?_
          (try simp only [Act.put, List.setIfInBounds_toArray, List.set_cons_zero, List.set_cons_succ])
          refine hTake (i := 8) (d := 22) (v := undef) rfl rfl (by kernel_rfl) (by kernel_rfl) (by kernel_rfl) (fun _ _ _ h => h) (Or.inr ⟨by rfl, rfl⟩) (by assumption) ?_
          (try simp only [Act.put, List.setIfInBounds_toArray, List.set_cons_zero, List.set_cons_succ])
          refine wpAnyH_ready (rs := [7]) (by kernel_rfl) (by simp) ?_
          refine AllReadyH.cons rfl (fun K hK => ?_) AllReadyH.nil
          go_simp
          refine hK.out _ _ ?_ (fun hHeld => ?_)
          · (try dsimp only)
            simp [*]
          clear hK K
          (try simp only [Act.put, List.setIfInBounds_toArray, List.set_cons_zero, List.set_cons_succ])
          refine wpAnyH_ready (rs := [9]) (by kernel_rfl) (by simp) ?_
          refine AllReadyH.cons rfl (fun K hK => ?_) AllReadyH.nil
          go_simp
          refine hK.out _ _ ?_ (fun hHeld => ?_)
          · (try dsimp only)
            simp [*]
          clear hK K
          (try simp only [Act.put, List.setIfInBounds_toArray, List.set_cons_zero, List.set_cons_succ])
          refine hTake (i := 10) (d := 24) (v := undef) rfl rfl (by kernel_rfl) (by kernel_rfl) (by kernel_rfl) (fun _ _ _ h => h) (Or.inr ⟨by rfl, rfl⟩) (by assumption) ?_
          (try simp only [Act.put, List.setIfInBounds_toArray, List.set_cons_zero, List.set_cons_succ])
          refine hTake (i := 11) (d := 25) (v := ?_) rfl rfl (by kernel_rfl) (by kernel_rfl) (by kernel_rfl) (fun _ _ _ h => h) (Or.inl ⟨by rfl, ?_⟩) (by assumption) ?_
          rotate_left
          · intro w hSw
            (try dsimp only at hSw)
            go_simp
            (try with_reducible rfl)
          (try simp only [Act.put, List.setIfInBounds_toArray, List.set_cons_zero, List.set_cons_succ])
          refine hTake (i := 12) (d := 26) (v := ?_) rfl rfl (by kernel_rfl) (by kernel_rfl) (by kernel_rfl) (fun _ _ _ h => h) (Or.inl ⟨by rfl, ?_⟩) (by assumption) ?_
          rotate_left
          · intro w hSw
            (try dsimp only at hSw)
            go_simp
            (try with_reducible rfl)
          (try simp only [Act.put, List.setIfInBounds_toArray, List.set_cons_zero, List.set_cons_succ])
          refine hTake (i := 13) (d := 27) (v := undef) rfl rfl (by kernel_rfl) (by kernel_rfl) (by kernel_rfl) (fun _ _ _ h => h) (Or.inr ⟨by rfl, rfl⟩) (by assumption) ?_
          (try simp only [Act.put, List.setIfInBounds_toArray, List.set_cons_zero, List.set_cons_succ])
          refine hTake (i := 14) (d := 28) (v := undef) rfl rfl (by kernel_rfl) (by kernel_rfl) (by kernel_rfl) (fun _ _ _ h => h) (Or.inr ⟨by rfl, rfl⟩) (by assumption) ?_
          (try simp only [Act.put, List.setIfInBounds_toArray, List.set_cons_zero, List.set_cons_succ])
          refine hTake (i := 15) (d := 29) (v := undef) rfl rfl (by kernel_rfl) (by kernel_rfl) (by kernel_rfl) (fun _ _ _ h => h) (Or.inr ⟨by rfl, rfl⟩) (by assumption) ?_
          (try simp only [Act.put, List.setIfInBounds_toArray, List.set_cons_zero, List.set_cons_succ])
          refine hTake (i := 16) (d := 30) (v := undef) rfl rfl (by kernel_rfl) (by kernel_rfl) (by kernel_rfl) (fun _ _ _ h => h) (Or.inr ⟨by rfl, rfl⟩) (by assumption) ?_
          (try simp only [Act.put, List.setIfInBounds_toArray, List.set_cons_zero, List.set_cons_succ])
          refine hTake (i := 17) (d := 31) (v := undef) rfl rfl (by kernel_rfl) (by kernel_rfl) (by kernel_rfl) (fun _ _ _ h => h) (Or.inr ⟨by rfl, rfl⟩) (by assumption) ?_
          (try simp only [Act.put, List.setIfInBounds_toArray, List.set_cons_zero, List.set_cons_succ])
          refine hTake (i := 18) (d := 32) (v := ?_) rfl rfl (by kernel_rfl) (by kernel_rfl) (by kernel_rfl) (fun _ _ _ h => h) (Or.inl ⟨by rfl, ?_⟩) (by assumption) ?_
          rotate_left
          · intro w hSw
            (try dsimp only at hSw)
            go_simp
            (try with_reducible rfl)
          (try simp only [Act.put, List.setIfInBounds_toArray, List.set_cons_zero, List.set_cons_succ])
          refine wpAnyH_done (by kernel_rfl) ?_ _
          all_goals
            go_wp2_with fail
            go_meet
            exact ⟨by rw [HLK.out]; simp, hM.out.tail⟩
        · rw [c1] at HLK
          cases c2 : (moreB o.h == moreB p.h)
          · rw [c2] at HLK
            refine wp_region_held_drew (S := (fun w' => w'.cell? ⟨wr.heap.size, 0, none⟩ = some (.string o.h) ∧ w'.cell? ⟨wr.heap.size, 1, none⟩ = some (.int .i64 o.sr) ∧ w'.cell? ⟨wr.heap.size, 2, none⟩ = some (.int .i64 o.ds) ∧ w'.cell? ⟨wr.heap.size, 3, none⟩ = some (.int .i64 o.pr) ∧ w'.cell? ⟨wr.heap.size, 4, none⟩ = some (.string o.b) ∧ w'.cell? ⟨w.heap.size + 1, 0, none⟩ = some (.string p.h) ∧ w'.cell? ⟨w.heap.size + 1, 1, none⟩ = some (.int .i64 p.sr) ∧ w'.cell? ⟨w.heap.size + 1, 2, none⟩ = some (.int .i64 p.ds) ∧ w'.cell? ⟨w.heap.size + 1, 3, none⟩ = some (.int .i64 p.pr) ∧ w'.cell? ⟨w.heap.size + 1, 4, none⟩ = some (.string p.b))) (by kernel_rfl) (by simp [*]) (fun hHeld => ?_)
            refine hTake (i := 0) (d := 14) (v := ?_) rfl rfl (by kernel_rfl) (by kernel_rfl) (by kernel_rfl) (fun _ _ _ h => h) (Or.inl ⟨by rfl, ?_⟩) (by assumption) ?_
            rotate_left
            · intro w hSw
              (try dsimp only at hSw)
              go_simp
              (try with_reducible rfl)
            (try simp only [Act.put, List.setIfInBounds_toArray, List.set_cons_zero, List.set_cons_succ])
            refine hTake (i := 2) (d := 16) (v := ?_) rfl rfl (by kernel_rfl) (by kernel_rfl) (by kernel_rfl) (fun _ _ _ h => h) (Or.inl ⟨by rfl, ?_⟩) (by assumption) ?_
            rotate_left
            · intro w hSw
              (try dsimp only at hSw)
              go_simp
              (try with_reducible rfl)
            (try simp only [Act.put, List.setIfInBounds_toArray, List.set_cons_zero, List.set_cons_succ])
            refine wpAnyH_ready (rs := [1]) (by kernel_rfl) (by simp) ?_
            refine AllReadyH.cons rfl (fun K hK => ?_) AllReadyH.nil
            go_simp
            (refine (kPlace _ _).mono ?_; rintro e w1 ⟨rfl, hb1⟩; have hM1 := hM.out.call hb1; clear hM hb1; clear o0 o1 o2 o3 o4 of p0 p1 p2 p3 p4 pf n0 n1; obtain ⟨⟨o0, o1, o2, o3, o4⟩, of⟩ := c5 hM1.at0; obtain ⟨⟨p0, p1, p2, p3, p4⟩, pf⟩ := c5 hM1.at1; have n0 := lt_of_block hM1.at0; have n1 := lt_of_block hM1.at1; have hM : Hid _ := hM1; clear hM1)
            refine hK.out _ _ ?_ (fun hHeld => ?_)
            · (try dsimp only)
              simp [*]
            clear hK K
            (try simp only [Act.put, List.setIfInBounds_toArray, List.set_cons_zero, List.set_cons_succ])
            refine wpAnyH_ready (rs := [3]) (by kernel_rfl) (by simp) ?_
            refine AllReadyH.cons rfl (fun K hK => ?_) AllReadyH.nil
            go_simp
            (refine (kPlace _ _).mono ?_; rintro e w1 ⟨rfl, hb1⟩; have hM1 := hM.out.call hb1; clear hM hb1; clear o0 o1 o2 o3 o4 of p0 p1 p2 p3 p4 pf n0 n1; obtain ⟨⟨o0, o1, o2, o3, o4⟩, of⟩ := c5 hM1.at0; obtain ⟨⟨p0, p1, p2, p3, p4⟩, pf⟩ := c5 hM1.at1; have n0 := lt_of_block hM1.at0; have n1 := lt_of_block hM1.at1; have hM : Hid _ := hM1; clear hM1)
            refine hK.out _ _ ?_ (fun hHeld => ?_)
            · (try dsimp only)
              simp [*]
            clear hK K
            (try simp only [Act.put, List.setIfInBounds_toArray, List.set_cons_zero, List.set_cons_succ])
            refine hTake (i := 4) (d := 18) (v := ?_) rfl rfl (by kernel_rfl) (by kernel_rfl) (by kernel_rfl) (fun _ _ _ h => h) (Or.inl ⟨by rfl, ?_⟩) (by assumption) ?_
            rotate_left
            · intro w hSw
              (try dsimp only at hSw)
              go_simp
              (try with_reducible rfl)
            (try simp only [Act.put, List.setIfInBounds_toArray, List.set_cons_zero, List.set_cons_succ])
            refine hTake (i := 5) (d := 19) (v := ?_) rfl rfl (by kernel_rfl) (by kernel_rfl) (by kernel_rfl) (fun _ _ _ h => h) (Or.inl ⟨by rfl, ?_⟩) (by assumption) ?_
            rotate_left
            · intro w hSw
              (try dsimp only at hSw)
              go_simp
              (try with_reducible rfl)
            (try simp only [Act.put, List.setIfInBounds_toArray, List.set_cons_zero, List.set_cons_succ])
            refine hTake (i := 6) (d := 20) (v := ?_) rfl rfl (by kernel_rfl) (by kernel_rfl) (by kernel_rfl) (fun _ _ _ h => h) (Or.inl ⟨by rfl, ?_⟩) (by assumption) ?_
            rotate_left
            · intro w hSw
              (try dsimp only at hSw)
              go_simp
              (try with_reducible rfl)
            (try simp only [Act.put, List.setIfInBounds_toArray, List.set_cons_zero, List.set_cons_succ])
            refine hTake (i := 8) (d := 22) (v := ?_) rfl rfl (by kernel_rfl) (by kernel_rfl) (by kernel_rfl) (fun _ _ _ h => h) (Or.inl ⟨by rfl, ?_⟩) (by assumption) ?_
            rotate_left
            · intro w hSw
              (try dsimp only at hSw)
              go_simp
              (try with_reducible rfl)
            (try simp only [Act.put, List.setIfInBounds_toArray, List.set_cons_zero, List.set_cons_succ])
            refine wpAnyH_ready (rs := [7]) (by kernel_rfl) (by simp) ?_
            refine AllReadyH.cons rfl (fun K hK => ?_) AllReadyH.nil
            go_simp
            (refine (kMore _ _).mono ?_; rintro e w1 ⟨rfl, hb1⟩; have hM1 := hM.out.call hb1; clear hM hb1; clear o0 o1 o2 o3 o4 of p0 p1 p2 p3 p4 pf n0 n1; obtain ⟨⟨o0, o1, o2, o3, o4⟩, of⟩ := c5 hM1.at0; obtain ⟨⟨p0, p1, p2, p3, p4⟩, pf⟩ := c5 hM1.at1; have n0 := lt_of_block hM1.at0; have n1 := lt_of_block hM1.at1; have hM : Hid _ := hM1; clear hM1)
            refine hK.out _ _ ?_ (fun hHeld => ?_)
            · (try dsimp only)
              simp [*]
            clear hK K
            (try simp only [Act.put, List.setIfInBounds_toArray, List.set_cons_zero, List.set_cons_succ])
            refine wpAnyH_ready (rs := [9]) (by kernel_rfl) (by simp) ?_
            refine AllReadyH.cons rfl (fun K hK => ?_) AllReadyH.nil
            go_simp
            (refine (kMore _ _).mono ?_; rintro e w1 ⟨rfl, hb1⟩; have hM1 := hM.out.call hb1; clear hM hb1; clear o0 o1 o2 o3 o4 of p0 p1 p2 p3 p4 pf n0 n1; obtain ⟨⟨o0, o1, o2, o3, o4⟩, of⟩ := c5 hM1.at0; obtain ⟨⟨p0, p1, p2, p3, p4⟩, pf⟩ := c5 hM1.at1; have n0 := lt_of_block hM1.at0; have n1 := lt_of_block hM1.at1; have hM : Hid _ := hM1; clear hM1)
            refine hK.out _ _ ?_ (fun hHeld => ?_)
            · (try dsimp only)
              simp [*]
            clear hK K
            (try simp only [Act.put, List.setIfInBounds_toArray, List.set_cons_zero, List.set_cons_succ])
            refine hTake (i := 10) (d := 24) (v := ?_) rfl rfl (by kernel_rfl) (by kernel_rfl) (by kernel_rfl) (fun _ _ _ h => h) (Or.inl ⟨by rfl, ?_⟩) (by assumption) ?_
            rotate_left
            · intro w hSw
              (try dsimp only at hSw)
              go_simp
              (try with_reducible rfl)
            (try simp only [Act.put, List.setIfInBounds_toArray, List.set_cons_zero, List.set_cons_succ])
            refine hTake (i := 11) (d := 25) (v := ?_) rfl rfl (by kernel_rfl) (by kernel_rfl) (by kernel_rfl) (fun _ _ _ h => h) (Or.inl ⟨by rfl, ?_⟩) (by assumption) ?_
            rotate_left
            · intro w hSw
              (try dsimp only at hSw)
              go_simp
              (try with_reducible rfl)
            (try simp only [Act.put, List.setIfInBounds_toArray, List.set_cons_zero, List.set_cons_succ])
            refine hTake (i := 12) (d := 26) (v := ?_) rfl rfl (by kernel_rfl) (by kernel_rfl) (by kernel_rfl) (fun _ _ _ h => h) (Or.inl ⟨by rfl, ?_⟩) (by assumption) ?_
            rotate_left
            · intro w hSw
              (try dsimp only at hSw)
              go_simp
              (try with_reducible rfl)
            (try simp only [Act.put, List.setIfInBounds_toArray, List.set_cons_zero, List.set_cons_succ])
            refine hTake (i := 13) (d := 27) (v := undef) rfl rfl (by kernel_rfl) (by kernel_rfl) (by kernel_rfl) (fun _ _ _ h => h) (Or.inr ⟨by rfl, rfl⟩) (by assumption) ?_
            (try simp only [Act.put, List.setIfInBounds_toArray, List.set_cons_zero, List.set_cons_succ])
            refine hTake (i := 14) (d := 28) (v := undef) rfl rfl (by kernel_rfl) (by kernel_rfl) (by kernel_rfl) (fun _ _ _ h => h) (Or.inr ⟨by rfl, rfl⟩) (by assumption) ?_
            (try simp only [Act.put, List.setIfInBounds_toArray, List.set_cons_zero, List.set_cons_succ])
            refine hTake (i := 15) (d := 29) (v := undef) rfl rfl (by kernel_rfl) (by kernel_rfl) (by kernel_rfl) (fun _ _ _ h => h) (Or.inr ⟨by rfl, rfl⟩) (by assumption) ?_
            (try simp only [Act.put, List.setIfInBounds_toArray, List.set_cons_zero, List.set_cons_succ])
            refine hTake (i := 16) (d := 30) (v := undef) rfl rfl (by kernel_rfl) (by kernel_rfl) (by kernel_rfl) (fun _ _ _ h => h) (Or.inr ⟨by rfl, rfl⟩) (by assumption) ?_
            (try simp only [Act.put, List.setIfInBounds_toArray, List.set_cons_zero, List.set_cons_succ])
            refine hTake (i := 17) (d := 31) (v := undef) rfl rfl (by kernel_rfl) (by kernel_rfl) (by kernel_rfl) (fun _ _ _ h => h) (Or.inr ⟨by rfl, rfl⟩) (by assumption) ?_
            (try simp only [Act.put, List.setIfInBounds_toArray, List.set_cons_zero, List.set_cons_succ])
            refine hTake (i := 18) (d := 32) (v := ?_) rfl rfl (by kernel_rfl) (by kernel_rfl) (by kernel_rfl) (fun _ _ _ h => h) (Or.inl ⟨by rfl, ?_⟩) (by assumption) ?_
            rotate_left
            · intro w hSw
              (try dsimp only at hSw)
              go_simp
              (try with_reducible rfl)
            (try simp only [Act.put, List.setIfInBounds_toArray, List.set_cons_zero, List.set_cons_succ])
            refine wpAnyH_done (by kernel_rfl) ?_ _
            all_goals
              go_wp2_with fail
              go_meet
              exact ⟨by rw [HLK.out]; simp, hM.out.tail⟩
          · rw [c2] at HLK
            refine wp_region_held_drew (S := (fun w' => w'.cell? ⟨wr.heap.size, 0, none⟩ = some (.string o.h) ∧ w'.cell? ⟨wr.heap.size, 1, none⟩ = some (.int .i64 o.sr) ∧ w'.cell? ⟨wr.heap.size, 2, none⟩ = some (.int .i64 o.ds) ∧ w'.cell? ⟨wr.heap.size, 3, none⟩ = some (.int .i64 o.pr) ∧ w'.cell? ⟨wr.heap.size, 4, none⟩ = some (.string o.b) ∧ w'.cell? ⟨w.heap.size + 1, 0, none⟩ = some (.string p.h) ∧ w'.cell? ⟨w.heap.size + 1, 1, none⟩ = some (.int .i64 p.sr) ∧ w'.cell? ⟨w.heap.size + 1, 2, none⟩ = some (.int .i64 p.ds) ∧ w'.cell? ⟨w.heap.size + 1, 3, none⟩ = some (.int .i64 p.pr) ∧ w'.cell? ⟨w.heap.size + 1, 4, none⟩ = some (.string p.b))) (by kernel_rfl) (by simp [*]) (fun hHeld => ?_)
            refine hTake (i := 0) (d := 14) (v := ?_) rfl rfl (by kernel_rfl) (by kernel_rfl) (by kernel_rfl) (fun _ _ _ h => h) (Or.inl ⟨by rfl, ?_⟩) (by assumption) ?_
            rotate_left
            · intro w hSw
              (try dsimp only at hSw)
              go_simp
              (try with_reducible rfl)
            (try simp only [Act.put, List.setIfInBounds_toArray, List.set_cons_zero, List.set_cons_succ])
            refine hTake (i := 2) (d := 16) (v := ?_) rfl rfl (by kernel_rfl) (by kernel_rfl) (by kernel_rfl) (fun _ _ _ h => h) (Or.inl ⟨by rfl, ?_⟩) (by assumption) ?_
            rotate_left
            · intro w hSw
              (try dsimp only at hSw)
              go_simp
              (try with_reducible rfl)
            (try simp only [Act.put, List.setIfInBounds_toArray, List.set_cons_zero, List.set_cons_succ])
            refine wpAnyH_ready (rs := [1]) (by kernel_rfl) (by simp) ?_
            refine AllReadyH.cons rfl (fun K hK => ?_) AllReadyH.nil
            go_simp
            (refine (kPlace _ _).mono ?_; rintro e w1 ⟨rfl, hb1⟩; have hM1 := hM.out.call hb1; clear hM hb1; clear o0 o1 o2 o3 o4 of p0 p1 p2 p3 p4 pf n0 n1; obtain ⟨⟨o0, o1, o2, o3, o4⟩, of⟩ := c5 hM1.at0; obtain ⟨⟨p0, p1, p2, p3, p4⟩, pf⟩ := c5 hM1.at1; have n0 := lt_of_block hM1.at0; have n1 := lt_of_block hM1.at1; have hM : Hid _ := hM1; clear hM1)
            refine hK.out _ _ ?_ (fun hHeld => ?_)
            · (try dsimp only)
              simp [*]
            clear hK K
            (try simp only [Act.put, List.setIfInBounds_toArray, List.set_cons_zero, List.set_cons_succ])
            refine wpAnyH_ready (rs := [3]) (by kernel_rfl) (by simp) ?_
            refine AllReadyH.cons rfl (fun K hK => ?_) AllReadyH.nil
            go_simp
            (refine (kPlace _ _).mono ?_; rintro e w1 ⟨rfl, hb1⟩; have hM1 := hM.out.call hb1; clear hM hb1; clear o0 o1 o2 o3 o4 of p0 p1 p2 p3 p4 pf n0 n1; obtain ⟨⟨o0, o1, o2, o3, o4⟩, of⟩ := c5 hM1.at0; obtain ⟨⟨p0, p1, p2, p3, p4⟩, pf⟩ := c5 hM1.at1; have n0 := lt_of_block hM1.at0; have n1 := lt_of_block hM1.at1; have hM : Hid _ := hM1; clear hM1)
            refine hK.out _ _ ?_ (fun hHeld => ?_)
            · (try dsimp only)
              simp [*]
            clear hK K
            (try simp only [Act.put, List.setIfInBounds_toArray, List.set_cons_zero, List.set_cons_succ])
            refine hTake (i := 4) (d := 18) (v := ?_) rfl rfl (by kernel_rfl) (by kernel_rfl) (by kernel_rfl) (fun _ _ _ h => h) (Or.inl ⟨by rfl, ?_⟩) (by assumption) ?_
            rotate_left
            · intro w hSw
              (try dsimp only at hSw)
              go_simp
              (try with_reducible rfl)
            (try simp only [Act.put, List.setIfInBounds_toArray, List.set_cons_zero, List.set_cons_succ])
            refine hTake (i := 5) (d := 19) (v := ?_) rfl rfl (by kernel_rfl) (by kernel_rfl) (by kernel_rfl) (fun _ _ _ h => h) (Or.inl ⟨by rfl, ?_⟩) (by assumption) ?_
            rotate_left
            · intro w hSw
              (try dsimp only at hSw)
              go_simp
              (try with_reducible rfl)
            (try simp only [Act.put, List.setIfInBounds_toArray, List.set_cons_zero, List.set_cons_succ])
            refine hTake (i := 6) (d := 20) (v := ?_) rfl rfl (by kernel_rfl) (by kernel_rfl) (by kernel_rfl) (fun _ _ _ h => h) (Or.inl ⟨by rfl, ?_⟩) (by assumption) ?_
            rotate_left
            · intro w hSw
              (try dsimp only at hSw)
              go_simp
              (try with_reducible rfl)
            (try simp only [Act.put, List.setIfInBounds_toArray, List.set_cons_zero, List.set_cons_succ])
            refine hTake (i := 8) (d := 22) (v := ?_) rfl rfl (by kernel_rfl) (by kernel_rfl) (by kernel_rfl) (fun _ _ _ h => h) (Or.inl ⟨by rfl, ?_⟩) (by assumption) ?_
            rotate_left
            · intro w hSw
              (try dsimp only at hSw)
              go_simp
              (try with_reducible rfl)
            (try simp only [Act.put, List.setIfInBounds_toArray, List.set_cons_zero, List.set_cons_succ])
            refine wpAnyH_ready (rs := [7]) (by kernel_rfl) (by simp) ?_
            refine AllReadyH.cons rfl (fun K hK => ?_) AllReadyH.nil
            go_simp
            (refine (kMore _ _).mono ?_; rintro e w1 ⟨rfl, hb1⟩; have hM1 := hM.out.call hb1; clear hM hb1; clear o0 o1 o2 o3 o4 of p0 p1 p2 p3 p4 pf n0 n1; obtain ⟨⟨o0, o1, o2, o3, o4⟩, of⟩ := c5 hM1.at0; obtain ⟨⟨p0, p1, p2, p3, p4⟩, pf⟩ := c5 hM1.at1; have n0 := lt_of_block hM1.at0; have n1 := lt_of_block hM1.at1; have hM : Hid _ := hM1; clear hM1)
            refine hK.out _ _ ?_ (fun hHeld => ?_)
            · (try dsimp only)
              simp [*]
            clear hK K
            (try simp only [Act.put, List.setIfInBounds_toArray, List.set_cons_zero, List.set_cons_succ])
            refine wpAnyH_ready (rs := [9]) (by kernel_rfl) (by simp) ?_
            refine AllReadyH.cons rfl (fun K hK => ?_) AllReadyH.nil
            go_simp
            (refine (kMore _ _).mono ?_; rintro e w1 ⟨rfl, hb1⟩; have hM1 := hM.out.call hb1; clear hM hb1; clear o0 o1 o2 o3 o4 of p0 p1 p2 p3 p4 pf n0 n1; obtain ⟨⟨o0, o1, o2, o3, o4⟩, of⟩ := c5 hM1.at0; obtain ⟨⟨p0, p1, p2, p3, p4⟩, pf⟩ := c5 hM1.at1; have n0 := lt_of_block hM1.at0; have n1 := lt_of_block hM1.at1; have hM : Hid _ := hM1; clear hM1)
            refine hK.out _ _ ?_ (fun hHeld => ?_)
            · (try dsimp only)
              simp [*]
            clear hK K
            (try simp only [Act.put, List.setIfInBounds_toArray, List.set_cons_zero, List.set_cons_succ])
            refine hTake (i := 10) (d := 24) (v := ?_) rfl rfl (by kernel_rfl) (by kernel_rfl) (by kernel_rfl) (fun _ _ _ h => h) (Or.inl ⟨by rfl, ?_⟩) (by assumption) ?_
            rotate_left
            · intro w hSw
              (try dsimp only at hSw)
              go_simp
              (try with_reducible rfl)
            (try simp only [Act.put, List.setIfInBounds_toArray, List.set_cons_zero, List.set_cons_succ])
            refine hTake (i := 11) (d := 25) (v := ?_) rfl rfl (by kernel_rfl) (by kernel_rfl) (by kernel_rfl) (fun _ _ _ h => h) (Or.inl ⟨by rfl, ?_⟩) (by assumption) ?_
            rotate_left
            · intro w hSw
              (try dsimp only at hSw)
              go_simp
              (try with_reducible rfl)
            (try simp only [Act.put, List.setIfInBounds_toArray, List.set_cons_zero, List.set_cons_succ])
            refine hTake (i := 12) (d := 26) (v := ?_) rfl rfl (by kernel_rfl) (by kernel_rfl) (by kernel_rfl) (fun _ _ _ h => h) (Or.inl ⟨by rfl, ?_⟩) (by assumption) ?_
            rotate_left
            · intro w hSw
              (try dsimp only at hSw)
              go_simp
              (try with_reducible rfl)
            (try simp only [Act.put, List.setIfInBounds_toArray, List.set_cons_zero, List.set_cons_succ])
            refine hTake (i := 13) (d := 27) (v := ?_) rfl rfl (by kernel_rfl) (by kernel_rfl) (by kernel_rfl) (fun _ _ _ h => h) (Or.inl ⟨by rfl, ?_⟩) (by assumption) ?_
            rotate_left
            · intro w hSw
              (try dsimp only at hSw)
              go_simp
              (try with_reducible rfl)
            (try simp only [Act.put, List.setIfInBounds_toArray, List.set_cons_zero, List.set_cons_succ])
            refine hTake (i := 14) (d := 28) (v := ?_) rfl rfl (by kernel_rfl) (by kernel_rfl) (by kernel_rfl) (fun _ _ _ h => h) (Or.inl ⟨by rfl, ?_⟩) (by assumption) ?_
            rotate_left
            · intro w hSw
              (try dsimp only at hSw)
              go_simp
              (try with_reducible rfl)
            (try simp only [Act.put, List.setIfInBounds_toArray, List.set_cons_zero, List.set_cons_succ])
            refine hTake (i := 15) (d := 29) (v := ?_) rfl rfl (by kernel_rfl) (by kernel_rfl) (by kernel_rfl) (fun _ _ _ h => h) (Or.inl ⟨by rfl, ?_⟩) (by assumption) ?_
            rotate_left
            · intro w hSw
              (try dsimp only at hSw)
              go_simp
              (try with_reducible rfl)
            (try simp only [Act.put, List.setIfInBounds_toArray, List.set_cons_zero, List.set_cons_succ])
            refine hTake (i := 16) (d := 30) (v := ?_) rfl rfl (by kernel_rfl) (by kernel_rfl) (by kernel_rfl) (fun _ _ _ h => h) (Or.inl ⟨by rfl, ?_⟩) (by assumption) ?_
            rotate_left
            · intro w hSw
              (try dsimp only at hSw)
              go_simp
              (try with_reducible rfl)
            (try simp only [Act.put, List.setIfInBounds_toArray, List.set_cons_zero, List.set_cons_succ])
            refine hTake (i := 17) (d := 31) (v := ?_) rfl rfl (by kernel_rfl) (by kernel_rfl) (by kernel_rfl) (fun _ _ _ h => h) (Or.inl ⟨by rfl, ?_⟩) (by assumption) ?_
            rotate_left
            · intro w hSw
              (try dsimp only at hSw)
              go_simp
              (try with_reducible rfl)
            (try simp only [Act.put, List.setIfInBounds_toArray, List.set_cons_zero, List.set_cons_succ])
            refine hTake (i := 18) (d := 32) (v := ?_) rfl rfl (by kernel_rfl) (by kernel_rfl) (by kernel_rfl) (fun _ _ _ h => h) (Or.inl ⟨by rfl, ?_⟩) (by assumption) ?_
            rotate_left
            · intro w hSw
              (try dsimp only at hSw)
              go_simp
              (try with_reducible rfl)
            (try simp only [Act.put, List.setIfInBounds_toArray, List.set_cons_zero, List.set_cons_succ])
            refine wpAnyH_done (by kernel_rfl) ?_ _
            all_goals
              go_wp2_with fail
              go_meet
              exact ⟨by rw [HLK.out, ← ba_beq]; simp, hM.out.tail⟩
      case rest =>
        obtain ⟨rfl, hM2⟩ := hcut
        clear hM
        clear o0 o1 o2 o3 o4 of p0 p1 p2 p3 p4 pf n0 n1
        have hM : Hid _ := hM2
        clear hM2
        cases hl : likeB p o
        · go_wp2_with fail
          go_roundw
          case rel => exact ⟨k + 1, by omega, by go_num, HNX.out hl, hM.out⟩
          case measure => simp [intOf]; omega
        · go_wp2_with fail
          go_ret
          exact ⟨g_bool (HHIT.out hl).symm, hM.out.bl⟩
    · have HNO : Hid (hasP d.held p = false) := any_miss _ _ (fun i hi => hno i hi (by have := HE.out; omega))
      have hM : Hid _ := hM1
      clear hM1 hno
      go_wp2
      go_ret
      exact ⟨g_bool HNO.out.symm, hM.out.bl⟩
end Go.Proofs.YtfkjobiapjhacabGreat
