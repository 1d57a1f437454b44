/- Own work. -/
import Derived.Test.YtfkjobiapjhacabGreatS1
import Derived.Deep.RegionLaw
/- Contracts of package sessions: how a talk stands. Own work. -/
namespace Go.Proofs.YtfkjobiapjhacabGreat
open Go.RowKit
attribute [local go_sem ↓] Go.wp_at_zero Go.wp_at_succ

/-- How a TCP session stands. -/
structure TK where
  st : Int
  an : Bool
  inf : Bool
  outf : Bool
def TK.val (t : TK) : Value := .agg #[.int .i64 t.st, .bool t.an, .bool t.inf, .bool t.outf]
def tkFirst (pr : Int) : TK := if (pr != 6) = true then ⟨0, false, false, false⟩ else ⟨1, false, false, false⟩
def fl (f m : Int) : Int := bits .and .i64 f m
def tkOpen (t : TK) (side f : Int) : TK :=
  if (side == 0) = true then (if (t.an && (fl f 16 != 0)) = true then { t with st := 2 } else t) else if (fl f 18 == 18) = true then { t with an := true } else t
def tkFin (t : TK) (side : Int) : TK := if (side == 0) = true then { t with inf := true } else { t with outf := true }
def tkEnd (t : TK) (side f : Int) : TK :=
  if (fl f 1 == 0) = true then t else if ((tkFin t side).inf && (tkFin t side).outf) = true then ⟨3, false, false, false⟩ else tkFin t side
def tkBehind (t : TK) (side f : Int) : TK :=
  if (fl f 4 != 0) = true then ⟨3, false, false, false⟩
  else if (t.st == 3) = true then (if ((side == 0) && (fl f 18 == 2)) = true then ⟨1, false, false, false⟩ else t)
  else tkEnd (if (t.st == 1) = true then tkOpen t side f else t) side f

theorem c4 {w : World} {b : Nat} {v0 v1 v2 v3 : Value} {t : TypeId} (h : w.heap[b]? = some (.cells #[v0, v1, v2, v3] t (0, 0))) :
    (w.cell? ⟨b, 0, none⟩ = some v0 ∧ w.cell? ⟨b, 1, none⟩ = some v1 ∧ w.cell? ⟨b, 2, none⟩ = some v2 ∧ w.cell? ⟨b, 3, none⟩ = some v3) ∧ (∀ j, w.frozen? ⟨b, j, none⟩ = false) := by
  constructor
  · simp [World.cell?, h]
  · intro j; simp [World.frozen?, h]

set_option maxRecDepth 100000 in
set_option maxHeartbeats 1000000 in
theorem firstTalk_any (pr : Int) (w : World) :
    Calls Tryz.prog 127 #[.int .i64 pr] w fun e w' => e = .returned ((tkFirst pr).val) ∧ Below w.heap.size w w' := by
  cases h : (pr != 6)
  · have HE : Hid ((tkFirst pr).val = .agg #[.int .i64 1, .bool false, .bool false, .bool false]) := by show _ = _; unfold tkFirst; rw [h]; rfl
    go_enter Tryz.func127, Tryz.ntmps127
    go_wp2
    exact bodyPost_ret (v := .agg #[.int .i64 1, .bool false, .bool false, .bool false]) (by simp [results, Tryz.results127, go_sem]) rfl ⟨by rw [HE.out], (by repeat (first | exact Below.refl _ _ | refine Below.drew ?_ | (refine Below.alloc ?_ (by simp <;> omega) _) | (refine Below.setCell ?_ (by simp) _)))⟩
  · have HE : Hid ((tkFirst pr).val = .agg #[.int .i64 0, .bool false, .bool false, .bool false]) := by show _ = _; unfold tkFirst; rw [h]; rfl
    go_enter Tryz.func127, Tryz.ntmps127
    go_wp2
    exact bodyPost_ret (v := .agg #[.int .i64 0, .bool false, .bool false, .bool false]) (by simp [results, Tryz.results127, go_sem]) rfl ⟨by rw [HE.out], (by repeat (first | exact Below.refl _ _ | refine Below.drew ?_ | (refine Below.alloc ?_ (by simp <;> omega) _) | (refine Below.setCell ?_ (by simp) _)))⟩

set_option maxRecDepth 100000 in
set_option maxHeartbeats 2000000 in
theorem opening_any (st : Int) (an inf outf : Bool) (side f : Int) (w : World) :
    Calls Tryz.prog 129 #[.agg #[.int .i64 st, .bool an, .bool inf, .bool outf], .int .i64 side, .int .i64 f] w fun e w' => e = .returned ((tkOpen ⟨st, an, inf, outf⟩ side f).val) ∧ Below w.heap.size w w' := by
  cases h0 : (side == 0)
  · cases h1 : (bits BinOp.and IntKind.i64 f 18 == 18)
    · have HE : Hid ((tkOpen ⟨st, an, inf, outf⟩ side f).val = .agg #[.int .i64 st, .bool an, .bool inf, .bool outf]) := by show _ = _; unfold tkOpen fl; rw [h0, h1]; rfl
      go_enter Tryz.func129, Tryz.ntmps129
      go_wp2
      exact bodyPost_ret (v := .agg #[.int .i64 st, .bool an, .bool inf, .bool outf]) (by simp [results, Tryz.results129, go_sem]) rfl ⟨by rw [HE.out], (by repeat (first | exact Below.refl _ _ | refine Below.drew ?_ | (refine Below.alloc ?_ (by simp <;> omega) _) | (refine Below.setCell ?_ (by simp) _)))⟩
    · have HE : Hid ((tkOpen ⟨st, an, inf, outf⟩ side f).val = .agg #[.int .i64 st, .bool true, .bool inf, .bool outf]) := by show _ = _; unfold tkOpen fl; rw [h0, h1]; rfl
      go_enter Tryz.func129, Tryz.ntmps129
      go_wp2
      exact bodyPost_ret (v := .agg #[.int .i64 st, .bool true, .bool inf, .bool outf]) (by simp [results, Tryz.results129, go_sem]) rfl ⟨by rw [HE.out], (by repeat (first | exact Below.refl _ _ | refine Below.drew ?_ | (refine Below.alloc ?_ (by simp <;> omega) _) | (refine Below.setCell ?_ (by simp) _)))⟩
  · cases an
    · have HE : Hid ((tkOpen ⟨st, false, inf, outf⟩ side f).val = .agg #[.int .i64 st, .bool false, .bool inf, .bool outf]) := by show _ = _; unfold tkOpen fl; rw [h0]; rfl
      go_enter Tryz.func129, Tryz.ntmps129
      go_wp2
      exact bodyPost_ret (v := .agg #[.int .i64 st, .bool false, .bool inf, .bool outf]) (by simp [results, Tryz.results129, go_sem]) rfl ⟨by rw [HE.out], (by repeat (first | exact Below.refl _ _ | refine Below.drew ?_ | (refine Below.alloc ?_ (by simp <;> omega) _) | (refine Below.setCell ?_ (by simp) _)))⟩
    · cases h1 : (bits BinOp.and IntKind.i64 f 16 != 0)
      · have HE : Hid ((tkOpen ⟨st, true, inf, outf⟩ side f).val = .agg #[.int .i64 st, .bool true, .bool inf, .bool outf]) := by show _ = _; unfold tkOpen fl; rw [h0, h1]; rfl
        go_enter Tryz.func129, Tryz.ntmps129
        go_wp2
        exact bodyPost_ret (v := .agg #[.int .i64 st, .bool true, .bool inf, .bool outf]) (by simp [results, Tryz.results129, go_sem]) rfl ⟨by rw [HE.out], (by repeat (first | exact Below.refl _ _ | refine Below.drew ?_ | (refine Below.alloc ?_ (by simp <;> omega) _) | (refine Below.setCell ?_ (by simp) _)))⟩
      · have HE : Hid ((tkOpen ⟨st, true, inf, outf⟩ side f).val = .agg #[.int .i64 2, .bool true, .bool inf, .bool outf]) := by show _ = _; unfold tkOpen fl; rw [h0, h1]; rfl
        go_enter Tryz.func129, Tryz.ntmps129
        go_wp2
        exact bodyPost_ret (v := .agg #[.int .i64 2, .bool true, .bool inf, .bool outf]) (by simp [results, Tryz.results129, go_sem]) rfl ⟨by rw [HE.out], (by repeat (first | exact Below.refl _ _ | refine Below.drew ?_ | (refine Below.alloc ?_ (by simp <;> omega) _) | (refine Below.setCell ?_ (by simp) _)))⟩

set_option maxRecDepth 100000 in
set_option maxHeartbeats 2000000 in
theorem ending_any (st : Int) (an inf outf : Bool) (side f : Int) (w : World) :
    Calls Tryz.prog 130 #[.agg #[.int .i64 st, .bool an, .bool inf, .bool outf], .int .i64 side, .int .i64 f] w fun e w' => e = .returned ((tkEnd ⟨st, an, inf, outf⟩ side f).val) ∧ Below w.heap.size w w' := by
  cases h1 : (bits BinOp.and IntKind.i64 f 1 == 0)
  · cases h0 : (side == 0)
    · cases inf
      · have HE : Hid ((tkEnd ⟨st, an, false, outf⟩ side f).val = .agg #[.int .i64 st, .bool an, .bool false, .bool true]) := by show _ = _; unfold tkEnd tkFin fl; rw [h1, h0]; rfl
        go_enter Tryz.func130, Tryz.ntmps130
        go_wp2
        exact bodyPost_ret (v := .agg #[.int .i64 st, .bool an, .bool false, .bool true]) (by simp [results, Tryz.results130, go_sem]) rfl ⟨by rw [HE.out], (by repeat (first | exact Below.refl _ _ | refine Below.drew ?_ | (refine Below.alloc ?_ (by simp <;> omega) _) | (refine Below.setCell ?_ (by simp) _)))⟩
      · have HE : Hid ((tkEnd ⟨st, an, true, outf⟩ side f).val = .agg #[.int .i64 3, .bool false, .bool false, .bool false]) := by show _ = _; unfold tkEnd tkFin fl; rw [h1, h0]; rfl
        go_enter Tryz.func130, Tryz.ntmps130
        go_wp2
        exact bodyPost_ret (v := .agg #[.int .i64 3, .bool false, .bool false, .bool false]) (by simp [results, Tryz.results130, go_sem]) rfl ⟨by rw [HE.out], (by repeat (first | exact Below.refl _ _ | refine Below.drew ?_ | (refine Below.alloc ?_ (by simp <;> omega) _) | (refine Below.setCell ?_ (by simp) _)))⟩
    · cases outf
      · have HE : Hid ((tkEnd ⟨st, an, inf, false⟩ side f).val = .agg #[.int .i64 st, .bool an, .bool true, .bool false]) := by show _ = _; unfold tkEnd tkFin fl; rw [h1, h0]; rfl
        go_enter Tryz.func130, Tryz.ntmps130
        go_wp2
        exact bodyPost_ret (v := .agg #[.int .i64 st, .bool an, .bool true, .bool false]) (by simp [results, Tryz.results130, go_sem]) rfl ⟨by rw [HE.out], (by repeat (first | exact Below.refl _ _ | refine Below.drew ?_ | (refine Below.alloc ?_ (by simp <;> omega) _) | (refine Below.setCell ?_ (by simp) _)))⟩
      · have HE : Hid ((tkEnd ⟨st, an, inf, true⟩ side f).val = .agg #[.int .i64 3, .bool false, .bool false, .bool false]) := by show _ = _; unfold tkEnd tkFin fl; rw [h1, h0]; rfl
        go_enter Tryz.func130, Tryz.ntmps130
        go_wp2
        exact bodyPost_ret (v := .agg #[.int .i64 3, .bool false, .bool false, .bool false]) (by simp [results, Tryz.results130, go_sem]) rfl ⟨by rw [HE.out], (by repeat (first | exact Below.refl _ _ | refine Below.drew ?_ | (refine Below.alloc ?_ (by simp <;> omega) _) | (refine Below.setCell ?_ (by simp) _)))⟩
  · have HE : Hid ((tkEnd ⟨st, an, inf, outf⟩ side f).val = .agg #[.int .i64 st, .bool an, .bool inf, .bool outf]) := by show _ = _; unfold tkEnd tkFin fl; rw [h1]; rfl
    go_enter Tryz.func130, Tryz.ntmps130
    go_wp2
    exact bodyPost_ret (v := .agg #[.int .i64 st, .bool an, .bool inf, .bool outf]) (by simp [results, Tryz.results130, go_sem]) rfl ⟨by rw [HE.out], (by repeat (first | exact Below.refl _ _ | refine Below.drew ?_ | (refine Below.alloc ?_ (by simp <;> omega) _) | (refine Below.setCell ?_ (by simp) _)))⟩

structure TMid (w w1 : World) (d : Array Value) : Prop where
  tk : w1.heap[w.heap.size]? = some (.cells d 100 (0, 0))
  rs : w1.heap[w.heap.size + 1]? = some (.cells #[.int .i64 0, .bool false, .bool false, .bool false] 100 (0, 0))
  bl : Below w.heap.size w w1
theorem TMid.call {w w1 w2 : World} {d : Array Value} (h : TMid w w1 d) (hb : Below w1.heap.size w1 w2) : TMid w w2 d :=
  ⟨blk hb h.tk, blk hb h.rs, h.bl.trans (hb.mono h.bl.size)⟩
theorem TMid.start (w : World) (d : Array Value) : TMid w ((w.alloc (.cells d 100)).alloc (.cells #[.int .i64 0, .bool false, .bool false, .bool false] 100)) d :=
  ⟨by rw [hget_alloc, if_neg (by simp), hget_alloc, if_pos rfl], by rw [hget_alloc, if_pos (by simp)], ((Below.refl _ _).alloc (Nat.le_refl _) _).alloc (by simp) _⟩
theorem TMid.store {w w1 : World} {d : Array Value} (h : TMid w w1 d) (j : Nat) (u : Value) : TMid w (w1.setCell ⟨w.heap.size, j, none⟩ u) (d.setIfInBounds j u) :=
  ⟨by rw [hget_set _ _ _ _ _ _ _ h.tk, if_pos rfl], by rw [hget_set _ _ _ _ _ _ _ h.tk, if_neg (by omega)]; exact h.rs, h.bl.setCell (Nat.le_refl _) _⟩

set_option maxRecDepth 100000 in
set_option maxHeartbeats 2000000 in
theorem behind_any (st : Int) (an inf outf : Bool) (side f : Int) (w : World) :
    Calls Tryz.prog 121 #[.agg #[.int .i64 st, .bool an, .bool inf, .bool outf], .int .i64 side, .int .i64 f] w fun e w' => e = .returned ((tkBehind ⟨st, an, inf, outf⟩ side f).val) ∧ Below w.heap.size w w' := by
  cases h4 : (bits BinOp.and IntKind.i64 f 4 != 0)
  · cases h3 : (st == 3)
    · obtain ⟨t1, ht1⟩ : ∃ t1, t1 = (if (st == 1) = true then tkOpen ⟨st, an, inf, outf⟩ side f else ⟨st, an, inf, outf⟩) := ⟨_, rfl⟩
      have HE : Hid (tkBehind ⟨st, an, inf, outf⟩ side f = tkEnd t1 side f) := by show _ = _; unfold tkBehind fl; rw [h4, h3, ht1]; rfl
      have HEN : Hid (∀ w, Calls Tryz.prog 130 #[.agg #[.int .i64 t1.st, .bool t1.an, .bool t1.inf, .bool t1.outf], .int .i64 side, .int .i64 f] w fun e w' => e = .returned (.agg #[.int .i64 (tkBehind ⟨st, an, inf, outf⟩ side f).st, .bool (tkBehind ⟨st, an, inf, outf⟩ side f).an, .bool (tkBehind ⟨st, an, inf, outf⟩ side f).inf, .bool (tkBehind ⟨st, an, inf, outf⟩ side f).outf]) ∧ Below w.heap.size w w') := fun w => by
        rw [HE.out]; exact ending_any t1.st t1.an t1.inf t1.outf side f w
      have HR : Hid ((tkBehind ⟨st, an, inf, outf⟩ side f).val = .agg #[.int .i64 (tkBehind ⟨st, an, inf, outf⟩ side f).st, .bool (tkBehind ⟨st, an, inf, outf⟩ side f).an, .bool (tkBehind ⟨st, an, inf, outf⟩ side f).inf, .bool (tkBehind ⟨st, an, inf, outf⟩ side f).outf]) := rfl
      have M0 : Hid (TMid w ((w.alloc (.cells #[.int .i64 st, .bool an, .bool inf, .bool outf] 100)).alloc (.cells #[.int .i64 0, .bool false, .bool false, .bool false] 100)) #[.int .i64 st, .bool an, .bool inf, .bool outf]) := TMid.start w _
      clear HE
      generalize tkBehind ⟨st, an, inf, outf⟩ side f = r at HEN HR
      cases h1 : (st == 1)
      · have e1 : t1 = ⟨st, an, inf, outf⟩ := by rw [ht1, h1]; rfl
        subst e1
        clear ht1
        go_enter Tryz.func121, Tryz.ntmps121
        go_wp2_with fail
        refine (HEN.out _).mono ?_; rintro e w1 ⟨rfl, hb1⟩
        have M1 : Hid (TMid w w1 #[.int .i64 st, .bool an, .bool inf, .bool outf]) := M0.out.call hb1
        clear hb1
        obtain ⟨⟨r0, r1, r2, r3⟩, rf⟩ := c4 M1.out.rs
        go_wp2_with fail
        refine bodyPost_ret (v := .agg #[.int .i64 r.st, .bool r.an, .bool r.inf, .bool r.outf]) (by simp [results, Tryz.results121, go_sem, r0, r1, r2, r3]) rfl ⟨by rw [HR.out], ?_⟩
        exact (((M1.out.bl.setCell (by simp) _).setCell (by simp) _).setCell (by simp) _).setCell (by simp) _
      · have e1 : tkOpen ⟨st, an, inf, outf⟩ side f = t1 := by rw [ht1, h1]; rfl
        have HOP : Hid (∀ w, Calls Tryz.prog 129 #[.agg #[.int .i64 st, .bool an, .bool inf, .bool outf], .int .i64 side, .int .i64 f] w fun e w' => e = .returned (.agg #[.int .i64 t1.st, .bool t1.an, .bool t1.inf, .bool t1.outf]) ∧ Below w.heap.size w w') := fun w => by
          rw [← e1]; exact opening_any st an inf outf side f w
        clear ht1 e1
        go_enter Tryz.func121, Tryz.ntmps121
        go_wp2_with fail
        refine (HOP.out _).mono ?_; rintro e w1 ⟨rfl, hb1⟩
        have M1 : Hid (TMid w w1 #[.int .i64 st, .bool an, .bool inf, .bool outf]) := M0.out.call hb1
        clear hb1
        obtain ⟨⟨d0, d1, d2, d3⟩, df⟩ := c4 M1.out.tk
        go_wp2_with fail
        refine (HEN.out _).mono ?_; rintro e w2 ⟨rfl, hb2⟩
        have M2 : Hid (TMid w w2 #[.int .i64 t1.st, .bool t1.an, .bool t1.inf, .bool t1.outf]) := ((((M1.out.store 0 _).store 1 _).store 2 _).store 3 _).call hb2
        clear hb2 d0 d1 d2 d3 df
        obtain ⟨⟨r0, r1, r2, r3⟩, rf⟩ := c4 M2.out.rs
        go_wp2_with fail
        refine bodyPost_ret (v := .agg #[.int .i64 r.st, .bool r.an, .bool r.inf, .bool r.outf]) (by simp [results, Tryz.results121, go_sem, r0, r1, r2, r3]) rfl ⟨by rw [HR.out], ?_⟩
        exact (((M2.out.bl.setCell (by simp) _).setCell (by simp) _).setCell (by simp) _).setCell (by simp) _
    · cases h0 : (side == 0)
      · have HE : Hid ((tkBehind ⟨st, an, inf, outf⟩ side f).val = .agg #[.int .i64 st, .bool an, .bool inf, .bool outf]) := by show _ = _; unfold tkBehind fl; rw [h4, h3, h0]; rfl
        go_enter Tryz.func121, Tryz.ntmps121
        go_wp2
        exact bodyPost_ret (v := .agg #[.int .i64 st, .bool an, .bool inf, .bool outf]) (by simp [results, Tryz.results121, go_sem]) rfl ⟨by rw [HE.out], (by repeat (first | exact Below.refl _ _ | refine Below.drew ?_ | (refine Below.alloc ?_ (by simp <;> omega) _) | (refine Below.setCell ?_ (by simp) _)))⟩
      · cases h2 : (bits BinOp.and IntKind.i64 f 18 == 2)
        · have HE : Hid ((tkBehind ⟨st, an, inf, outf⟩ side f).val = .agg #[.int .i64 st, .bool an, .bool inf, .bool outf]) := by show _ = _; unfold tkBehind fl; rw [h4, h3, h0, h2]; rfl
          go_enter Tryz.func121, Tryz.ntmps121
          go_wp2
          exact bodyPost_ret (v := .agg #[.int .i64 st, .bool an, .bool inf, .bool outf]) (by simp [results, Tryz.results121, go_sem]) rfl ⟨by rw [HE.out], (by repeat (first | exact Below.refl _ _ | refine Below.drew ?_ | (refine Below.alloc ?_ (by simp <;> omega) _) | (refine Below.setCell ?_ (by simp) _)))⟩
        · have HE : Hid ((tkBehind ⟨st, an, inf, outf⟩ side f).val = .agg #[.int .i64 1, .bool false, .bool false, .bool false]) := by show _ = _; unfold tkBehind fl; rw [h4, h3, h0, h2]; rfl
          have M0 : Hid (TMid w ((w.alloc (.cells #[.int .i64 st, .bool an, .bool inf, .bool outf] 100)).alloc (.cells #[.int .i64 0, .bool false, .bool false, .bool false] 100)) #[.int .i64 st, .bool an, .bool inf, .bool outf]) := TMid.start w _
          have HFT : Hid (∀ w, Calls Tryz.prog 127 #[.int .i64 6] w fun e w' => e = .returned (.agg #[.int .i64 1, .bool false, .bool false, .bool false]) ∧ Below w.heap.size w w') := fun w => firstTalk_any 6 w
          go_enter Tryz.func121, Tryz.ntmps121
          go_wp2_with fail
          refine (HFT.out _).mono ?_; rintro e w1 ⟨rfl, hb1⟩
          have M1 : Hid (TMid w w1 #[.int .i64 st, .bool an, .bool inf, .bool outf]) := M0.out.call hb1
          clear hb1
          obtain ⟨⟨r0, r1, r2, r3⟩, rf⟩ := c4 M1.out.rs
          go_wp2_with fail
          refine bodyPost_ret (v := .agg #[.int .i64 1, .bool false, .bool false, .bool false]) (by simp [results, Tryz.results121, go_sem, r0, r1, r2, r3]) rfl ⟨by rw [HE.out], ?_⟩
          exact (((M1.out.bl.setCell (by simp) _).setCell (by simp) _).setCell (by simp) _).setCell (by simp) _
  · have HE : Hid ((tkBehind ⟨st, an, inf, outf⟩ side f).val = .agg #[.int .i64 3, .bool false, .bool false, .bool false]) := by show _ = _; unfold tkBehind fl; rw [h4]; rfl
    go_enter Tryz.func121, Tryz.ntmps121
    go_wp2
    exact bodyPost_ret (v := .agg #[.int .i64 3, .bool false, .bool false, .bool false]) (by simp [results, Tryz.results121, go_sem]) rfl ⟨by rw [HE.out], (by repeat (first | exact Below.refl _ _ | refine Below.drew ?_ | (refine Below.alloc ?_ (by simp <;> omega) _) | (refine Below.setCell ?_ (by simp) _)))⟩
end Go.Proofs.YtfkjobiapjhacabGreat
/- Contracts of package sessions: ticks, before, Pass. Own work. -/
namespace Go.Proofs.YtfkjobiapjhacabGreat
open Go.RowKit
attribute [local go_sem ↓] Go.wp_at_zero Go.wp_at_succ

def ticksI (pr st : Int) : Int := if pr = 17 then 30 else if pr = 1 then 10 else if st = 2 then 60 else if st = 3 then 5 else 8
theorem ticksI_bd (pr st : Int) : 0 ≤ ticksI pr st ∧ ticksI pr st ≤ 60 := by unfold ticksI; repeat' split <;> omega
set_option maxRecDepth 100000 in
set_option maxHeartbeats 2000000 in
theorem ticks_any (s : SD) (w : World) :
    Calls Tryz.prog 122 #[.agg #[.int .i64 s.pr, .int .i64 s.ia, .int .i64 s.ip, .int .i64 s.fa, .int .i64 s.fp, .int .i64 s.port, .int .i64 s.dl, .int .i64 s.st, .bool s.an, .bool s.inf, .bool s.outf]] w fun e w' => e = .returned (.int .i64 (ticksI s.pr s.st)) ∧ Below w.heap.size w w' := by
  obtain ⟨pr, ia, ip, fa, fp, port, dl, st, an, inf, outf⟩ := s
  have HF : Hid (ticksI pr st = if pr = 17 then 30 else if pr = 1 then 10 else if st = 2 then 60 else if st = 3 then 5 else 8) := rfl
  go_enter Tryz.func122, Tryz.ntmps122
  go_wp2
  all_goals
    go_ret
    refine ⟨g_int ?_, (Below.refl _ _).alloc (Nat.le_refl _) _⟩
    rw [HF.out]
    clear HF
    (repeat' split) <;> first | rfl | (exfalso; simp_all; done)

def befB (s o : SD) : Bool :=
  if ¬ s.pr = o.pr then decide (s.pr < o.pr) else if ¬ s.ia = o.ia then decide (s.ia < o.ia) else if ¬ s.ip = o.ip then decide (s.ip < o.ip) else if ¬ s.fa = o.fa then decide (s.fa < o.fa) else decide (s.fp < o.fp)
set_option maxRecDepth 100000 in
set_option maxHeartbeats 2000000 in
theorem before_any (s o : SD) (w : World) :
    Calls Tryz.prog 128 #[.agg #[.int .i64 s.pr, .int .i64 s.ia, .int .i64 s.ip, .int .i64 s.fa, .int .i64 s.fp, .int .i64 s.port, .int .i64 s.dl, .int .i64 s.st, .bool s.an, .bool s.inf, .bool s.outf], .agg #[.int .i64 o.pr, .int .i64 o.ia, .int .i64 o.ip, .int .i64 o.fa, .int .i64 o.fp, .int .i64 o.port, .int .i64 o.dl, .int .i64 o.st, .bool o.an, .bool o.inf, .bool o.outf]] w fun e w' => e = .returned (.bool (befB s o)) ∧ Below w.heap.size w w' := by
  have HF : Hid (befB s o = if ¬ s.pr = o.pr then decide (s.pr < o.pr) else if ¬ s.ia = o.ia then decide (s.ia < o.ia) else if ¬ s.ip = o.ip then decide (s.ip < o.ip) else if ¬ s.fa = o.fa then decide (s.fa < o.fa) else decide (s.fp < o.fp)) := rfl
  go_enter Tryz.func128, Tryz.ntmps128
  go_wp2
  all_goals
    go_ret
    refine ⟨g_bool ?_, ((Below.refl _ _).alloc (Nat.le_refl _) _).alloc (by simp) _⟩
    rw [HF.out]
    clear HF
    (repeat' split) <;> first | rfl | (exfalso; simp_all; done) | (simp_all; done)

/-- The session behind a message. -/
def passS (pr side f now : Int) (s : SD) : SD :=
  let t := if pr = 6 then tkBehind ⟨s.st, s.an, s.inf, s.outf⟩ side f else ⟨s.st, s.an, s.inf, s.outf⟩
  { s with dl := now + ticksI s.pr t.st, st := t.st, an := t.an, inf := t.inf, outf := t.outf }
theorem scells_set (l : List SD) (k : Nat) (s : SD) (h : k < l.length) : scells (l.set k s) = (scells l).take (k * 11) ++ s.cells ++ (scells l).drop (k * 11 + 11) := by
  induction l generalizing k with
  | nil => simp at h
  | cons o r ih =>
    cases k with
    | zero =>
      simp only [List.set_cons_zero, scells, List.flatMap_cons, Nat.zero_mul, List.take_zero, List.nil_append, Nat.zero_add]
      rw [List.drop_append_of_le_length (by simp [SD.cells]), List.drop_of_length_le (by simp [SD.cells])]
      simp
    | succ k =>
      have hl : o.cells.length = 11 := rfl
      have e := ih k (by simpa using h)
      simp only [List.set_cons_succ, scells, List.flatMap_cons] at e ⊢
      rw [e]
      have e1 : (k + 1) * 11 = o.cells.length + k * 11 := by rw [hl]; omega
      have e2 : (k + 1) * 11 + 11 = o.cells.length + (k * 11 + 11) := by rw [hl]; omega
      rw [e2, e1, List.take_length_add_append, List.drop_length_add_append]
      simp [List.append_assoc]

set_option maxRecDepth 100000 in
set_option maxHeartbeats 2000000 in
theorem Pass_miss (tb to' : Nat) (v : Value) (l : List SD) (pr ia ip fa fp side f now : Int) (w : World) (hc : w.cell? ⟨tb, to', none⟩ = some v) (hl : SsAt w v l) (hn : l.length ≤ 1000) (hf : findI pr ia ip fa fp l = -1) :
    Calls Tryz.prog 103 #[.pointer (some ⟨tb, to', none⟩), .int .i64 pr, .agg #[.int .i64 ia, .int .i64 ip], .agg #[.int .i64 fa, .int .i64 fp], .int .i64 side, .int .i64 f, .int .i64 now] w fun e w' => e = .returned (.tuple #[]) ∧ Below w.heap.size w w' := by
  have HF : Hid (∀ W, Below w.heap.size w W → Calls Tryz.prog 120 #[.pointer (some ⟨tb, to', none⟩), .int .i64 pr, .agg #[.int .i64 ia, .int .i64 ip], .agg #[.int .i64 fa, .int .i64 fp]] W fun e w' => e = .returned (.int .i64 (-1)) ∧ Below W.heap.size W w') := fun W hW => by
    rw [← hf]; exact find_any tb to' v l pr ia ip fa fp W ((hW.cell (lt_of_cell hc)).trans hc) (hl.keep hW) hn
  clear hl hc hf
  go_enter Tryz.func103, Tryz.ntmps103
  go_wp2_with (go_at_call 120; refine (HF.out _ (((Below.refl _ _).alloc (Nat.le_refl _) _).alloc (by simp) _)).mono ?_; rintro e w1 ⟨rfl, hb1⟩)
  exact bodyPost_ret (v := .tuple #[]) (by simp [results, Tryz.results103, go_sem]) rfl ⟨rfl, (((Below.refl _ _).alloc (Nat.le_refl _) _).alloc (by simp) _).trans (hb1.mono (by simp; omega))⟩
end Go.Proofs.YtfkjobiapjhacabGreat
/- Contracts of package sessions: Pass where there is a session. Own work. -/
namespace Go.Proofs.YtfkjobiapjhacabGreat
open Go.RowKit
attribute [local go_sem ↓] Go.wp_at_zero Go.wp_at_succ

theorem c11 {w : World} {b : Nat} {v0 v1 v2 v3 v4 v5 v6 v7 v8 v9 v10 : Value} {t : TypeId} (h : w.heap[b]? = some (.cells #[v0, v1, v2, v3, v4, v5, v6, v7, v8, v9, v10] t (0, 0))) :
    (w.cell? ⟨b, 0, none⟩ = some v0 ∧ w.cell? ⟨b, 1, none⟩ = some v1 ∧ w.cell? ⟨b, 2, none⟩ = some v2 ∧ w.cell? ⟨b, 3, none⟩ = some v3 ∧ w.cell? ⟨b, 4, none⟩ = some v4 ∧ w.cell? ⟨b, 5, none⟩ = some v5 ∧ w.cell? ⟨b, 6, none⟩ = some v6 ∧ w.cell? ⟨b, 7, none⟩ = some v7 ∧ w.cell? ⟨b, 8, none⟩ = some v8 ∧ w.cell? ⟨b, 9, none⟩ = some v9 ∧ w.cell? ⟨b, 10, none⟩ = some v10) ∧ (∀ j, w.frozen? ⟨b, j, none⟩ = false) := by
  constructor
  · simp [World.cell?, h]
  · intro j; simp [World.frozen?, h]

theorem cat11 {w : World} {b : Nat} {cur : Array Value} {t : TypeId} (h : w.heap[b]? = some (.cells cur t (0, 0))) (f : Nat) (hf : f + 11 ≤ cur.size) :
    (∃ v, w.cell? ⟨b, f, none⟩ = some v) ∧ (∃ v, w.cell? ⟨b, f + 1, none⟩ = some v) ∧ (∃ v, w.cell? ⟨b, f + 2, none⟩ = some v) ∧ (∃ v, w.cell? ⟨b, f + 3, none⟩ = some v) ∧ (∃ v, w.cell? ⟨b, f + 4, none⟩ = some v) ∧ (∃ v, w.cell? ⟨b, f + 5, none⟩ = some v) ∧ (∃ v, w.cell? ⟨b, f + 6, none⟩ = some v) ∧ (∃ v, w.cell? ⟨b, f + 7, none⟩ = some v) ∧ (∃ v, w.cell? ⟨b, f + 8, none⟩ = some v) ∧ (∃ v, w.cell? ⟨b, f + 9, none⟩ = some v) ∧ (∃ v, w.cell? ⟨b, f + 10, none⟩ = some v) ∧ (∀ j, w.frozen? ⟨b, j, none⟩ = false) := by
  have key : ∀ j, j < cur.size → ∃ v, w.cell? ⟨b, j, none⟩ = some v := fun j hj => ⟨cur[j], by simp [World.cell?, h, hj]⟩
  exact ⟨key _ (by omega), key _ (by omega), key _ (by omega), key _ (by omega), key _ (by omega), key _ (by omega), key _ (by omega), key _ (by omega), key _ (by omega), key _ (by omega), key _ (by omega), fun j => by simp [World.frozen?, h]⟩

/-- What Pass knows between its calls: the table's slice, the list's block, its own copy of the session. -/
structure PsMid (w w1 : World) (tb to' : Nat) (v : Value) (g : Nat) (cur : Array Value) (sb : Nat) (s : Array Value) : Prop where
  tab : w1.cell? ⟨tb, to', none⟩ = some v
  lst : w1.heap[g]? = some (.cells cur 102 (0, 0))
  own : w1.heap[sb]? = some (.cells s 102 (0, 0))
  far : w.heap.size ≤ sb
  hg : g < w.heap.size
  ht : tb < w.heap.size
  bl : Below w.heap.size w w1
theorem PsMid.call {w w1 w2 : World} {tb to' g sb : Nat} {v : Value} {cur s : Array Value} (h : PsMid w w1 tb to' v g cur sb s) (hb : Below w1.heap.size w1 w2) : PsMid w w2 tb to' v g cur sb s :=
  ⟨(hb.cell (Nat.lt_of_lt_of_le h.ht h.bl.size)).trans h.tab, blk hb h.lst, blk hb h.own, h.far, h.hg, h.ht, h.bl.trans (hb.mono h.bl.size)⟩
theorem PsMid.store {w w1 : World} {tb to' g sb : Nat} {v : Value} {cur s : Array Value} (h : PsMid w w1 tb to' v g cur sb s) (j : Nat) (u : Value) : PsMid w (w1.setCell ⟨sb, j, none⟩ u) tb to' v g cur sb (s.setIfInBounds j u) :=
  have hne : tb ≠ sb := by have := h.far; have := h.ht; omega
  have hng : g ≠ sb := by have := h.far; have := h.hg; omega
  ⟨by rw [World.cell?_setCell_far _ _ _ _ (fun e => hne e.symm)]; exact h.tab, by rw [hget_set _ _ _ _ _ _ _ h.own, if_neg hng]; exact h.lst, by rw [hget_set _ _ _ _ _ _ _ h.own, if_pos rfl], h.far, h.hg, h.ht, h.bl.setCell h.far _⟩

/-! Cells stored one behind the other. -/
def setsAt {α : Type} (L : List α) (f : Nat) : List α → List α
  | [] => L
  | c :: cs => setsAt (L.set f c) (f + 1) cs
theorem setsAt_eq {α : Type} (cs : List α) : ∀ (L : List α) (f : Nat), f + cs.length ≤ L.length → setsAt L f cs = L.take f ++ cs ++ L.drop (f + cs.length) := by
  induction cs with
  | nil => intro L f _; simp [setsAt]
  | cons c cs ih =>
    intro L f h
    simp at h
    rw [setsAt, ih _ _ (by simp; omega)]
    rw [List.take_set, List.drop_set_of_lt (by omega), List.take_succ_eq_append_getElem (show f < L.length by omega)]
    have e : (L.take f ++ [L[f]]).set f c = L.take f ++ [c] := by
      rw [List.set_append_right _ _ (by simp; omega)]
      have : f - (L.take f).length = 0 := by simp; omega
      rw [this]; rfl
    rw [e]
    simp
    congr 1
    omega
def setsW (w : World) (g f : Nat) : List Value → World
  | [] => w
  | c :: cs => setsW (w.setCell ⟨g, f, none⟩ c) g (f + 1) cs
theorem setsW_heap (g : Nat) (t : TypeId) (cs : List Value) : ∀ (w : World) (f : Nat) (cur : Array Value), w.heap[g]? = some (.cells cur t (0, 0)) → ∃ cur' : Array Value, (setsW w g f cs).heap[g]? = some (.cells cur' t (0, 0)) ∧ cur'.toList = setsAt cur.toList f cs := by
  induction cs with
  | nil => intro w f cur h; exact ⟨cur, h, rfl⟩
  | cons c cs ih =>
    intro w f cur h
    obtain ⟨cur', h1, h2⟩ := ih (w.setCell ⟨g, f, none⟩ c) (f + 1) (cur.setIfInBounds f c) (by rw [hget_set _ _ _ _ _ _ _ h, if_pos rfl])
    exact ⟨cur', h1, by rw [h2, setsAt, Array.toList_setIfInBounds]⟩
theorem setsW_grown (g : Nat) (cs : List Value) : ∀ (w0 w : World) (f : Nat), w0.grownBy w (some g) → w0.grownBy (setsW w g f cs) (some g) := by
  induction cs with
  | nil => intro w0 w f h; exact h
  | cons c cs ih =>
    intro w0 w f h
    refine ih w0 _ _ ⟨h.os, h.tape, h.output, by simpa [World.setCell] using h.size, fun k hk hne => ?_⟩
    rw [Below.heap_setCell _ _ _ _ (fun e => hne (by rw [e]))]
    exact h.block k hk hne
theorem PsMid.done {w W : World} {tb to' g sb : Nat} {v : Value} {cur s : Array Value} (h : PsMid w W tb to' v g cur sb s) (cs : List Value) (f : Nat) (hf : f + cs.length ≤ cur.size) {X : List Value} (hx : X = cur.toList.take f ++ cs ++ cur.toList.drop (f + cs.length)) :
    w.grownBy (setsW W g f cs).drew (some g) ∧ ∃ cur' : Array Value, (setsW W g f cs).drew.heap[g]? = some (.cells cur' 102 (0, 0)) ∧ cur'.toList = X := by
  have gr := setsW_grown g cs w W f ⟨h.bl.os, h.bl.tape, h.bl.output, h.bl.size, fun k hk _ => h.bl.block k hk⟩
  refine ⟨⟨gr.os, gr.tape, gr.output, gr.size, gr.block⟩, ?_⟩
  obtain ⟨cur', h1, h2⟩ := setsW_heap g 102 cs W f cur h.lst
  exact ⟨cur', h1, by rw [h2, setsAt_eq _ _ _ (by simpa using hf), hx]⟩

set_option maxRecDepth 100000 in
set_option maxHeartbeats 2000000 in
theorem Pass_hit (tb to' g cap : Nat) (cur : Array Value) (l : List SD) (k : Nat) (s : SD) (pr ia ip fa fp side f now : Int) (w : World) (hc : w.cell? ⟨tb, to', none⟩ = some (.slice (some ⟨g, 0, none⟩) l.length cap)) (hg : w.heap[g]? = some (.cells cur 102 (0, 0)))
    (hl : SsAt w (.slice (some ⟨g, 0, none⟩) l.length cap) l) (hn : l.length ≤ 1000) (hk : k < l.length) (hs : l[k] = s) (hsz : l.length * 11 ≤ cur.size) (hsp : s.pr = pr) (hf : findI pr ia ip fa fp l = k) (hn0 : 0 ≤ now) (hn1 : now ≤ 1000000000000000) :
    Calls Tryz.prog 103 #[.pointer (some ⟨tb, to', none⟩), .int .i64 pr, .agg #[.int .i64 ia, .int .i64 ip], .agg #[.int .i64 fa, .int .i64 fp], .int .i64 side, .int .i64 f, .int .i64 now] w fun e w' => e = .returned (.tuple #[]) ∧ w.grownBy w' (some g) ∧ ∃ cur' : Array Value, w'.heap[g]? = some (.cells cur' 102 (0, 0)) ∧ cur'.toList = cur.toList.take (k * 11) ++ (passS pr side f now s).cells ++ cur.toList.drop (k * 11 + 11) := by
  have HF : Hid (∀ W, Below w.heap.size w W → Calls Tryz.prog 120 #[.pointer (some ⟨tb, to', none⟩), .int .i64 pr, .agg #[.int .i64 ia, .int .i64 ip], .agg #[.int .i64 fa, .int .i64 fp]] W fun e w' => e = .returned (.int .i64 k) ∧ Below W.heap.size W w') := fun W hW => by
    rw [← hf]; exact find_any tb to' _ l pr ia ip fa fp W ((hW.cell (lt_of_cell hc)).trans hc) (hl.keep hW) hn
  have HSA : Hid (SAt w g (k * 11) s) := by
    obtain ⟨ao, cp, e, h⟩ := hl
    obtain ⟨g', e1, e2, e3⟩ := h (by intro e; rw [e] at hk; simp at hk)
    simp at e
    rw [← e.1] at e1
    simp at e1
    subst e1
    rw [← hs]; exact e3 k hk
  have htb := lt_of_cell hc
  have hgl := lt_of_block hg
  clear hl hs hf
  generalize hlen : l.length = len at hc hn hk hsz
  clear hlen
  have hkI : (0 : Int) ≤ (k : Int) := by omega
  have hkL : (k : Int) < (len : Int) := by omega
  subst hsp
  have HC : Hid (w.cell? ⟨tb, to', none⟩ = some (.slice (some ⟨g, 0, none⟩) len cap)) := hc
  have HG : Hid (w.heap[g]? = some (.cells cur 102 (0, 0))) := hg
  clear hc hg
  by_cases h6 : s.pr = 6
  · have h6b : (s.pr == 6) = true := by simpa using h6
    obtain ⟨r, hr⟩ : ∃ r, r = tkBehind ⟨s.st, s.an, s.inf, s.outf⟩ side f := ⟨_, rfl⟩
    have HBE : Hid (∀ w, Calls Tryz.prog 121 #[.agg #[.int .i64 s.st, .bool s.an, .bool s.inf, .bool s.outf], .int .i64 side, .int .i64 f] w fun e w' => e = .returned (.agg #[.int .i64 r.st, .bool r.an, .bool r.inf, .bool r.outf]) ∧ Below w.heap.size w w') := fun w => by
      rw [hr]; exact behind_any s.st s.an s.inf s.outf side f w
    have HTI : Hid (∀ w, Calls Tryz.prog 122 #[.agg #[.int .i64 s.pr, .int .i64 s.ia, .int .i64 s.ip, .int .i64 s.fa, .int .i64 s.fp, .int .i64 s.port, .int .i64 s.dl, .int .i64 r.st, .bool r.an, .bool r.inf, .bool r.outf]] w fun e w' => e = .returned (.int .i64 (ticksI s.pr r.st)) ∧ Below w.heap.size w w') := fun w => ticks_any { s with st := r.st, an := r.an, inf := r.inf, outf := r.outf } w
    have htk := ticksI_bd s.pr r.st
    have HPS : Hid ((passS s.pr side f now s).cells = [.int .i64 s.pr, .int .i64 s.ia, .int .i64 s.ip, .int .i64 s.fa, .int .i64 s.fp, .int .i64 s.port, .int .i64 (now + ticksI s.pr r.st), .int .i64 r.st, .bool r.an, .bool r.inf, .bool r.outf]) := by show _ = _; unfold passS; rw [if_pos h6, ← hr]; rfl
    clear h6 hr
    go_enter Tryz.func103, Tryz.ntmps103
    go_wp2_with fail
    refine (HF.out _ (((Below.refl _ _).alloc (Nat.le_refl _) _).alloc (by simp) _)).mono ?_
    rintro e w1 ⟨rfl, hb1⟩
    have HB1 : Hid (Below w.heap.size w w1) := (((Below.refl _ _).alloc (Nat.le_refl _) _).alloc (by simp) _).trans (hb1.mono (by simp; omega))
    clear hb1
    have t1 := (HB1.out.cell (p := ⟨tb, to', none⟩) htb).trans HC.out
    obtain ⟨q0, q1, q2, q3, q4, q5, q6, q7, q8, q9, q10⟩ := (HSA.out.keep HB1.out hgl).open
    have hs1 := HB1.out.size
    have hgr : g < w1.heap.size := by omega
    have htr : tb < w1.heap.size := by omega
    have M1 : Hid (PsMid w (w1.alloc (.cells #[.int .i64 s.pr, .int .i64 s.ia, .int .i64 s.ip, .int .i64 s.fa, .int .i64 s.fp, .int .i64 s.port, .int .i64 s.dl, .int .i64 s.st, .bool s.an, .bool s.inf, .bool s.outf] 102)) tb to' (.slice (some ⟨g, 0, none⟩) len cap) g cur w1.heap.size #[.int .i64 s.pr, .int .i64 s.ia, .int .i64 s.ip, .int .i64 s.fa, .int .i64 s.fp, .int .i64 s.port, .int .i64 s.dl, .int .i64 s.st, .bool s.an, .bool s.inf, .bool s.outf]) :=
      ⟨by rw [((Below.refl w1.heap.size w1).alloc (Nat.le_refl _) _).cell htr]; exact t1, by rw [hget_alloc, if_neg (by omega), HB1.out.block g hgl]; exact HG.out, by rw [hget_alloc, if_pos rfl], hs1, hgl, htb, HB1.out.alloc hs1 _⟩
    go_wp2_with fail
    refine (HBE.out _).mono ?_
    rintro e w2 ⟨rfl, hb2⟩
    have M2 : Hid (PsMid w w2 tb to' (.slice (some ⟨g, 0, none⟩) len cap) g cur w1.heap.size #[.int .i64 s.pr, .int .i64 s.ia, .int .i64 s.ip, .int .i64 s.fa, .int .i64 s.fp, .int .i64 s.port, .int .i64 s.dl, .int .i64 s.st, .bool s.an, .bool s.inf, .bool s.outf]) := M1.out.call hb2
    clear hb2 t1 q0 q1 q2 q3 q4 q5 q6 q7 q8 q9 q10
    obtain ⟨⟨q0, q1, q2, q3, q4, q5, q6, q7, q8, q9, q10⟩, qf⟩ := c11 M2.out.own
    go_wp2_with fail
    refine (HTI.out _).mono ?_
    rintro e w3 ⟨rfl, hb3⟩
    have M3 : Hid (PsMid w w3 tb to' (.slice (some ⟨g, 0, none⟩) len cap) g cur w1.heap.size #[.int .i64 s.pr, .int .i64 s.ia, .int .i64 s.ip, .int .i64 s.fa, .int .i64 s.fp, .int .i64 s.port, .int .i64 s.dl, .int .i64 r.st, .bool r.an, .bool r.inf, .bool r.outf]) := ((((M2.out.store 7 _).store 8 _).store 9 _).store 10 _).call hb3
    clear hb3 q0 q1 q2 q3 q4 q5 q6 q7 q8 q9 q10 qf
    obtain ⟨⟨q0, q1, q2, q3, q4, q5, q6, q7, q8, q9, q10⟩, qf⟩ := c11 M3.out.own
    go_wp2_with fail
    obtain ⟨W, hW, hM⟩ : ∃ W, W = w3.setCell ⟨w1.heap.size, 6, none⟩ (.int .i64 (now + ticksI s.pr r.st)) ∧ PsMid w W tb to' (.slice (some ⟨g, 0, none⟩) len cap) g cur w1.heap.size #[.int .i64 s.pr, .int .i64 s.ia, .int .i64 s.ip, .int .i64 s.fa, .int .i64 s.fp, .int .i64 s.port, .int .i64 (now + ticksI s.pr r.st), .int .i64 r.st, .bool r.an, .bool r.inf, .bool r.outf] := ⟨_, rfl, M3.out.store 6 _⟩
    rw [← hW]
    have M4 : Hid (PsMid w W tb to' (.slice (some ⟨g, 0, none⟩) len cap) g cur w1.heap.size #[.int .i64 s.pr, .int .i64 s.ia, .int .i64 s.ip, .int .i64 s.fa, .int .i64 s.fp, .int .i64 s.port, .int .i64 (now + ticksI s.pr r.st), .int .i64 r.st, .bool r.an, .bool r.inf, .bool r.outf]) := hM
    clear hW hM q0 q1 q2 q3 q4 q5 q6 q7 q8 q9 q10 qf
    have t3 := M4.out.tab
    obtain ⟨⟨q0, q1, q2, q3, q4, q5, q6, q7, q8, q9, q10⟩, qf⟩ := c11 M4.out.own
    obtain ⟨⟨o0, p0⟩, ⟨o1, p1⟩, ⟨o2, p2⟩, ⟨o3, p3⟩, ⟨o4, p4⟩, ⟨o5, p5⟩, ⟨o6, p6⟩, ⟨o7, p7⟩, ⟨o8, p8⟩, ⟨o9, p9⟩, ⟨o10, p10⟩, pf⟩ := cat11 M4.out.lst (k * 11) (by omega)
    have hne : w1.heap.size ≠ g := by omega
    go_region
    go_wp2
    go_end0
    exact ⟨rfl, PsMid.done M4.out [.int .i64 s.pr, .int .i64 s.ia, .int .i64 s.ip, .int .i64 s.fa, .int .i64 s.fp, .int .i64 s.port, .int .i64 (now + ticksI s.pr r.st), .int .i64 r.st, .bool r.an, .bool r.inf, .bool r.outf] (k * 11) (by simp; omega) (by rw [HPS.out]; rfl)⟩
  · have h6b : (s.pr == 6) = false := by simpa using h6
    have HTI : Hid (∀ w, Calls Tryz.prog 122 #[.agg #[.int .i64 s.pr, .int .i64 s.ia, .int .i64 s.ip, .int .i64 s.fa, .int .i64 s.fp, .int .i64 s.port, .int .i64 s.dl, .int .i64 s.st, .bool s.an, .bool s.inf, .bool s.outf]] w fun e w' => e = .returned (.int .i64 (ticksI s.pr s.st)) ∧ Below w.heap.size w w') := fun w => ticks_any s w
    have htk := ticksI_bd s.pr s.st
    have HPS : Hid ((passS s.pr side f now s).cells = [.int .i64 s.pr, .int .i64 s.ia, .int .i64 s.ip, .int .i64 s.fa, .int .i64 s.fp, .int .i64 s.port, .int .i64 (now + ticksI s.pr s.st), .int .i64 s.st, .bool s.an, .bool s.inf, .bool s.outf]) := by show _ = _; unfold passS; rw [if_neg h6]; rfl
    clear h6
    go_enter Tryz.func103, Tryz.ntmps103
    go_wp2_with fail
    refine (HF.out _ (((Below.refl _ _).alloc (Nat.le_refl _) _).alloc (by simp) _)).mono ?_
    rintro e w1 ⟨rfl, hb1⟩
    have HB1 : Hid (Below w.heap.size w w1) := (((Below.refl _ _).alloc (Nat.le_refl _) _).alloc (by simp) _).trans (hb1.mono (by simp; omega))
    clear hb1
    have t1 := (HB1.out.cell (p := ⟨tb, to', none⟩) htb).trans HC.out
    obtain ⟨q0, q1, q2, q3, q4, q5, q6, q7, q8, q9, q10⟩ := (HSA.out.keep HB1.out hgl).open
    have hs1 := HB1.out.size
    have hgr : g < w1.heap.size := by omega
    have htr : tb < w1.heap.size := by omega
    have M1 : Hid (PsMid w (w1.alloc (.cells #[.int .i64 s.pr, .int .i64 s.ia, .int .i64 s.ip, .int .i64 s.fa, .int .i64 s.fp, .int .i64 s.port, .int .i64 s.dl, .int .i64 s.st, .bool s.an, .bool s.inf, .bool s.outf] 102)) tb to' (.slice (some ⟨g, 0, none⟩) len cap) g cur w1.heap.size #[.int .i64 s.pr, .int .i64 s.ia, .int .i64 s.ip, .int .i64 s.fa, .int .i64 s.fp, .int .i64 s.port, .int .i64 s.dl, .int .i64 s.st, .bool s.an, .bool s.inf, .bool s.outf]) :=
      ⟨by rw [((Below.refl w1.heap.size w1).alloc (Nat.le_refl _) _).cell htr]; exact t1, by rw [hget_alloc, if_neg (by omega), HB1.out.block g hgl]; exact HG.out, by rw [hget_alloc, if_pos rfl], hs1, hgl, htb, HB1.out.alloc hs1 _⟩
    go_wp2_with fail
    refine (HTI.out _).mono ?_
    rintro e w2 ⟨rfl, hb2⟩
    have M2 : Hid (PsMid w w2 tb to' (.slice (some ⟨g, 0, none⟩) len cap) g cur w1.heap.size #[.int .i64 s.pr, .int .i64 s.ia, .int .i64 s.ip, .int .i64 s.fa, .int .i64 s.fp, .int .i64 s.port, .int .i64 s.dl, .int .i64 s.st, .bool s.an, .bool s.inf, .bool s.outf]) := M1.out.call hb2
    clear hb2 t1 q0 q1 q2 q3 q4 q5 q6 q7 q8 q9 q10
    obtain ⟨⟨q0, q1, q2, q3, q4, q5, q6, q7, q8, q9, q10⟩, qf⟩ := c11 M2.out.own
    go_wp2_with fail
    obtain ⟨W, hW, hM⟩ : ∃ W, W = w2.setCell ⟨w1.heap.size, 6, none⟩ (.int .i64 (now + ticksI s.pr s.st)) ∧ PsMid w W tb to' (.slice (some ⟨g, 0, none⟩) len cap) g cur w1.heap.size #[.int .i64 s.pr, .int .i64 s.ia, .int .i64 s.ip, .int .i64 s.fa, .int .i64 s.fp, .int .i64 s.port, .int .i64 (now + ticksI s.pr s.st), .int .i64 s.st, .bool s.an, .bool s.inf, .bool s.outf] := ⟨_, rfl, M2.out.store 6 _⟩
    rw [← hW]
    have M3 : Hid (PsMid w W tb to' (.slice (some ⟨g, 0, none⟩) len cap) g cur w1.heap.size #[.int .i64 s.pr, .int .i64 s.ia, .int .i64 s.ip, .int .i64 s.fa, .int .i64 s.fp, .int .i64 s.port, .int .i64 (now + ticksI s.pr s.st), .int .i64 s.st, .bool s.an, .bool s.inf, .bool s.outf]) := hM
    clear hW hM q0 q1 q2 q3 q4 q5 q6 q7 q8 q9 q10 qf
    have t3 := M3.out.tab
    obtain ⟨⟨q0, q1, q2, q3, q4, q5, q6, q7, q8, q9, q10⟩, qf⟩ := c11 M3.out.own
    obtain ⟨⟨o0, p0⟩, ⟨o1, p1⟩, ⟨o2, p2⟩, ⟨o3, p3⟩, ⟨o4, p4⟩, ⟨o5, p5⟩, ⟨o6, p6⟩, ⟨o7, p7⟩, ⟨o8, p8⟩, ⟨o9, p9⟩, ⟨o10, p10⟩, pf⟩ := cat11 M3.out.lst (k * 11) (by omega)
    have hne : w1.heap.size ≠ g := by omega
    go_region
    go_wp2
    go_end0
    exact ⟨rfl, PsMid.done M3.out [.int .i64 s.pr, .int .i64 s.ia, .int .i64 s.ip, .int .i64 s.fa, .int .i64 s.fp, .int .i64 s.port, .int .i64 (now + ticksI s.pr s.st), .int .i64 s.st, .bool s.an, .bool s.inf, .bool s.outf] (k * 11) (by simp; omega) (by rw [HPS.out]; rfl)⟩
end Go.Proofs.YtfkjobiapjhacabGreat
