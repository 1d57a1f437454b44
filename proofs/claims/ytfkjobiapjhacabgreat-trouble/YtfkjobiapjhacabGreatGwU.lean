/- Contracts of package sessions: how a talk stands. Own work. -/
import Derived.Test.YtfkjobiapjhacabGreatGwT
namespace Go.Proofs.YtfkjobiapjhacabGreat
open Go.RowKit
attribute [local go_sem ↓] Go.wp_at_zero Go.wp_at_succ

/-- How a TCP session stands. -/
structure TK where
  st : Int
  an : Bool
  inf : Bool
  outf : Bool
def TK.val (t : TK) : Value := .agg #[.int .i64 t.st, .bool t.an, .bool t.inf, .bool t.outf]
def tkFirst (pr : Int) : TK := if (pr != 6) = true then ⟨0, false, false, false⟩ else ⟨1, false, false, false⟩
def fl (f m : Int) : Int := bits .and .i64 f m
def tkOpen (t : TK) (side f : Int) : TK :=
  if (side == 0) = true then (if (t.an && (fl f 16 != 0)) = true then { t with st := 2 } else t) else if (fl f 18 == 18) = true then { t with an := true } else t
def tkFin (t : TK) (side : Int) : TK := if (side == 0) = true then { t with inf := true } else { t with outf := true }
def tkEnd (t : TK) (side f : Int) : TK :=
  if (fl f 1 == 0) = true then t else if ((tkFin t side).inf && (tkFin t side).outf) = true then ⟨3, false, false, false⟩ else tkFin t side
def tkBehind (t : TK) (side f : Int) : TK :=
  if (fl f 4 != 0) = true then ⟨3, false, false, false⟩
  else if (t.st == 3) = true then (if ((side == 0) && (fl f 18 == 2)) = true then ⟨1, false, false, false⟩ else t)
  else tkEnd (if (t.st == 1) = true then tkOpen t side f else t) side f

theorem c4 {w : World} {b : Nat} {v0 v1 v2 v3 : Value} {t : TypeId} (h : w.heap[b]? = some (.cells #[v0, v1, v2, v3] t (0, 0))) :
    (w.cell? ⟨b, 0, none⟩ = some v0 ∧ w.cell? ⟨b, 1, none⟩ = some v1 ∧ w.cell? ⟨b, 2, none⟩ = some v2 ∧ w.cell? ⟨b, 3, none⟩ = some v3) ∧ (∀ j, w.frozen? ⟨b, j, none⟩ = false) := by
  constructor
  · simp [World.cell?, h]
  · intro j; simp [World.frozen?, h]

set_option maxRecDepth 100000 in
set_option maxHeartbeats 1000000 in
theorem firstTalk_any (pr : Int) (w : World) :
    Calls Tryz.prog 127 #[.int .i64 pr] w fun e w' => e = .returned ((tkFirst pr).val) ∧ Below w.heap.size w w' := by
  cases h : (pr != 6)
  · have HE : Hid ((tkFirst pr).val = .agg #[.int .i64 1, .bool false, .bool false, .bool false]) := by show _ = _; unfold tkFirst; rw [h]; rfl
    go_enter Tryz.func127, Tryz.ntmps127
    go_wp2
    exact bodyPost_ret (v := .agg #[.int .i64 1, .bool false, .bool false, .bool false]) (by simp [results, Tryz.results127, go_sem]) rfl ⟨by rw [HE.out], (by repeat (first | exact Below.refl _ _ | refine Below.drew ?_ | (refine Below.alloc ?_ (by simp <;> omega) _) | (refine Below.setCell ?_ (by simp) _)))⟩
  · have HE : Hid ((tkFirst pr).val = .agg #[.int .i64 0, .bool false, .bool false, .bool false]) := by show _ = _; unfold tkFirst; rw [h]; rfl
    go_enter Tryz.func127, Tryz.ntmps127
    go_wp2
    exact bodyPost_ret (v := .agg #[.int .i64 0, .bool false, .bool false, .bool false]) (by simp [results, Tryz.results127, go_sem]) rfl ⟨by rw [HE.out], (by repeat (first | exact Below.refl _ _ | refine Below.drew ?_ | (refine Below.alloc ?_ (by simp <;> omega) _) | (refine Below.setCell ?_ (by simp) _)))⟩

set_option maxRecDepth 100000 in
set_option maxHeartbeats 2000000 in
theorem opening_any (st : Int) (an inf outf : Bool) (side f : Int) (w : World) :
    Calls Tryz.prog 129 #[.agg #[.int .i64 st, .bool an, .bool inf, .bool outf], .int .i64 side, .int .i64 f] w fun e w' => e = .returned ((tkOpen ⟨st, an, inf, outf⟩ side f).val) ∧ Below w.heap.size w w' := by
  cases h0 : (side == 0)
  · cases h1 : (bits BinOp.and IntKind.i64 f 18 == 18)
    · have HE : Hid ((tkOpen ⟨st, an, inf, outf⟩ side f).val = .agg #[.int .i64 st, .bool an, .bool inf, .bool outf]) := by show _ = _; unfold tkOpen fl; rw [h0, h1]; rfl
      go_enter Tryz.func129, Tryz.ntmps129
      go_wp2
      exact bodyPost_ret (v := .agg #[.int .i64 st, .bool an, .bool inf, .bool outf]) (by simp [results, Tryz.results129, go_sem]) rfl ⟨by rw [HE.out], (by repeat (first | exact Below.refl _ _ | refine Below.drew ?_ | (refine Below.alloc ?_ (by simp <;> omega) _) | (refine Below.setCell ?_ (by simp) _)))⟩
    · have HE : Hid ((tkOpen ⟨st, an, inf, outf⟩ side f).val = .agg #[.int .i64 st, .bool true, .bool inf, .bool outf]) := by show _ = _; unfold tkOpen fl; rw [h0, h1]; rfl
      go_enter Tryz.func129, Tryz.ntmps129
      go_wp2
      exact bodyPost_ret (v := .agg #[.int .i64 st, .bool true, .bool inf, .bool outf]) (by simp [results, Tryz.results129, go_sem]) rfl ⟨by rw [HE.out], (by repeat (first | exact Below.refl _ _ | refine Below.drew ?_ | (refine Below.alloc ?_ (by simp <;> omega) _) | (refine Below.setCell ?_ (by simp) _)))⟩
  · cases an
    · have HE : Hid ((tkOpen ⟨st, false, inf, outf⟩ side f).val = .agg #[.int .i64 st, .bool false, .bool inf, .bool outf]) := by show _ = _; unfold tkOpen fl; rw [h0]; rfl
      go_enter Tryz.func129, Tryz.ntmps129
      go_wp2
      exact bodyPost_ret (v := .agg #[.int .i64 st, .bool false, .bool inf, .bool outf]) (by simp [results, Tryz.results129, go_sem]) rfl ⟨by rw [HE.out], (by repeat (first | exact Below.refl _ _ | refine Below.drew ?_ | (refine Below.alloc ?_ (by simp <;> omega) _) | (refine Below.setCell ?_ (by simp) _)))⟩
    · cases h1 : (bits BinOp.and IntKind.i64 f 16 != 0)
      · have HE : Hid ((tkOpen ⟨st, true, inf, outf⟩ side f).val = .agg #[.int .i64 st, .bool true, .bool inf, .bool outf]) := by show _ = _; unfold tkOpen fl; rw [h0, h1]; rfl
        go_enter Tryz.func129, Tryz.ntmps129
        go_wp2
        exact bodyPost_ret (v := .agg #[.int .i64 st, .bool true, .bool inf, .bool outf]) (by simp [results, Tryz.results129, go_sem]) rfl ⟨by rw [HE.out], (by repeat (first | exact Below.refl _ _ | refine Below.drew ?_ | (refine Below.alloc ?_ (by simp <;> omega) _) | (refine Below.setCell ?_ (by simp) _)))⟩
      · have HE : Hid ((tkOpen ⟨st, true, inf, outf⟩ side f).val = .agg #[.int .i64 2, .bool true, .bool inf, .bool outf]) := by show _ = _; unfold tkOpen fl; rw [h0, h1]; rfl
        go_enter Tryz.func129, Tryz.ntmps129
        go_wp2
        exact bodyPost_ret (v := .agg #[.int .i64 2, .bool true, .bool inf, .bool outf]) (by simp [results, Tryz.results129, go_sem]) rfl ⟨by rw [HE.out], (by repeat (first | exact Below.refl _ _ | refine Below.drew ?_ | (refine Below.alloc ?_ (by simp <;> omega) _) | (refine Below.setCell ?_ (by simp) _)))⟩

set_option maxRecDepth 100000 in
set_option maxHeartbeats 2000000 in
theorem ending_any (st : Int) (an inf outf : Bool) (side f : Int) (w : World) :
    Calls Tryz.prog 130 #[.agg #[.int .i64 st, .bool an, .bool inf, .bool outf], .int .i64 side, .int .i64 f] w fun e w' => e = .returned ((tkEnd ⟨st, an, inf, outf⟩ side f).val) ∧ Below w.heap.size w w' := by
  cases h1 : (bits BinOp.and IntKind.i64 f 1 == 0)
  · cases h0 : (side == 0)
    · cases inf
      · have HE : Hid ((tkEnd ⟨st, an, false, outf⟩ side f).val = .agg #[.int .i64 st, .bool an, .bool false, .bool true]) := by show _ = _; unfold tkEnd tkFin fl; rw [h1, h0]; rfl
        go_enter Tryz.func130, Tryz.ntmps130
        go_wp2
        exact bodyPost_ret (v := .agg #[.int .i64 st, .bool an, .bool false, .bool true]) (by simp [results, Tryz.results130, go_sem]) rfl ⟨by rw [HE.out], (by repeat (first | exact Below.refl _ _ | refine Below.drew ?_ | (refine Below.alloc ?_ (by simp <;> omega) _) | (refine Below.setCell ?_ (by simp) _)))⟩
      · have HE : Hid ((tkEnd ⟨st, an, true, outf⟩ side f).val = .agg #[.int .i64 3, .bool false, .bool false, .bool false]) := by show _ = _; unfold tkEnd tkFin fl; rw [h1, h0]; rfl
        go_enter Tryz.func130, Tryz.ntmps130
        go_wp2
        exact bodyPost_ret (v := .agg #[.int .i64 3, .bool false, .bool false, .bool false]) (by simp [results, Tryz.results130, go_sem]) rfl ⟨by rw [HE.out], (by repeat (first | exact Below.refl _ _ | refine Below.drew ?_ | (refine Below.alloc ?_ (by simp <;> omega) _) | (refine Below.setCell ?_ (by simp) _)))⟩
    · cases outf
      · have HE : Hid ((tkEnd ⟨st, an, inf, false⟩ side f).val = .agg #[.int .i64 st, .bool an, .bool true, .bool false]) := by show _ = _; unfold tkEnd tkFin fl; rw [h1, h0]; rfl
        go_enter Tryz.func130, Tryz.ntmps130
        go_wp2
        exact bodyPost_ret (v := .agg #[.int .i64 st, .bool an, .bool true, .bool false]) (by simp [results, Tryz.results130, go_sem]) rfl ⟨by rw [HE.out], (by repeat (first | exact Below.refl _ _ | refine Below.drew ?_ | (refine Below.alloc ?_ (by simp <;> omega) _) | (refine Below.setCell ?_ (by simp) _)))⟩
      · have HE : Hid ((tkEnd ⟨st, an, inf, true⟩ side f).val = .agg #[.int .i64 3, .bool false, .bool false, .bool false]) := by show _ = _; unfold tkEnd tkFin fl; rw [h1, h0]; rfl
        go_enter Tryz.func130, Tryz.ntmps130
        go_wp2
        exact bodyPost_ret (v := .agg #[.int .i64 3, .bool false, .bool false, .bool false]) (by simp [results, Tryz.results130, go_sem]) rfl ⟨by rw [HE.out], (by repeat (first | exact Below.refl _ _ | refine Below.drew ?_ | (refine Below.alloc ?_ (by simp <;> omega) _) | (refine Below.setCell ?_ (by simp) _)))⟩
  · have HE : Hid ((tkEnd ⟨st, an, inf, outf⟩ side f).val = .agg #[.int .i64 st, .bool an, .bool inf, .bool outf]) := by show _ = _; unfold tkEnd tkFin fl; rw [h1]; rfl
    go_enter Tryz.func130, Tryz.ntmps130
    go_wp2
    exact bodyPost_ret (v := .agg #[.int .i64 st, .bool an, .bool inf, .bool outf]) (by simp [results, Tryz.results130, go_sem]) rfl ⟨by rw [HE.out], (by repeat (first | exact Below.refl _ _ | refine Below.drew ?_ | (refine Below.alloc ?_ (by simp <;> omega) _) | (refine Below.setCell ?_ (by simp) _)))⟩

structure TMid (w w1 : World) (d : Array Value) : Prop where
  tk : w1.heap[w.heap.size]? = some (.cells d 100 (0, 0))
  rs : w1.heap[w.heap.size + 1]? = some (.cells #[.int .i64 0, .bool false, .bool false, .bool false] 100 (0, 0))
  bl : Below w.heap.size w w1
theorem TMid.call {w w1 w2 : World} {d : Array Value} (h : TMid w w1 d) (hb : Below w1.heap.size w1 w2) : TMid w w2 d :=
  ⟨blk hb h.tk, blk hb h.rs, h.bl.trans (hb.mono h.bl.size)⟩
theorem TMid.start (w : World) (d : Array Value) : TMid w ((w.alloc (.cells d 100)).alloc (.cells #[.int .i64 0, .bool false, .bool false, .bool false] 100)) d :=
  ⟨by rw [hget_alloc, if_neg (by simp), hget_alloc, if_pos rfl], by rw [hget_alloc, if_pos (by simp)], ((Below.refl _ _).alloc (Nat.le_refl _) _).alloc (by simp) _⟩
theorem TMid.store {w w1 : World} {d : Array Value} (h : TMid w w1 d) (j : Nat) (u : Value) : TMid w (w1.setCell ⟨w.heap.size, j, none⟩ u) (d.setIfInBounds j u) :=
  ⟨by rw [hget_set _ _ _ _ _ _ _ h.tk, if_pos rfl], by rw [hget_set _ _ _ _ _ _ _ h.tk, if_neg (by omega)]; exact h.rs, h.bl.setCell (Nat.le_refl _) _⟩

set_option maxRecDepth 100000 in
set_option maxHeartbeats 2000000 in
theorem behind_any (st : Int) (an inf outf : Bool) (side f : Int) (w : World) :
    Calls Tryz.prog 121 #[.agg #[.int .i64 st, .bool an, .bool inf, .bool outf], .int .i64 side, .int .i64 f] w fun e w' => e = .returned ((tkBehind ⟨st, an, inf, outf⟩ side f).val) ∧ Below w.heap.size w w' := by
  cases h4 : (bits BinOp.and IntKind.i64 f 4 != 0)
  · cases h3 : (st == 3)
    · obtain ⟨t1, ht1⟩ : ∃ t1, t1 = (if (st == 1) = true then tkOpen ⟨st, an, inf, outf⟩ side f else ⟨st, an, inf, outf⟩) := ⟨_, rfl⟩
      have HE : Hid (tkBehind ⟨st, an, inf, outf⟩ side f = tkEnd t1 side f) := by show _ = _; unfold tkBehind fl; rw [h4, h3, ht1]; rfl
      have HEN : Hid (∀ w, Calls Tryz.prog 130 #[.agg #[.int .i64 t1.st, .bool t1.an, .bool t1.inf, .bool t1.outf], .int .i64 side, .int .i64 f] w fun e w' => e = .returned (.agg #[.int .i64 (tkBehind ⟨st, an, inf, outf⟩ side f).st, .bool (tkBehind ⟨st, an, inf, outf⟩ side f).an, .bool (tkBehind ⟨st, an, inf, outf⟩ side f).inf, .bool (tkBehind ⟨st, an, inf, outf⟩ side f).outf]) ∧ Below w.heap.size w w') := fun w => by
        rw [HE.out]; exact ending_any t1.st t1.an t1.inf t1.outf side f w
      have HR : Hid ((tkBehind ⟨st, an, inf, outf⟩ side f).val = .agg #[.int .i64 (tkBehind ⟨st, an, inf, outf⟩ side f).st, .bool (tkBehind ⟨st, an, inf, outf⟩ side f).an, .bool (tkBehind ⟨st, an, inf, outf⟩ side f).inf, .bool (tkBehind ⟨st, an, inf, outf⟩ side f).outf]) := rfl
      have M0 : Hid (TMid w ((w.alloc (.cells #[.int .i64 st, .bool an, .bool inf, .bool outf] 100)).alloc (.cells #[.int .i64 0, .bool false, .bool false, .bool false] 100)) #[.int .i64 st, .bool an, .bool inf, .bool outf]) := TMid.start w _
      clear HE
      generalize tkBehind ⟨st, an, inf, outf⟩ side f = r at HEN HR
      cases h1 : (st == 1)
      · have e1 : t1 = ⟨st, an, inf, outf⟩ := by rw [ht1, h1]; rfl
        subst e1
        clear ht1
        go_enter Tryz.func121, Tryz.ntmps121
        go_wp2_with fail
        refine (HEN.out _).mono ?_; rintro e w1 ⟨rfl, hb1⟩
        have M1 : Hid (TMid w w1 #[.int .i64 st, .bool an, .bool inf, .bool outf]) := M0.out.call hb1
        clear hb1
        obtain ⟨⟨r0, r1, r2, r3⟩, rf⟩ := c4 M1.out.rs
        go_wp2_with fail
        refine bodyPost_ret (v := .agg #[.int .i64 r.st, .bool r.an, .bool r.inf, .bool r.outf]) (by simp [results, Tryz.results121, go_sem, r0, r1, r2, r3]) rfl ⟨by rw [HR.out], ?_⟩
        exact (((M1.out.bl.setCell (by simp) _).setCell (by simp) _).setCell (by simp) _).setCell (by simp) _
      · have e1 : tkOpen ⟨st, an, inf, outf⟩ side f = t1 := by rw [ht1, h1]; rfl
        have HOP : Hid (∀ w, Calls Tryz.prog 129 #[.agg #[.int .i64 st, .bool an, .bool inf, .bool outf], .int .i64 side, .int .i64 f] w fun e w' => e = .returned (.agg #[.int .i64 t1.st, .bool t1.an, .bool t1.inf, .bool t1.outf]) ∧ Below w.heap.size w w') := fun w => by
          rw [← e1]; exact opening_any st an inf outf side f w
        clear ht1 e1
        go_enter Tryz.func121, Tryz.ntmps121
        go_wp2_with fail
        refine (HOP.out _).mono ?_; rintro e w1 ⟨rfl, hb1⟩
        have M1 : Hid (TMid w w1 #[.int .i64 st, .bool an, .bool inf, .bool outf]) := M0.out.call hb1
        clear hb1
        obtain ⟨⟨d0, d1, d2, d3⟩, df⟩ := c4 M1.out.tk
        go_wp2_with fail
        refine (HEN.out _).mono ?_; rintro e w2 ⟨rfl, hb2⟩
        have M2 : Hid (TMid w w2 #[.int .i64 t1.st, .bool t1.an, .bool t1.inf, .bool t1.outf]) := ((((M1.out.store 0 _).store 1 _).store 2 _).store 3 _).call hb2
        clear hb2 d0 d1 d2 d3 df
        obtain ⟨⟨r0, r1, r2, r3⟩, rf⟩ := c4 M2.out.rs
        go_wp2_with fail
        refine bodyPost_ret (v := .agg #[.int .i64 r.st, .bool r.an, .bool r.inf, .bool r.outf]) (by simp [results, Tryz.results121, go_sem, r0, r1, r2, r3]) rfl ⟨by rw [HR.out], ?_⟩
        exact (((M2.out.bl.setCell (by simp) _).setCell (by simp) _).setCell (by simp) _).setCell (by simp) _
    · cases h0 : (side == 0)
      · have HE : Hid ((tkBehind ⟨st, an, inf, outf⟩ side f).val = .agg #[.int .i64 st, .bool an, .bool inf, .bool outf]) := by show _ = _; unfold tkBehind fl; rw [h4, h3, h0]; rfl
        go_enter Tryz.func121, Tryz.ntmps121
        go_wp2
        exact bodyPost_ret (v := .agg #[.int .i64 st, .bool an, .bool inf, .bool outf]) (by simp [results, Tryz.results121, go_sem]) rfl ⟨by rw [HE.out], (by repeat (first | exact Below.refl _ _ | refine Below.drew ?_ | (refine Below.alloc ?_ (by simp <;> omega) _) | (refine Below.setCell ?_ (by simp) _)))⟩
      · cases h2 : (bits BinOp.and IntKind.i64 f 18 == 2)
        · have HE : Hid ((tkBehind ⟨st, an, inf, outf⟩ side f).val = .agg #[.int .i64 st, .bool an, .bool inf, .bool outf]) := by show _ = _; unfold tkBehind fl; rw [h4, h3, h0, h2]; rfl
          go_enter Tryz.func121, Tryz.ntmps121
          go_wp2
          exact bodyPost_ret (v := .agg #[.int .i64 st, .bool an, .bool inf, .bool outf]) (by simp [results, Tryz.results121, go_sem]) rfl ⟨by rw [HE.out], (by repeat (first | exact Below.refl _ _ | refine Below.drew ?_ | (refine Below.alloc ?_ (by simp <;> omega) _) | (refine Below.setCell ?_ (by simp) _)))⟩
        · have HE : Hid ((tkBehind ⟨st, an, inf, outf⟩ side f).val = .agg #[.int .i64 1, .bool false, .bool false, .bool false]) := by show _ = _; unfold tkBehind fl; rw [h4, h3, h0, h2]; rfl
          have M0 : Hid (TMid w ((w.alloc (.cells #[.int .i64 st, .bool an, .bool inf, .bool outf] 100)).alloc (.cells #[.int .i64 0, .bool false, .bool false, .bool false] 100)) #[.int .i64 st, .bool an, .bool inf, .bool outf]) := TMid.start w _
          have HFT : Hid (∀ w, Calls Tryz.prog 127 #[.int .i64 6] w fun e w' => e = .returned (.agg #[.int .i64 1, .bool false, .bool false, .bool false]) ∧ Below w.heap.size w w') := fun w => firstTalk_any 6 w
          go_enter Tryz.func121, Tryz.ntmps121
          go_wp2_with fail
          refine (HFT.out _).mono ?_; rintro e w1 ⟨rfl, hb1⟩
          have M1 : Hid (TMid w w1 #[.int .i64 st, .bool an, .bool inf, .bool outf]) := M0.out.call hb1
          clear hb1
          obtain ⟨⟨r0, r1, r2, r3⟩, rf⟩ := c4 M1.out.rs
          go_wp2_with fail
          refine bodyPost_ret (v := .agg #[.int .i64 1, .bool false, .bool false, .bool false]) (by simp [results, Tryz.results121, go_sem, r0, r1, r2, r3]) rfl ⟨by rw [HE.out], ?_⟩
          exact (((M1.out.bl.setCell (by simp) _).setCell (by simp) _).setCell (by simp) _).setCell (by simp) _
  · have HE : Hid ((tkBehind ⟨st, an, inf, outf⟩ side f).val = .agg #[.int .i64 3, .bool false, .bool false, .bool false]) := by show _ = _; unfold tkBehind fl; rw [h4]; rfl
    go_enter Tryz.func121, Tryz.ntmps121
    go_wp2
    exact bodyPost_ret (v := .agg #[.int .i64 3, .bool false, .bool false, .bool false]) (by simp [results, Tryz.results121, go_sem]) rfl ⟨by rw [HE.out], (by repeat (first | exact Below.refl _ _ | refine Below.drew ?_ | (refine Below.alloc ?_ (by simp <;> omega) _) | (refine Below.setCell ?_ (by simp) _)))⟩
end Go.Proofs.YtfkjobiapjhacabGreat
