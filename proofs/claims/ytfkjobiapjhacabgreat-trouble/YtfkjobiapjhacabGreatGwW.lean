/- Contracts of package sessions: Pass where there is a session. Own work. -/
import Derived.Test.YtfkjobiapjhacabGreatGwV
namespace Go.Proofs.YtfkjobiapjhacabGreat
open Go.RowKit
attribute [local go_sem ↓] Go.wp_at_zero Go.wp_at_succ

theorem c11 {w : World} {b : Nat} {v0 v1 v2 v3 v4 v5 v6 v7 v8 v9 v10 : Value} {t : TypeId} (h : w.heap[b]? = some (.cells #[v0, v1, v2, v3, v4, v5, v6, v7, v8, v9, v10] t (0, 0))) :
    (w.cell? ⟨b, 0, none⟩ = some v0 ∧ w.cell? ⟨b, 1, none⟩ = some v1 ∧ w.cell? ⟨b, 2, none⟩ = some v2 ∧ w.cell? ⟨b, 3, none⟩ = some v3 ∧ w.cell? ⟨b, 4, none⟩ = some v4 ∧ w.cell? ⟨b, 5, none⟩ = some v5 ∧ w.cell? ⟨b, 6, none⟩ = some v6 ∧ w.cell? ⟨b, 7, none⟩ = some v7 ∧ w.cell? ⟨b, 8, none⟩ = some v8 ∧ w.cell? ⟨b, 9, none⟩ = some v9 ∧ w.cell? ⟨b, 10, none⟩ = some v10) ∧ (∀ j, w.frozen? ⟨b, j, none⟩ = false) := by
  constructor
  · simp [World.cell?, h]
  · intro j; simp [World.frozen?, h]

theorem cat11 {w : World} {b : Nat} {cur : Array Value} {t : TypeId} (h : w.heap[b]? = some (.cells cur t (0, 0))) (f : Nat) (hf : f + 11 ≤ cur.size) :
    (∃ v, w.cell? ⟨b, f, none⟩ = some v) ∧ (∃ v, w.cell? ⟨b, f + 1, none⟩ = some v) ∧ (∃ v, w.cell? ⟨b, f + 2, none⟩ = some v) ∧ (∃ v, w.cell? ⟨b, f + 3, none⟩ = some v) ∧ (∃ v, w.cell? ⟨b, f + 4, none⟩ = some v) ∧ (∃ v, w.cell? ⟨b, f + 5, none⟩ = some v) ∧ (∃ v, w.cell? ⟨b, f + 6, none⟩ = some v) ∧ (∃ v, w.cell? ⟨b, f + 7, none⟩ = some v) ∧ (∃ v, w.cell? ⟨b, f + 8, none⟩ = some v) ∧ (∃ v, w.cell? ⟨b, f + 9, none⟩ = some v) ∧ (∃ v, w.cell? ⟨b, f + 10, none⟩ = some v) ∧ (∀ j, w.frozen? ⟨b, j, none⟩ = false) := by
  have key : ∀ j, j < cur.size → ∃ v, w.cell? ⟨b, j, none⟩ = some v := fun j hj => ⟨cur[j], by simp [World.cell?, h, hj]⟩
  exact ⟨key _ (by omega), key _ (by omega), key _ (by omega), key _ (by omega), key _ (by omega), key _ (by omega), key _ (by omega), key _ (by omega), key _ (by omega), key _ (by omega), key _ (by omega), fun j => by simp [World.frozen?, h]⟩

/-- What Pass knows between its calls: the table's slice, the list's block, its own copy of the session. -/
structure PsMid (w w1 : World) (tb to' : Nat) (v : Value) (g : Nat) (cur : Array Value) (sb : Nat) (s : Array Value) : Prop where
  tab : w1.cell? ⟨tb, to', none⟩ = some v
  lst : w1.heap[g]? = some (.cells cur 102 (0, 0))
  own : w1.heap[sb]? = some (.cells s 102 (0, 0))
  far : w.heap.size ≤ sb
  hg : g < w.heap.size
  ht : tb < w.heap.size
  bl : Below w.heap.size w w1
theorem PsMid.call {w w1 w2 : World} {tb to' g sb : Nat} {v : Value} {cur s : Array Value} (h : PsMid w w1 tb to' v g cur sb s) (hb : Below w1.heap.size w1 w2) : PsMid w w2 tb to' v g cur sb s :=
  ⟨(hb.cell (Nat.lt_of_lt_of_le h.ht h.bl.size)).trans h.tab, blk hb h.lst, blk hb h.own, h.far, h.hg, h.ht, h.bl.trans (hb.mono h.bl.size)⟩
theorem PsMid.store {w w1 : World} {tb to' g sb : Nat} {v : Value} {cur s : Array Value} (h : PsMid w w1 tb to' v g cur sb s) (j : Nat) (u : Value) : PsMid w (w1.setCell ⟨sb, j, none⟩ u) tb to' v g cur sb (s.setIfInBounds j u) :=
  have hne : tb ≠ sb := by have := h.far; have := h.ht; omega
  have hng : g ≠ sb := by have := h.far; have := h.hg; omega
  ⟨by rw [World.cell?_setCell_far _ _ _ _ (fun e => hne e.symm)]; exact h.tab, by rw [hget_set _ _ _ _ _ _ _ h.own, if_neg hng]; exact h.lst, by rw [hget_set _ _ _ _ _ _ _ h.own, if_pos rfl], h.far, h.hg, h.ht, h.bl.setCell h.far _⟩

/-! Cells stored one behind the other. -/
def setsAt {α : Type} (L : List α) (f : Nat) : List α → List α
  | [] => L
  | c :: cs => setsAt (L.set f c) (f + 1) cs
theorem setsAt_eq {α : Type} (cs : List α) : ∀ (L : List α) (f : Nat), f + cs.length ≤ L.length → setsAt L f cs = L.take f ++ cs ++ L.drop (f + cs.length) := by
  induction cs with
  | nil => intro L f _; simp [setsAt]
  | cons c cs ih =>
    intro L f h
    simp at h
    rw [setsAt, ih _ _ (by simp; omega)]
    rw [List.take_set, List.drop_set_of_lt (by omega), List.take_succ_eq_append_getElem (show f < L.length by omega)]
    have e : (L.take f ++ [L[f]]).set f c = L.take f ++ [c] := by
      rw [List.set_append_right _ _ (by simp; omega)]
      have : f - (L.take f).length = 0 := by simp; omega
      rw [this]; rfl
    rw [e]
    simp
    congr 1
    omega
def setsW (w : World) (g f : Nat) : List Value → World
  | [] => w
  | c :: cs => setsW (w.setCell ⟨g, f, none⟩ c) g (f + 1) cs
theorem setsW_heap (g : Nat) (t : TypeId) (cs : List Value) : ∀ (w : World) (f : Nat) (cur : Array Value), w.heap[g]? = some (.cells cur t (0, 0)) → ∃ cur' : Array Value, (setsW w g f cs).heap[g]? = some (.cells cur' t (0, 0)) ∧ cur'.toList = setsAt cur.toList f cs := by
  induction cs with
  | nil => intro w f cur h; exact ⟨cur, h, rfl⟩
  | cons c cs ih =>
    intro w f cur h
    obtain ⟨cur', h1, h2⟩ := ih (w.setCell ⟨g, f, none⟩ c) (f + 1) (cur.setIfInBounds f c) (by rw [hget_set _ _ _ _ _ _ _ h, if_pos rfl])
    exact ⟨cur', h1, by rw [h2, setsAt, Array.toList_setIfInBounds]⟩
theorem setsW_grown (g : Nat) (cs : List Value) : ∀ (w0 w : World) (f : Nat), w0.grownBy w (some g) → w0.grownBy (setsW w g f cs) (some g) := by
  induction cs with
  | nil => intro w0 w f h; exact h
  | cons c cs ih =>
    intro w0 w f h
    refine ih w0 _ _ ⟨h.os, h.tape, h.output, by simpa [World.setCell] using h.size, fun k hk hne => ?_⟩
    rw [Below.heap_setCell _ _ _ _ (fun e => hne (by rw [e]))]
    exact h.block k hk hne
theorem PsMid.done {w W : World} {tb to' g sb : Nat} {v : Value} {cur s : Array Value} (h : PsMid w W tb to' v g cur sb s) (cs : List Value) (f : Nat) (hf : f + cs.length ≤ cur.size) {X : List Value} (hx : X = cur.toList.take f ++ cs ++ cur.toList.drop (f + cs.length)) :
    w.grownBy (setsW W g f cs).drew (some g) ∧ ∃ cur' : Array Value, (setsW W g f cs).drew.heap[g]? = some (.cells cur' 102 (0, 0)) ∧ cur'.toList = X := by
  have gr := setsW_grown g cs w W f ⟨h.bl.os, h.bl.tape, h.bl.output, h.bl.size, fun k hk _ => h.bl.block k hk⟩
  refine ⟨⟨gr.os, gr.tape, gr.output, gr.size, gr.block⟩, ?_⟩
  obtain ⟨cur', h1, h2⟩ := setsW_heap g 102 cs W f cur h.lst
  exact ⟨cur', h1, by rw [h2, setsAt_eq _ _ _ (by simpa using hf), hx]⟩

set_option maxRecDepth 100000 in
set_option maxHeartbeats 2000000 in
theorem Pass_hit (tb to' g cap : Nat) (cur : Array Value) (l : List SD) (k : Nat) (s : SD) (pr ia ip fa fp side f now : Int) (w : World) (hc : w.cell? ⟨tb, to', none⟩ = some (.slice (some ⟨g, 0, none⟩) l.length cap)) (hg : w.heap[g]? = some (.cells cur 102 (0, 0)))
    (hl : SsAt w (.slice (some ⟨g, 0, none⟩) l.length cap) l) (hn : l.length ≤ 1000) (hk : k < l.length) (hs : l[k] = s) (hsz : l.length * 11 ≤ cur.size) (hsp : s.pr = pr) (hf : findI pr ia ip fa fp l = k) (hn0 : 0 ≤ now) (hn1 : now ≤ 1000000000000000) :
    Calls Tryz.prog 103 #[.pointer (some ⟨tb, to', none⟩), .int .i64 pr, .agg #[.int .i64 ia, .int .i64 ip], .agg #[.int .i64 fa, .int .i64 fp], .int .i64 side, .int .i64 f, .int .i64 now] w fun e w' => e = .returned (.tuple #[]) ∧ w.grownBy w' (some g) ∧ ∃ cur' : Array Value, w'.heap[g]? = some (.cells cur' 102 (0, 0)) ∧ cur'.toList = cur.toList.take (k * 11) ++ (passS pr side f now s).cells ++ cur.toList.drop (k * 11 + 11) := by
  have HF : Hid (∀ W, Below w.heap.size w W → Calls Tryz.prog 120 #[.pointer (some ⟨tb, to', none⟩), .int .i64 pr, .agg #[.int .i64 ia, .int .i64 ip], .agg #[.int .i64 fa, .int .i64 fp]] W fun e w' => e = .returned (.int .i64 k) ∧ Below W.heap.size W w') := fun W hW => by
    rw [← hf]; exact find_any tb to' _ l pr ia ip fa fp W ((hW.cell (lt_of_cell hc)).trans hc) (hl.keep hW) hn
  have HSA : Hid (SAt w g (k * 11) s) := by
    obtain ⟨ao, cp, e, h⟩ := hl
    obtain ⟨g', e1, e2, e3⟩ := h (by intro e; rw [e] at hk; simp at hk)
    simp at e
    rw [← e.1] at e1
    simp at e1
    subst e1
    rw [← hs]; exact e3 k hk
  have htb := lt_of_cell hc
  have hgl := lt_of_block hg
  clear hl hs hf
  generalize hlen : l.length = len at hc hn hk hsz
  clear hlen
  have hkI : (0 : Int) ≤ (k : Int) := by omega
  have hkL : (k : Int) < (len : Int) := by omega
  subst hsp
  have HC : Hid (w.cell? ⟨tb, to', none⟩ = some (.slice (some ⟨g, 0, none⟩) len cap)) := hc
  have HG : Hid (w.heap[g]? = some (.cells cur 102 (0, 0))) := hg
  clear hc hg
  by_cases h6 : s.pr = 6
  · have h6b : (s.pr == 6) = true := by simpa using h6
    obtain ⟨r, hr⟩ : ∃ r, r = tkBehind ⟨s.st, s.an, s.inf, s.outf⟩ side f := ⟨_, rfl⟩
    have HBE : Hid (∀ w, Calls Tryz.prog 121 #[.agg #[.int .i64 s.st, .bool s.an, .bool s.inf, .bool s.outf], .int .i64 side, .int .i64 f] w fun e w' => e = .returned (.agg #[.int .i64 r.st, .bool r.an, .bool r.inf, .bool r.outf]) ∧ Below w.heap.size w w') := fun w => by
      rw [hr]; exact behind_any s.st s.an s.inf s.outf side f w
    have HTI : Hid (∀ w, Calls Tryz.prog 122 #[.agg #[.int .i64 s.pr, .int .i64 s.ia, .int .i64 s.ip, .int .i64 s.fa, .int .i64 s.fp, .int .i64 s.port, .int .i64 s.dl, .int .i64 r.st, .bool r.an, .bool r.inf, .bool r.outf]] w fun e w' => e = .returned (.int .i64 (ticksI s.pr r.st)) ∧ Below w.heap.size w w') := fun w => ticks_any { s with st := r.st, an := r.an, inf := r.inf, outf := r.outf } w
    have htk := ticksI_bd s.pr r.st
    have HPS : Hid ((passS s.pr side f now s).cells = [.int .i64 s.pr, .int .i64 s.ia, .int .i64 s.ip, .int .i64 s.fa, .int .i64 s.fp, .int .i64 s.port, .int .i64 (now + ticksI s.pr r.st), .int .i64 r.st, .bool r.an, .bool r.inf, .bool r.outf]) := by show _ = _; unfold passS; rw [if_pos h6, ← hr]; rfl
    clear h6 hr
    go_enter Tryz.func103, Tryz.ntmps103
    go_wp2_with fail
    refine (HF.out _ (((Below.refl _ _).alloc (Nat.le_refl _) _).alloc (by simp) _)).mono ?_
    rintro e w1 ⟨rfl, hb1⟩
    have HB1 : Hid (Below w.heap.size w w1) := (((Below.refl _ _).alloc (Nat.le_refl _) _).alloc (by simp) _).trans (hb1.mono (by simp; omega))
    clear hb1
    have t1 := (HB1.out.cell (p := ⟨tb, to', none⟩) htb).trans HC.out
    obtain ⟨q0, q1, q2, q3, q4, q5, q6, q7, q8, q9, q10⟩ := (HSA.out.keep HB1.out hgl).open
    have hs1 := HB1.out.size
    have hgr : g < w1.heap.size := by omega
    have htr : tb < w1.heap.size := by omega
    have M1 : Hid (PsMid w (w1.alloc (.cells #[.int .i64 s.pr, .int .i64 s.ia, .int .i64 s.ip, .int .i64 s.fa, .int .i64 s.fp, .int .i64 s.port, .int .i64 s.dl, .int .i64 s.st, .bool s.an, .bool s.inf, .bool s.outf] 102)) tb to' (.slice (some ⟨g, 0, none⟩) len cap) g cur w1.heap.size #[.int .i64 s.pr, .int .i64 s.ia, .int .i64 s.ip, .int .i64 s.fa, .int .i64 s.fp, .int .i64 s.port, .int .i64 s.dl, .int .i64 s.st, .bool s.an, .bool s.inf, .bool s.outf]) :=
      ⟨by rw [((Below.refl w1.heap.size w1).alloc (Nat.le_refl _) _).cell htr]; exact t1, by rw [hget_alloc, if_neg (by omega), HB1.out.block g hgl]; exact HG.out, by rw [hget_alloc, if_pos rfl], hs1, hgl, htb, HB1.out.alloc hs1 _⟩
    go_wp2_with fail
    refine (HBE.out _).mono ?_
    rintro e w2 ⟨rfl, hb2⟩
    have M2 : Hid (PsMid w w2 tb to' (.slice (some ⟨g, 0, none⟩) len cap) g cur w1.heap.size #[.int .i64 s.pr, .int .i64 s.ia, .int .i64 s.ip, .int .i64 s.fa, .int .i64 s.fp, .int .i64 s.port, .int .i64 s.dl, .int .i64 s.st, .bool s.an, .bool s.inf, .bool s.outf]) := M1.out.call hb2
    clear hb2 t1 q0 q1 q2 q3 q4 q5 q6 q7 q8 q9 q10
    obtain ⟨⟨q0, q1, q2, q3, q4, q5, q6, q7, q8, q9, q10⟩, qf⟩ := c11 M2.out.own
    go_wp2_with fail
    refine (HTI.out _).mono ?_
    rintro e w3 ⟨rfl, hb3⟩
    have M3 : Hid (PsMid w w3 tb to' (.slice (some ⟨g, 0, none⟩) len cap) g cur w1.heap.size #[.int .i64 s.pr, .int .i64 s.ia, .int .i64 s.ip, .int .i64 s.fa, .int .i64 s.fp, .int .i64 s.port, .int .i64 s.dl, .int .i64 r.st, .bool r.an, .bool r.inf, .bool r.outf]) := ((((M2.out.store 7 _).store 8 _).store 9 _).store 10 _).call hb3
    clear hb3 q0 q1 q2 q3 q4 q5 q6 q7 q8 q9 q10 qf
    obtain ⟨⟨q0, q1, q2, q3, q4, q5, q6, q7, q8, q9, q10⟩, qf⟩ := c11 M3.out.own
    go_wp2_with fail
    obtain ⟨W, hW, hM⟩ : ∃ W, W = w3.setCell ⟨w1.heap.size, 6, none⟩ (.int .i64 (now + ticksI s.pr r.st)) ∧ PsMid w W tb to' (.slice (some ⟨g, 0, none⟩) len cap) g cur w1.heap.size #[.int .i64 s.pr, .int .i64 s.ia, .int .i64 s.ip, .int .i64 s.fa, .int .i64 s.fp, .int .i64 s.port, .int .i64 (now + ticksI s.pr r.st), .int .i64 r.st, .bool r.an, .bool r.inf, .bool r.outf] := ⟨_, rfl, M3.out.store 6 _⟩
    rw [← hW]
    have M4 : Hid (PsMid w W tb to' (.slice (some ⟨g, 0, none⟩) len cap) g cur w1.heap.size #[.int .i64 s.pr, .int .i64 s.ia, .int .i64 s.ip, .int .i64 s.fa, .int .i64 s.fp, .int .i64 s.port, .int .i64 (now + ticksI s.pr r.st), .int .i64 r.st, .bool r.an, .bool r.inf, .bool r.outf]) := hM
    clear hW hM q0 q1 q2 q3 q4 q5 q6 q7 q8 q9 q10 qf
    have t3 := M4.out.tab
    obtain ⟨⟨q0, q1, q2, q3, q4, q5, q6, q7, q8, q9, q10⟩, qf⟩ := c11 M4.out.own
    obtain ⟨⟨o0, p0⟩, ⟨o1, p1⟩, ⟨o2, p2⟩, ⟨o3, p3⟩, ⟨o4, p4⟩, ⟨o5, p5⟩, ⟨o6, p6⟩, ⟨o7, p7⟩, ⟨o8, p8⟩, ⟨o9, p9⟩, ⟨o10, p10⟩, pf⟩ := cat11 M4.out.lst (k * 11) (by omega)
    have hne : w1.heap.size ≠ g := by omega
    go_region
    go_wp2
    go_end0
    exact ⟨rfl, PsMid.done M4.out [.int .i64 s.pr, .int .i64 s.ia, .int .i64 s.ip, .int .i64 s.fa, .int .i64 s.fp, .int .i64 s.port, .int .i64 (now + ticksI s.pr r.st), .int .i64 r.st, .bool r.an, .bool r.inf, .bool r.outf] (k * 11) (by simp; omega) (by rw [HPS.out]; rfl)⟩
  · have h6b : (s.pr == 6) = false := by simpa using h6
    have HTI : Hid (∀ w, Calls Tryz.prog 122 #[.agg #[.int .i64 s.pr, .int .i64 s.ia, .int .i64 s.ip, .int .i64 s.fa, .int .i64 s.fp, .int .i64 s.port, .int .i64 s.dl, .int .i64 s.st, .bool s.an, .bool s.inf, .bool s.outf]] w fun e w' => e = .returned (.int .i64 (ticksI s.pr s.st)) ∧ Below w.heap.size w w') := fun w => ticks_any s w
    have htk := ticksI_bd s.pr s.st
    have HPS : Hid ((passS s.pr side f now s).cells = [.int .i64 s.pr, .int .i64 s.ia, .int .i64 s.ip, .int .i64 s.fa, .int .i64 s.fp, .int .i64 s.port, .int .i64 (now + ticksI s.pr s.st), .int .i64 s.st, .bool s.an, .bool s.inf, .bool s.outf]) := by show _ = _; unfold passS; rw [if_neg h6]; rfl
    clear h6
    go_enter Tryz.func103, Tryz.ntmps103
    go_wp2_with fail
    refine (HF.out _ (((Below.refl _ _).alloc (Nat.le_refl _) _).alloc (by simp) _)).mono ?_
    rintro e w1 ⟨rfl, hb1⟩
    have HB1 : Hid (Below w.heap.size w w1) := (((Below.refl _ _).alloc (Nat.le_refl _) _).alloc (by simp) _).trans (hb1.mono (by simp; omega))
    clear hb1
    have t1 := (HB1.out.cell (p := ⟨tb, to', none⟩) htb).trans HC.out
    obtain ⟨q0, q1, q2, q3, q4, q5, q6, q7, q8, q9, q10⟩ := (HSA.out.keep HB1.out hgl).open
    have hs1 := HB1.out.size
    have hgr : g < w1.heap.size := by omega
    have htr : tb < w1.heap.size := by omega
    have M1 : Hid (PsMid w (w1.alloc (.cells #[.int .i64 s.pr, .int .i64 s.ia, .int .i64 s.ip, .int .i64 s.fa, .int .i64 s.fp, .int .i64 s.port, .int .i64 s.dl, .int .i64 s.st, .bool s.an, .bool s.inf, .bool s.outf] 102)) tb to' (.slice (some ⟨g, 0, none⟩) len cap) g cur w1.heap.size #[.int .i64 s.pr, .int .i64 s.ia, .int .i64 s.ip, .int .i64 s.fa, .int .i64 s.fp, .int .i64 s.port, .int .i64 s.dl, .int .i64 s.st, .bool s.an, .bool s.inf, .bool s.outf]) :=
      ⟨by rw [((Below.refl w1.heap.size w1).alloc (Nat.le_refl _) _).cell htr]; exact t1, by rw [hget_alloc, if_neg (by omega), HB1.out.block g hgl]; exact HG.out, by rw [hget_alloc, if_pos rfl], hs1, hgl, htb, HB1.out.alloc hs1 _⟩
    go_wp2_with fail
    refine (HTI.out _).mono ?_
    rintro e w2 ⟨rfl, hb2⟩
    have M2 : Hid (PsMid w w2 tb to' (.slice (some ⟨g, 0, none⟩) len cap) g cur w1.heap.size #[.int .i64 s.pr, .int .i64 s.ia, .int .i64 s.ip, .int .i64 s.fa, .int .i64 s.fp, .int .i64 s.port, .int .i64 s.dl, .int .i64 s.st, .bool s.an, .bool s.inf, .bool s.outf]) := M1.out.call hb2
    clear hb2 t1 q0 q1 q2 q3 q4 q5 q6 q7 q8 q9 q10
    obtain ⟨⟨q0, q1, q2, q3, q4, q5, q6, q7, q8, q9, q10⟩, qf⟩ := c11 M2.out.own
    go_wp2_with fail
    obtain ⟨W, hW, hM⟩ : ∃ W, W = w2.setCell ⟨w1.heap.size, 6, none⟩ (.int .i64 (now + ticksI s.pr s.st)) ∧ PsMid w W tb to' (.slice (some ⟨g, 0, none⟩) len cap) g cur w1.heap.size #[.int .i64 s.pr, .int .i64 s.ia, .int .i64 s.ip, .int .i64 s.fa, .int .i64 s.fp, .int .i64 s.port, .int .i64 (now + ticksI s.pr s.st), .int .i64 s.st, .bool s.an, .bool s.inf, .bool s.outf] := ⟨_, rfl, M2.out.store 6 _⟩
    rw [← hW]
    have M3 : Hid (PsMid w W tb to' (.slice (some ⟨g, 0, none⟩) len cap) g cur w1.heap.size #[.int .i64 s.pr, .int .i64 s.ia, .int .i64 s.ip, .int .i64 s.fa, .int .i64 s.fp, .int .i64 s.port, .int .i64 (now + ticksI s.pr s.st), .int .i64 s.st, .bool s.an, .bool s.inf, .bool s.outf]) := hM
    clear hW hM q0 q1 q2 q3 q4 q5 q6 q7 q8 q9 q10 qf
    have t3 := M3.out.tab
    obtain ⟨⟨q0, q1, q2, q3, q4, q5, q6, q7, q8, q9, q10⟩, qf⟩ := c11 M3.out.own
    obtain ⟨⟨o0, p0⟩, ⟨o1, p1⟩, ⟨o2, p2⟩, ⟨o3, p3⟩, ⟨o4, p4⟩, ⟨o5, p5⟩, ⟨o6, p6⟩, ⟨o7, p7⟩, ⟨o8, p8⟩, ⟨o9, p9⟩, ⟨o10, p10⟩, pf⟩ := cat11 M3.out.lst (k * 11) (by omega)
    have hne : w1.heap.size ≠ g := by omega
    go_region
    go_wp2
    go_end0
    exact ⟨rfl, PsMid.done M3.out [.int .i64 s.pr, .int .i64 s.ia, .int .i64 s.ip, .int .i64 s.fa, .int .i64 s.fp, .int .i64 s.port, .int .i64 (now + ticksI s.pr s.st), .int .i64 s.st, .bool s.an, .bool s.inf, .bool s.outf] (k * 11) (by simp; omega) (by rw [HPS.out]; rfl)⟩
end Go.Proofs.YtfkjobiapjhacabGreat
