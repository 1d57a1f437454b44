/- Own work. -/
import Derived.Test.YtfkjobiapjhacabGreatGwN
import Derived.Test.YtfkjobiapjhacabGreatA1
import Derived.Test.YtfkjobiapjhacabGreatA3
/- A box in memory, and what changes. Own work. -/
namespace Go.Proofs.YtfkjobiapjhacabGreat
open Go.RowKit
attribute [local go_sem ↓] Go.wp_at_zero Go.wp_at_succ

/-- A datagram of which not all has come, or which was given up, as data. -/
structure PD where
  sd : Int
  sr : Int
  ds : Int
  pr : Int
  nu : Int
  gu : Bool
  dl : Int
  held : List KP
/-- The same, and where its list of pieces lies. -/
structure PR where
  d : PD
  hv : Value
def PR.cells (r : PR) : List Value := [.int .i64 r.d.sd, .int .i64 r.d.sr, .int .i64 r.d.ds, .int .i64 r.d.pr, .int .i64 r.d.nu, .bool r.d.gu, .int .i64 r.d.dl, r.hv]
theorem PR.len (r : PR) : r.cells.length = 8 := rfl
/-- Datagrams lie in memory, with their pieces. -/
def PsAt (w : World) (v : Value) (rl : List PR) : Prop := LsAt w 94 8 PR.cells v rl ∧ ∀ r ∈ rl, KsAt w r.hv r.d.held
def WaitAt (w : World) (v : Value) (l : List PD) : Prop := ∃ rl : List PR, rl.map PR.d = l ∧ PsAt w v rl
theorem PsAt.kept {w w' : World} {v : Value} {rl : List PR} (h : PsAt w v rl) (h1 : KeptT 94 w w') (h2 : KeptT 83 w w') : PsAt w' v rl := ⟨h.1.kept h1, fun r hr => (h.2 r hr).kept h2⟩
theorem PsAt.keep {w w' : World} {v : Value} {rl : List PR} (h : PsAt w v rl) (hb : Below w.heap.size w w') : PsAt w' v rl := h.kept (KeptT.of_below hb) (KeptT.of_below hb)
theorem WaitAt.kept {w w' : World} {v : Value} {l : List PD} (h : WaitAt w v l) (h1 : KeptT 94 w w') (h2 : KeptT 83 w w') : WaitAt w' v l := by
  obtain ⟨rl, e, hp⟩ := h
  exact ⟨rl, e, hp.kept h1 h2⟩
theorem WaitAt.keep {w w' : World} {v : Value} {l : List PD} (h : WaitAt w v l) (hb : Below w.heap.size w w') : WaitAt w' v l := h.kept (KeptT.of_below hb) (KeptT.of_below hb)
theorem WaitAt.nil (w : World) : WaitAt w (.slice none 0 0) [] := ⟨[], rfl, LsAt.nil, fun r hr => absurd hr (by simp)⟩
/-- A block of another kind is written: blocks of this kind are kept. -/
theorem KeptT.set {t t' : TypeId} {w : World} {b j : Nat} {c : Array Value} {u : Value} (h : w.heap[b]? = some (.cells c t' (0, 0))) (hne : t ≠ t') : KeptT t w (w.setCell ⟨b, j, none⟩ u) := by
  intro k c' hk
  have : k ≠ b := fun e => by rw [e, h] at hk; simp at hk; exact hne hk.2.symm
  rw [hget_set _ _ _ _ _ _ _ h, if_neg this]; exact hk
theorem KeptT.grown {t t' : TypeId} {w w' : World} {g : Nat} {c : Array Value} (h : w.heap[g]? = some (.cells c t' (0, 0))) (hg : w.grownBy w' (some g)) (hne : t ≠ t') : KeptT t w w' := by
  intro k c' hk
  have : k ≠ g := fun e => by rw [e, h] at hk; simp at hk; exact hne hk.2.symm
  rw [hg.block k (lt_of_block hk) (fun e => this (by simpa using e))]; exact hk
/-- A box, as data. -/
structure BX where
  ou : Int
  ne : Int
  bi : Int
  lo : Int
  hi : Int
  ps : Int
  gl : Int
  tm : Int
  cs : List Int
  l : List SD
  wl : List PD
def BX.cells (s : BX) (v wv : Value) : List Value := [.int .i64 s.ou, .int .i64 s.ne, .int .i64 s.bi, .int .i64 s.lo, .int .i64 s.hi, .int .i64 s.ps, .int .i64 s.gl, .int .i64 s.tm] ++ s.cs.map (fun c => .int .i64 c) ++ [v, wv]
/-- A box lies in memory; v is its list of sessions. -/
structure BoxAt (w : World) (b : Nat) (v : Value) (s : BX) : Prop where
  bk : ∃ wv, w.heap[b]? = some (.cells (s.cells v wv).toArray 78 (0, 0)) ∧ WaitAt w wv s.wl
  own : w.ownsRow 0 102 11 v s.l.length (scells s.l)
  ne : v.ownBlock ≠ some b
  n18 : s.cs.length = 18
/-- Nothing but the box b and its list of sessions v has changed; its list is v' now. -/
structure Chg (b : Nat) (v : Value) (w w' : World) (v' : Value) : Prop where
  os : w'.os = w.os
  tape : w'.tape = w.tape
  output : w'.output = w.output
  size : w.heap.size ≤ w'.heap.size
  block : ∀ k, k < w.heap.size → k ≠ b → v.ownBlock ≠ some k → w'.heap[k]? = w.heap[k]?
  own : v'.ownBlock = v.ownBlock ∨ ∀ k, v'.ownBlock = some k → w.heap.size ≤ k
theorem Chg.of_below {b : Nat} {v : Value} {w w' : World} (h : Below w.heap.size w w') : Chg b v w w' v := ⟨h.os, h.tape, h.output, h.size, fun k hk _ _ => h.block k hk, Or.inl rfl⟩
theorem Chg.refl (b : Nat) (v : Value) (w : World) : Chg b v w w v := Chg.of_below (Below.refl _ _)
theorem Chg.trans {b : Nat} {v v' v'' : Value} {w w' w'' : World} (h : Chg b v w w' v') (h2 : Chg b v' w' w'' v'') : Chg b v w w'' v'' := by
  refine ⟨h2.os.trans h.os, h2.tape.trans h.tape, h2.output.trans h.output, Nat.le_trans h.size h2.size, fun k hk hb hv => ?_, ?_⟩
  · have hne : v'.ownBlock ≠ some k := by
      rcases h.own with e | e
      · rw [e]; exact hv
      · intro e2; have := e k e2; omega
    exact (h2.block k (Nat.lt_of_lt_of_le hk h.size) hb hne).trans (h.block k hk hb hv)
  · rcases h2.own with e | e
    · rw [e]; exact h.own
    · exact Or.inr fun k hk => Nat.le_trans h.size (e k hk)
theorem Chg.below {b : Nat} {v v' : Value} {w w' w'' : World} (h : Chg b v w w' v') (hb : Below w'.heap.size w' w'') : Chg b v w w'' v' := h.trans (Chg.of_below hb)
/-- Another block is kept, and is still none of the box's. -/
theorem Chg.keep {b : Nat} {v v' : Value} {w w' : World} (h : Chg b v w w' v') {k : Nat} {o : Obj} (hk : w.heap[k]? = some o) (hb : k ≠ b) (hv : v.ownBlock ≠ some k) : w'.heap[k]? = some o ∧ v'.ownBlock ≠ some k := by
  have hlt : k < w.heap.size := lt_of_block hk
  refine ⟨(h.block k hlt hb hv).trans hk, ?_⟩
  rcases h.own with e | e
  · rw [e]; exact hv
  · intro e2; have := e k e2; omega
/-- What lies below the box is kept. -/
theorem Chg.low {b : Nat} {v v' : Value} {w w' : World} (h : Chg b v w w' v') {B : Nat} (hb : B ≤ b) (hv : ∀ k, v.ownBlock = some k → B ≤ k) (hB : B ≤ w.heap.size) : Below B w w' ∧ ∀ k, v'.ownBlock = some k → B ≤ k := by
  refine ⟨⟨h.os, h.tape, h.output, h.size, fun k hk => h.block k (by omega) (by omega) (fun e => by have := hv k e; omega)⟩, fun k hk => ?_⟩
  rcases h.own with e | e
  · exact hv k (by rw [← e]; exact hk)
  · exact Nat.le_trans hB (e k hk)
theorem BoxAt.lt {w : World} {b : Nat} {v : Value} {s : BX} (h : BoxAt w b v s) : b < w.heap.size := by obtain ⟨wv, hb, -⟩ := h.bk; exact lt_of_block hb
theorem BoxAt.call {w w' : World} {b : Nat} {v : Value} {s : BX} (h : BoxAt w b v s) (hb : Below w.heap.size w w') : BoxAt w' b v s :=
  ⟨by obtain ⟨wv, h1, h2⟩ := h.bk; exact ⟨wv, blk hb h1, h2.keep hb⟩, h.own.kept (row := none) ⟨hb.os, hb.tape, hb.output, hb.size, fun k hk _ => hb.block k hk⟩ (by cases v.ownBlock <;> simp), h.ne, h.n18⟩
theorem BX.at (s : BX) (v wv : Value) (h : s.cs.length = 18) : (s.cells v wv).length = 28 ∧ (s.cells v wv)[0]? = some (.int .i64 s.ou) ∧ (s.cells v wv)[1]? = some (.int .i64 s.ne) ∧ (s.cells v wv)[2]? = some (.int .i64 s.bi) ∧ (s.cells v wv)[3]? = some (.int .i64 s.lo) ∧ (s.cells v wv)[4]? = some (.int .i64 s.hi) ∧ (s.cells v wv)[5]? = some (.int .i64 s.ps) ∧ (s.cells v wv)[6]? = some (.int .i64 s.gl) ∧ (s.cells v wv)[7]? = some (.int .i64 s.tm) ∧ (s.cells v wv)[26]? = some v ∧ (s.cells v wv)[27]? = some wv := by
  have hl : (s.cells v wv).length = 28 := by unfold BX.cells; simp; omega
  refine ⟨hl, rfl, rfl, rfl, rfl, rfl, rfl, rfl, rfl, ?_, ?_⟩
  all_goals
    unfold BX.cells
    rw [List.getElem?_append_right (by simp; omega)]
    simp [h]
/-- What a box's block says. -/
theorem BoxAt.get {w : World} {b : Nat} {v : Value} {s : BX} (h : BoxAt w b v s) :
    (w.cell? ⟨b, 0, none⟩ = some (.int .i64 s.ou) ∧ w.cell? ⟨b, 1, none⟩ = some (.int .i64 s.ne) ∧ w.cell? ⟨b, 2, none⟩ = some (.int .i64 s.bi) ∧ w.cell? ⟨b, 3, none⟩ = some (.int .i64 s.lo) ∧ w.cell? ⟨b, 4, none⟩ = some (.int .i64 s.hi) ∧ w.cell? ⟨b, 5, none⟩ = some (.int .i64 s.ps) ∧ w.cell? ⟨b, 6, none⟩ = some (.int .i64 s.gl) ∧ w.cell? ⟨b, 7, none⟩ = some (.int .i64 s.tm) ∧ w.cell? ⟨b, 26, none⟩ = some v) ∧ ∀ j, w.frozen? ⟨b, j, none⟩ = false := by
  obtain ⟨wv, hbk, -⟩ := h.bk
  obtain ⟨-, a0, a1, a2, a3, a4, a5, a6, a7, a26, -⟩ := BX.at s v wv h.n18
  have hc : ∀ j, w.cell? ⟨b, j, none⟩ = (s.cells v wv)[j]? := fun j => by simp [World.cell?, hbk]
  exact ⟨⟨(hc 0).trans a0, (hc 1).trans a1, (hc 2).trans a2, (hc 3).trans a3, (hc 4).trans a4, (hc 5).trans a5, (hc 6).trans a6, (hc 7).trans a7, (hc 26).trans a26⟩, fun j => by simp [World.frozen?, hbk]⟩
theorem BoxAt.tab {w : World} {b : Nat} {v : Value} {s : BX} (h : BoxAt w b v s) : w.cell? ⟨b, 26, none⟩ = some v ∧ SsAt w v s.l := ⟨h.get.1.2.2.2.2.2.2.2.2, SsAt.of_owns h.own⟩
/-- What waits at a box. -/
theorem BoxAt.wait {w : World} {b : Nat} {v : Value} {s : BX} (h : BoxAt w b v s) : ∃ wv, w.cell? ⟨b, 27, none⟩ = some wv ∧ WaitAt w wv s.wl := by
  obtain ⟨wv, hbk, hw⟩ := h.bk
  obtain ⟨-, -, -, -, -, -, -, -, -, -, a27⟩ := BX.at s v wv h.n18
  exact ⟨wv, by rw [← a27]; simp [World.cell?, hbk], hw⟩

theorem bHas {w : World} {b : Nat} {v : Value} {s : BX} (h : BoxAt w b v s) (hn : s.l.length ≤ 1000) (pr ia ip fa fp : Int) :
    Calls Tryz.prog 107 #[.pointer (some ⟨b, 26, none⟩), .int .i64 pr, .agg #[.int .i64 ia, .int .i64 ip], .agg #[.int .i64 fa, .int .i64 fp]] w fun e w' => e = .returned (.bool (hasS pr ia ip fa fp s.l)) ∧ Below w.heap.size w w' :=
  Has_any b 26 v s.l pr ia ip fa fp w h.tab.1 h.tab.2 hn
theorem bFull {w : World} {b : Nat} {v : Value} {s : BX} (h : BoxAt w b v s) :
    Calls Tryz.prog 117 #[.pointer (some ⟨b, 26, none⟩)] w fun e w' => e = .returned (.bool (decide (10 ≤ s.l.length))) ∧ w' = w :=
  Full_any b 26 v s.l w h.tab.1 h.tab.2
theorem bOuter {w : World} {b : Nat} {v : Value} {s : BX} (h : BoxAt w b v s) (hn : s.l.length ≤ 1000) (pr ia ip : Int) :
    Calls Tryz.prog 104 #[.pointer (some ⟨b, 26, none⟩), .int .i64 pr, .agg #[.int .i64 ia, .int .i64 ip]] w fun e w' => e = .returned (.int .i64 (outerI pr ia ip s.l)) ∧ Below w.heap.size w w' :=
  Outer_any b 26 v s.l pr ia ip w h.tab.1 h.tab.2 hn
theorem bInner {w : World} {b : Nat} {v : Value} {s : BX} (h : BoxAt w b v s) (hn : s.l.length ≤ 1000) (pr port : Int) :
    Calls Tryz.prog 100 #[.pointer (some ⟨b, 26, none⟩), .int .i64 pr, .int .i64 port] w fun e w' => e = .returned (innerV pr port s.l) ∧ Below w.heap.size w w' :=
  Inner_any b 26 v s.l pr port w h.tab.1 h.tab.2 hn
theorem bFree {w : World} {b : Nat} {v : Value} {s : BX} (h : BoxAt w b v s) (hn : s.l.length ≤ 1000) (pr lo hi : Int) (h0 : 0 ≤ lo) (h1 : lo ≤ hi) (h2 : hi ≤ 100000) :
    Calls Tryz.prog 118 #[.pointer (some ⟨b, 26, none⟩), .int .i64 pr, .int .i64 lo, .int .i64 hi] w fun e w' => e = .returned (.int .i64 (freeI pr s.l lo (hi - lo + 1).toNat)) ∧ Below w.heap.size w w' :=
  Free_any b 26 v s.l pr lo hi w h.tab.1 h.tab.2 hn h0 h1 h2

theorem BX.set26 (s : BX) (v wv v' : Value) (l' : List SD) (h : s.cs.length = 18) : (s.cells v wv).toArray.setIfInBounds 26 v' = (({ s with l := l' } : BX).cells v' wv).toArray := by
  apply Array.toList_inj.1
  unfold BX.cells
  simp only [Array.toList_setIfInBounds]
  rw [List.set_append_right _ _ (by simp; omega)]
  simp [h]
/-- A box whose list of sessions was made anew. -/
theorem BoxAt.anew {w w0 : World} {b : Nat} {v v' : Value} {s : BX} {l' : List SD} (h : BoxAt w b v s) (hb : Below w.heap.size w w0) (ho : w0.ownsRow w.heap.size 102 11 v' l'.length (scells l')) :
    BoxAt (w0.setCell ⟨b, 26, none⟩ v') b v' { s with l := l' } ∧ Chg b v w (w0.setCell ⟨b, 26, none⟩ v') v' := by
  obtain ⟨wv, hbk0, hwt⟩ := h.bk
  have hbk := blk hb hbk0
  have hlt := h.lt
  have hne : v'.ownBlock ≠ some b := fun e => by have := (ho.lt b e).1; omega
  have hheap : ∀ k, (w0.setCell ⟨b, 26, none⟩ v').heap[k]? = if k = b then some (.cells ((s.cells v wv).toArray.setIfInBounds 26 v') 78 (0, 0)) else w0.heap[k]? := fun k => hget_set _ _ _ _ _ _ _ hbk
  have hbel : Below b w0 (w0.setCell ⟨b, 26, none⟩ v') := (Below.refl b w0).setCell (Nat.le_refl b) v'
  refine ⟨⟨⟨wv, by rw [hheap, if_pos rfl, BX.set26 s v wv v' l' h.n18], (hwt.keep hb).kept (KeptT.set hbk (by decide)) (KeptT.set hbk (by decide))⟩, ?_, hne, h.n18⟩, ⟨hbel.os.trans hb.os, hbel.tape.trans hb.tape, hbel.output.trans hb.output, Nat.le_trans hb.size hbel.size, fun k hk hkb _ => by rw [hheap, if_neg hkb]; exact hb.block k hk, Or.inr fun k hk => (ho.lt k hk).1⟩⟩
  have hk := ho.kept (row := some b) ⟨hbel.os, hbel.tape, hbel.output, hbel.size, fun k _ hkb => by rw [hheap, if_neg (fun e => hkb (by rw [e]))]⟩ (Or.inr hne)
  exact ⟨hk.1, by rcases hk.2 with hh | ⟨g, cap, cur, h1, h2, h3⟩; exact Or.inl hh; exact Or.inr ⟨g, cap, cur, h1, Nat.zero_le _, h3⟩⟩
theorem bBegin {w : World} {b : Nat} {v : Value} {s : BX} (h : BoxAt w b v s) (hn : s.l.length ≤ 1000) (pr ia ip fa fp port : Int) :
    Calls Tryz.prog 119 #[.pointer (some ⟨b, 26, none⟩), .int .i64 pr, .agg #[.int .i64 ia, .int .i64 ip], .agg #[.int .i64 fa, .int .i64 fp], .int .i64 port] w fun e w' => e = .returned (.tuple #[]) ∧ ∃ v', BoxAt w' b v' { s with l := insS (freshS pr ia ip fa fp port) s.l } ∧ Chg b v w w' v' := by
  refine (Begin_any b 26 v s.l pr ia ip fa fp port w h.tab.1 (h.get.2 _) h.tab.2 hn).mono ?_
  rintro e w' ⟨rfl, v', w0, rfl, hb, ho⟩
  exact ⟨rfl, v', h.anew hb ho⟩
theorem bExpire {w : World} {b : Nat} {v : Value} {s : BX} (h : BoxAt w b v s) (hn : s.l.length ≤ 1000) (now : Int) :
    Calls Tryz.prog 42 #[.pointer (some ⟨b, 26, none⟩), .int .i64 now] w fun e w' => e = .returned (.tuple #[]) ∧ ∃ v', BoxAt w' b v' { s with l := s.l.filter (fun x => decide (now < x.dl)) } ∧ Chg b v w w' v' := by
  refine (Expire_any b 26 v s.l now w h.tab.1 (h.get.2 _) h.tab.2 hn).mono ?_
  rintro e w' ⟨rfl, v', w0, rfl, hb, ho⟩
  exact ⟨rfl, v', h.anew hb ho⟩

/-- The sessions behind a message of one of them. -/
def passL (pr ia ip fa fp side f now : Int) (l : List SD) : List SD := match l.findIdx? (isS pr ia ip fa fp) with | some i => l.modify i (passS pr side f now) | none => l
theorem passL_length (pr ia ip fa fp side f now : Int) (l : List SD) : (passL pr ia ip fa fp side f now l).length = l.length := by unfold passL; split <;> simp
theorem passL_miss {pr ia ip fa fp : Int} {l : List SD} (side f now : Int) (h : l.findIdx? (isS pr ia ip fa fp) = none) : findI pr ia ip fa fp l = -1 ∧ passL pr ia ip fa fp side f now l = l := by
  unfold findI passL; rw [h]; exact ⟨rfl, rfl⟩
theorem passL_hit {pr ia ip fa fp : Int} {l : List SD} {k : Nat} (side f now : Int) (h : l.findIdx? (isS pr ia ip fa fp) = some k) : findI pr ia ip fa fp l = k ∧ ∃ hk : k < l.length, l[k].pr = pr ∧ passL pr ia ip fa fp side f now l = l.set k (passS pr side f now l[k]) := by
  obtain ⟨hk, hp, -⟩ := List.findIdx?_eq_some_iff_getElem.1 h
  have hpr : l[k].pr = pr := by
    unfold isS at hp
    simp at hp
    exact hp.1.1
  unfold findI passL
  rw [h]
  refine ⟨rfl, hk, hpr, ?_⟩
  apply List.ext_getElem?
  intro j
  rw [List.getElem?_modify, List.getElem?_set]
  by_cases e : k = j
  · subst e; simp [hk]
  · simp [e]
theorem bPass {w : World} {b : Nat} {v : Value} {s : BX} (h : BoxAt w b v s) (hn : s.l.length ≤ 1000) (pr ia ip fa fp side f now : Int) (hn0 : 0 ≤ now) (hn1 : now ≤ 1000000000000000) :
    Calls Tryz.prog 103 #[.pointer (some ⟨b, 26, none⟩), .int .i64 pr, .agg #[.int .i64 ia, .int .i64 ip], .agg #[.int .i64 fa, .int .i64 fp], .int .i64 side, .int .i64 f, .int .i64 now] w fun e w' => e = .returned (.tuple #[]) ∧ BoxAt w' b v { s with l := passL pr ia ip fa fp side f now s.l } ∧ Chg b v w w' v := by
  rcases hf : s.l.findIdx? (isS pr ia ip fa fp) with _ | k
  · obtain ⟨h1, h2⟩ := passL_miss side f now hf
    refine (Pass_miss b 26 v s.l pr ia ip fa fp side f now w h.tab.1 h.tab.2 hn h1).mono ?_
    rintro e w' ⟨rfl, hb⟩
    rw [h2]
    exact ⟨rfl, h.call hb, Chg.of_below hb⟩
  · obtain ⟨h1, hk, hpr, h2⟩ := passL_hit side f now hf
    have ho := h.own
    rcases ho.2 with ⟨-, h0⟩ | ⟨g, cap, cur, rfl, -, hg, hc1, hc2, hcs, hct⟩
    · omega
    · have hsz : s.l.length * 11 ≤ cur.size := by rw [hcs]; exact Nat.mul_le_mul_right _ hc1
      have hgb : g ≠ b := fun e => h.ne (by rw [e]; rfl)
      refine (Pass_hit b 26 g cap cur s.l k s.l[k] pr ia ip fa fp side f now w h.tab.1 hg h.tab.2 hn hk rfl hsz hpr h1 hn0 hn1).mono ?_
      rintro e w' ⟨rfl, hgr, cur', hg', ht'⟩
      rw [h2]
      obtain ⟨wv, hbk0, hwt⟩ := h.bk
      refine ⟨rfl, ⟨⟨wv, ?_, hwt.kept (KeptT.grown hg hgr (by decide)) (KeptT.grown hg hgr (by decide))⟩, ?_, h.ne, h.n18⟩, ⟨hgr.os, hgr.tape, hgr.output, hgr.size, fun k hk _ hv => hgr.block k hk (fun e => hv (by rw [e]; rfl)), Or.inl rfl⟩⟩
      · rw [hgr.block b h.lt (fun e => hgb (by simpa using e.symm))]
        exact hbk0
      · refine ⟨by rw [scells_length], Or.inr ⟨g, cap, cur', by rw [List.length_set], Nat.zero_le _, hg', by rw [List.length_set]; exact hc1, hc2, ?_, ?_⟩⟩
        · have hk11 : k * 11 + 11 ≤ cur.size := by have : (k + 1) * 11 ≤ s.l.length * 11 := Nat.mul_le_mul_right _ hk; omega
          have e := congrArg List.length ht'
          simp only [List.length_append, List.length_take, List.length_drop, Array.length_toList] at e
          have e11 : (passS pr side f now s.l[k]).cells.length = 11 := rfl
          rw [e11] at e
          have : cur'.size = cur.size := by omega
          rw [this, hcs]
        · have hk11 : k * 11 + 11 ≤ s.l.length * 11 := by have : (k + 1) * 11 ≤ s.l.length * 11 := Nat.mul_le_mul_right _ hk; omega
          rw [List.length_set, scells_set _ _ _ hk, ht', ← hct]
          have e11 : (passS pr side f now s.l[k]).cells.length = 11 := rfl
          have hcl : cur.toList.length = cur.size := by simp
          rw [List.append_assoc, List.append_assoc, List.take_append, List.take_append, List.take_take, List.take_take, List.length_take, e11]
          rw [Nat.min_eq_right (by omega : k * 11 ≤ s.l.length * 11), Nat.min_eq_left (by omega : k * 11 ≤ s.l.length * 11), Nat.min_eq_left (by rw [hcl]; omega : k * 11 ≤ cur.toList.length)]
          rw [List.take_of_length_le (l := (passS pr side f now s.l[k]).cells) (by rw [e11]; omega), List.drop_take]
          have e3 : s.l.length * 11 - k * 11 - 11 = s.l.length * 11 - (k * 11 + 11) := by omega
          rw [e3]
/-- A box, and blocks of a call's own, the younger first. -/
structure GMid (w W : World) (b : Nat) (v0 v : Value) (s : BX) (bs : List (Nat × Array Value × TypeId)) : Prop where
  box : BoxAt W b v s
  chg : Chg b v0 w W v
  lt : b < w.heap.size
  bk : ∀ p ∈ bs, W.heap[p.1]? = some (.cells p.2.1 p.2.2 (0, 0)) ∧ w.heap.size ≤ p.1 ∧ v.ownBlock ≠ some p.1
  ord : bs.Pairwise (fun p q => q.1 < p.1)
theorem GMid.start {w : World} {b : Nat} {v : Value} {s : BX} (h : BoxAt w b v s) : GMid w w b v v s [] := ⟨h, Chg.refl b v w, h.lt, fun p hp => absurd hp (by simp), List.Pairwise.nil⟩
theorem GMid.change {w W W' : World} {b : Nat} {v0 v v' : Value} {s s' : BX} {bs : List (Nat × Array Value × TypeId)} (h : GMid w W b v0 v s bs) (hb : BoxAt W' b v' s') (hc : Chg b v W W' v') : GMid w W' b v0 v' s' bs :=
  ⟨hb, h.chg.trans hc, h.lt, fun p hp => by
    obtain ⟨h1, h2, h3⟩ := h.bk p hp
    have := h.lt
    obtain ⟨k1, k2⟩ := hc.keep h1 (by omega) h3
    exact ⟨k1, h2, k2⟩, h.ord⟩
theorem GMid.call {w W W' : World} {b : Nat} {v0 v : Value} {s : BX} {bs : List (Nat × Array Value × TypeId)} (h : GMid w W b v0 v s bs) (hb : Below W.heap.size W W') : GMid w W' b v0 v s bs := h.change (h.box.call hb) (Chg.of_below hb)
theorem GMid.drew {w W : World} {b : Nat} {v0 v : Value} {s : BX} {bs : List (Nat × Array Value × TypeId)} (h : GMid w W b v0 v s bs) : GMid w W.drew b v0 v s bs := h.call (Below.refl _ _).drew
theorem GMid.alloc {w W : World} {b : Nat} {v0 v : Value} {s : BX} {bs : List (Nat × Array Value × TypeId)} (h : GMid w W b v0 v s bs) (c : Array Value) (t : TypeId) : GMid w (W.alloc (.cells c t)) b v0 v s ((W.heap.size, c, t) :: bs) := by
  have hb : Below W.heap.size W (W.alloc (.cells c t)) := (Below.refl _ _).alloc (Nat.le_refl _) _
  have h' := h.call hb
  refine ⟨h'.box, h'.chg, h.lt, fun p hp => ?_, List.Pairwise.cons (fun q hq => lt_of_block (h.bk q hq).1) h.ord⟩
  rcases List.mem_cons.1 hp with rfl | hp
  · exact ⟨heap_alloc_new W _, h.chg.size, fun e => by have := (h.box.own.lt _ e).2; simp at this⟩
  · exact h'.bk p hp
theorem GMid.alloc' {w W : World} {b : Nat} {v0 v : Value} {s : BX} {bs : List (Nat × Array Value × TypeId)} (h : GMid w W b v0 v s bs) (c : Array Value) (t : TypeId) (k : Nat) (hk : W.heap.size = k) : GMid w (W.alloc (.cells c t)) b v0 v s ((k, c, t) :: bs) := by subst hk; exact h.alloc c t
theorem GMid.size {w W : World} {b : Nat} {v0 v : Value} {s : BX} {bs : List (Nat × Array Value × TypeId)} (h : GMid w W b v0 v s bs) : w.heap.size ≤ W.heap.size := h.chg.size
theorem GMid.setAt {w W : World} {b : Nat} {v0 v : Value} {s : BX} {pre post : List (Nat × Array Value × TypeId)} {k : Nat} {c : Array Value} {t : TypeId} (h : GMid w W b v0 v s (pre ++ (k, c, t) :: post)) (j : Nat) (u : Value) (ht : t ≠ 94 ∧ t ≠ 83 := by decide) : GMid w (W.setCell ⟨k, j, none⟩ u) b v0 v s (pre ++ (k, c.setIfInBounds j u, t) :: post) := by
  obtain ⟨h1, h2, h3⟩ := h.bk (k, c, t) (by simp)
  have hh : ∀ x, (W.setCell ⟨k, j, none⟩ u).heap[x]? = if x = k then some (.cells (c.setIfInBounds j u) t (0, 0)) else W.heap[x]? := fun x => hget_set _ _ _ _ _ _ _ h1
  have hbel : Below k W (W.setCell ⟨k, j, none⟩ u) := (Below.refl k W).setCell (Nat.le_refl k) u
  have hlt := h.lt
  have hkb : b ≠ k := by simp only at h2; omega
  have hord := h.ord
  rw [List.pairwise_append] at hord
  obtain ⟨o1, o2, o3⟩ := hord
  rw [List.pairwise_cons] at o2
  have hne : ∀ p ∈ pre ++ post, p.1 ≠ k := by
    intro p hp
    rcases List.mem_append.1 hp with hp | hp
    · have := o3 p hp (k, c, t) (by simp); simp only at this; omega
    · have := o2.1 p hp; simp only at this; omega
  have hg : W.grownBy (W.setCell ⟨k, j, none⟩ u) (some k) := ⟨hbel.os, hbel.tape, hbel.output, hbel.size, fun x _ hx => by rw [hh, if_neg (fun e => hx (by rw [e]))]⟩
  obtain ⟨wv, hbk0, hwt⟩ := h.box.bk
  refine ⟨⟨⟨wv, by rw [hh, if_neg hkb]; exact hbk0, hwt.kept (KeptT.set h1 (Ne.symm ht.1)) (KeptT.set h1 (Ne.symm ht.2))⟩, h.box.own.kept hg (Or.inr h3), h.box.ne, h.box.n18⟩, ⟨hbel.os.trans h.chg.os, hbel.tape.trans h.chg.tape, hbel.output.trans h.chg.output, Nat.le_trans h.chg.size hbel.size, fun x hx hxb hxv => by rw [hh, if_neg (by simp only at h2; omega)]; exact h.chg.block x hx hxb hxv, h.chg.own⟩, h.lt, ?_, ?_⟩
  · intro p hp
    rcases List.mem_append.1 hp with hp | hp
    · obtain ⟨a1, a2, a3⟩ := h.bk p (List.mem_append.2 (Or.inl hp))
      exact ⟨by rw [hh, if_neg (hne p (List.mem_append.2 (Or.inl hp)))]; exact a1, a2, a3⟩
    · rcases List.mem_cons.1 hp with rfl | hp
      · exact ⟨by rw [hh, if_pos rfl], h2, h3⟩
      · obtain ⟨a1, a2, a3⟩ := h.bk p (List.mem_append.2 (Or.inr (List.mem_cons_of_mem _ hp)))
        exact ⟨by rw [hh, if_neg (hne p (List.mem_append.2 (Or.inr hp)))]; exact a1, a2, a3⟩
  · rw [List.pairwise_append]
    refine ⟨o1, ?_, ?_⟩
    · rw [List.pairwise_cons]; exact ⟨fun q hq => o2.1 q hq, o2.2⟩
    · intro p hp q hq
      rcases List.mem_cons.1 hq with rfl | hq
      · exact o3 p hp (k, c, t) (by simp)
      · exact o3 p hp q (List.mem_cons_of_mem _ hq)
theorem GMid.set0 {w W : World} {b : Nat} {v0 v : Value} {s : BX} {post : List (Nat × Array Value × TypeId)} {k : Nat} {c : Array Value} {t : TypeId} (h : GMid w W b v0 v s ((k, c, t) :: post)) (j : Nat) (u : Value) (ht : t ≠ 94 ∧ t ≠ 83 := by decide) : GMid w (W.setCell ⟨k, j, none⟩ u) b v0 v s ((k, c.setIfInBounds j u, t) :: post) := h.setAt (pre := []) j u ht
theorem GMid.set1 {w W : World} {b : Nat} {v0 v : Value} {s : BX} {p0 : Nat × Array Value × TypeId} {post : List (Nat × Array Value × TypeId)} {k : Nat} {c : Array Value} {t : TypeId} (h : GMid w W b v0 v s (p0 :: (k, c, t) :: post)) (j : Nat) (u : Value) (ht : t ≠ 94 ∧ t ≠ 83 := by decide) : GMid w (W.setCell ⟨k, j, none⟩ u) b v0 v s (p0 :: (k, c.setIfInBounds j u, t) :: post) := h.setAt (pre := [p0]) j u ht
theorem GMid.at0 {w W : World} {b : Nat} {v0 v : Value} {s : BX} {post : List (Nat × Array Value × TypeId)} {k : Nat} {c : Array Value} {t : TypeId} (h : GMid w W b v0 v s ((k, c, t) :: post)) : W.heap[k]? = some (.cells c t (0, 0)) := (h.bk (k, c, t) (by simp)).1
theorem GMid.at1 {w W : World} {b : Nat} {v0 v : Value} {s : BX} {p0 : Nat × Array Value × TypeId} {post : List (Nat × Array Value × TypeId)} {k : Nat} {c : Array Value} {t : TypeId} (h : GMid w W b v0 v s (p0 :: (k, c, t) :: post)) : W.heap[k]? = some (.cells c t (0, 0)) := (h.bk (k, c, t) (by simp)).1
theorem GMid.at2 {w W : World} {b : Nat} {v0 v : Value} {s : BX} {p0 p1 : Nat × Array Value × TypeId} {post : List (Nat × Array Value × TypeId)} {k : Nat} {c : Array Value} {t : TypeId} (h : GMid w W b v0 v s (p0 :: p1 :: (k, c, t) :: post)) : W.heap[k]? = some (.cells c t (0, 0)) := (h.bk (k, c, t) (by simp)).1
theorem GMid.at3 {w W : World} {b : Nat} {v0 v : Value} {s : BX} {p0 p1 p2 : Nat × Array Value × TypeId} {post : List (Nat × Array Value × TypeId)} {k : Nat} {c : Array Value} {t : TypeId} (h : GMid w W b v0 v s (p0 :: p1 :: p2 :: (k, c, t) :: post)) : W.heap[k]? = some (.cells c t (0, 0)) := (h.bk (k, c, t) (by simp)).1
theorem GMid.at4 {w W : World} {b : Nat} {v0 v : Value} {s : BX} {p0 p1 p2 p3 : Nat × Array Value × TypeId} {post : List (Nat × Array Value × TypeId)} {k : Nat} {c : Array Value} {t : TypeId} (h : GMid w W b v0 v s (p0 :: p1 :: p2 :: p3 :: (k, c, t) :: post)) : W.heap[k]? = some (.cells c t (0, 0)) := (h.bk (k, c, t) (by simp)).1
end Go.Proofs.YtfkjobiapjhacabGreat
/- Contracts of package pieces: Expire. Own work. -/
namespace Go.Proofs.YtfkjobiapjhacabGreat
open Go.RowKit
attribute [local go_sem ↓] Go.wp_at_zero Go.wp_at_succ

theorem PsAt.get {w : World} {v : Value} {l : List PR} (h : PsAt w v l) (k : Nat) (hk : k < l.length) : ∃ g cap, v = .slice (some ⟨g, 0, none⟩) l.length cap ∧ g < w.heap.size ∧ w.cell? ⟨g, k * 8, none⟩ = some (.int .i64 l[k].d.sd) ∧ w.cell? ⟨g, k * 8 + 1, none⟩ = some (.int .i64 l[k].d.sr) ∧ w.cell? ⟨g, k * 8 + 2, none⟩ = some (.int .i64 l[k].d.ds) ∧ w.cell? ⟨g, k * 8 + 3, none⟩ = some (.int .i64 l[k].d.pr) ∧ w.cell? ⟨g, k * 8 + 4, none⟩ = some (.int .i64 l[k].d.nu) ∧ w.cell? ⟨g, k * 8 + 5, none⟩ = some (.bool l[k].d.gu) ∧ w.cell? ⟨g, k * 8 + 6, none⟩ = some (.int .i64 l[k].d.dl) ∧ w.cell? ⟨g, k * 8 + 7, none⟩ = some l[k].hv ∧ ∃ a n c, l[k].hv = .slice a n c := by
  obtain ⟨g, cap, e, hg, hc⟩ := LsAt.get h.1 (by intro e; rw [e] at hk; simp at hk)
  obtain ⟨a, c, hs⟩ := LsAt.shape (h.2 l[k] (List.getElem_mem _))
  exact ⟨g, cap, e, hg, hc k hk 0 (by decide), hc k hk 1 (by decide), hc k hk 2 (by decide), hc k hk 3 (by decide), hc k hk 4 (by decide), hc k hk 5 (by decide), hc k hk 6 (by decide), hc k hk 7 (by decide), a, _, c, hs⟩
theorem info_part : (Tryz.prog.info? 94).map (fun i => (i.zero, i.size, i.bytes)) = some (some (.agg #[.int .i64 0, .int .i64 0, .int .i64 0, .int .i64 0, .int .i64 0, .bool false, .int .i64 0, .slice none 0 0]), 8, 80) := by kernel_rfl
theorem pr_one (o : PR) {a : Option Addr} {n c : Nat} (h : o.hv = .slice a n c) : ∀ u ∈ o.cells, u.oneCell' = true := by
  intro u hu
  simp [PR.cells, h] at hu
  rcases hu with rfl | rfl | rfl | rfl | rfl | rfl | rfl | rfl <;> rfl
def aliveB (now : Int) (r : PR) : Bool := decide (now < r.d.dl)

set_option maxRecDepth 100000 in
set_option maxHeartbeats 2000000 in
theorem PExpire_any (sb so : Nat) (v : Value) (rl : List PR) (now : Int) (w : World) (hc : w.cell? ⟨sb, so, none⟩ = some v) (hfz : w.frozen? ⟨sb, so, none⟩ = false) (hl : PsAt w v rl) (hn : rl.length ≤ 1000) :
    Calls Tryz.prog 43 #[.pointer (some ⟨sb, so, none⟩), .int .i64 now] w fun e w' => e = .returned (.tuple #[]) ∧ ∃ v' w0, w' = w0.setCell ⟨sb, so, none⟩ v' ∧ Below w.heap.size w w0 ∧ PsAt w0 v' (rl.filter (aliveB now)) := by
  have HL : Hid (PsAt w v rl) := hl
  obtain ⟨ao, cap, hv⟩ := hl.1.shape
  clear hl
  have htb := lt_of_cell hc
  subst hv
  generalize hlen : rl.length = len at hn hc HL
  have HE : Hid (rl.length = len) := hlen
  have HCC : Hid (w.cell? ⟨sb, so, none⟩ = some (.slice ao len cap)) := hc
  have HFZ : Hid (w.frozen? ⟨sb, so, none⟩ = false) := hfz
  clear hlen
  obtain ⟨i0, hi0, hz0, hz1, hz2⟩ := info_parts info_part
  go_enter Tryz.func43, Tryz.ntmps43
  go_wp2
  go_loopw [4, 13] (fun lst i wr => ∃ (k : Nat) (lv : Value), k ≤ len ∧ i = .int .i64 k ∧ lv = lst ∧ QMid w wr [] 94 8 lv ((rl.take k).filter (aliveB now)).length (((rl.take k).filter (aliveB now)).flatMap PR.cells)) (fun _ i _ => len - (intOf i).toNat)
  case atStart => exact ⟨0, _, Nat.zero_le _, rfl, rfl, QMid.start (LMid.start w) _ _ _ rfl⟩
  case round =>
    obtain ⟨k, lv, hk, rfl, rfl, hM1⟩ := hrel
    by_cases hlt : k < len
    · have hlo : k < rl.length := by have := HE.out; omega
      obtain ⟨g, cp, hv, hg, q0, q1, q2, q3, q4, q5, q6, q7, hao, hln, hcp, hhv⟩ := PsAt.get (PsAt.keep HL.out hM1.mid.bl) k hlo
      simp at hv
      obtain ⟨rfl, -, rfl⟩ := hv
      have hfs := filt_snoc (aliveB now) rl k hlo
      have hfl : ((rl.take k).filter (aliveB now)).length ≤ k := Nat.le_trans (List.length_filter_le _ _) (by simp; omega)
      have HAL : Hid (aliveB now rl[k] = decide (now < rl[k].d.dl)) := rfl
      generalize rl[k] = o at q0 q1 q2 q3 q4 q5 q6 q7 hhv hfs HAL
      generalize (rl.take k).filter (aliveB now) = F at hM1 hfs hfl
      have HFS : Hid ((rl.take (k + 1)).filter (aliveB now) = F ++ (if aliveB now o then [o] else [])) := hfs
      rw [hhv] at q7
      have HOC : Hid (o.cells = [.int .i64 o.d.sd, .int .i64 o.d.sr, .int .i64 o.d.ds, .int .i64 o.d.pr, .int .i64 o.d.nu, .bool o.d.gu, .int .i64 o.d.dl, .slice hao hln hcp]) := by show _ = _; unfold PR.cells; rw [hhv]
      have HON : Hid (∀ u ∈ ([.int .i64 o.d.sd, .int .i64 o.d.sr, .int .i64 o.d.ds, .int .i64 o.d.pr, .int .i64 o.d.nu, .bool o.d.gu, .int .i64 o.d.dl, .slice hao hln hcp] : List Value), u.oneCell' = true) := by rw [← HOC.out]; exact pr_one o hhv
      have hsw := hM1.mid.bl.size
      have hM : Hid (QMid w wr [] 94 8 lv F.length (F.flatMap PR.cells)) := hM1
      clear hM1 hfs hhv
      have hkI : (0 : Int) ≤ (k : Int) := by omega
      have hkL : (k : Int) < (len : Int) := by omega
      by_cases hd : now < o.d.dl
      · have HFE : Hid ((rl.take (k + 1)).filter (aliveB now) = F ++ [o]) := by
          show _ = _
          rw [HFS.out, HAL.out]; simp [hd]
        go_wp2_with (at_builtin; refine wpList_append_lies _ rfl (.tmp 21) (.tmp 23) 74 rfl w.heap.size 94 i0 _ 8 80 Tryz.underlying74 hi0 hz0 hz1 hz2 rfl (by decide) lv F.length (F.flatMap PR.cells) rfl ((hM.out.own.alloc _).alloc _) ⟨wr.heap.size + 1, 0, none⟩ 1 1 [.int .i64 o.d.sd, .int .i64 o.d.sr, .int .i64 o.d.ds, .int .i64 o.d.pr, .int .i64 o.d.nu, .bool o.d.gu, .int .i64 o.d.dl, .slice hao hln hcp] rfl rfl (by exact World.news_of_block (B := wr.heap.size + 1) (by rw [hget_alloc, if_pos (by simp)])) HON.out (by decide) (by unfold maxLen; omega) (by omega) (by simp; omega) (wr.heap.size + 1 + 1) (by simp) ?_; intro g4 cap4 w4 hown hgrow hat hlt4; have hM1 := (hM.out.call (((Below.refl _ _).alloc (Nat.le_refl _) _).alloc (by simp) _)).app hgrow hown _ hat (by simp); clear hM hown hgrow hat hlt4; have hM : Hid _ := hM1; clear hM1)
        go_roundw
        case rel =>
          refine ⟨k + 1, _, by omega, by go_num, rfl, ?_⟩
          rw [HFE.out, List.length_append, List.flatMap_append]
          simpa [HOC.out] using hM.out
        case measure => simp [intOf]; omega
      · have HFE : Hid ((rl.take (k + 1)).filter (aliveB now) = F) := by
          show _ = _
          rw [HFS.out, HAL.out]; simp [hd]
        go_wp2
        go_roundw
        case rel => exact ⟨k + 1, lv, by omega, by go_num, rfl, by rw [HFE.out]; exact hM.out.call ((Below.refl _ _).alloc (Nat.le_refl _) _)⟩
        case measure => simp [intOf]; omega
    · have e : k = rl.length := by have := HE.out; omega
      subst e
      rw [List.take_length] at hM1
      have HO : Hid (PsAt wr lv (rl.filter (aliveB now))) := ⟨LsAt.of_owns PR.len hM1.own, fun r hr => LsAt.keep (HL.out.2 r ((List.mem_filter.1 hr).1)) hM1.mid.bl⟩
      have HB : Hid (Below w.heap.size w wr) := hM1.mid.bl
      have c1 := (hM1.mid.bl.cell (p := ⟨sb, so, none⟩) htb).trans HCC.out
      have f1 := (hM1.mid.bl.frozen (p := ⟨sb, so, none⟩) htb).trans HFZ.out
      obtain ⟨la, cp, hla⟩ := owns_shape hM1.own
      clear hM1
      subst hla
      go_wp2
      go_end0
      exact ⟨rfl, _, wr, rfl, HB.out, HO.out⟩
theorem filter_wl (now : Int) (rl : List PR) : (rl.filter (aliveB now)).map PR.d = (rl.map PR.d).filter (fun d => decide (now < d.dl)) := by
  induction rl with
  | nil => rfl
  | cons r t ih =>
    simp only [List.filter_cons, List.map_cons, aliveB]
    by_cases h : now < r.d.dl
    · simp [h, ih]
    · simp [h, ih]
theorem BX.set27 (s : BX) (v wv wv' : Value) (l' : List PD) (h : s.cs.length = 18) : (s.cells v wv).toArray.setIfInBounds 27 wv' = (({ s with wl := l' } : BX).cells v wv').toArray := by
  apply Array.toList_inj.1
  unfold BX.cells
  simp only [Array.toList_setIfInBounds]
  rw [List.set_append_right _ _ (by simp; omega)]
  simp [h]
/-- A box whose list of datagrams was made anew. -/
theorem BoxAt.wanew {w w0 : World} {b : Nat} {v wv' : Value} {s : BX} {l' : List PD} (h : BoxAt w b v s) (hb : Below w.heap.size w w0) (ho : WaitAt w0 wv' l') :
    BoxAt (w0.setCell ⟨b, 27, none⟩ wv') b v { s with wl := l' } ∧ Chg b v w (w0.setCell ⟨b, 27, none⟩ wv') v := by
  have h0 := h.call hb
  obtain ⟨wv, hbk, -⟩ := h0.bk
  have hheap : ∀ k, (w0.setCell ⟨b, 27, none⟩ wv').heap[k]? = if k = b then some (.cells ((s.cells v wv).toArray.setIfInBounds 27 wv') 78 (0, 0)) else w0.heap[k]? := fun k => hget_set _ _ _ _ _ _ _ hbk
  have hbel : Below b w0 (w0.setCell ⟨b, 27, none⟩ wv') := (Below.refl b w0).setCell (Nat.le_refl b) wv'
  refine ⟨⟨⟨wv', by rw [hheap, if_pos rfl, BX.set27 s v wv wv' l' h.n18], ho.kept (KeptT.set hbk (by decide)) (KeptT.set hbk (by decide))⟩, ?_, h.ne, h.n18⟩, ⟨hbel.os.trans hb.os, hbel.tape.trans hb.tape, hbel.output.trans hb.output, Nat.le_trans hb.size hbel.size, fun k hk hkb _ => by rw [hheap, if_neg hkb]; exact hb.block k hk, Or.inl rfl⟩⟩
  exact h0.own.kept (row := some b) ⟨hbel.os, hbel.tape, hbel.output, hbel.size, fun k _ hkb => by rw [hheap, if_neg (fun e => hkb (by rw [e]))]⟩ (Or.inr h.ne)
theorem wExpire {w : World} {b : Nat} {v : Value} {s : BX} (h : BoxAt w b v s) (hn : s.wl.length ≤ 1000) (now : Int) :
    Calls Tryz.prog 43 #[.pointer (some ⟨b, 27, none⟩), .int .i64 now] w fun e w' => e = .returned (.tuple #[]) ∧ BoxAt w' b v { s with wl := s.wl.filter (fun d => decide (now < d.dl)) } ∧ Chg b v w w' v := by
  obtain ⟨wv, hc, rl, e, hp⟩ := h.wait
  refine (PExpire_any b 27 wv rl now w hc (h.get.2 _) hp (by rw [← e] at hn; simpa using hn)).mono ?_
  rintro x w' ⟨rfl, v', w0, rfl, hb, ho⟩
  exact ⟨rfl, h.wanew hb ⟨_, by rw [filter_wl, e], ho⟩⟩
end Go.Proofs.YtfkjobiapjhacabGreat
