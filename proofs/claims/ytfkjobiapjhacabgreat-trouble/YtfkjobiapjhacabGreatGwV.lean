/- Contracts of package sessions: ticks, before, Pass. Own work. -/
import Derived.Test.YtfkjobiapjhacabGreatGwU
import Derived.Deep.RegionLaw
namespace Go.Proofs.YtfkjobiapjhacabGreat
open Go.RowKit
attribute [local go_sem ↓] Go.wp_at_zero Go.wp_at_succ

def ticksI (pr st : Int) : Int := if pr = 17 then 30 else if pr = 1 then 10 else if st = 2 then 60 else if st = 3 then 5 else 8
theorem ticksI_bd (pr st : Int) : 0 ≤ ticksI pr st ∧ ticksI pr st ≤ 60 := by unfold ticksI; repeat' split <;> omega
set_option maxRecDepth 100000 in
set_option maxHeartbeats 2000000 in
theorem ticks_any (s : SD) (w : World) :
    Calls Tryz.prog 122 #[.agg #[.int .i64 s.pr, .int .i64 s.ia, .int .i64 s.ip, .int .i64 s.fa, .int .i64 s.fp, .int .i64 s.port, .int .i64 s.dl, .int .i64 s.st, .bool s.an, .bool s.inf, .bool s.outf]] w fun e w' => e = .returned (.int .i64 (ticksI s.pr s.st)) ∧ Below w.heap.size w w' := by
  obtain ⟨pr, ia, ip, fa, fp, port, dl, st, an, inf, outf⟩ := s
  have HF : Hid (ticksI pr st = if pr = 17 then 30 else if pr = 1 then 10 else if st = 2 then 60 else if st = 3 then 5 else 8) := rfl
  go_enter Tryz.func122, Tryz.ntmps122
  go_wp2
  all_goals
    go_ret
    refine ⟨g_int ?_, (Below.refl _ _).alloc (Nat.le_refl _) _⟩
    rw [HF.out]
    clear HF
    (repeat' split) <;> first | rfl | (exfalso; simp_all; done)

def befB (s o : SD) : Bool :=
  if ¬ s.pr = o.pr then decide (s.pr < o.pr) else if ¬ s.ia = o.ia then decide (s.ia < o.ia) else if ¬ s.ip = o.ip then decide (s.ip < o.ip) else if ¬ s.fa = o.fa then decide (s.fa < o.fa) else decide (s.fp < o.fp)
set_option maxRecDepth 100000 in
set_option maxHeartbeats 2000000 in
theorem before_any (s o : SD) (w : World) :
    Calls Tryz.prog 128 #[.agg #[.int .i64 s.pr, .int .i64 s.ia, .int .i64 s.ip, .int .i64 s.fa, .int .i64 s.fp, .int .i64 s.port, .int .i64 s.dl, .int .i64 s.st, .bool s.an, .bool s.inf, .bool s.outf], .agg #[.int .i64 o.pr, .int .i64 o.ia, .int .i64 o.ip, .int .i64 o.fa, .int .i64 o.fp, .int .i64 o.port, .int .i64 o.dl, .int .i64 o.st, .bool o.an, .bool o.inf, .bool o.outf]] w fun e w' => e = .returned (.bool (befB s o)) ∧ Below w.heap.size w w' := by
  have HF : Hid (befB s o = if ¬ s.pr = o.pr then decide (s.pr < o.pr) else if ¬ s.ia = o.ia then decide (s.ia < o.ia) else if ¬ s.ip = o.ip then decide (s.ip < o.ip) else if ¬ s.fa = o.fa then decide (s.fa < o.fa) else decide (s.fp < o.fp)) := rfl
  go_enter Tryz.func128, Tryz.ntmps128
  go_wp2
  all_goals
    go_ret
    refine ⟨g_bool ?_, ((Below.refl _ _).alloc (Nat.le_refl _) _).alloc (by simp) _⟩
    rw [HF.out]
    clear HF
    (repeat' split) <;> first | rfl | (exfalso; simp_all; done) | (simp_all; done)

/-- The session behind a message. -/
def passS (pr side f now : Int) (s : SD) : SD :=
  let t := if pr = 6 then tkBehind ⟨s.st, s.an, s.inf, s.outf⟩ side f else ⟨s.st, s.an, s.inf, s.outf⟩
  { s with dl := now + ticksI s.pr t.st, st := t.st, an := t.an, inf := t.inf, outf := t.outf }
theorem scells_set (l : List SD) (k : Nat) (s : SD) (h : k < l.length) : scells (l.set k s) = (scells l).take (k * 11) ++ s.cells ++ (scells l).drop (k * 11 + 11) := by
  induction l generalizing k with
  | nil => simp at h
  | cons o r ih =>
    cases k with
    | zero =>
      simp only [List.set_cons_zero, scells, List.flatMap_cons, Nat.zero_mul, List.take_zero, List.nil_append, Nat.zero_add]
      rw [List.drop_append_of_le_length (by simp [SD.cells]), List.drop_of_length_le (by simp [SD.cells])]
      simp
    | succ k =>
      have hl : o.cells.length = 11 := rfl
      have e := ih k (by simpa using h)
      simp only [List.set_cons_succ, scells, List.flatMap_cons] at e ⊢
      rw [e]
      have e1 : (k + 1) * 11 = o.cells.length + k * 11 := by rw [hl]; omega
      have e2 : (k + 1) * 11 + 11 = o.cells.length + (k * 11 + 11) := by rw [hl]; omega
      rw [e2, e1, List.take_length_add_append, List.drop_length_add_append]
      simp [List.append_assoc]

set_option maxRecDepth 100000 in
set_option maxHeartbeats 2000000 in
theorem Pass_miss (tb to' : Nat) (v : Value) (l : List SD) (pr ia ip fa fp side f now : Int) (w : World) (hc : w.cell? ⟨tb, to', none⟩ = some v) (hl : SsAt w v l) (hn : l.length ≤ 1000) (hf : findI pr ia ip fa fp l = -1) :
    Calls Tryz.prog 103 #[.pointer (some ⟨tb, to', none⟩), .int .i64 pr, .agg #[.int .i64 ia, .int .i64 ip], .agg #[.int .i64 fa, .int .i64 fp], .int .i64 side, .int .i64 f, .int .i64 now] w fun e w' => e = .returned (.tuple #[]) ∧ Below w.heap.size w w' := by
  have HF : Hid (∀ W, Below w.heap.size w W → Calls Tryz.prog 120 #[.pointer (some ⟨tb, to', none⟩), .int .i64 pr, .agg #[.int .i64 ia, .int .i64 ip], .agg #[.int .i64 fa, .int .i64 fp]] W fun e w' => e = .returned (.int .i64 (-1)) ∧ Below W.heap.size W w') := fun W hW => by
    rw [← hf]; exact find_any tb to' v l pr ia ip fa fp W ((hW.cell (lt_of_cell hc)).trans hc) (hl.keep hW) hn
  clear hl hc hf
  go_enter Tryz.func103, Tryz.ntmps103
  go_wp2_with (go_at_call 120; refine (HF.out _ (((Below.refl _ _).alloc (Nat.le_refl _) _).alloc (by simp) _)).mono ?_; rintro e w1 ⟨rfl, hb1⟩)
  exact bodyPost_ret (v := .tuple #[]) (by simp [results, Tryz.results103, go_sem]) rfl ⟨rfl, (((Below.refl _ _).alloc (Nat.le_refl _) _).alloc (by simp) _).trans (hb1.mono (by simp; omega))⟩
end Go.Proofs.YtfkjobiapjhacabGreat
