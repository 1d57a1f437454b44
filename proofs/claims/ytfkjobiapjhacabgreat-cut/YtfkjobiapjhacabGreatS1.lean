/- Own work. -/
import Derived.Test.YtfkjobiapjhacabGreatA1
/- Contracts of package sessions: looking up. Own work. -/
namespace Go.Proofs.YtfkjobiapjhacabGreat
open Go.RowKit
attribute [local go_sem ↓] Go.wp_at_zero Go.wp_at_succ

/-- A session, as data. -/
structure SD where
  pr : Int
  ia : Int
  ip : Int
  fa : Int
  fp : Int
  port : Int
  dl : Int
  st : Int
  an : Bool
  inf : Bool
  outf : Bool
def SD.cells (s : SD) : List Value := [.int .i64 s.pr, .int .i64 s.ia, .int .i64 s.ip, .int .i64 s.fa, .int .i64 s.fp, .int .i64 s.port, .int .i64 s.dl, .int .i64 s.st, .bool s.an, .bool s.inf, .bool s.outf]
def scells (l : List SD) : List Value := l.flatMap SD.cells
theorem scells_length (l : List SD) : (scells l).length = l.length * 11 := by
  induction l with
  | nil => rfl
  | cons o r ih => rw [scells, List.flatMap_cons, List.length_append, ← scells, ih]; simp [SD.cells]; omega
theorem scells_at (l : List SD) (i j : Nat) (h : i < l.length) (hj : j < 11) : (scells l)[i * 11 + j]? = (l[i].cells)[j]? := by
  induction l generalizing i with
  | nil => simp at h
  | cons o r ih =>
    rw [scells, List.flatMap_cons, ← scells]
    cases i with
    | zero => rw [List.getElem?_append_left (by simp [SD.cells]; omega)]; simp
    | succ i =>
      rw [List.getElem?_append_right (by simp [SD.cells]; omega)]
      have e : (i + 1) * 11 + j - o.cells.length = i * 11 + j := by simp [SD.cells]; omega
      rw [e, ih i (by simpa using h)]
      simp
theorem scells_snoc (l : List SD) (o : SD) : scells (l ++ [o]) = scells l ++ o.cells := by simp [scells, List.flatMap_append]

/-- Session i's cells lie in memory. -/
def SAt (w : World) (g f : Nat) (s : SD) : Prop := ∀ j, j < 11 → w.cell? ⟨g, f + j, none⟩ = s.cells[j]?
/-- A list of sessions lies in memory. -/
def SsAt (w : World) (v : Value) (l : List SD) : Prop :=
  ∃ ao cap, v = .slice ao l.length cap ∧ (l ≠ [] → ∃ g, ao = some ⟨g, 0, none⟩ ∧ g < w.heap.size ∧ ∀ (i : Nat) (h : i < l.length), SAt w g (i * 11) l[i])
theorem SsAt.of_owns {w : World} {base : Nat} {v : Value} {l : List SD} (h : w.ownsRow base 102 11 v l.length (scells l)) : SsAt w v l := by
  obtain ⟨h1, h2⟩ := h
  rcases h2 with ⟨rfl, h0⟩ | ⟨g, cap, cur, rfl, _, hh, _, _, hs, ht⟩
  · have : l = [] := List.eq_nil_of_length_eq_zero h0
    subst this
    exact ⟨none, 0, rfl, fun h => absurd rfl h⟩
  · refine ⟨some ⟨g, 0, none⟩, cap, rfl, fun _ => ⟨g, rfl, lt_of_block hh, ?_⟩⟩
    intro i hi j hj
    rw [← scells_at l i j hi hj, ← ht]
    simp only [World.cell?, hh]
    rw [List.getElem?_take_of_lt (by omega)]
    simp
theorem SAt.keep {w w' : World} {g f B : Nat} {s : SD} (h : SAt w g f s) (hb : Below B w w') (hg : g < B) : SAt w' g f s := fun j hj => (hb.cell hg).trans (h j hj)
theorem SsAt.keep {w w' : World} {v : Value} {l : List SD} (h : SsAt w v l) (hb : Below w.heap.size w w') : SsAt w' v l := by
  obtain ⟨ao, cap, e, hc⟩ := h
  refine ⟨ao, cap, e, fun hne => ?_⟩
  obtain ⟨g, e1, e2, e3⟩ := hc hne
  exact ⟨g, e1, Nat.lt_of_lt_of_le e2 hb.size, fun i hi => (e3 i hi).keep hb e2⟩
theorem SAt.open {w : World} {g f : Nat} {s : SD} (h : SAt w g f s) : w.cell? ⟨g, f, none⟩ = some (.int .i64 s.pr) ∧ w.cell? ⟨g, f + 1, none⟩ = some (.int .i64 s.ia) ∧ w.cell? ⟨g, f + 2, none⟩ = some (.int .i64 s.ip) ∧ w.cell? ⟨g, f + 3, none⟩ = some (.int .i64 s.fa) ∧ w.cell? ⟨g, f + 4, none⟩ = some (.int .i64 s.fp) ∧ w.cell? ⟨g, f + 5, none⟩ = some (.int .i64 s.port) ∧ w.cell? ⟨g, f + 6, none⟩ = some (.int .i64 s.dl) ∧ w.cell? ⟨g, f + 7, none⟩ = some (.int .i64 s.st) ∧ w.cell? ⟨g, f + 8, none⟩ = some (.bool s.an) ∧ w.cell? ⟨g, f + 9, none⟩ = some (.bool s.inf) ∧ w.cell? ⟨g, f + 10, none⟩ = some (.bool s.outf) :=
  ⟨h 0 (by decide), h 1 (by decide), h 2 (by decide), h 3 (by decide), h 4 (by decide), h 5 (by decide), h 6 (by decide), h 7 (by decide), h 8 (by decide), h 9 (by decide), h 10 (by decide)⟩

theorem lt_of_cell {w : World} {b o : Nat} {v : Value} (h : w.cell? ⟨b, o, none⟩ = some v) : b < w.heap.size := by
  unfold World.cell? at h
  split at h
  · rename_i hh; exact lt_of_block hh
  · simp at h

def isS (pr ia ip fa fp : Int) (s : SD) : Bool := s.pr == pr && (s.ia == ia && s.ip == ip) && (s.fa == fa && s.fp == fp)
def findI (pr ia ip fa fp : Int) (l : List SD) : Int := match l.findIdx? (isS pr ia ip fa fp) with | some i => i | none => -1
theorem findI_hit (pr ia ip fa fp : Int) (l : List SD) (k : Nat) (h : k < l.length) (hno : ∀ i (hi : i < k), isS pr ia ip fa fp (l[i]'(by omega)) = false) (hy : isS pr ia ip fa fp l[k] = true) : findI pr ia ip fa fp l = k := by
  unfold findI
  have : l.findIdx? (isS pr ia ip fa fp) = some k := by
    rw [List.findIdx?_eq_some_iff_getElem]
    exact ⟨h, hy, fun i hi => by simp [hno i hi]⟩
  rw [this]
theorem findI_miss (pr ia ip fa fp : Int) (l : List SD) (hno : ∀ i (hi : i < l.length), isS pr ia ip fa fp l[i] = false) : findI pr ia ip fa fp l = -1 := by
  unfold findI
  have : l.findIdx? (isS pr ia ip fa fp) = none := by
    rw [List.findIdx?_eq_none_iff]
    intro x hx
    obtain ⟨i, hi, rfl⟩ := List.getElem_of_mem hx
    exact hno i hi
  rw [this]

set_option maxRecDepth 100000 in
set_option maxHeartbeats 2000000 in
theorem find_any (tb to' : Nat) (v : Value) (l : List SD) (pr ia ip fa fp : Int) (w : World) (hc : w.cell? ⟨tb, to', none⟩ = some v) (hl : SsAt w v l) (hn : l.length ≤ 1000) :
    Calls Tryz.prog 120 #[.pointer (some ⟨tb, to', none⟩), .int .i64 pr, .agg #[.int .i64 ia, .int .i64 ip], .agg #[.int .i64 fa, .int .i64 fp]] w fun e w' => e = .returned (.int .i64 (findI pr ia ip fa fp l)) ∧ Below w.heap.size w w' := by
  obtain ⟨ao, cap, rfl, hs⟩ := hl
  have HS : Hid (l ≠ [] → ∃ g, ao = some ⟨g, 0, none⟩ ∧ g < w.heap.size ∧ ∀ (i : Nat) (h : i < l.length), SAt w g (i * 11) l[i]) := hs
  clear hs
  have htb := lt_of_cell hc
  generalize hlen : l.length = len at hn hc
  have HL : Hid (l.length = len) := hlen
  clear hlen
  go_enter Tryz.func120, Tryz.ntmps120
  go_wp2
  go_loopw [16] (fun i wr => ∃ k : Nat, k ≤ len ∧ i = .int .i64 k ∧ (∀ j (hj : j < l.length), j < k → isS pr ia ip fa fp l[j] = false) ∧ wr.heap[w.heap.size]? = some (.cells #[.int .i64 ia, .int .i64 ip] 98 (0, 0)) ∧ wr.heap[w.heap.size + 1]? = some (.cells #[.int .i64 fa, .int .i64 fp] 98 (0, 0)) ∧ Below w.heap.size w wr) (fun i _ => len - (intOf i).toNat)
  case atStart => exact ⟨0, Nat.zero_le _, rfl, fun _ _ h => absurd h (Nat.not_lt_zero _), by rw [hget_alloc, if_neg (by simp), hget_alloc, if_pos rfl], by rw [hget_alloc, if_pos (by simp)], ((Below.refl _ _).alloc (Nat.le_refl _) _).alloc (by simp) _⟩
  case round =>
    obtain ⟨k, hk, rfl, hno, hA, hB, hb⟩ := hrel
    by_cases hlt : k < len
    · have hlo : k < l.length := by have := HL.out; omega
      obtain ⟨g, rfl, hg, hat⟩ := HS.out (by intro e; rw [e] at hlo; simp at hlo)
      obtain ⟨q0, q1, q2, q3, q4, q5, q6, q7, q8, q9, q10⟩ := ((hat k hlo).keep hb hg).open
      have HHIT : Hid (isS pr ia ip fa fp l[k] = true → findI pr ia ip fa fp l = k) := fun hy => findI_hit pr ia ip fa fp l k hlo (fun i hi => hno i (by omega) hi) hy
      have HNX : Hid (isS pr ia ip fa fp l[k] = false → ∀ j (hj : j < l.length), j < k + 1 → isS pr ia ip fa fp l[j] = false) := fun hy j hj hjk => by
        rcases Nat.lt_succ_iff_lt_or_eq.1 hjk with h | h
        · exact hno j hj h
        · subst h; exact hy
      have HIS : Hid (isS pr ia ip fa fp l[k] = (l[k].pr == pr && (l[k].ia == ia && l[k].ip == ip) && (l[k].fa == fa && l[k].fp == fp))) := rfl
      clear hat hno
      generalize l[k] = o at q0 q1 q2 q3 q4 q5 q6 q7 q8 q9 q10 HHIT HNX HIS
      have HA : Hid (wr.heap[w.heap.size]? = some (.cells #[.int .i64 ia, .int .i64 ip] 98 (0, 0))) := hA
      have HB : Hid (wr.heap[w.heap.size + 1]? = some (.cells #[.int .i64 fa, .int .i64 fp] 98 (0, 0))) := hB
      have HBL : Hid (Below w.heap.size w wr) := hb
      obtain ⟨⟨a0, a1⟩, af⟩ := c2 hA
      obtain ⟨⟨b0, b1⟩, bf⟩ := c2 hB
      have hkI : (0 : Int) ≤ (k : Int) := by omega
      have hkL : (k : Int) < (len : Int) := by omega
      have hsz := hb.size
      have ht1 := lt_of_block hA
      have ht2 := lt_of_block hB
      have hgr : g < wr.heap.size := by omega
      clear hA hB hb
      go_wp2
      · go_ret
        refine ⟨g_int ?_, HBL.out.alloc hsz _⟩
        exact (HHIT.out (by rw [HIS.out]; simp [*])).symm
      all_goals
        go_roundw
        case rel => exact ⟨k + 1, by omega, by go_num, HNX.out (by rw [HIS.out]; simp [*]), by rw [hget_alloc, if_neg (by omega)]; exact HA.out, by rw [hget_alloc, if_neg (by omega)]; exact HB.out, HBL.out.alloc hsz _⟩
        case measure => simp [intOf]; omega
    · go_wp2
      go_ret
      refine ⟨g_int ?_, hb⟩
      exact (findI_miss pr ia ip fa fp l (fun i hi => hno i hi (by have := HL.out; omega))).symm

def hasS (pr ia ip fa fp : Int) (l : List SD) : Bool := decide (0 ≤ findI pr ia ip fa fp l)
set_option maxRecDepth 100000 in
set_option maxHeartbeats 1000000 in
theorem Has_any (tb to' : Nat) (v : Value) (l : List SD) (pr ia ip fa fp : Int) (w : World) (hc : w.cell? ⟨tb, to', none⟩ = some v) (hl : SsAt w v l) (hn : l.length ≤ 1000) :
    Calls Tryz.prog 107 #[.pointer (some ⟨tb, to', none⟩), .int .i64 pr, .agg #[.int .i64 ia, .int .i64 ip], .agg #[.int .i64 fa, .int .i64 fp]] w fun e w' => e = .returned (.bool (hasS pr ia ip fa fp l)) ∧ Below w.heap.size w w' := by
  have HH : Hid (hasS pr ia ip fa fp l = decide (0 ≤ findI pr ia ip fa fp l)) := rfl
  have HF : Hid (∀ W, Below w.heap.size w W → Calls Tryz.prog 120 #[.pointer (some ⟨tb, to', none⟩), .int .i64 pr, .agg #[.int .i64 ia, .int .i64 ip], .agg #[.int .i64 fa, .int .i64 fp]] W fun e w' => e = .returned (.int .i64 (findI pr ia ip fa fp l)) ∧ Below W.heap.size W w') := fun W hW =>
    find_any tb to' v l pr ia ip fa fp W ((hW.cell (lt_of_cell hc)).trans hc) (hl.keep hW) hn
  clear hl hc
  go_enter Tryz.func107, Tryz.ntmps107
  go_wp2_with (go_at_call 120; refine (HF.out _ (((Below.refl _ _).alloc (Nat.le_refl _) _).alloc (by simp) _)).mono ?_; rintro e w1 ⟨rfl, hb1⟩)
  go_ret
  exact ⟨g_bool HH.out.symm, (((Below.refl _ _).alloc (Nat.le_refl _) _).alloc (by simp) _).trans (hb1.mono (by simp; omega))⟩

set_option maxRecDepth 100000 in
set_option maxHeartbeats 1000000 in
theorem Full_any (tb to' : Nat) (v : Value) (l : List SD) (w : World) (hc : w.cell? ⟨tb, to', none⟩ = some v) (hl : SsAt w v l) :
    Calls Tryz.prog 117 #[.pointer (some ⟨tb, to', none⟩)] w fun e w' => e = .returned (.bool (decide (10 ≤ l.length))) ∧ w' = w := by
  obtain ⟨ao, cap, rfl, hs⟩ := hl
  clear hs
  go_enter Tryz.func117, Tryz.ntmps117
  go_wp2
  go_ret
  refine ⟨g_bool ?_, rfl⟩
  refine decide_eq_decide.mpr ?_; omega

/-- An inner end's outer port; 0: it has none. -/
def outerI (pr ia ip : Int) (l : List SD) : Int := match l.find? (fun s => s.pr == pr && (s.ia == ia && s.ip == ip)) with | some s => s.port | none => 0
/-- The inner end that has an outer port. -/
def innerI (pr port : Int) (l : List SD) : Option SD := l.find? (fun s => s.pr == pr && s.port == port)
theorem find?_hit {α : Type} (p : α → Bool) (l : List α) (k : Nat) (h : k < l.length) (hno : ∀ i (hi : i < k), p (l[i]'(by omega)) = false) (hy : p l[k] = true) : l.find? p = some l[k] := by
  rw [List.find?_eq_some_iff_getElem]
  exact ⟨hy, k, h, rfl, fun j hj => by simp [hno j hj]⟩
theorem find?_miss {α : Type} (p : α → Bool) (l : List α) (hno : ∀ i (hi : i < l.length), p l[i] = false) : l.find? p = none := by
  rw [List.find?_eq_none]
  intro x hx
  obtain ⟨i, hi, rfl⟩ := List.getElem_of_mem hx
  simp [hno i hi]
end Go.Proofs.YtfkjobiapjhacabGreat
/- Contracts of package sessions: ports. Own work. -/
namespace Go.Proofs.YtfkjobiapjhacabGreat
open Go.RowKit
attribute [local go_sem ↓] Go.wp_at_zero Go.wp_at_succ

def isO (pr ia ip : Int) (s : SD) : Bool := s.pr == pr && (s.ia == ia && s.ip == ip)
theorem outerI_hit (pr ia ip : Int) (l : List SD) (k : Nat) (h : k < l.length) (hno : ∀ i (hi : i < l.length), i < k → isO pr ia ip l[i] = false) (hy : isO pr ia ip l[k] = true) : outerI pr ia ip l = l[k].port := by
  unfold outerI
  have := find?_hit (isO pr ia ip) l k h (fun i hi => hno i (by omega) hi) hy
  unfold isO at this
  rw [this]
theorem outerI_miss (pr ia ip : Int) (l : List SD) (hno : ∀ i (hi : i < l.length), isO pr ia ip l[i] = false) : outerI pr ia ip l = 0 := by
  unfold outerI
  have := find?_miss (isO pr ia ip) l hno
  unfold isO at this
  rw [this]

set_option maxRecDepth 100000 in
set_option maxHeartbeats 2000000 in
theorem Outer_any (tb to' : Nat) (v : Value) (l : List SD) (pr ia ip : Int) (w : World) (hc : w.cell? ⟨tb, to', none⟩ = some v) (hl : SsAt w v l) (hn : l.length ≤ 1000) :
    Calls Tryz.prog 104 #[.pointer (some ⟨tb, to', none⟩), .int .i64 pr, .agg #[.int .i64 ia, .int .i64 ip]] w fun e w' => e = .returned (.int .i64 (outerI pr ia ip l)) ∧ Below w.heap.size w w' := by
  obtain ⟨ao, cap, rfl, hs⟩ := hl
  have HS : Hid (l ≠ [] → ∃ g, ao = some ⟨g, 0, none⟩ ∧ g < w.heap.size ∧ ∀ (i : Nat) (h : i < l.length), SAt w g (i * 11) l[i]) := hs
  clear hs
  have htb := lt_of_cell hc
  generalize hlen : l.length = len at hn hc
  have HL : Hid (l.length = len) := hlen
  clear hlen
  go_enter Tryz.func104, Tryz.ntmps104
  go_wp2
  go_loopw [14] (fun i wr => ∃ k : Nat, k ≤ len ∧ i = .int .i64 k ∧ (∀ j (hj : j < l.length), j < k → isO pr ia ip l[j] = false) ∧ wr.heap[w.heap.size]? = some (.cells #[.int .i64 ia, .int .i64 ip] 98 (0, 0)) ∧ Below w.heap.size w wr) (fun i _ => len - (intOf i).toNat)
  case atStart => exact ⟨0, Nat.zero_le _, rfl, fun _ _ h => absurd h (Nat.not_lt_zero _), by rw [hget_alloc, if_pos rfl], (Below.refl _ _).alloc (Nat.le_refl _) _⟩
  case round =>
    obtain ⟨k, hk, rfl, hno, hA, hb⟩ := hrel
    by_cases hlt : k < len
    · have hlo : k < l.length := by have := HL.out; omega
      obtain ⟨g, rfl, hg, hat⟩ := HS.out (by intro e; rw [e] at hlo; simp at hlo)
      obtain ⟨q0, q1, q2, q3, q4, q5, q6, q7, q8, q9, q10⟩ := ((hat k hlo).keep hb hg).open
      have HHIT : Hid (isO pr ia ip l[k] = true → outerI pr ia ip l = l[k].port) := fun hy => outerI_hit pr ia ip l k hlo hno hy
      have HNX : Hid (isO pr ia ip l[k] = false → ∀ j (hj : j < l.length), j < k + 1 → isO pr ia ip l[j] = false) := fun hy j hj hjk => by
        rcases Nat.lt_succ_iff_lt_or_eq.1 hjk with h | h
        · exact hno j hj h
        · subst h; exact hy
      have HIS : Hid (isO pr ia ip l[k] = (l[k].pr == pr && (l[k].ia == ia && l[k].ip == ip))) := rfl
      clear hat hno
      generalize l[k] = o at q0 q1 q2 q3 q4 q5 q6 q7 q8 q9 q10 HHIT HNX HIS
      have HA : Hid (wr.heap[w.heap.size]? = some (.cells #[.int .i64 ia, .int .i64 ip] 98 (0, 0))) := hA
      have HBL : Hid (Below w.heap.size w wr) := hb
      obtain ⟨⟨a0, a1⟩, af⟩ := c2 hA
      have hkI : (0 : Int) ≤ (k : Int) := by omega
      have hkL : (k : Int) < (len : Int) := by omega
      have hsz := hb.size
      have ht1 := lt_of_block hA
      have hgr : g < wr.heap.size := by omega
      clear hA hb
      go_wp2
      · go_ret
        refine ⟨g_int ?_, HBL.out.alloc hsz _⟩
        exact (HHIT.out (by rw [HIS.out]; simp [*])).symm
      all_goals
        go_roundw
        case rel => exact ⟨k + 1, by omega, by go_num, HNX.out (by rw [HIS.out]; simp [*]), by rw [hget_alloc, if_neg (by omega)]; exact HA.out, HBL.out.alloc hsz _⟩
        case measure => simp [intOf]; omega
    · go_wp2
      go_ret
      refine ⟨g_int ?_, hb⟩
      exact (outerI_miss pr ia ip l (fun i hi => hno i hi (by have := HL.out; omega))).symm

def isI (pr port : Int) (s : SD) : Bool := s.pr == pr && s.port == port
theorem innerI_hit (pr port : Int) (l : List SD) (k : Nat) (h : k < l.length) (hno : ∀ i (hi : i < l.length), i < k → isI pr port l[i] = false) (hy : isI pr port l[k] = true) : innerI pr port l = some l[k] := by
  unfold innerI
  exact find?_hit (isI pr port) l k h (fun i hi => hno i (by omega) hi) hy
theorem innerI_miss (pr port : Int) (l : List SD) (hno : ∀ i (hi : i < l.length), isI pr port l[i] = false) : innerI pr port l = none := by
  unfold innerI
  exact find?_miss (isI pr port) l hno
/-- What Inner answers. -/
def innerV (pr port : Int) (l : List SD) : Value := match innerI pr port l with | some s => .tuple #[.agg #[.int .i64 s.ia, .int .i64 s.ip], .bool true] | none => .tuple #[.agg #[.int .i64 0, .int .i64 0], .bool false]

set_option maxRecDepth 100000 in
set_option maxHeartbeats 2000000 in
theorem Inner_any (tb to' : Nat) (v : Value) (l : List SD) (pr port : Int) (w : World) (hc : w.cell? ⟨tb, to', none⟩ = some v) (hl : SsAt w v l) (hn : l.length ≤ 1000) :
    Calls Tryz.prog 100 #[.pointer (some ⟨tb, to', none⟩), .int .i64 pr, .int .i64 port] w fun e w' => e = .returned (innerV pr port l) ∧ Below w.heap.size w w' := by
  obtain ⟨ao, cap, rfl, hs⟩ := hl
  have HS : Hid (l ≠ [] → ∃ g, ao = some ⟨g, 0, none⟩ ∧ g < w.heap.size ∧ ∀ (i : Nat) (h : i < l.length), SAt w g (i * 11) l[i]) := hs
  clear hs
  have htb := lt_of_cell hc
  generalize hlen : l.length = len at hn hc
  have HL : Hid (l.length = len) := hlen
  clear hlen
  go_enter Tryz.func100, Tryz.ntmps100
  go_wp2
  go_loopw [15] (fun i wr => ∃ k : Nat, k ≤ len ∧ i = .int .i64 k ∧ (∀ j (hj : j < l.length), j < k → isI pr port l[j] = false) ∧ wr.heap[w.heap.size]? = some (.cells #[.int .i64 0, .int .i64 0] 98 (0, 0)) ∧ Below w.heap.size w wr) (fun i _ => len - (intOf i).toNat)
  case atStart => exact ⟨0, Nat.zero_le _, rfl, fun _ _ h => absurd h (Nat.not_lt_zero _), by rw [hget_alloc, if_pos rfl], (Below.refl _ _).alloc (Nat.le_refl _) _⟩
  case round =>
    obtain ⟨k, hk, rfl, hno, hA, hb⟩ := hrel
    have HA : Hid (wr.heap[w.heap.size]? = some (.cells #[.int .i64 0, .int .i64 0] 98 (0, 0))) := hA
    have HBL : Hid (Below w.heap.size w wr) := hb
    obtain ⟨⟨a0, a1⟩, af⟩ := c2 hA
    have hsz := hb.size
    have ht1 := lt_of_block hA
    by_cases hlt : k < len
    · have hlo : k < l.length := by have := HL.out; omega
      obtain ⟨g, rfl, hg, hat⟩ := HS.out (by intro e; rw [e] at hlo; simp at hlo)
      obtain ⟨q0, q1, q2, q3, q4, q5, q6, q7, q8, q9, q10⟩ := ((hat k hlo).keep hb hg).open
      have HHIT : Hid (isI pr port l[k] = true → innerI pr port l = some l[k]) := fun hy => innerI_hit pr port l k hlo hno hy
      have HNX : Hid (isI pr port l[k] = false → ∀ j (hj : j < l.length), j < k + 1 → isI pr port l[j] = false) := fun hy j hj hjk => by
        rcases Nat.lt_succ_iff_lt_or_eq.1 hjk with h | h
        · exact hno j hj h
        · subst h; exact hy
      have HIS : Hid (isI pr port l[k] = (l[k].pr == pr && l[k].port == port)) := rfl
      clear hat hno
      generalize l[k] = o at q0 q1 q2 q3 q4 q5 q6 q7 q8 q9 q10 HHIT HNX HIS
      have hkI : (0 : Int) ≤ (k : Int) := by omega
      have hkL : (k : Int) < (len : Int) := by omega
      have hgr : g < wr.heap.size := by omega
      clear hA hb
      go_wp2
      · refine bodyPost_ret (v := .tuple #[.agg #[.int .i64 o.ia, .int .i64 o.ip], .bool true]) (by simp [results, Tryz.results100, go_sem, a0, a1, ht1]) rfl ⟨?_, ((HBL.out.setCell (by simp) _).setCell (by simp) _).alloc (by simpa using hsz) _⟩
        have hi := HHIT.out (by rw [HIS.out]; simp [*])
        unfold innerV; rw [hi]
      all_goals
        go_roundw
        case rel => exact ⟨k + 1, by omega, by go_num, HNX.out (by rw [HIS.out]; simp [*]), by rw [hget_alloc, if_neg (by omega)]; exact HA.out, HBL.out.alloc hsz _⟩
        case measure => simp [intOf]; omega
    · have HNO : Hid (innerI pr port l = none) := innerI_miss pr port l (fun i hi => hno i hi (by have := HL.out; omega))
      clear hno hA hb
      go_wp2
      refine bodyPost_ret (v := .tuple #[.agg #[.int .i64 0, .int .i64 0], .bool false]) (by simp [results, Tryz.results100, go_sem, a0, a1]) rfl ⟨?_, (HBL.out.setCell (by simp) _).setCell (by simp) _⟩
      unfold innerV; rw [HNO.out]

theorem innerV_some {pr port : Int} {l : List SD} {s : SD} (h : innerI pr port l = some s) : innerV pr port l = .tuple #[.agg #[.int .i64 s.ia, .int .i64 s.ip], .bool true] := by unfold innerV; rw [h]
theorem innerV_none {pr port : Int} {l : List SD} (h : innerI pr port l = none) : innerV pr port l = .tuple #[.agg #[.int .i64 0, .int .i64 0], .bool false] := by unfold innerV; rw [h]
/-- The lowest port from lo on, n of them, that no inner end has; 0: none. -/
def freeI (pr : Int) (l : List SD) (lo : Int) : Nat → Int
  | 0 => 0
  | n + 1 => if (innerI pr lo l).isNone then lo else freeI pr l (lo + 1) n

set_option maxRecDepth 100000 in
set_option maxHeartbeats 2000000 in
theorem Free_any (tb to' : Nat) (v : Value) (l : List SD) (pr lo hi : Int) (w : World) (hc : w.cell? ⟨tb, to', none⟩ = some v) (hl : SsAt w v l) (hn : l.length ≤ 1000) (h0 : 0 ≤ lo) (h1 : lo ≤ hi) (h2 : hi ≤ 100000) :
    Calls Tryz.prog 118 #[.pointer (some ⟨tb, to', none⟩), .int .i64 pr, .int .i64 lo, .int .i64 hi] w fun e w' => e = .returned (.int .i64 (freeI pr l lo (hi - lo + 1).toNat)) ∧ Below w.heap.size w w' := by
  have HI : Hid (∀ W p, Below w.heap.size w W → Calls Tryz.prog 100 #[.pointer (some ⟨tb, to', none⟩), .int .i64 pr, .int .i64 p] W fun e w' => e = .returned (innerV pr p l) ∧ Below W.heap.size W w') := fun W p hW =>
    Inner_any tb to' v l pr p W ((hW.cell (lt_of_cell hc)).trans hc) (hl.keep hW) hn
  clear hl hc
  go_enter Tryz.func118, Tryz.ntmps118
  go_wp2
  go_loopw [9] (fun i wr => ∃ p : Int, lo ≤ p ∧ p ≤ hi + 1 ∧ i = .int .i64 p ∧ freeI pr l lo (hi - lo + 1).toNat = freeI pr l p (hi - p + 1).toNat ∧ Below w.heap.size w wr) (fun i _ => (hi + 1 - intOf i).toNat)
  case atStart => exact ⟨lo, by omega, by omega, rfl, rfl, Below.refl _ _⟩
  case round =>
    obtain ⟨p, hp0, hp1, rfl, hfr, hb⟩ := hrel
    have HFR : Hid (freeI pr l lo (hi - lo + 1).toNat = freeI pr l p (hi - p + 1).toNat) := hfr
    have HB : Hid (Below w.heap.size w wr) := hb
    have hsz := hb.size
    clear hfr hb
    by_cases hlt : p ≤ hi
    · have HU : Hid (freeI pr l p (hi - p + 1).toNat = if (innerI pr p l).isNone then p else freeI pr l (p + 1) (hi - (p + 1) + 1).toNat) := by
        show _ = _
        have e : (hi - p + 1).toNat = (hi - (p + 1) + 1).toNat + 1 := by omega
        rw [e]; rfl
      cases hin : innerI pr p l with
      | none =>
        have HV := innerV_none hin
        have HIV : Hid (innerV pr p l = _) := HV
        clear HV
        go_wp2_with fail
        refine (HI.out _ p HB.out).mono ?_
        rintro e w1 ⟨rfl, hb1⟩
        rw [HIV.out]
        go_wp2_with fail
        go_ret
        refine ⟨g_int ?_, (HB.out.trans (hb1.mono hsz)).alloc (Nat.le_trans hsz hb1.size) _⟩
        rw [HFR.out, HU.out, hin]; rfl
      | some s =>
        have HV := innerV_some hin
        have HIV : Hid (innerV pr p l = _) := HV
        clear HV
        go_wp2_with fail
        refine (HI.out _ p HB.out).mono ?_
        rintro e w1 ⟨rfl, hb1⟩
        rw [HIV.out]
        go_wp2_with fail
        go_roundw
        case rel => exact ⟨p + 1, by omega, by omega, by go_num, by rw [HFR.out, HU.out, hin]; rfl, (HB.out.trans (hb1.mono hsz)).alloc (Nat.le_trans hsz hb1.size) _⟩
        case measure => simp [intOf]; omega
    · go_wp2
      go_ret
      refine ⟨g_int ?_, HB.out⟩
      have e : (hi - p + 1).toNat = 0 := by omega
      rw [HFR.out, e]; rfl
end Go.Proofs.YtfkjobiapjhacabGreat
