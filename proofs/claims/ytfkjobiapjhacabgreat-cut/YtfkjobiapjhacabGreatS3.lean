/- Own work. -/
import Derived.Test.YtfkjobiapjhacabGreatS2
/- Contracts of package sessions: Expire. Own work. -/
namespace Go.Proofs.YtfkjobiapjhacabGreat
open Go.RowKit
attribute [local go_sem ↓] Go.wp_at_zero Go.wp_at_succ

theorem info_sess : (Tryz.prog.info? 102).map (fun i => (i.zero, i.size, i.bytes)) = some (some (.agg #[.int .i64 0, .int .i64 0, .int .i64 0, .int .i64 0, .int .i64 0, .int .i64 0, .int .i64 0, .int .i64 0, .bool false, .bool false, .bool false]), 11, 72) := by kernel_rfl
theorem sd_one (o : SD) : ∀ u ∈ o.cells, u.oneCell' = true := by
  intro u hu
  simp [SD.cells] at hu
  rcases hu with rfl | rfl | rfl | rfl | rfl | rfl | rfl | rfl | rfl | rfl | rfl <;> rfl
set_option maxRecDepth 100000 in
set_option maxHeartbeats 2000000 in
theorem Expire_any (tb to' : Nat) (v : Value) (l : List SD) (now : Int) (w : World) (hc : w.cell? ⟨tb, to', none⟩ = some v) (hfz : w.frozen? ⟨tb, to', none⟩ = false) (hl : SsAt w v l) (hn : l.length ≤ 1000) :
    Calls Tryz.prog 42 #[.pointer (some ⟨tb, to', none⟩), .int .i64 now] w fun e w' => e = .returned (.tuple #[]) ∧ ∃ v' w0, w' = w0.setCell ⟨tb, to', none⟩ v' ∧ Below w.heap.size w w0 ∧ w0.ownsRow w.heap.size 102 11 v' (l.filter (fun s => decide (now < s.dl))).length (scells (l.filter (fun s => decide (now < s.dl)))) := by
  obtain ⟨ao, cap, rfl, hs⟩ := hl
  have HS : Hid (l ≠ [] → ∃ g, ao = some ⟨g, 0, none⟩ ∧ g < w.heap.size ∧ ∀ (i : Nat) (h : i < l.length), SAt w g (i * 11) l[i]) := hs
  clear hs
  have htb := lt_of_cell hc
  generalize hlen : l.length = len at hn hc
  have HL : Hid (l.length = len) := hlen
  have HCC : Hid (w.cell? ⟨tb, to', none⟩ = some (.slice ao len cap)) := hc
  have HFZ : Hid (w.frozen? ⟨tb, to', none⟩ = false) := hfz
  clear hlen
  obtain ⟨i0, hi0, hz0, hz1, hz2⟩ := info_parts info_sess
  go_enter Tryz.func42, Tryz.ntmps42
  go_wp2
  go_loopw [4, 13] (fun lst i wr => ∃ (k : Nat) (lv : Value), k ≤ len ∧ i = .int .i64 k ∧ lv = lst ∧ wr.ownsRow w.heap.size 102 11 lv ((l.take k).filter (fun s => decide (now < s.dl))).length (scells ((l.take k).filter (fun s => decide (now < s.dl)))) ∧ Below w.heap.size w wr) (fun _ i _ => len - (intOf i).toNat)
  case atStart => exact ⟨0, _, Nat.zero_le _, rfl, rfl, owns_empty w _ _, (Below.refl _ _).alloc (Nat.le_refl _) _⟩
  case round =>
    obtain ⟨k, lv, hk, rfl, rfl, hown, hb⟩ := hrel
    by_cases hlt : k < len
    · have hlo : k < l.length := by have := HL.out; omega
      obtain ⟨g, rfl, hg, hat⟩ := HS.out (by intro e; rw [e] at hlo; simp at hlo)
      obtain ⟨q0, q1, q2, q3, q4, q5, q6, q7, q8, q9, q10⟩ := ((hat k hlo).keep hb hg).open
      have hfs := filt_snoc (fun s => decide (now < s.dl)) l k hlo
      have hfl : ((l.take k).filter (fun s => decide (now < s.dl))).length ≤ k := Nat.le_trans (List.length_filter_le _ _) (by simp; omega)
      clear hat
      generalize l[k] = o at q0 q1 q2 q3 q4 q5 q6 q7 q8 q9 q10 hfs
      generalize (l.take k).filter (fun s => decide (now < s.dl)) = F at hown hfs hfl
      have HF : Hid ((l.take (k + 1)).filter (fun s => decide (now < s.dl)) = F ++ (if decide (now < o.dl) then [o] else [])) := hfs
      have hsz := hb.size
      have hkI : (0 : Int) ≤ (k : Int) := by omega
      have hkL : (k : Int) < (len : Int) := by omega
      have hgr : g < wr.heap.size := by omega
      have HB : Hid (Below w.heap.size w wr) := hb
      have HOW : Hid (wr.ownsRow w.heap.size 102 11 lv F.length (scells F)) := hown
      clear hb hown hfs
      by_cases hd : now < o.dl
      · have HFE : Hid ((l.take (k + 1)).filter (fun s => decide (now < s.dl)) = F ++ [o]) := by
          show _ = _
          rw [HF.out]; simp [hd]
        go_wp2_with (at_builtin; refine wpList_append_own _ rfl (.tmp 21) (.tmp 23) 71 rfl w.heap.size 102 i0 _ 11 72 Tryz.underlying71 hi0 hz0 hz1 hz2 rfl (by decide) lv F.length (scells F) rfl ((HOW.out.alloc _).alloc _) ⟨wr.heap.size + 1, 0, none⟩ 1 1 o.cells rfl rfl (by exact World.news_of_block (B := wr.heap.size + 1) (by rw [hget_alloc, if_pos (by simp)])) (sd_one o) (by unfold maxLen; omega) (by omega) (by simp; omega) ?_; intro v' w1 hown' hgrow hnil)
        have HB1 : Hid (Below w.heap.size w w1) := ((HB.out.alloc hsz _).alloc (by simp; omega) _).grown hgrow (by simp; omega) (fun q e => ((HOW.out.lt) q e).1)
        have HO1 : Hid (w1.ownsRow w.heap.size 102 11 v' ((l.take (k + 1)).filter (fun s => decide (now < s.dl))).length (scells ((l.take (k + 1)).filter (fun s => decide (now < s.dl))))) := by
          show World.ownsRow _ _ _ _ _ _ _
          rw [HFE.out, List.length_append, scells_snoc]; exact hown'
        clear hown' hgrow hnil
        go_wp2
        go_roundw
        case rel => exact ⟨k + 1, v', by omega, by go_num, rfl, HO1.out, HB1.out⟩
        case measure => simp [intOf]; omega
      · have HFE : Hid ((l.take (k + 1)).filter (fun s => decide (now < s.dl)) = F) := by
          show _ = _
          rw [HF.out]; simp [hd]
        go_wp2
        go_roundw
        case rel => exact ⟨k + 1, lv, by omega, by go_num, rfl, by rw [HFE.out]; exact HOW.out.alloc _, HB.out.alloc hsz _⟩
        case measure => simp [intOf]; omega
    · have e : k = l.length := by have := HL.out; omega
      subst e
      rw [List.take_length] at hown
      have HO : Hid (wr.ownsRow w.heap.size 102 11 lv (l.filter (fun s => decide (now < s.dl))).length (scells (l.filter (fun s => decide (now < s.dl))))) := hown
      have HB : Hid (Below w.heap.size w wr) := hb
      have c1 := (hb.cell (p := ⟨tb, to', none⟩) htb).trans HCC.out
      have f1 := (hb.frozen (p := ⟨tb, to', none⟩) htb).trans HFZ.out
      obtain ⟨la, cp, hla⟩ := owns_shape hown
      clear hown hb
      subst hla
      go_wp2
      go_end0
      exact ⟨rfl, _, wr, rfl, HB.out, HO.out⟩
end Go.Proofs.YtfkjobiapjhacabGreat
/- Contracts of package sessions: Begin. Own work. -/
namespace Go.Proofs.YtfkjobiapjhacabGreat
open Go.RowKit
attribute [local go_sem ↓] Go.wp_at_zero Go.wp_at_succ

/-- A session laid down among others, by its place. -/
def insStep (n : SD) (a : List SD × Bool) (s : SD) : List SD × Bool := if a.2 = false ∧ befB n s = true then (a.1 ++ [n] ++ [s], true) else (a.1 ++ [s], a.2)
def insTo (n : SD) (l : List SD) (k : Nat) : List SD × Bool := (l.take k).foldl (insStep n) ([], false)
def insS (n : SD) (l : List SD) : List SD := if (insTo n l l.length).2 = true then (insTo n l l.length).1 else (insTo n l l.length).1 ++ [n]
theorem insTo_succ (n : SD) (l : List SD) (k : Nat) (h : k < l.length) : insTo n l (k + 1) = insStep n (insTo n l k) l[k] := by
  unfold insTo
  rw [List.take_succ_eq_append_getElem h, List.foldl_append]
  rfl
theorem insTo_len (n : SD) (l : List SD) (k : Nat) : (insTo n l k).1.length ≤ 2 * k := by
  unfold insTo
  have key : ∀ (t : List SD) (a : List SD × Bool), (t.foldl (insStep n) a).1.length ≤ a.1.length + 2 * t.length := by
    intro t
    induction t with
    | nil => intro a; simp
    | cons s r ih =>
      intro a
      rw [List.foldl_cons]
      refine Nat.le_trans (ih _) ?_
      unfold insStep
      split <;> simp <;> omega
  have := key (l.take k) ([], false)
  simp at this
  omega
def freshS (pr ia ip fa fp port : Int) : SD := ⟨pr, ia, ip, fa, fp, port, 0, (tkFirst pr).st, (tkFirst pr).an, (tkFirst pr).inf, (tkFirst pr).outf⟩

theorem fresh11 {w : World} {g : Nat} {z : Array Value} {t : TypeId} (h : w.heap[g]? = some (.cells z t (0, 0))) (hz : z.size = 11) (c0 c1 c2 c3 c4 c5 c6 c7 c8 c9 c10 : Value) :
    (((((((((((w.setCell ⟨g, 0, none⟩ c0).setCell ⟨g, 1, none⟩ c1).setCell ⟨g, 2, none⟩ c2).setCell ⟨g, 3, none⟩ c3).setCell ⟨g, 4, none⟩ c4).setCell ⟨g, 5, none⟩ c5).setCell ⟨g, 6, none⟩ c6).setCell ⟨g, 7, none⟩ c7).setCell ⟨g, 8, none⟩ c8).setCell ⟨g, 9, none⟩ c9).setCell ⟨g, 10, none⟩ c10).heap[g]? = some (.cells #[c0, c1, c2, c3, c4, c5, c6, c7, c8, c9, c10] t (0, 0)) := by
  obtain ⟨cur', h1, h2⟩ := setsW_heap g t [c0, c1, c2, c3, c4, c5, c6, c7, c8, c9, c10] w 0 z h
  have h3 : cur' = #[c0, c1, c2, c3, c4, c5, c6, c7, c8, c9, c10] := by
    apply Array.toList_inj.1
    rw [h2, setsAt_eq _ _ _ (by simp; omega)]
    simp
    omega
  rw [← h3]; exact h1
theorem below11 {B g : Nat} {w0 w : World} (h : Below B w0 w) (hg : B ≤ g) (c0 c1 c2 c3 c4 c5 c6 c7 c8 c9 c10 : Value) :
    Below B w0 (((((((((((w.setCell ⟨g, 0, none⟩ c0).setCell ⟨g, 1, none⟩ c1).setCell ⟨g, 2, none⟩ c2).setCell ⟨g, 3, none⟩ c3).setCell ⟨g, 4, none⟩ c4).setCell ⟨g, 5, none⟩ c5).setCell ⟨g, 6, none⟩ c6).setCell ⟨g, 7, none⟩ c7).setCell ⟨g, 8, none⟩ c8).setCell ⟨g, 9, none⟩ c9).setCell ⟨g, 10, none⟩ c10) :=
  ((((((((((h.setCell hg _).setCell hg _).setCell hg _).setCell hg _).setCell hg _).setCell hg _).setCell hg _).setCell hg _).setCell hg _).setCell hg _).setCell hg _

theorem fc_one (n : SD) : ∀ u ∈ ([.int .i64 n.pr, .int .i64 n.ia, .int .i64 n.ip, .int .i64 n.fa, .int .i64 n.fp, .int .i64 n.port, .int .i64 0, .int .i64 n.st, .bool n.an, .bool n.inf, .bool n.outf] : List Value), u.oneCell' = true := by
  intro u hu
  simp at hu
  rcases hu with rfl | rfl | rfl | rfl | rfl | rfl | rfl | rfl | rfl | rfl | rfl <;> rfl
/-- What Begin knows in a round: the fresh session, the copy of the one at hand, the list so far. -/
structure BgMid (w w1 : World) (fb sb : Nat) (f o : Array Value) (lv : Value) (F : List SD) : Prop where
  fr : w1.heap[fb]? = some (.cells f 102 (0, 0))
  sc : w1.heap[sb]? = some (.cells o 102 (0, 0))
  own : w1.ownsRow w.heap.size 102 11 lv F.length (scells F)
  nf : lv.ownBlock ≠ some fb
  ns : lv.ownBlock ≠ some sb
  bl : Below w.heap.size w w1
theorem BgMid.call {w w1 w2 : World} {fb sb : Nat} {f o : Array Value} {lv : Value} {F : List SD} (h : BgMid w w1 fb sb f o lv F) (hb : Below w1.heap.size w1 w2) : BgMid w w2 fb sb f o lv F :=
  ⟨blk hb h.fr, blk hb h.sc, owns_call h.own hb, h.nf, h.ns, h.bl.trans (hb.mono h.bl.size)⟩
theorem BgMid.app {w w1 w2 : World} {fb sb g cap : Nat} {f o : Array Value} {lv : Value} {F : List SD} {x : SD} {ob : Obj} (h : BgMid w w1 fb sb f o lv F) (hg : (w1.alloc ob).grownBy w2 lv.ownBlock)
    (ho : w2.ownsRow w.heap.size 102 11 (.slice (some ⟨g, 0, none⟩) (F.length + 1) cap) (F.length + 1) (scells F ++ x.cells)) (hat : lv.ownBlock = some g ∨ g = w1.heap.size + 1) : BgMid w w2 fb sb f o (.slice (some ⟨g, 0, none⟩) (F.length + 1) cap) (F ++ [x]) := by
  have hf := lt_of_block h.fr
  have hs := lt_of_block h.sc
  have hgr : ∀ k, k < w1.heap.size → some k ≠ lv.ownBlock → w2.heap[k]? = w1.heap[k]? := fun k hk hne => by
    rw [hg.block k (by simp; omega) hne, hget_alloc, if_neg (by omega)]
  refine ⟨by rw [hgr fb hf (fun e => h.nf e.symm)]; exact h.fr, by rw [hgr sb hs (fun e => h.ns e.symm)]; exact h.sc, ?_, ?_, ?_, ?_⟩
  · rw [List.length_append, scells_snoc]; exact ho
  · intro e
    simp [Value.ownBlock] at e
    rcases hat with h1 | h1
    · exact h.nf (by rw [h1, e])
    · omega
  · intro e
    simp [Value.ownBlock] at e
    rcases hat with h1 | h1
    · exact h.ns (by rw [h1, e])
    · omega
  · exact (h.bl.alloc h.bl.size _).grown hg (by have := h.bl.size; simp; omega) (fun k e => (h.own.lt k e).1)

set_option maxRecDepth 100000 in
set_option maxHeartbeats 2000000 in
theorem Begin_any (tb to' : Nat) (v : Value) (l : List SD) (pr ia ip fa fp port : Int) (w : World) (hc : w.cell? ⟨tb, to', none⟩ = some v) (hfz : w.frozen? ⟨tb, to', none⟩ = false) (hl : SsAt w v l) (hn : l.length ≤ 1000) :
    Calls Tryz.prog 119 #[.pointer (some ⟨tb, to', none⟩), .int .i64 pr, .agg #[.int .i64 ia, .int .i64 ip], .agg #[.int .i64 fa, .int .i64 fp], .int .i64 port] w fun e w' => e = .returned (.tuple #[]) ∧ ∃ v' w0, w' = w0.setCell ⟨tb, to', none⟩ v' ∧ Below w.heap.size w w0 ∧ w0.ownsRow w.heap.size 102 11 v' (insS (freshS pr ia ip fa fp port) l).length (scells (insS (freshS pr ia ip fa fp port) l)) := by
  obtain ⟨ao, cap, rfl, hs⟩ := hl
  have HS : Hid (l ≠ [] → ∃ g, ao = some ⟨g, 0, none⟩ ∧ g < w.heap.size ∧ ∀ (i : Nat) (h : i < l.length), SAt w g (i * 11) l[i]) := hs
  clear hs
  have htb := lt_of_cell hc
  have hll := hn
  generalize hlen : l.length = len at hn hc
  have HL : Hid (l.length = len) := hlen
  have HCC : Hid (w.cell? ⟨tb, to', none⟩ = some (.slice ao len cap)) := hc
  have HFZ : Hid (w.frozen? ⟨tb, to', none⟩ = false) := hfz
  clear hlen hc hfz hll
  obtain ⟨i0, hi0, hz0, hz1, hz2⟩ := info_parts info_sess
  obtain ⟨n, hnn⟩ : ∃ n, n = freshS pr ia ip fa fp port := ⟨_, rfl⟩
  rw [← hnn]
  have HFT : Hid (∀ w, Calls Tryz.prog 127 #[.int .i64 pr] w fun e w' => e = .returned (.agg #[.int .i64 n.st, .bool n.an, .bool n.inf, .bool n.outf]) ∧ Below w.heap.size w w') := fun w => by rw [hnn]; exact firstTalk_any pr w
  obtain ⟨rfl, rfl, rfl, rfl, rfl, rfl, hdl⟩ : n.pr = pr ∧ n.ia = ia ∧ n.ip = ip ∧ n.fa = fa ∧ n.fp = fp ∧ n.port = port ∧ n.dl = 0 := by rw [hnn]; exact ⟨rfl, rfl, rfl, rfl, rfl, rfl, rfl⟩
  have HNC : Hid (n.cells = [.int .i64 n.pr, .int .i64 n.ia, .int .i64 n.ip, .int .i64 n.fa, .int .i64 n.fp, .int .i64 n.port, .int .i64 0, .int .i64 n.st, .bool n.an, .bool n.inf, .bool n.outf]) := by show _ = _; unfold SD.cells; rw [hdl]
  clear hnn hdl
  have hlt2 : w.heap.size < w.heap.size + 1 + 1 := by omega
  have hne2 : w.heap.size + 1 + 1 ≠ w.heap.size := by omega
  go_enter Tryz.func119, Tryz.ntmps119
  go_wp2
  go_cut [10] (fun q w2 => ∃ fb, q = .pointer (some ⟨fb, 0, none⟩) ∧ w2.heap[fb]? = some (.cells #[.int .i64 n.pr, .int .i64 n.ia, .int .i64 n.ip, .int .i64 n.fa, .int .i64 n.fp, .int .i64 n.port, .int .i64 0, .int .i64 n.st, .bool n.an, .bool n.inf, .bool n.outf] 102 (0, 0)) ∧ w.heap.size ≤ fb ∧ Below w.heap.size w w2)
  case first =>
    go_region_held3 (fun w' => w'.cell? ⟨w.heap.size, 0, none⟩ = some (.int .i64 n.ia) ∧ w'.cell? ⟨w.heap.size, 1, none⟩ = some (.int .i64 n.ip) ∧ w'.cell? ⟨w.heap.size + 1, 0, none⟩ = some (.int .i64 n.fa) ∧ w'.cell? ⟨w.heap.size + 1, 1, none⟩ = some (.int .i64 n.fp)) (go_keep) ((go_at_call 127; refine (HFT.out _).mono ?_; rintro e w1 ⟨rfl, hb1⟩; obtain ⟨hc1, hf1⟩ := bcell' hb1; have hy1 : w.heap.size < w1.heap.size := Nat.lt_of_lt_of_le (by simp; omega) hb1.size; have hy2 : w.heap.size + 1 < w1.heap.size := Nat.lt_of_lt_of_le (by simp <;> omega) hb1.size; have z0 := hc1 w.heap.size 0 (by simp; omega); have z1 := hc1 w.heap.size 1 (by simp; omega); have z2 := hc1 (w.heap.size + 1) 0 (by simp <;> omega); have z3 := hc1 (w.heap.size + 1) 1 (by simp <;> omega)))
    · go_wp2_with fail
      go_meet
      case rel => exact ⟨w1.heap.size, rfl, by show (World.alloc _ _).heap[_]? = _; rw [hget_alloc, if_pos rfl], Nat.le_of_lt hy1, ((((Below.refl _ _).alloc (Nat.le_refl _) _).alloc (by simp) _).drew.trans (hb1.mono (by simp; omega))).alloc (Nat.le_of_lt hy1) _⟩
    · go_wp2_with fail
      go_meet
      case rel =>
        have hk := blk hb1 (B := w.heap.size + 1 + 1) (o := .cells #[.int .i64 0, .int .i64 0, .int .i64 0, .int .i64 0, .int .i64 0, .int .i64 0, .int .i64 0, .int .i64 0, .bool false, .bool false, .bool false] 102 (0, 0)) (by show (World.alloc _ _).heap[_]? = _; rw [hget_alloc, if_pos (by simp)])
        exact ⟨w.heap.size + 1 + 1, rfl, fresh11 hk rfl _ _ _ _ _ _ _ _ _ _ _, by omega, below11 ((((Below.refl _ _).alloc (Nat.le_refl _) _).alloc (by simp) _).drew.alloc (by simp; omega) _ |>.trans (hb1.mono (by simp; omega))) (by omega) _ _ _ _ _ _ _ _ _ _ _⟩
  case rest =>
    obtain ⟨fb, rfl, hF, hfb, hb⟩ := hcut
    have HF0 : Hid (wc.heap[fb]? = some (.cells #[.int .i64 n.pr, .int .i64 n.ia, .int .i64 n.ip, .int .i64 n.fa, .int .i64 n.fp, .int .i64 n.port, .int .i64 0, .int .i64 n.st, .bool n.an, .bool n.inf, .bool n.outf] 102 (0, 0))) := hF
    have HB0 : Hid (Below w.heap.size w wc) := hb
    have hwc := hb.size
    have hfl := lt_of_block hF
    have t0 := (hb.cell (p := ⟨tb, to', none⟩) htb).trans HCC.out
    have htw : tb < wc.heap.size := by omega
    clear hF hb
    go_wp2
    go_loopw [11, 12, 28] (fun lst ld i wr => ∃ (k : Nat) (lv : Value), k ≤ len ∧ i = .int .i64 k ∧ lv = lst ∧ ld = .bool (insTo n l k).2 ∧ BgMid w wr fb fb #[.int .i64 n.pr, .int .i64 n.ia, .int .i64 n.ip, .int .i64 n.fa, .int .i64 n.fp, .int .i64 n.port, .int .i64 0, .int .i64 n.st, .bool n.an, .bool n.inf, .bool n.outf] #[.int .i64 n.pr, .int .i64 n.ia, .int .i64 n.ip, .int .i64 n.fa, .int .i64 n.fp, .int .i64 n.port, .int .i64 0, .int .i64 n.st, .bool n.an, .bool n.inf, .bool n.outf] lv (insTo n l k).1) (fun _ _ i _ => len - (intOf i).toNat)
    case atStart =>
      refine ⟨0, _, Nat.zero_le _, rfl, rfl, rfl, ?_⟩
      have e : (wc.alloc (.cells #[] 102)).heap[fb]? = some (.cells #[.int .i64 n.pr, .int .i64 n.ia, .int .i64 n.ip, .int .i64 n.fa, .int .i64 n.fp, .int .i64 n.port, .int .i64 0, .int .i64 n.st, .bool n.an, .bool n.inf, .bool n.outf] 102 (0, 0)) := by rw [hget_alloc, if_neg (by omega)]; exact HF0.out
      have ne : (Value.slice (some ⟨wc.heap.size, 0, none⟩) 0 0).ownBlock ≠ some fb := by simp [Value.ownBlock]; omega
      refine ⟨e, e, ?_, ne, ne, HB0.out.alloc hwc _⟩
      obtain ⟨a, b⟩ := owns_empty wc 102 11
      refine ⟨a, ?_⟩
      rcases b with b | ⟨g, cp, cur, h1, h2, h3⟩
      · simp at b
      · exact Or.inr ⟨g, cp, cur, h1, by omega, h3⟩
    case round =>
      obtain ⟨k, lv, hk, rfl, rfl, rfl, hM⟩ := hrel
      have HM : Hid (BgMid w wr fb fb #[.int .i64 n.pr, .int .i64 n.ia, .int .i64 n.ip, .int .i64 n.fa, .int .i64 n.fp, .int .i64 n.port, .int .i64 0, .int .i64 n.st, .bool n.an, .bool n.inf, .bool n.outf] #[.int .i64 n.pr, .int .i64 n.ia, .int .i64 n.ip, .int .i64 n.fa, .int .i64 n.fp, .int .i64 n.port, .int .i64 0, .int .i64 n.st, .bool n.an, .bool n.inf, .bool n.outf] lv (insTo n l k).1) := hM
      have hsz := hM.bl.size
      have hlF := insTo_len n l k
      obtain ⟨⟨f0, f1, f2, f3, f4, f5, f6, f7, f8, f9, f10⟩, ff⟩ := c11 hM.fr
      have hfr := lt_of_block hM.fr
      clear hM
      by_cases hlt : k < len
      · have hlo : k < l.length := by have := HL.out; omega
        obtain ⟨g, rfl, hg, hat⟩ := HS.out (by intro e; rw [e] at hlo; simp at hlo)
        obtain ⟨q0, q1, q2, q3, q4, q5, q6, q7, q8, q9, q10⟩ := ((hat k hlo).keep HM.out.bl hg).open
        have HSU : Hid (insTo n l (k + 1) = insStep n (insTo n l k) l[k]) := insTo_succ n l k hlo
        clear hat
        generalize l[k] = o at q0 q1 q2 q3 q4 q5 q6 q7 q8 q9 q10 HSU
        have hgr : g < wr.heap.size := by omega
        have hkI : (0 : Int) ≤ (k : Int) := by omega
        have hkL : (k : Int) < (len : Int) := by omega
        have HM1 : Hid (BgMid w (wr.alloc (.cells #[.int .i64 o.pr, .int .i64 o.ia, .int .i64 o.ip, .int .i64 o.fa, .int .i64 o.fp, .int .i64 o.port, .int .i64 o.dl, .int .i64 o.st, .bool o.an, .bool o.inf, .bool o.outf] 102)) fb wr.heap.size #[.int .i64 n.pr, .int .i64 n.ia, .int .i64 n.ip, .int .i64 n.fa, .int .i64 n.fp, .int .i64 n.port, .int .i64 0, .int .i64 n.st, .bool n.an, .bool n.inf, .bool n.outf] #[.int .i64 o.pr, .int .i64 o.ia, .int .i64 o.ip, .int .i64 o.fa, .int .i64 o.fp, .int .i64 o.port, .int .i64 o.dl, .int .i64 o.st, .bool o.an, .bool o.inf, .bool o.outf] lv (insTo n l k).1) :=
          ⟨by rw [hget_alloc, if_neg (by omega)]; exact HM.out.fr, by rw [hget_alloc, if_pos rfl], HM.out.own.alloc _, HM.out.nf, fun e => by have := (HM.out.own.lt _ e).2; omega, HM.out.bl.alloc hsz _⟩
        have HBE : Hid (∀ w, Calls Tryz.prog 128 #[.agg #[.int .i64 n.pr, .int .i64 n.ia, .int .i64 n.ip, .int .i64 n.fa, .int .i64 n.fp, .int .i64 n.port, .int .i64 0, .int .i64 n.st, .bool n.an, .bool n.inf, .bool n.outf], .agg #[.int .i64 o.pr, .int .i64 o.ia, .int .i64 o.ip, .int .i64 o.fa, .int .i64 o.fp, .int .i64 o.port, .int .i64 o.dl, .int .i64 o.st, .bool o.an, .bool o.inf, .bool o.outf]] w fun e w' => e = .returned (.bool (befB n o)) ∧ Below w.heap.size w w') := fun w => by
          have e : Value.agg #[.int .i64 n.pr, .int .i64 n.ia, .int .i64 n.ip, .int .i64 n.fa, .int .i64 n.fp, .int .i64 n.port, .int .i64 0, .int .i64 n.st, .bool n.an, .bool n.inf, .bool n.outf] = .agg (n.cells.toArray) := by rw [HNC.out]
          rw [e]; exact before_any n o w
        obtain ⟨F, hF⟩ : ∃ F, F = (insTo n l k).1 := ⟨_, rfl⟩
        rw [← hF] at HM HM1 hlF
        cases hd : (insTo n l k).2
        · cases hbf : befB n o
          · have HN1 : Hid (insTo n l (k + 1) = (F ++ [o], false)) := by show _ = _; rw [HSU.out]; unfold insStep; rw [hd, hbf, ← hF]; simp
            clear hF hd
            go_wp2_with fail
            refine (HBE.out _).mono ?_
            rintro e w1 ⟨rfl, hb1⟩
            have HM2 : Hid (BgMid w w1 fb wr.heap.size #[.int .i64 n.pr, .int .i64 n.ia, .int .i64 n.ip, .int .i64 n.fa, .int .i64 n.fp, .int .i64 n.port, .int .i64 0, .int .i64 n.st, .bool n.an, .bool n.inf, .bool n.outf] #[.int .i64 o.pr, .int .i64 o.ia, .int .i64 o.ip, .int .i64 o.fa, .int .i64 o.fp, .int .i64 o.port, .int .i64 o.dl, .int .i64 o.st, .bool o.an, .bool o.inf, .bool o.outf] lv F) := HM1.out.call hb1
            clear hb1 q0 q1 q2 q3 q4 q5 q6 q7 q8 q9 q10 f0 f1 f2 f3 f4 f5 f6 f7 f8 f9 f10 ff
            obtain ⟨⟨q0, q1, q2, q3, q4, q5, q6, q7, q8, q9, q10⟩, qf⟩ := c11 HM2.out.sc
            go_wp2_with (at_builtin; refine wpList_append_lies _ rfl (.tmp 43) (.tmp 45) 71 rfl w.heap.size 102 i0 _ 11 72 Tryz.underlying71 hi0 hz0 hz1 hz2 rfl (by decide) lv F.length (scells F) rfl (by exact HM2.out.own.alloc _) ⟨w1.heap.size, 0, none⟩ 1 1 [.int .i64 o.pr, .int .i64 o.ia, .int .i64 o.ip, .int .i64 o.fa, .int .i64 o.fp, .int .i64 o.port, .int .i64 o.dl, .int .i64 o.st, .bool o.an, .bool o.inf, .bool o.outf] rfl rfl (by exact World.news_of_block (B := w1.heap.size) (by rw [hget_alloc, if_pos (by simp)])) (sd_one o) (by decide) (by unfold maxLen; omega) (by omega) (by have := HM2.out.bl.size; simp at this ⊢; omega) (w1.heap.size + 1) (by simp) ?_; intro g1 capg1 w2 hown hgrow hat hltx; have HXg1 : Hid (BgMid w w2 fb wr.heap.size #[.int .i64 n.pr, .int .i64 n.ia, .int .i64 n.ip, .int .i64 n.fa, .int .i64 n.fp, .int .i64 n.port, .int .i64 0, .int .i64 n.st, .bool n.an, .bool n.inf, .bool n.outf] #[.int .i64 o.pr, .int .i64 o.ia, .int .i64 o.ip, .int .i64 o.fa, .int .i64 o.fp, .int .i64 o.port, .int .i64 o.dl, .int .i64 o.st, .bool o.an, .bool o.inf, .bool o.outf] (.slice (some ⟨g1, 0, none⟩) (F.length + 1) capg1) (F ++ [o])) := HM2.out.app (x := o) hgrow (by exact hown) (by simpa using hat); clear hown hgrow hat hltx)
            go_roundw
            case rel => exact ⟨k + 1, _, by omega, by go_num, rfl, by rw [HN1.out], by rw [HN1.out]; exact ⟨HXg1.out.fr, HXg1.out.fr, by simpa using HXg1.out.own, HXg1.out.nf, HXg1.out.nf, HXg1.out.bl⟩⟩
            case measure => simp [intOf]; omega
          · have HN1 : Hid (insTo n l (k + 1) = (F ++ [n] ++ [o], true)) := by show _ = _; rw [HSU.out]; unfold insStep; rw [hd, hbf, ← hF]; simp
            clear hF hd
            go_wp2_with fail
            refine (HBE.out _).mono ?_
            rintro e w1 ⟨rfl, hb1⟩
            have HM2 : Hid (BgMid w w1 fb wr.heap.size #[.int .i64 n.pr, .int .i64 n.ia, .int .i64 n.ip, .int .i64 n.fa, .int .i64 n.fp, .int .i64 n.port, .int .i64 0, .int .i64 n.st, .bool n.an, .bool n.inf, .bool n.outf] #[.int .i64 o.pr, .int .i64 o.ia, .int .i64 o.ip, .int .i64 o.fa, .int .i64 o.fp, .int .i64 o.port, .int .i64 o.dl, .int .i64 o.st, .bool o.an, .bool o.inf, .bool o.outf] lv F) := HM1.out.call hb1
            clear hb1 q0 q1 q2 q3 q4 q5 q6 q7 q8 q9 q10 f0 f1 f2 f3 f4 f5 f6 f7 f8 f9 f10 ff
            obtain ⟨⟨f0, f1, f2, f3, f4, f5, f6, f7, f8, f9, f10⟩, ff⟩ := c11 HM2.out.fr
            have HY : Hid (∀ g1 capg1 w2, BgMid w w2 fb wr.heap.size #[.int .i64 n.pr, .int .i64 n.ia, .int .i64 n.ip, .int .i64 n.fa, .int .i64 n.fp, .int .i64 n.port, .int .i64 0, .int .i64 n.st, .bool n.an, .bool n.inf, .bool n.outf] #[.int .i64 o.pr, .int .i64 o.ia, .int .i64 o.ip, .int .i64 o.fa, .int .i64 o.fp, .int .i64 o.port, .int .i64 o.dl, .int .i64 o.st, .bool o.an, .bool o.inf, .bool o.outf] (.slice (some ⟨g1, 0, none⟩) (F.length + 1) capg1) (F ++ [n]) → w2.heap[wr.heap.size]? = some (.cells #[.int .i64 o.pr, .int .i64 o.ia, .int .i64 o.ip, .int .i64 o.fa, .int .i64 o.fp, .int .i64 o.port, .int .i64 o.dl, .int .i64 o.st, .bool o.an, .bool o.inf, .bool o.outf] 102 (0, 0))) := fun _ _ _ h => h.sc
            go_wp2_with (first | (at_builtin; refine wpList_append_lies _ rfl (.tmp 43) (.tmp 45) 71 rfl w.heap.size 102 i0 _ 11 72 Tryz.underlying71 hi0 hz0 hz1 hz2 rfl (by decide) (.slice (some ⟨g1, 0, none⟩) (F.length + 1) capg1) (F.length + 1) (scells (F ++ [n])) rfl (by simpa using HXg1.out.own.alloc _) ⟨w2.heap.size, 0, none⟩ 1 1 [.int .i64 o.pr, .int .i64 o.ia, .int .i64 o.ip, .int .i64 o.fa, .int .i64 o.fp, .int .i64 o.port, .int .i64 o.dl, .int .i64 o.st, .bool o.an, .bool o.inf, .bool o.outf] rfl rfl (by exact World.news_of_block (B := w2.heap.size) (by rw [hget_alloc, if_pos (by simp)])) (sd_one o) (by decide) (by unfold maxLen; omega) (by omega) (by have := HXg1.out.bl.size; simp at this ⊢; omega) (w2.heap.size + 1) (by simp) ?_; intro g2 capg2 w3 hown hgrow hat hltx; have HXg2 : Hid (BgMid w w3 fb wr.heap.size #[.int .i64 n.pr, .int .i64 n.ia, .int .i64 n.ip, .int .i64 n.fa, .int .i64 n.fp, .int .i64 n.port, .int .i64 0, .int .i64 n.st, .bool n.an, .bool n.inf, .bool n.outf] #[.int .i64 o.pr, .int .i64 o.ia, .int .i64 o.ip, .int .i64 o.fa, .int .i64 o.fp, .int .i64 o.port, .int .i64 o.dl, .int .i64 o.st, .bool o.an, .bool o.inf, .bool o.outf] (.slice (some ⟨g2, 0, none⟩) ((F ++ [n]).length + 1) capg2) (F ++ [n] ++ [o])) := HXg1.out.app (x := o) hgrow (by simpa [SD.cells] using hown) (by simpa using hat); clear hown hgrow hat hltx) | (at_builtin; refine wpList_append_lies _ rfl (.tmp 39) (.tmp 41) 71 rfl w.heap.size 102 i0 _ 11 72 Tryz.underlying71 hi0 hz0 hz1 hz2 rfl (by decide) lv F.length (scells F) rfl (by exact HM2.out.own.alloc _) ⟨w1.heap.size, 0, none⟩ 1 1 [.int .i64 n.pr, .int .i64 n.ia, .int .i64 n.ip, .int .i64 n.fa, .int .i64 n.fp, .int .i64 n.port, .int .i64 0, .int .i64 n.st, .bool n.an, .bool n.inf, .bool n.outf] rfl rfl (by exact World.news_of_block (B := w1.heap.size) (by rw [hget_alloc, if_pos (by simp)])) (fc_one n) (by decide) (by unfold maxLen; omega) (by omega) (by have := HM2.out.bl.size; simp at this ⊢; omega) (w1.heap.size + 1) (by simp) ?_; intro g1 capg1 w2 hown hgrow hat hltx; have HXg1 : Hid (BgMid w w2 fb wr.heap.size #[.int .i64 n.pr, .int .i64 n.ia, .int .i64 n.ip, .int .i64 n.fa, .int .i64 n.fp, .int .i64 n.port, .int .i64 0, .int .i64 n.st, .bool n.an, .bool n.inf, .bool n.outf] #[.int .i64 o.pr, .int .i64 o.ia, .int .i64 o.ip, .int .i64 o.fa, .int .i64 o.fp, .int .i64 o.port, .int .i64 o.dl, .int .i64 o.st, .bool o.an, .bool o.inf, .bool o.outf] (.slice (some ⟨g1, 0, none⟩) (F.length + 1) capg1) (F ++ [n])) := HM2.out.app (x := n) hgrow (by rw [HNC.out]; exact hown) (by simpa using hat); clear hown hgrow hat hltx f0 f1 f2 f3 f4 f5 f6 f7 f8 f9 f10 ff; obtain ⟨⟨q0, q1, q2, q3, q4, q5, q6, q7, q8, q9, q10⟩, qf⟩ := c11 HXg1.out.sc))
            go_roundw
            case rel => exact ⟨k + 1, _, by omega, by go_num, rfl, by rw [HN1.out], by rw [HN1.out]; exact ⟨HXg2.out.fr, HXg2.out.fr, by simpa using HXg2.out.own, by simpa using HXg2.out.nf, by simpa using HXg2.out.nf, HXg2.out.bl⟩⟩
            case measure => simp [intOf]; omega
        · have HN1 : Hid (insTo n l (k + 1) = (F ++ [o], true)) := by show _ = _; rw [HSU.out]; unfold insStep; rw [hd, ← hF]; simp
          clear hF hd
          go_wp2_with (at_builtin; refine wpList_append_lies _ rfl (.tmp 43) (.tmp 45) 71 rfl w.heap.size 102 i0 _ 11 72 Tryz.underlying71 hi0 hz0 hz1 hz2 rfl (by decide) lv F.length (scells F) rfl (by exact HM1.out.own.alloc _) ⟨(wr.heap.size + 1), 0, none⟩ 1 1 [.int .i64 o.pr, .int .i64 o.ia, .int .i64 o.ip, .int .i64 o.fa, .int .i64 o.fp, .int .i64 o.port, .int .i64 o.dl, .int .i64 o.st, .bool o.an, .bool o.inf, .bool o.outf] rfl rfl (by exact World.news_of_block (B := (wr.heap.size + 1)) (by rw [hget_alloc, if_pos (by simp)])) (sd_one o) (by decide) (by unfold maxLen; omega) (by omega) (by have := HM1.out.bl.size; simp at this ⊢; omega) ((wr.heap.size + 1) + 1) (by simp) ?_; intro g1 capg1 w2 hown hgrow hat hltx; have HXg1 : Hid (BgMid w w2 fb wr.heap.size #[.int .i64 n.pr, .int .i64 n.ia, .int .i64 n.ip, .int .i64 n.fa, .int .i64 n.fp, .int .i64 n.port, .int .i64 0, .int .i64 n.st, .bool n.an, .bool n.inf, .bool n.outf] #[.int .i64 o.pr, .int .i64 o.ia, .int .i64 o.ip, .int .i64 o.fa, .int .i64 o.fp, .int .i64 o.port, .int .i64 o.dl, .int .i64 o.st, .bool o.an, .bool o.inf, .bool o.outf] (.slice (some ⟨g1, 0, none⟩) (F.length + 1) capg1) (F ++ [o])) := HM1.out.app (x := o) hgrow (by exact hown) (by simpa using hat); clear hown hgrow hat hltx)
          go_roundw
          case rel => exact ⟨k + 1, _, by omega, by go_num, rfl, by rw [HN1.out], by rw [HN1.out]; exact ⟨HXg1.out.fr, HXg1.out.fr, by simpa using HXg1.out.own, HXg1.out.nf, HXg1.out.nf, HXg1.out.bl⟩⟩
          case measure => simp [intOf]; omega
      · have e : k = l.length := by have := HL.out; omega
        subst e
        have t1 := (HM.out.bl.cell (p := ⟨tb, to', none⟩) htb).trans HCC.out
        have z1 := (HM.out.bl.frozen (p := ⟨tb, to', none⟩) htb).trans HFZ.out
        have htr : tb < wr.heap.size := by omega
        obtain ⟨la, cp, hla⟩ := owns_shape HM.out.own
        have HI : Hid (insS n l = if (insTo n l l.length).2 = true then (insTo n l l.length).1 else (insTo n l l.length).1 ++ [n]) := rfl
        cases hd : (insTo n l l.length).2
        · have HIE : Hid (insS n l = (insTo n l l.length).1 ++ [n]) := by show _ = _; rw [HI.out, hd]; rfl
          generalize (insTo n l l.length).1 = F at HM hlF hla HIE
          go_wp2_with (at_builtin; refine wpList_append_lies _ rfl (.tmp 50) (.tmp 52) 71 rfl w.heap.size 102 i0 _ 11 72 Tryz.underlying71 hi0 hz0 hz1 hz2 rfl (by decide) lv _ (scells F) rfl (HM.out.own.alloc _) ⟨wr.heap.size, 0, none⟩ 1 1 [.int .i64 n.pr, .int .i64 n.ia, .int .i64 n.ip, .int .i64 n.fa, .int .i64 n.fp, .int .i64 n.port, .int .i64 0, .int .i64 n.st, .bool n.an, .bool n.inf, .bool n.outf] rfl rfl (by exact World.news_of_block (B := wr.heap.size) (by rw [hget_alloc, if_pos rfl])) (fc_one n) (by decide) (by unfold maxLen; omega) (by omega) (by have := HM.out.bl.size; simp; omega) (wr.heap.size + 1) (by simp) ?_; intro g1 capg1 w2 hown hgrow hat hltx; have HXg1 : Hid (BgMid w w2 fb fb #[.int .i64 n.pr, .int .i64 n.ia, .int .i64 n.ip, .int .i64 n.fa, .int .i64 n.fp, .int .i64 n.port, .int .i64 0, .int .i64 n.st, .bool n.an, .bool n.inf, .bool n.outf] #[.int .i64 n.pr, .int .i64 n.ia, .int .i64 n.ip, .int .i64 n.fa, .int .i64 n.fp, .int .i64 n.port, .int .i64 0, .int .i64 n.st, .bool n.an, .bool n.inf, .bool n.outf] (.slice (some ⟨g1, 0, none⟩) (F.length + 1) capg1) (F ++ [n])) := HM.out.app (x := n) hgrow (by rw [HNC.out]; exact hown) hat; clear hown hgrow hat hltx; have t2 := (HXg1.out.bl.cell (p := ⟨tb, to', none⟩) htb).trans HCC.out; have z2 := (HXg1.out.bl.frozen (p := ⟨tb, to', none⟩) htb).trans HFZ.out)
          go_end0
          exact ⟨rfl, _, w2, rfl, HXg1.out.bl, by rw [HIE.out]; simpa using HXg1.out.own⟩
        · have HIE : Hid (insS n l = (insTo n l l.length).1) := by show _ = _; rw [HI.out, hd]; rfl
          generalize (insTo n l l.length).1 = F at HM hlF hla HIE
          subst hla
          go_wp2
          go_end0
          exact ⟨rfl, _, wr, rfl, HM.out.bl, by rw [HIE.out]; exact HM.out.own⟩
end Go.Proofs.YtfkjobiapjhacabGreat
