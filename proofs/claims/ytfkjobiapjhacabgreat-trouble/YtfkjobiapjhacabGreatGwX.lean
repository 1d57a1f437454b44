/- Contracts of package sessions: Expire. Own work. -/
import Derived.Test.YtfkjobiapjhacabGreatGwW
namespace Go.Proofs.YtfkjobiapjhacabGreat
open Go.RowKit
attribute [local go_sem ↓] Go.wp_at_zero Go.wp_at_succ

theorem info_sess : (Tryz.prog.info? 102).map (fun i => (i.zero, i.size, i.bytes)) = some (some (.agg #[.int .i64 0, .int .i64 0, .int .i64 0, .int .i64 0, .int .i64 0, .int .i64 0, .int .i64 0, .int .i64 0, .bool false, .bool false, .bool false]), 11, 72) := by kernel_rfl
theorem sd_one (o : SD) : ∀ u ∈ o.cells, u.oneCell' = true := by
  intro u hu
  simp [SD.cells] at hu
  rcases hu with rfl | rfl | rfl | rfl | rfl | rfl | rfl | rfl | rfl | rfl | rfl <;> rfl
set_option maxRecDepth 100000 in
set_option maxHeartbeats 2000000 in
theorem Expire_any (tb to' : Nat) (v : Value) (l : List SD) (now : Int) (w : World) (hc : w.cell? ⟨tb, to', none⟩ = some v) (hfz : w.frozen? ⟨tb, to', none⟩ = false) (hl : SsAt w v l) (hn : l.length ≤ 1000) :
    Calls Tryz.prog 42 #[.pointer (some ⟨tb, to', none⟩), .int .i64 now] w fun e w' => e = .returned (.tuple #[]) ∧ ∃ v' w0, w' = w0.setCell ⟨tb, to', none⟩ v' ∧ Below w.heap.size w w0 ∧ w0.ownsRow w.heap.size 102 11 v' (l.filter (fun s => decide (now < s.dl))).length (scells (l.filter (fun s => decide (now < s.dl)))) := by
  obtain ⟨ao, cap, rfl, hs⟩ := hl
  have HS : Hid (l ≠ [] → ∃ g, ao = some ⟨g, 0, none⟩ ∧ g < w.heap.size ∧ ∀ (i : Nat) (h : i < l.length), SAt w g (i * 11) l[i]) := hs
  clear hs
  have htb := lt_of_cell hc
  generalize hlen : l.length = len at hn hc
  have HL : Hid (l.length = len) := hlen
  have HCC : Hid (w.cell? ⟨tb, to', none⟩ = some (.slice ao len cap)) := hc
  have HFZ : Hid (w.frozen? ⟨tb, to', none⟩ = false) := hfz
  clear hlen
  obtain ⟨i0, hi0, hz0, hz1, hz2⟩ := info_parts info_sess
  go_enter Tryz.func42, Tryz.ntmps42
  go_wp2
  go_loopw [4, 13] (fun lst i wr => ∃ (k : Nat) (lv : Value), k ≤ len ∧ i = .int .i64 k ∧ lv = lst ∧ wr.ownsRow w.heap.size 102 11 lv ((l.take k).filter (fun s => decide (now < s.dl))).length (scells ((l.take k).filter (fun s => decide (now < s.dl)))) ∧ Below w.heap.size w wr) (fun _ i _ => len - (intOf i).toNat)
  case atStart => exact ⟨0, _, Nat.zero_le _, rfl, rfl, owns_empty w _ _, (Below.refl _ _).alloc (Nat.le_refl _) _⟩
  case round =>
    obtain ⟨k, lv, hk, rfl, rfl, hown, hb⟩ := hrel
    by_cases hlt : k < len
    · have hlo : k < l.length := by have := HL.out; omega
      obtain ⟨g, rfl, hg, hat⟩ := HS.out (by intro e; rw [e] at hlo; simp at hlo)
      obtain ⟨q0, q1, q2, q3, q4, q5, q6, q7, q8, q9, q10⟩ := ((hat k hlo).keep hb hg).open
      have hfs := filt_snoc (fun s => decide (now < s.dl)) l k hlo
      have hfl : ((l.take k).filter (fun s => decide (now < s.dl))).length ≤ k := Nat.le_trans (List.length_filter_le _ _) (by simp; omega)
      clear hat
      generalize l[k] = o at q0 q1 q2 q3 q4 q5 q6 q7 q8 q9 q10 hfs
      generalize (l.take k).filter (fun s => decide (now < s.dl)) = F at hown hfs hfl
      have HF : Hid ((l.take (k + 1)).filter (fun s => decide (now < s.dl)) = F ++ (if decide (now < o.dl) then [o] else [])) := hfs
      have hsz := hb.size
      have hkI : (0 : Int) ≤ (k : Int) := by omega
      have hkL : (k : Int) < (len : Int) := by omega
      have hgr : g < wr.heap.size := by omega
      have HB : Hid (Below w.heap.size w wr) := hb
      have HOW : Hid (wr.ownsRow w.heap.size 102 11 lv F.length (scells F)) := hown
      clear hb hown hfs
      by_cases hd : now < o.dl
      · have HFE : Hid ((l.take (k + 1)).filter (fun s => decide (now < s.dl)) = F ++ [o]) := by
          show _ = _
          rw [HF.out]; simp [hd]
        go_wp2_with (at_builtin; refine wpList_append_own _ rfl (.tmp 21) (.tmp 23) 71 rfl w.heap.size 102 i0 _ 11 72 Tryz.underlying71 hi0 hz0 hz1 hz2 rfl (by decide) lv F.length (scells F) rfl ((HOW.out.alloc _).alloc _) ⟨wr.heap.size + 1, 0, none⟩ 1 1 o.cells rfl rfl (by exact World.news_of_block (B := wr.heap.size + 1) (by rw [hget_alloc, if_pos (by simp)])) (sd_one o) (by unfold maxLen; omega) (by omega) (by simp; omega) ?_; intro v' w1 hown' hgrow hnil)
        have HB1 : Hid (Below w.heap.size w w1) := ((HB.out.alloc hsz _).alloc (by simp; omega) _).grown hgrow (by simp; omega) (fun q e => ((HOW.out.lt) q e).1)
        have HO1 : Hid (w1.ownsRow w.heap.size 102 11 v' ((l.take (k + 1)).filter (fun s => decide (now < s.dl))).length (scells ((l.take (k + 1)).filter (fun s => decide (now < s.dl))))) := by
          show World.ownsRow _ _ _ _ _ _ _
          rw [HFE.out, List.length_append, scells_snoc]; exact hown'
        clear hown' hgrow hnil
        go_wp2
        go_roundw
        case rel => exact ⟨k + 1, v', by omega, by go_num, rfl, HO1.out, HB1.out⟩
        case measure => simp [intOf]; omega
      · have HFE : Hid ((l.take (k + 1)).filter (fun s => decide (now < s.dl)) = F) := by
          show _ = _
          rw [HF.out]; simp [hd]
        go_wp2
        go_roundw
        case rel => exact ⟨k + 1, lv, by omega, by go_num, rfl, by rw [HFE.out]; exact HOW.out.alloc _, HB.out.alloc hsz _⟩
        case measure => simp [intOf]; omega
    · have e : k = l.length := by have := HL.out; omega
      subst e
      rw [List.take_length] at hown
      have HO : Hid (wr.ownsRow w.heap.size 102 11 lv (l.filter (fun s => decide (now < s.dl))).length (scells (l.filter (fun s => decide (now < s.dl))))) := hown
      have HB : Hid (Below w.heap.size w wr) := hb
      have c1 := (hb.cell (p := ⟨tb, to', none⟩) htb).trans HCC.out
      have f1 := (hb.frozen (p := ⟨tb, to', none⟩) htb).trans HFZ.out
      obtain ⟨la, cp, hla⟩ := owns_shape hown
      clear hown hb
      subst hla
      go_wp2
      go_end0
      exact ⟨rfl, _, wr, rfl, HB.out, HO.out⟩
end Go.Proofs.YtfkjobiapjhacabGreat
