/- Contracts of package pieces: Expire. Own work. -/
import Derived.Test.YtfkjobiapjhacabGreatGwO
import Derived.Test.YtfkjobiapjhacabGreatLb
namespace Go.Proofs.YtfkjobiapjhacabGreat
open Go.RowKit
attribute [local go_sem ↓] Go.wp_at_zero Go.wp_at_succ

theorem PsAt.get {w : World} {v : Value} {l : List PR} (h : PsAt w v l) (k : Nat) (hk : k < l.length) : ∃ g cap, v = .slice (some ⟨g, 0, none⟩) l.length cap ∧ g < w.heap.size ∧ w.cell? ⟨g, k * 8, none⟩ = some (.int .i64 l[k].d.sd) ∧ w.cell? ⟨g, k * 8 + 1, none⟩ = some (.int .i64 l[k].d.sr) ∧ w.cell? ⟨g, k * 8 + 2, none⟩ = some (.int .i64 l[k].d.ds) ∧ w.cell? ⟨g, k * 8 + 3, none⟩ = some (.int .i64 l[k].d.pr) ∧ w.cell? ⟨g, k * 8 + 4, none⟩ = some (.int .i64 l[k].d.nu) ∧ w.cell? ⟨g, k * 8 + 5, none⟩ = some (.bool l[k].d.gu) ∧ w.cell? ⟨g, k * 8 + 6, none⟩ = some (.int .i64 l[k].d.dl) ∧ w.cell? ⟨g, k * 8 + 7, none⟩ = some l[k].hv ∧ ∃ a n c, l[k].hv = .slice a n c := by
  obtain ⟨g, cap, e, hg, hc⟩ := LsAt.get h.1 (by intro e; rw [e] at hk; simp at hk)
  obtain ⟨a, c, hs⟩ := LsAt.shape (h.2 l[k] (List.getElem_mem _))
  exact ⟨g, cap, e, hg, hc k hk 0 (by decide), hc k hk 1 (by decide), hc k hk 2 (by decide), hc k hk 3 (by decide), hc k hk 4 (by decide), hc k hk 5 (by decide), hc k hk 6 (by decide), hc k hk 7 (by decide), a, _, c, hs⟩
theorem info_part : (Tryz.prog.info? 94).map (fun i => (i.zero, i.size, i.bytes)) = some (some (.agg #[.int .i64 0, .int .i64 0, .int .i64 0, .int .i64 0, .int .i64 0, .bool false, .int .i64 0, .slice none 0 0]), 8, 80) := by kernel_rfl
theorem pr_one (o : PR) {a : Option Addr} {n c : Nat} (h : o.hv = .slice a n c) : ∀ u ∈ o.cells, u.oneCell' = true := by
  intro u hu
  simp [PR.cells, h] at hu
  rcases hu with rfl | rfl | rfl | rfl | rfl | rfl | rfl | rfl <;> rfl
def aliveB (now : Int) (r : PR) : Bool := decide (now < r.d.dl)

set_option maxRecDepth 100000 in
set_option maxHeartbeats 2000000 in
theorem PExpire_any (sb so : Nat) (v : Value) (rl : List PR) (now : Int) (w : World) (hc : w.cell? ⟨sb, so, none⟩ = some v) (hfz : w.frozen? ⟨sb, so, none⟩ = false) (hl : PsAt w v rl) (hn : rl.length ≤ 1000) :
    Calls Tryz.prog 43 #[.pointer (some ⟨sb, so, none⟩), .int .i64 now] w fun e w' => e = .returned (.tuple #[]) ∧ ∃ v' w0, w' = w0.setCell ⟨sb, so, none⟩ v' ∧ Below w.heap.size w w0 ∧ PsAt w0 v' (rl.filter (aliveB now)) := by
  have HL : Hid (PsAt w v rl) := hl
  obtain ⟨ao, cap, hv⟩ := hl.1.shape
  clear hl
  have htb := lt_of_cell hc
  subst hv
  generalize hlen : rl.length = len at hn hc HL
  have HE : Hid (rl.length = len) := hlen
  have HCC : Hid (w.cell? ⟨sb, so, none⟩ = some (.slice ao len cap)) := hc
  have HFZ : Hid (w.frozen? ⟨sb, so, none⟩ = false) := hfz
  clear hlen
  obtain ⟨i0, hi0, hz0, hz1, hz2⟩ := info_parts info_part
  go_enter Tryz.func43, Tryz.ntmps43
  go_wp2
  go_loopw [4, 13] (fun lst i wr => ∃ (k : Nat) (lv : Value), k ≤ len ∧ i = .int .i64 k ∧ lv = lst ∧ QMid w wr [] 94 8 lv ((rl.take k).filter (aliveB now)).length (((rl.take k).filter (aliveB now)).flatMap PR.cells)) (fun _ i _ => len - (intOf i).toNat)
  case atStart => exact ⟨0, _, Nat.zero_le _, rfl, rfl, QMid.start (LMid.start w) _ _ _ rfl⟩
  case round =>
    obtain ⟨k, lv, hk, rfl, rfl, hM1⟩ := hrel
    by_cases hlt : k < len
    · have hlo : k < rl.length := by have := HE.out; omega
      obtain ⟨g, cp, hv, hg, q0, q1, q2, q3, q4, q5, q6, q7, hao, hln, hcp, hhv⟩ := PsAt.get (PsAt.keep HL.out hM1.mid.bl) k hlo
      simp at hv
      obtain ⟨rfl, -, rfl⟩ := hv
      have hfs := filt_snoc (aliveB now) rl k hlo
      have hfl : ((rl.take k).filter (aliveB now)).length ≤ k := Nat.le_trans (List.length_filter_le _ _) (by simp; omega)
      have HAL : Hid (aliveB now rl[k] = decide (now < rl[k].d.dl)) := rfl
      generalize rl[k] = o at q0 q1 q2 q3 q4 q5 q6 q7 hhv hfs HAL
      generalize (rl.take k).filter (aliveB now) = F at hM1 hfs hfl
      have HFS : Hid ((rl.take (k + 1)).filter (aliveB now) = F ++ (if aliveB now o then [o] else [])) := hfs
      rw [hhv] at q7
      have HOC : Hid (o.cells = [.int .i64 o.d.sd, .int .i64 o.d.sr, .int .i64 o.d.ds, .int .i64 o.d.pr, .int .i64 o.d.nu, .bool o.d.gu, .int .i64 o.d.dl, .slice hao hln hcp]) := by show _ = _; unfold PR.cells; rw [hhv]
      have HON : Hid (∀ u ∈ ([.int .i64 o.d.sd, .int .i64 o.d.sr, .int .i64 o.d.ds, .int .i64 o.d.pr, .int .i64 o.d.nu, .bool o.d.gu, .int .i64 o.d.dl, .slice hao hln hcp] : List Value), u.oneCell' = true) := by rw [← HOC.out]; exact pr_one o hhv
      have hsw := hM1.mid.bl.size
      have hM : Hid (QMid w wr [] 94 8 lv F.length (F.flatMap PR.cells)) := hM1
      clear hM1 hfs hhv
      have hkI : (0 : Int) ≤ (k : Int) := by omega
      have hkL : (k : Int) < (len : Int) := by omega
      by_cases hd : now < o.d.dl
      · have HFE : Hid ((rl.take (k + 1)).filter (aliveB now) = F ++ [o]) := by
          show _ = _
          rw [HFS.out, HAL.out]; simp [hd]
        go_wp2_with (at_builtin; refine wpList_append_lies _ rfl (.tmp 21) (.tmp 23) 74 rfl w.heap.size 94 i0 _ 8 80 Tryz.underlying74 hi0 hz0 hz1 hz2 rfl (by decide) lv F.length (F.flatMap PR.cells) rfl ((hM.out.own.alloc _).alloc _) ⟨wr.heap.size + 1, 0, none⟩ 1 1 [.int .i64 o.d.sd, .int .i64 o.d.sr, .int .i64 o.d.ds, .int .i64 o.d.pr, .int .i64 o.d.nu, .bool o.d.gu, .int .i64 o.d.dl, .slice hao hln hcp] rfl rfl (by exact World.news_of_block (B := wr.heap.size + 1) (by rw [hget_alloc, if_pos (by simp)])) HON.out (by decide) (by unfold maxLen; omega) (by omega) (by simp; omega) (wr.heap.size + 1 + 1) (by simp) ?_; intro g4 cap4 w4 hown hgrow hat hlt4; have hM1 := (hM.out.call (((Below.refl _ _).alloc (Nat.le_refl _) _).alloc (by simp) _)).app hgrow hown _ hat (by simp); clear hM hown hgrow hat hlt4; have hM : Hid _ := hM1; clear hM1)
        go_roundw
        case rel =>
          refine ⟨k + 1, _, by omega, by go_num, rfl, ?_⟩
          rw [HFE.out, List.length_append, List.flatMap_append]
          simpa [HOC.out] using hM.out
        case measure => simp [intOf]; omega
      · have HFE : Hid ((rl.take (k + 1)).filter (aliveB now) = F) := by
          show _ = _
          rw [HFS.out, HAL.out]; simp [hd]
        go_wp2
        go_roundw
        case rel => exact ⟨k + 1, lv, by omega, by go_num, rfl, by rw [HFE.out]; exact hM.out.call ((Below.refl _ _).alloc (Nat.le_refl _) _)⟩
        case measure => simp [intOf]; omega
    · have e : k = rl.length := by have := HE.out; omega
      subst e
      rw [List.take_length] at hM1
      have HO : Hid (PsAt wr lv (rl.filter (aliveB now))) := ⟨LsAt.of_owns PR.len hM1.own, fun r hr => LsAt.keep (HL.out.2 r ((List.mem_filter.1 hr).1)) hM1.mid.bl⟩
      have HB : Hid (Below w.heap.size w wr) := hM1.mid.bl
      have c1 := (hM1.mid.bl.cell (p := ⟨sb, so, none⟩) htb).trans HCC.out
      have f1 := (hM1.mid.bl.frozen (p := ⟨sb, so, none⟩) htb).trans HFZ.out
      obtain ⟨la, cp, hla⟩ := owns_shape hM1.own
      clear hM1
      subst hla
      go_wp2
      go_end0
      exact ⟨rfl, _, wr, rfl, HB.out, HO.out⟩
theorem filter_wl (now : Int) (rl : List PR) : (rl.filter (aliveB now)).map PR.d = (rl.map PR.d).filter (fun d => decide (now < d.dl)) := by
  induction rl with
  | nil => rfl
  | cons r t ih =>
    simp only [List.filter_cons, List.map_cons, aliveB]
    by_cases h : now < r.d.dl
    · simp [h, ih]
    · simp [h, ih]
theorem BX.set27 (s : BX) (v wv wv' : Value) (l' : List PD) (h : s.cs.length = 18) : (s.cells v wv).toArray.setIfInBounds 27 wv' = (({ s with wl := l' } : BX).cells v wv').toArray := by
  apply Array.toList_inj.1
  unfold BX.cells
  simp only [Array.toList_setIfInBounds]
  rw [List.set_append_right _ _ (by simp; omega)]
  simp [h]
/-- A box whose list of datagrams was made anew. -/
theorem BoxAt.wanew {w w0 : World} {b : Nat} {v wv' : Value} {s : BX} {l' : List PD} (h : BoxAt w b v s) (hb : Below w.heap.size w w0) (ho : WaitAt w0 wv' l') :
    BoxAt (w0.setCell ⟨b, 27, none⟩ wv') b v { s with wl := l' } ∧ Chg b v w (w0.setCell ⟨b, 27, none⟩ wv') v := by
  have h0 := h.call hb
  obtain ⟨wv, hbk, -⟩ := h0.bk
  have hheap : ∀ k, (w0.setCell ⟨b, 27, none⟩ wv').heap[k]? = if k = b then some (.cells ((s.cells v wv).toArray.setIfInBounds 27 wv') 78 (0, 0)) else w0.heap[k]? := fun k => hget_set _ _ _ _ _ _ _ hbk
  have hbel : Below b w0 (w0.setCell ⟨b, 27, none⟩ wv') := (Below.refl b w0).setCell (Nat.le_refl b) wv'
  refine ⟨⟨⟨wv', by rw [hheap, if_pos rfl, BX.set27 s v wv wv' l' h.n18], ho.kept (KeptT.set hbk (by decide)) (KeptT.set hbk (by decide))⟩, ?_, h.ne, h.n18⟩, ⟨hbel.os.trans hb.os, hbel.tape.trans hb.tape, hbel.output.trans hb.output, Nat.le_trans hb.size hbel.size, fun k hk hkb _ => by rw [hheap, if_neg hkb]; exact hb.block k hk, Or.inl rfl⟩⟩
  exact h0.own.kept (row := some b) ⟨hbel.os, hbel.tape, hbel.output, hbel.size, fun k _ hkb => by rw [hheap, if_neg (fun e => hkb (by rw [e]))]⟩ (Or.inr h.ne)
theorem wExpire {w : World} {b : Nat} {v : Value} {s : BX} (h : BoxAt w b v s) (hn : s.wl.length ≤ 1000) (now : Int) :
    Calls Tryz.prog 43 #[.pointer (some ⟨b, 27, none⟩), .int .i64 now] w fun e w' => e = .returned (.tuple #[]) ∧ BoxAt w' b v { s with wl := s.wl.filter (fun d => decide (now < d.dl)) } ∧ Chg b v w w' v := by
  obtain ⟨wv, hc, rl, e, hp⟩ := h.wait
  refine (PExpire_any b 27 wv rl now w hc (h.get.2 _) hp (by rw [← e] at hn; simpa using hn)).mono ?_
  rintro x w' ⟨rfl, v', w0, rfl, hb, ho⟩
  exact ⟨rfl, h.wanew hb ⟨_, by rw [filter_wl, e], ho⟩⟩
end Go.Proofs.YtfkjobiapjhacabGreat
