/- Contracts of package gateway: Receive, Tick. Own work. -/
import Derived.Test.YtapahmhpjmnebabGwM
namespace Go.Proofs.Ytapahmhpjmnebab
open Go.RowKit
attribute [local go_sem ↓] Go.wp_at_zero Go.wp_at_succ

theorem BX.setAt (s s' : BX) (v : Value) (j : Nat) (u : Value) (h : (s.cells v).set j u = s'.cells v) : (s.cells v).toArray.setIfInBounds j u = (s'.cells v).toArray := by
  apply Array.toList_inj.1
  simpa using h
theorem BX.setCount (s : BX) (v : Value) (k : Nat) (c : Int) (h : s.cs.length = 18) (hk : k < 18) : (s.cells v).set (8 + k) (.int .i64 c) = ({ s with cs := s.cs.set k c } : BX).cells v := by
  unfold BX.cells
  rw [List.set_append_left _ _ (by simp; omega), List.set_append_right _ _ (by simp)]
  simp [List.map_set]
theorem BX.setTime (s : BX) (v : Value) (t : Int) : (s.cells v).set 7 (.int .i64 t) = ({ s with tm := t } : BX).cells v := rfl
/-- A cell of a box other than its list of sessions is written. -/
theorem BoxAt.put {w : World} {b : Nat} {v : Value} {s s' : BX} (h : BoxAt w b v s) (j : Nat) (u : Value) (hc : (s.cells v).set j u = s'.cells v) (hl : s'.l = s.l) (h18 : s'.cs.length = 18) :
    BoxAt (w.setCell ⟨b, j, none⟩ u) b v s' ∧ Chg b v w (w.setCell ⟨b, j, none⟩ u) v := by
  have hh : ∀ x, (w.setCell ⟨b, j, none⟩ u).heap[x]? = if x = b then some (.cells ((s.cells v).toArray.setIfInBounds j u) 68 (0, 0)) else w.heap[x]? := fun x => hget_set _ _ _ _ _ _ _ h.bk
  have hbel : Below b w (w.setCell ⟨b, j, none⟩ u) := (Below.refl b w).setCell (Nat.le_refl b) u
  have hg : w.grownBy (w.setCell ⟨b, j, none⟩ u) (some b) := ⟨hbel.os, hbel.tape, hbel.output, hbel.size, fun x _ hx => by rw [hh, if_neg (fun e => hx (by rw [e]))]⟩
  refine ⟨⟨by rw [hh, if_pos rfl, BX.setAt s s' v j u hc], by rw [hl]; exact h.own.kept hg (Or.inr h.ne), h.ne, h18⟩, ⟨hbel.os, hbel.tape, hbel.output, hbel.size, fun x _ hxb _ => by rw [hh, if_neg hxb], Or.inl rfl⟩⟩
def bump (cs : List Int) (k : Nat) : List Int := cs.set k (wrap64 (cs.getD k 0 + 1))
theorem bump_length (cs : List Int) (k : Nat) : (bump cs k).length = cs.length := by simp [bump]
theorem askW_bd (s : BX) (pr fa fp ta tp fg : Int) : 0 ≤ askW s pr fa fp ta tp fg ∧ askW s pr fa fp ta tp fg < 18 := by
  unfold askW; repeat' split <;> omega
theorem trW_bd (s : BX) (side pr fa fp ta tp : Int) (m : ByteArray) : 0 ≤ (trW s side pr fa fp ta tp m).what ∧ (trW s side pr fa fp ta tp m).what < 18 := by
  have e13 : 0 ≤ (noW 13).what ∧ (noW 13).what < 18 := by decide
  have e16 : 0 ≤ (noW 16).what ∧ (noW 16).what < 18 := by decide
  have e0 : (0 : Int) ≤ 0 ∧ (0 : Int) < 18 := by decide
  unfold trW
  split
  · exact e13
  · split
    · unfold trIn
      split
      · exact e16
      · split
        · exact e16
        · exact e0
    · unfold trOut
      split
      · exact e16
      · split
        · exact e16
        · split
          · exact e16
          · exact e0
theorem eFault_bd (ou side pr ta : Int) (m : ByteArray) : 0 ≤ eFault ou side pr ta m ∧ eFault ou side pr ta m < 18 := by
  unfold eFault; repeat' split <;> omega
theorem routeW_bd (s : BX) (side pr fa fp ta tp : Int) (m : ByteArray) : 0 ≤ (routeW s side pr fa fp ta tp m).what ∧ (routeW s side pr fa fp ta tp m).what < 18 := by
  have e16 : (0 : Int) ≤ 16 ∧ (16 : Int) < 18 := by decide
  have e17 : (0 : Int) ≤ 17 ∧ (17 : Int) < 18 := by decide
  have e0 : (0 : Int) ≤ 0 ∧ (0 : Int) < 18 := by decide
  unfold routeW
  split
  · unfold dFault; repeat' split <;> (constructor <;> simp_all)
  · split
    · exact trW_bd _ _ _ _ _ _ _ _
    · split
      · exact eFault_bd _ _ _ _ _
      split
      · unfold insW
        split
        · exact e16
        · split
          · exact askW_bd s pr fa fp ta tp (byteAt m 13)
          · split
            · unfold turnW
              split
              · exact e0
              · exact e17
            · exact e0
      · unfold outsW
        split
        · exact e16
        · split
          · exact e0
          · exact e16
theorem pFault_bd (h b : ByteArray) : 0 ≤ pFault h b ∧ pFault h b < 18 := by
  unfold pFault; repeat' split <;> omega
theorem handM_bd (s : BX) (side : Int) (raw : ByteArray) : 0 ≤ (handM s side raw).what ∧ (handM s side raw).what < 18 := by
  unfold handM
  split
  · exact (by decide : (0 : Int) ≤ 2 ∧ (2 : Int) < 18)
  · split
    · unfold rFault
      split
      · exact (by decide : (0 : Int) ≤ 3 ∧ (3 : Int) < 18)
      · exact pFault_bd _ _
    · split
      · exact (by decide : (0 : Int) ≤ 6 ∧ (6 : Int) < 18)
      · split
        · exact (by decide : (0 : Int) ≤ 7 ∧ (7 : Int) < 18)
        · split
          · exact (by decide : (0 : Int) ≤ 12 ∧ (12 : Int) < 18)
          · unfold wayH
            split
            · exact (by decide : (0 : Int) ≤ 0 ∧ (0 : Int) < 18)
            · exact routeW_bd _ _ _ _ _ _ _ _
theorem FrAt.put {w : World} {b : Nat} {v : Value} {s : BX} {fv : Value} {fr : Option (Int × ByteArray)} (h : FrAt w fv fr) (hb : BoxAt w b v s) (j : Nat) (u : Value) : FrAt (w.setCell ⟨b, j, none⟩ u) fv fr := by
  rcases fr with _ | ⟨sd, r⟩
  · exact h
  · obtain ⟨g, e, hg⟩ := h
    refine ⟨g, e, ?_⟩
    have hne : g ≠ b := fun e => by rw [e, hb.bk] at hg; simp at hg
    rw [Below.heap_setCell _ _ _ _ hne]
    exact hg
theorem FrAt.drew {w : World} {fv : Value} {fr : Option (Int × ByteArray)} (h : FrAt w fv fr) : FrAt w.drew fv fr := by
  rcases fr with _ | ⟨sd, r⟩
  · exact h
  · exact h
def recvS (s : BX) (H : HR) : BX := { s with l := H.l, cs := bump s.cs H.what.toNat }
set_option maxRecDepth 100000 in
set_option maxHeartbeats 4000000 in
theorem Receive_any {w : World} {b : Nat} {v : Value} {s : BX} (h : BoxAt w b v s) (hk : OKB s) (side : Int) (raw : ByteArray) (hTR : errB (byteAt raw 9) (raw.extract 20 raw.size) = false ∨ TrOK b s) :
    Calls Try.prog 15 #[.pointer (some ⟨b, 0, none⟩), .int .i64 side, .string raw] w fun e w' => ∃ fv, e = .returned (.tuple #[.int .i64 (handM s side raw).what, fv]) ∧ FrAt w' fv (handM s side raw).fr ∧ ∃ v', BoxAt w' b v' (recvS s (handM s side raw)) ∧ Chg b v w w' v' := by
  have HHA : Hid (∀ W, BoxAt W b v s → Calls Try.prog 30 #[.pointer (some ⟨b, 0, none⟩), .int .i64 side, .string raw] W fun e w' => ∃ fv, e = .returned (.tuple #[.int .i64 (handM s side raw).what, fv]) ∧ FrAt w' fv (handM s side raw).fr ∧ ∃ v', BoxAt w' b v' { s with l := (handM s side raw).l } ∧ Chg b v W w' v') := fun W hW => handle_any hW hk side raw hTR
  clear hTR
  obtain ⟨hw0, hw1⟩ := handM_bd s side raw
  generalize handM s side raw = H at HHA hw0 hw1 ⊢
  have HS : Hid (recvS s H = { s with l := H.l, cs := bump s.cs H.what.toNat }) := rfl
  generalize recvS s H = RS at HS ⊢
  obtain ⟨k, hk2⟩ := Int.eq_ofNat_of_zero_le hw0
  rw [hk2] at HHA HS hw1 ⊢
  clear hw0 hk2 hk
  have hk18 : k < 18 := by omega
  go_enter Try.func15, Try.ntmps15
  go_wp2_with fail
  refine (HHA.out _ h).mono ?_
  rintro e w1 ⟨fv, rfl, hfr, v1, hbx, hch⟩
  have hn18 : s.cs.length = 18 := hbx.n18
  have hcell : w1.cell? ⟨b, 8 + k, none⟩ = some (.int .i64 (s.cs.getD k 0)) := by
    simp only [World.cell?, hbx.bk]
    show ((({ s with l := H.l } : BX).cells v1).toArray)[8 + k]? = _
    rw [List.getElem?_toArray]
    unfold BX.cells
    rw [List.getElem?_append_left (by simp; omega), List.getElem?_append_right (by simp)]
    simp [List.getD_eq_getElem?_getD, List.getElem?_eq_getElem (show k < s.cs.length by omega)]
  have hfz : w1.frozen? ⟨b, 8 + k, none⟩ = false := hbx.get.2 _
  have HB : Hid (BoxAt w1 b v1 { s with l := H.l }) := hbx
  have HC : Hid (Chg b v w w1 v1) := hch
  have HF : Hid (FrAt w1 fv H.fr) := hfr
  clear hbx hch hfr h
  have hki : (k : Int) < 18 := by omega
  go_wp2_with fail
  go_region
  go_wp2_with fail
  go_ret2
  have hgd : s.cs.getD k 0 = s.cs[k] := by simp [List.getD_eq_getElem?_getD, List.getElem?_eq_getElem (show k < s.cs.length by omega)]
  have hset : (({ s with l := H.l } : BX).cells v1).set (8 + k) (.int .i64 (wrap64 (s.cs[k] + 1))) = RS.cells v1 := by
    rw [HS.out, Int.toNat_natCast]
    unfold bump
    rw [hgd]
    exact BX.setCount { s with l := H.l } v1 k (wrap64 (s.cs[k] + 1)) hn18 hk18
  obtain ⟨hb2, hc2⟩ := HB.out.put (s' := RS) (8 + k) (.int .i64 (wrap64 (s.cs[k] + 1))) hset (by rw [HS.out]) (by rw [HS.out]; exact (bump_length _ _).trans hn18)
  exact ⟨_, rfl, (HF.out.put HB.out _ _).drew, v1, hb2.call (Below.refl _ _).drew, (HC.out.trans hc2).below (Below.refl _ _).drew⟩
def tickS (s : BX) (n : Int) : BX := { s with tm := s.tm + n, l := s.l.filter (fun x => decide (s.tm + n < x.dl)) }
set_option maxRecDepth 100000 in
set_option maxHeartbeats 4000000 in
theorem Tick_any {w : World} {b : Nat} {v : Value} {s : BX} (h : BoxAt w b v s) (hk : OKB s) (n : Int) (h0 : 0 ≤ n) (h1 : n ≤ 1048576) :
    Calls Try.prog 26 #[.pointer (some ⟨b, 0, none⟩), .int .i64 n] w fun e w' => e = .returned (.int .i64 0) ∧ ∃ v', BoxAt w' b v' (tickS s n) ∧ Chg b v w w' v' := by
  have ht0 := hk.t0
  have ht1 := hk.t1
  have hl : s.l.length ≤ 1000 := by have := hk.len; omega
  obtain ⟨⟨a0, a1, a2, a3, a4, a5, a6, a7, a8⟩, af⟩ := h.get
  have hwr : wrap64 (s.tm + n) = s.tm + n := g_wrap64 _ (by omega) (by omega)
  obtain ⟨hb2, hc2⟩ := h.put (s' := { s with tm := s.tm + n }) 7 (.int .i64 (s.tm + n)) (BX.setTime s v (s.tm + n)) rfl h.n18
  have HB : Hid (BoxAt (w.setCell ⟨b, 7, none⟩ (.int .i64 (s.tm + n))) b v { s with tm := s.tm + n }) := hb2
  have HC : Hid (Chg b v w (w.setCell ⟨b, 7, none⟩ (.int .i64 (s.tm + n))) v) := hc2
  clear h hb2 hc2 hk
  go_enter Try.func26, Try.ntmps26
  go_wp2_with fail
  clear a0 a1 a2 a3 a4 a5 a6 a7 a8 af
  generalize w.setCell ⟨b, 7, none⟩ (.int .i64 (s.tm + n)) = w1 at HB HC ⊢
  obtain ⟨⟨a0, a1, a2, a3, a4, a5, a6, a7, a8⟩, af⟩ := HB.out.get
  simp only at a7
  go_region_held3 (fun w' => w'.cell? ⟨b, 7, none⟩ = some (.int .i64 (s.tm + n))) (simp [*]) (first | (go_at_call 34; refine (bExpire (HB.out.call (Below.refl _ _).drew) hl _).mono ?_; rintro e w2 ⟨rfl, v2, hbx2, hch2⟩; have a7 := hbx2.get.1.2.2.2.2.2.2.2.1; simp only at a7))
  go_wp2_with fail
  go_ret
  exact ⟨rfl, v2, hbx2, (HC.out.below (Below.refl _ _).drew).trans hch2⟩
end Go.Proofs.Ytapahmhpjmnebab
