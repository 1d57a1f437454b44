/- Contracts of package gateway: Receive, Tick. Own work. -/
import Derived.Test.YtfkjobiapjhacabGreatHa
namespace Go.Proofs.YtfkjobiapjhacabGreat
open Go.RowKit
attribute [local go_sem ↓] Go.wp_at_zero Go.wp_at_succ

structure HR where
  what : Int
  fr : Option (Int × ByteArray)
  l : List SD
def wholeW (s : BX) (side : Int) (raw : ByteArray) : WYD := routeW s side (byteAt raw 9) (addrAt raw 12) (portsOf (byteAt raw 9) (raw.extract 20 raw.size)).1 (addrAt raw 16) (portsOf (byteAt raw 9) (raw.extract 20 raw.size)).2 (raw.extract 20 raw.size)
def wholeL (s : BX) (side : Int) (raw : ByteArray) : List SD := routeL s side (byteAt raw 9) (addrAt raw 12) (portsOf (byteAt raw 9) (raw.extract 20 raw.size)).1 (addrAt raw 16) (portsOf (byteAt raw 9) (raw.extract 20 raw.size)).2 (raw.extract 20 raw.size)
def wayH (raw : ByteArray) (t : WYD) (l : List SD) : HR := if t.what = 0 then ⟨0, some (t.side, onHead (raw.extract 0 20) t.xa t.ya ++ t.m), l⟩ else ⟨t.what, none, l⟩
def handM (s : BX) (side : Int) (raw : ByteArray) : HR :=
  if ¬ side = 0 ∧ ¬ side = 1 then ⟨2, none, s.l⟩
  else if ¬ rFault raw = 0 then ⟨rFault raw, none, s.l⟩
  else if mayB s side (addrAt raw 12) (addrAt raw 16) = false then ⟨6, none, s.l⟩
  else if ¬ (byteAt raw 9 = 1 ∨ byteAt raw 9 = 6 ∨ byteAt raw 9 = 17) then ⟨7, none, s.l⟩
  else if pieceB (raw.extract 0 20) = true then ⟨12, none, s.l⟩
  else wayH raw (wholeW s side raw) (wholeL s side raw)
theorem BX.setAt (s s' : BX) (v wv : Value) (j : Nat) (u : Value) (h : (s.cells v wv).set j u = s'.cells v wv) : (s.cells v wv).toArray.setIfInBounds j u = (s'.cells v wv).toArray := by
  apply Array.toList_inj.1
  simpa using h
theorem BX.setCount (s : BX) (v wv : Value) (k : Nat) (c : Int) (h : s.cs.length = 18) (hk : k < 18) : (s.cells v wv).set (8 + k) (.int .i64 c) = ({ s with cs := s.cs.set k c } : BX).cells v wv := by
  unfold BX.cells
  rw [List.set_append_left _ _ (by simp; omega), List.set_append_right _ _ (by simp)]
  simp [List.map_set]
theorem BX.setTime (s : BX) (v wv : Value) (t : Int) : (s.cells v wv).set 7 (.int .i64 t) = ({ s with tm := t } : BX).cells v wv := rfl
/-- A cell of a box other than its lists is written. -/
theorem BoxAt.put {w : World} {b : Nat} {v : Value} {s s' : BX} (h : BoxAt w b v s) (j : Nat) (u : Value) (hc : ∀ wv, (s.cells v wv).set j u = s'.cells v wv) (hl : s'.l = s.l) (hwl : s'.wl = s.wl) (h18 : s'.cs.length = 18) :
    BoxAt (w.setCell ⟨b, j, none⟩ u) b v s' ∧ Chg b v w (w.setCell ⟨b, j, none⟩ u) v := by
  obtain ⟨wv, hbk, hwt⟩ := h.bk
  have hh : ∀ x, (w.setCell ⟨b, j, none⟩ u).heap[x]? = if x = b then some (.cells ((s.cells v wv).toArray.setIfInBounds j u) 78 (0, 0)) else w.heap[x]? := fun x => hget_set _ _ _ _ _ _ _ hbk
  have hbel : Below b w (w.setCell ⟨b, j, none⟩ u) := (Below.refl b w).setCell (Nat.le_refl b) u
  have hg : w.grownBy (w.setCell ⟨b, j, none⟩ u) (some b) := ⟨hbel.os, hbel.tape, hbel.output, hbel.size, fun x _ hx => by rw [hh, if_neg (fun e => hx (by rw [e]))]⟩
  refine ⟨⟨⟨wv, by rw [hh, if_pos rfl, BX.setAt s s' v wv j u (hc wv)], by rw [hwl]; exact hwt.kept (KeptT.set hbk (by decide)) (KeptT.set hbk (by decide))⟩, by rw [hl]; exact h.own.kept hg (Or.inr h.ne), h.ne, h18⟩, ⟨hbel.os, hbel.tape, hbel.output, hbel.size, fun x _ hxb _ => by rw [hh, if_neg hxb], Or.inl rfl⟩⟩
def bump (cs : List Int) (k : Nat) : List Int := cs.set k (wrap64 (cs.getD k 0 + 1))
theorem bump_length (cs : List Int) (k : Nat) : (bump cs k).length = cs.length := by simp [bump]
theorem askW_bd (s : BX) (pr fa fp ta tp fg : Int) : 0 ≤ askW s pr fa fp ta tp fg ∧ askW s pr fa fp ta tp fg < 18 := by
  unfold askW; repeat' split <;> omega
theorem trW_bd (s : BX) (side pr fa fp ta tp : Int) (m : ByteArray) : 0 ≤ (trW s side pr fa fp ta tp m).what ∧ (trW s side pr fa fp ta tp m).what < 18 := by
  have e13 : 0 ≤ (noW 13).what ∧ (noW 13).what < 18 := by decide
  have e16 : 0 ≤ (noW 16).what ∧ (noW 16).what < 18 := by decide
  have e0 : (0 : Int) ≤ 0 ∧ (0 : Int) < 18 := by decide
  unfold trW
  split
  · exact e13
  · split
    · unfold trIn
      split
      · exact e16
      · split
        · exact e16
        · exact e0
    · unfold trOut
      split
      · exact e16
      · split
        · exact e16
        · split
          · exact e16
          · exact e0
theorem eFault_bd (ou side pr ta : Int) (m : ByteArray) : 0 ≤ eFault ou side pr ta m ∧ eFault ou side pr ta m < 18 := by
  unfold eFault; repeat' split <;> omega
theorem routeW_bd (s : BX) (side pr fa fp ta tp : Int) (m : ByteArray) : 0 ≤ (routeW s side pr fa fp ta tp m).what ∧ (routeW s side pr fa fp ta tp m).what < 18 := by
  have e16 : (0 : Int) ≤ 16 ∧ (16 : Int) < 18 := by decide
  have e17 : (0 : Int) ≤ 17 ∧ (17 : Int) < 18 := by decide
  have e0 : (0 : Int) ≤ 0 ∧ (0 : Int) < 18 := by decide
  unfold routeW
  split
  · unfold dFault; repeat' split <;> (constructor <;> simp_all)
  · split
    · exact trW_bd _ _ _ _ _ _ _ _
    · split
      · exact eFault_bd _ _ _ _ _
      split
      · unfold insW
        split
        · exact e16
        · split
          · exact askW_bd s pr fa fp ta tp (byteAt m 13)
          · split
            · unfold turnW
              split
              · exact e0
              · exact e17
            · exact e0
      · unfold outsW
        split
        · exact e16
        · split
          · exact e0
          · exact e16
theorem pFault_bd (h b : ByteArray) : 0 ≤ pFault h b ∧ pFault h b < 18 := by
  unfold pFault; repeat' split <;> omega
theorem passH_bd (s : BX) (side : Int) (l : List KP) : 0 ≤ (passH s side l).what ∧ (passH s side l).what < 18 := by
  have h13 : (0 : Int) ≤ 13 ∧ (13 : Int) < 18 := by decide
  have h0 : (0 : Int) ≤ 0 ∧ (0 : Int) < 18 := by decide
  unfold passH
  split
  · exact h0
  · unfold passW routeG
    split
    · exact h13
    · exact routeW_bd _ _ _ _ _ _ _ _
theorem faultP_bd (wl : List PD) (d : PD) (p : KP) (ps gl : Int) : 0 ≤ faultP wl d p ps gl ∧ faultP wl d p ps gl < 18 := by
  unfold faultP; repeat' split <;> omega
theorem takeP_bd (wl : List PD) (side : Int) (p : KP) (ps gl tm : Int) : 0 ≤ (takeP wl side p ps gl tm).what ∧ (takeP wl side p ps gl tm).what < 18 := by
  have h9 : (0 : Int) ≤ 9 ∧ (9 : Int) < 18 := by decide
  have h0 : (0 : Int) ≤ 0 ∧ (0 : Int) < 18 := by decide
  have h1 : (0 : Int) ≤ 1 ∧ (1 : Int) < 18 := by decide
  unfold takeP
  split
  · exact h9
  · split
    · exact faultP_bd _ _ _ _ _
    · split
      · exact h0
      · exact h1
theorem handG_bd (s : BX) (side : Int) (raw : ByteArray) : 0 ≤ (handG s side raw).what ∧ (handG s side raw).what < 18 := by
  unfold handG
  split
  · exact (by decide : (0 : Int) ≤ 2 ∧ (2 : Int) < 18)
  · split
    · unfold rFault
      split
      · exact (by decide : (0 : Int) ≤ 3 ∧ (3 : Int) < 18)
      · exact pFault_bd _ _
    · split
      · exact (by decide : (0 : Int) ≤ 6 ∧ (6 : Int) < 18)
      · split
        · exact (by decide : (0 : Int) ≤ 7 ∧ (7 : Int) < 18)
        · split
          · unfold tookH
            split
            · exact passH_bd _ _ _
            · exact takeP_bd _ _ _ _ _ _
          · exact passH_bd _ _ _
theorem FrsAt.put {w : World} {b : Nat} {v : Value} {s : BX} {fv : Value} {fr : List (Int × ByteArray)} (h : FrsAt w fv fr) (hb : BoxAt w b v s) (j : Nat) (u : Value) : FrsAt (w.setCell ⟨b, j, none⟩ u) fv fr := by
  obtain ⟨wv, hbk, -⟩ := hb.bk
  exact LsAt.kept h (KeptT.set hbk (by decide))
theorem FrsAt.drew {w : World} {fv : Value} {fr : List (Int × ByteArray)} (h : FrsAt w fv fr) : FrsAt w.drew fv fr := LsAt.keep h (Below.refl _ _).drew
def recvG (s : BX) (H : HG) : BX := { s with l := H.l, wl := H.wl, cs := bump s.cs H.what.toNat }
set_option maxRecDepth 100000 in
set_option maxHeartbeats 4000000 in
theorem Receive_all {w : World} {b : Nat} {v : Value} {s : BX} (h : BoxAt w b v s) (hk : OKB s) (side : Int) (raw : ByteArray) (hTR : pieceB (raw.extract 0 20) = false → errB (byteAt raw 9) (raw.extract 20 raw.size) = false ∨ TrOK b s) (hTK : pieceB (raw.extract 0 20) = true → TkOK b s ∧ ∀ wl, TrOK b { s with wl := wl }) :
    Calls Tryz.prog 21 #[.pointer (some ⟨b, 0, none⟩), .int .i64 side, .string raw] w fun e w' => ∃ fv, e = .returned (.tuple #[.int .i64 (handG s side raw).what, fv]) ∧ FrsAt w' fv (handG s side raw).frs ∧ ∃ v', BoxAt w' b v' (recvG s (handG s side raw)) ∧ Chg b v w w' v' := by
  have HHA : Hid (∀ W, BoxAt W b v s → Calls Tryz.prog 39 #[.pointer (some ⟨b, 0, none⟩), .int .i64 side, .string raw] W fun e w' => ∃ fv, e = .returned (.tuple #[.int .i64 (handG s side raw).what, fv]) ∧ FrsAt w' fv (handG s side raw).frs ∧ ∃ v', BoxAt w' b v' { s with l := (handG s side raw).l, wl := (handG s side raw).wl } ∧ Chg b v W w' v') := fun W hW => handle_any hW hk side raw hTR hTK
  clear hTR hTK
  obtain ⟨hw0, hw1⟩ := handG_bd s side raw
  generalize handG s side raw = H at HHA hw0 hw1 ⊢
  have HS : Hid (recvG s H = { s with l := H.l, wl := H.wl, cs := bump s.cs H.what.toNat }) := rfl
  generalize recvG s H = RS at HS ⊢
  obtain ⟨k, hk2⟩ := Int.eq_ofNat_of_zero_le hw0
  rw [hk2] at HHA HS hw1 ⊢
  clear hw0 hk2 hk
  have hk18 : k < 18 := by omega
  go_enter Tryz.func21, Tryz.ntmps21
  go_wp2_with fail
  refine (HHA.out _ h).mono ?_
  rintro e w1 ⟨fv, rfl, hfr, v1, hbx, hch⟩
  have hn18 : s.cs.length = 18 := hbx.n18
  have hcell : w1.cell? ⟨b, 8 + k, none⟩ = some (.int .i64 (s.cs.getD k 0)) := by
    obtain ⟨wv, hbk, -⟩ := hbx.bk
    simp only [World.cell?, hbk]
    show ((({ s with l := H.l, wl := H.wl } : BX).cells v1 wv).toArray)[8 + k]? = _
    rw [List.getElem?_toArray]
    unfold BX.cells
    rw [List.getElem?_append_left (by simp; omega), List.getElem?_append_right (by simp)]
    simp [List.getD_eq_getElem?_getD, List.getElem?_eq_getElem (show k < s.cs.length by omega)]
  have hfz : w1.frozen? ⟨b, 8 + k, none⟩ = false := hbx.get.2 _
  have HB : Hid (BoxAt w1 b v1 { s with l := H.l, wl := H.wl }) := hbx
  have HC : Hid (Chg b v w w1 v1) := hch
  have HF : Hid (FrsAt w1 fv H.frs) := hfr
  clear hbx hch hfr h
  have hki : (k : Int) < 18 := by omega
  go_wp2_with fail
  go_region
  go_wp2_with fail
  go_ret2
  have hgd : s.cs.getD k 0 = s.cs[k] := by simp [List.getD_eq_getElem?_getD, List.getElem?_eq_getElem (show k < s.cs.length by omega)]
  have hset : ∀ wv, (({ s with l := H.l, wl := H.wl } : BX).cells v1 wv).set (8 + k) (.int .i64 (wrap64 (s.cs[k] + 1))) = RS.cells v1 wv := fun wv => by
    rw [HS.out, Int.toNat_natCast]
    unfold bump
    rw [hgd]
    exact BX.setCount { s with l := H.l, wl := H.wl } v1 wv k (wrap64 (s.cs[k] + 1)) hn18 hk18
  obtain ⟨hb2, hc2⟩ := HB.out.put (s' := RS) (8 + k) (.int .i64 (wrap64 (s.cs[k] + 1))) hset (by rw [HS.out]) (by rw [HS.out]) (by rw [HS.out]; exact (bump_length _ _).trans hn18)
  exact ⟨_, rfl, (HF.out.put HB.out _ _).drew, v1, hb2.call (Below.refl _ _).drew, (HC.out.trans hc2).below (Below.refl _ _).drew⟩
theorem routeW_what (s : BX) (side pr fa fp ta tp : Int) (m : ByteArray) (hp : pr = 1 ∨ pr = 6 ∨ pr = 17) (hT : errB pr m = false ∨ (dFault pr fa fp ta tp m = 0 → (trW s side pr fa fp ta tp m).what = 0 → (trW s side pr fa fp ta tp m).m.size = m.size)) (h : (routeW s side pr fa fp ta tp m).what = 0) : (routeW s side pr fa fp ta tp m).m.size = m.size := by
  unfold routeW at h ⊢
  by_cases h0 : dFault pr fa fp ta tp m = 0
  · rw [if_neg (by simp [h0])] at h ⊢
    by_cases hE : errB pr m = true
    · rw [if_pos hE] at h ⊢
      rcases hT with h1 | h1
      · rw [h1] at hE; exact absurd hE (by decide)
      · exact h1 h0 h
    · rw [if_neg hE] at h ⊢
      obtain ⟨r1, r2⟩ := formed_room h0 hp
      have hb : ∀ xa xp ya yp, (btwM pr m xa xp ya yp).size = m.size := fun xa xp ya yp => btwM_size xa xp ya yp r2 r1
      split at h
      · rename_i h2
        exact absurd h h2.2
      · rename_i h2
        rw [if_neg h2]
        split at h
        · rename_i h3
          rw [if_pos h3]
          unfold insW at h ⊢
          split at h
          · exact absurd h (by decide)
          · rename_i h4
            rw [if_neg h4]
            split at h
            · rename_i h5
              exact absurd h h5
            · rename_i h5
              rw [if_neg h5]
              split at h
              · rename_i h6
                rw [if_pos h6]
                unfold turnW at h ⊢
                split at h
                · rename_i h7
                  rw [if_pos h7]
                  exact hb _ _ _ _
                · exact absurd h (by decide)
              · rename_i h6
                rw [if_neg h6]
                exact hb _ _ _ _
        · rename_i h3
          rw [if_neg h3]
          unfold outsW at h ⊢
          rcases hi : innerI pr tp s.l with _ | x
          · rw [hi] at h; exact absurd (show (16 : Int) = 0 from h) (by decide)
          · rw [hi] at h
            simp only at h ⊢
            split at h
            · rename_i h4
              rw [if_pos h4]
              exact hb _ _ _ _
            · exact absurd h (by decide)
  · rw [if_pos h0] at h
    exact absurd h h0
theorem passH_one (s : BX) (side : Int) (raw : ByteArray) (hz : raw.size ≤ 160) (hp : byteAt raw 9 = 1 ∨ byteAt raw 9 = 6 ∨ byteAt raw 9 = 17) (hT : errB (byteAt raw 9) (raw.extract 20 raw.size) = false ∨ ∃ b, TrOK b s) : passH s side [pkOf raw] = ⟨(wayH raw (wholeW s side raw) (wholeL s side raw)).what, (wayH raw (wholeW s side raw) (wholeL s side raw)).fr.toList, (wayH raw (wholeW s side raw) (wholeL s side raw)).l, s.wl⟩ := by
  have e2 : (⟨#[]⟩ : ByteArray) ++ raw.extract 20 raw.size = raw.extract 20 raw.size := bl_inj (by simp [bl])
  have e : wOf [pkOf raw] = ⟨byteAt raw 9, addrAt raw 12, addrAt raw 16, raw.extract 20 raw.size⟩ := by
    show (⟨byteAt raw 9, addrAt raw 12, addrAt raw 16, ⟨#[]⟩ ++ raw.extract 20 raw.size⟩ : WD) = _
    rw [e2]
  have eW : passW s side [pkOf raw] = wholeW s side raw := by
    unfold passW wholeW routeG
    rw [e]
    exact if_neg (fun h => by simp at h)
  have eL : passL' s side [pkOf raw] = wholeL s side raw := by
    unfold passL' wholeL
    rw [e]
  have hsz : (wholeW s side raw).what = 0 → (wholeW s side raw).m.size = (raw.extract 20 raw.size).size := fun h => by
    refine routeW_what s side _ _ _ _ _ _ hp ?_ h
    rcases hT with h1 | ⟨b, h1⟩
    · exact Or.inl h1
    · rcases hE : errB (byteAt raw 9) (raw.extract 20 raw.size) with _ | _
      · exact Or.inl rfl
      · exact Or.inr fun h0 => (h1 side _ _ _ _ _ _ false (by rw [ByteArray.size_extract]; omega) hE (addrAt_bd _ _).1 (addrAt_bd _ _).2 (addrAt_bd _ _).1 (addrAt_bd _ _).2 h0).1.2
  unfold passH wayH
  rw [eW, eL]
  generalize wholeW s side raw = W at hsz
  generalize wholeL s side raw = L
  by_cases h : W.what = 0
  · rw [if_pos h, if_pos h]
    have h2 := hsz h
    have e3 : onAll W.xa W.ya W.m [pkOf raw] = [onHead (raw.extract 0 20) W.xa W.ya ++ W.m] := by
      show [onHead (raw.extract 0 20) W.xa W.ya ++ W.m.extract 0 (min (raw.extract 20 raw.size).size W.m.size)] = _
      rw [← h2, Nat.min_self]
      have : W.m.extract 0 W.m.size = W.m := bl_inj (by simp [bl])
      rw [this]
    rw [e3]
    rfl
  · rw [if_neg h, if_neg h]
    rfl
/-- For a packet that is no piece. -/
theorem handG_np (s : BX) (side : Int) (raw : ByteArray) (hn : pieceB (raw.extract 0 20) = false) (hT : errB (byteAt raw 9) (raw.extract 20 raw.size) = false ∨ ∃ b, TrOK b s) : handG s side raw = ⟨(handM s side raw).what, (handM s side raw).fr.toList, (handM s side raw).l, s.wl⟩ := by
  unfold handG handM
  by_cases c0 : ¬ side = 0 ∧ ¬ side = 1
  · rw [if_pos c0, if_pos c0]; rfl
  · rw [if_neg c0, if_neg c0]
    by_cases c1 : ¬ rFault raw = 0
    · rw [if_pos c1, if_pos c1]; rfl
    · rw [if_neg c1, if_neg c1]
      by_cases c2 : mayB s side (addrAt raw 12) (addrAt raw 16) = false
      · rw [if_pos c2, if_pos c2]; rfl
      · rw [if_neg c2, if_neg c2]
        have hn2 : ¬ pieceB (raw.extract 0 20) = true := by rw [hn]; decide
        by_cases c3 : byteAt raw 9 = 1 ∨ byteAt raw 9 = 6 ∨ byteAt raw 9 = 17
        · have hc3 : ¬ ¬ (byteAt raw 9 = 1 ∨ byteAt raw 9 = 6 ∨ byteAt raw 9 = 17) := fun h => h c3
          rw [if_neg hc3, if_neg hn2, if_neg hc3, if_neg hn2]
          have hz : raw.size ≤ 160 := by
            unfold rFault at c1
            split at c1
            · omega
            · omega
          exact passH_one s side raw hz c3 hT
        · rw [if_pos c3, if_pos c3]; rfl
def recvS (s : BX) (H : HR) : BX := { s with l := H.l, cs := bump s.cs H.what.toNat }
theorem Receive_any {w : World} {b : Nat} {v : Value} {s : BX} (h : BoxAt w b v s) (hk : OKB s) (side : Int) (raw : ByteArray) (hTR : errB (byteAt raw 9) (raw.extract 20 raw.size) = false ∨ TrOK b s) (hn : pieceB (raw.extract 0 20) = false) :
    Calls Tryz.prog 21 #[.pointer (some ⟨b, 0, none⟩), .int .i64 side, .string raw] w fun e w' => ∃ fv, e = .returned (.tuple #[.int .i64 (handM s side raw).what, fv]) ∧ FrAt w' fv (handM s side raw).fr ∧ ∃ v', BoxAt w' b v' (recvS s (handM s side raw)) ∧ Chg b v w w' v' := by
  have h1 := Receive_all h hk side raw (fun _ => hTR) (fun h2 => by rw [hn] at h2; exact absurd h2 (by decide))
  have h3 := handG_np s side raw hn (by rcases hTR with h | h; exact Or.inl h; exact Or.inr ⟨b, h⟩)
  rw [h3] at h1
  exact h1
def tickS (s : BX) (n : Int) : BX := { s with tm := s.tm + n, l := s.l.filter (fun x => decide (s.tm + n < x.dl)), wl := s.wl.filter (fun d => decide (s.tm + n < d.dl)) }
set_option maxRecDepth 100000 in
set_option maxHeartbeats 4000000 in
theorem Tick_any {w : World} {b : Nat} {v : Value} {s : BX} (h : BoxAt w b v s) (hk : OKB s) (n : Int) (h0 : 0 ≤ n) (h1 : n ≤ 1048576) (hw : s.wl.length ≤ 1000 := by exact Nat.zero_le _) :
    Calls Tryz.prog 33 #[.pointer (some ⟨b, 0, none⟩), .int .i64 n] w fun e w' => e = .returned (.int .i64 0) ∧ ∃ v', BoxAt w' b v' (tickS s n) ∧ Chg b v w w' v' := by
  have ht0 := hk.t0
  have ht1 := hk.t1
  have hl : s.l.length ≤ 1000 := by have := hk.len; omega
  obtain ⟨⟨a0, a1, a2, a3, a4, a5, a6, a7, a8⟩, af⟩ := h.get
  have hwr : wrap64 (s.tm + n) = s.tm + n := g_wrap64 _ (by omega) (by omega)
  obtain ⟨hb2, hc2⟩ := h.put (s' := { s with tm := s.tm + n }) 7 (.int .i64 (s.tm + n)) (fun wv => BX.setTime s v wv (s.tm + n)) rfl rfl h.n18
  have HB : Hid (BoxAt (w.setCell ⟨b, 7, none⟩ (.int .i64 (s.tm + n))) b v { s with tm := s.tm + n }) := hb2
  have HC : Hid (Chg b v w (w.setCell ⟨b, 7, none⟩ (.int .i64 (s.tm + n))) v) := hc2
  clear h hb2 hc2 hk
  go_enter Tryz.func33, Tryz.ntmps33
  go_wp2_with fail
  clear a0 a1 a2 a3 a4 a5 a6 a7 a8 af
  generalize w.setCell ⟨b, 7, none⟩ (.int .i64 (s.tm + n)) = w1 at HB HC ⊢
  obtain ⟨⟨a0, a1, a2, a3, a4, a5, a6, a7, a8⟩, af⟩ := HB.out.get
  simp only at a7
  go_region_held3 (fun w' => w'.cell? ⟨b, 7, none⟩ = some (.int .i64 (s.tm + n))) (simp [*]) (first | (go_at_call 42; refine (bExpire (HB.out.call (Below.refl _ _).drew) hl _).mono ?_; rintro e w2 ⟨rfl, v2, hbx2, hch2⟩; have a7 := hbx2.get.1.2.2.2.2.2.2.2.1; simp only at a7))
  have HB2 : Hid (BoxAt w2 b v2 { s with tm := s.tm + n, l := s.l.filter (fun x => decide (s.tm + n < x.dl)) }) := hbx2
  have HC2 : Hid (Chg b v w w2 v2) := (HC.out.below (Below.refl _ _).drew).trans hch2
  clear hbx2 hch2 HB HC
  go_wp2_with fail
  go_region_held3 (fun w' => w'.cell? ⟨b, 7, none⟩ = some (.int .i64 (s.tm + n))) (simp [*]) (first | (go_at_call 43; refine (wExpire (HB2.out.call (Below.refl _ _).drew) hw _).mono ?_; rintro e w3 ⟨rfl, hbx3, hch3⟩; have a7 := hbx3.get.1.2.2.2.2.2.2.2.1; simp only at a7))
  go_wp2_with fail
  go_ret
  exact ⟨rfl, v2, hbx3, (HC2.out.below (Below.refl _ _).drew).trans hch3⟩
end Go.Proofs.YtfkjobiapjhacabGreat
