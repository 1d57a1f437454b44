/- Poison, at a box. Own work. -/
import Derived.Test.YtfkjobiapjhacabGreatQe
namespace Go.Proofs.YtfkjobiapjhacabGreat
open Go.RowKit
attribute [local go_sem ↓] Go.wp_at_zero Go.wp_at_succ

/-- The pieces of Poison: two that are all, and one unlike the first. -/
structure PZ (h i f : Int) (M X Y X' : ByteArray) : Prop where
  h0 : 167772161 ≤ h
  h1 : h ≤ 167773000
  i0 : 1 ≤ i
  i1 : i ≤ 65535
  f0 : 134744064 ≤ f
  f1 : f ≤ 134744300
  m : M = udpB h i f i ⟨#[97, 98, 99, 100, 101, 102, 103, 104, 105, 106, 107, 108, 109, 110, 111, 112]⟩
  x : X.size = 16
  y : Y.size = 8
  x' : X'.size = 16
  ne : ¬ X = X'
  xy : X ++ Y = M
def pX (h f : Int) (X : ByteArray) : PK := ⟨7, 1, 0, 9, 17, h, f, X⟩
def pY (h f : Int) (Y : ByteArray) : PK := ⟨7, 0, 16, 9, 17, h, f, Y⟩
def kX (h f : Int) (X : ByteArray) : KP := ⟨hdOf (pX h f X), h, f, 17, X⟩
def kY (h f : Int) (Y : ByteArray) : KP := ⟨hdOf (pY h f Y), h, f, 17, Y⟩
theorem pX_ok {h i f : Int} {M X Y X' : ByteArray} (z : PZ h i f M X Y X') (B : ByteArray) (hB : B.size = 16) : PCOK 7 1 0 9 17 h f B := by
  obtain ⟨h0, h1, i0, i1, f0, f1, -, -, -, -, -, -⟩ := z
  exact ⟨by decide, by decide, by decide, by decide, by decide, by decide, by decide, by decide, by decide, by omega, by omega, by omega, by omega, by omega, by omega, fun _ => by omega⟩
theorem pY_ok {h i f : Int} {M X Y X' : ByteArray} (z : PZ h i f M X Y X') : PCOK 7 0 2 9 17 h f Y := by
  obtain ⟨h0, h1, i0, i1, f0, f1, -, -, hy, -, -, -⟩ := z
  exact ⟨by decide, by decide, by decide, by decide, by decide, by decide, by decide, by decide, by decide, by omega, by omega, by omega, by omega, by omega, by omega, fun e => absurd e (by decide)⟩
theorem may_z {h i f : Int} {M X Y X' : ByteArray} (z : PZ h i f M X Y X') (tm : Int) (cs : List Int) (wl : List PD) : mayB (stV tm cs wl) 0 h f = true := by
  have := z.h0; have := z.h1; have := z.f0; have := z.f1
  exact may_in (stV tm cs wl) rfl rfl h f (by omega) (by omega) (by omega)
theorem hX {h i f : Int} {M X Y X' : ByteArray} (z : PZ h i f M X Y X') (B : ByteArray) (hB : B.size = 16) (tm : Int) (cs : List Int) (wl : List PD) : HdOK (hdOf (pX h f B)) 0 1 7 ∧ handG (stV tm cs wl) 0 (rawP (pX h f B)) = tookH (stV tm cs wl) 0 (takeP wl 0 (kX h f B) 400 700 tm) := by
  have h1 := piece_hand (stV tm cs wl) 0 (Or.inl rfl) (pX_ok z B hB) (Or.inl rfl) (may_z z tm cs wl)
  rw [show (8 * (0 : Int)) = 0 from rfl] at h1
  unfold kX pX
  exact h1
theorem hY {h i f : Int} {M X Y X' : ByteArray} (z : PZ h i f M X Y X') (tm : Int) (cs : List Int) (wl : List PD) : HdOK (hdOf (pY h f Y)) 2 0 7 ∧ handG (stV tm cs wl) 0 (rawP (pY h f Y)) = tookH (stV tm cs wl) 0 (takeP wl 0 (kY h f Y) 400 700 tm) := by
  have h1 := piece_hand (stV tm cs wl) 0 (Or.inl rfl) (pY_ok z) (Or.inr (by decide)) (may_z z tm cs wl)
  rw [show (8 * (2 : Int)) = 16 from rfl] at h1
  unfold kY pY
  exact h1
theorem kin_X {h i f : Int} {M X Y X' : ByteArray} (z : PZ h i f M X Y X') (B : ByteArray) (hB : B.size = 16) : kin (kX h f B) (kX h f X) :=
  ⟨rfl, rfl, rfl, (hX z B hB 0 [] []).1.nu.trans (hX z X z.x 0 [] []).1.nu.symm⟩
theorem kin_Y {h i f : Int} {M X Y X' : ByteArray} (z : PZ h i f M X Y X') : kin (kY h f Y) (kX h f X) := ⟨rfl, rfl, rfl, (hY z 0 [] []).1.nu.trans (hX z X z.x 0 [] []).1.nu.symm⟩
def dX (h f : Int) (X : ByteArray) (dl : Int) : PD := dOf (kX h f X) false dl [kX h f X]
def dP (h f : Int) (X : ByteArray) (dl : Int) : PD := dOf (kX h f X) true dl []
theorem z_first (b : Nat) {h i f : Int} {M X Y X' : ByteArray} (z : PZ h i f M X Y X') (tm : Int) (cs : List Int) (hg : Good (stV tm cs [])) : RecvAt b (stV tm cs []) 0 (rawP (pX h f X)) 1 none (stV tm (bump cs 1) [dX h f X (tm + 6)]) ∧ Good (stV tm (bump cs 1) [dX h f X (tm + 6)]) := by
  obtain ⟨hd, hh⟩ := hX z X z.x tm cs []
  have hx := z.x
  have e := take_first (kX h f X) 400 700 tm (by show moreB (hdOf (pX h f X)) = true; rw [hd.mo]; rfl) (by unfold endI; show placeI (hdOf (pX h f X)) + (X.size : Int) ≤ 65535; rw [hd.pl]; omega) (by unfold costK; show (X.size : Int) + 16 ≤ 400; omega) (by unfold costK; show (X.size : Int) + 16 ≤ 700; omega)
  rw [e, tookH_no _ _ _ _ (by decide)] at hh
  exact recv_no b _ hg 0 _ 1 _ _ hh
theorem z_unlike (b : Nat) {h i f : Int} {M X Y X' : ByteArray} (z : PZ h i f M X Y X') (tm dl : Int) (cs : List Int) (hg : Good (stV tm cs [dX h f X dl])) : RecvAt b (stV tm cs [dX h f X dl]) 0 (rawP (pX h f X')) 9 none (stV tm (bump cs 9) [dP h f X (tm + 6)]) ∧ Good (stV tm (bump cs 9) [dP h f X (tm + 6)]) := by
  obtain ⟨hd, hh⟩ := hX z X' z.x' tm cs [dX h f X dl]
  have hd2 := (hX z X z.x tm cs []).1
  have hx := z.x
  have hx' := z.x'
  have e1 : hasP [kX h f X] (kX h f X') = false := by
    unfold hasP likeB
    have : (X == X') = false := by
      cases hb : X == X'
      · rfl
      · exfalso
        rw [← ba_beq] at hb
        rw [ByteArray.toList_eq, ByteArray.toList_eq] at hb
        exact z.ne (bl_inj (by unfold bl; exact eq_of_beq hb))
    have e : ((kX h f X).b == (kX h f X').b) = false := this
    simp [e]
  have e2 : clashB [kX h f X] (kX h f X') = true := by
    unfold clashB overB endI
    have a1 : placeI (kX h f X).h = 0 := hd2.pl
    have a2 : placeI (kX h f X').h = 0 := hd.pl
    have a3 : (kX h f X).b.size = 16 := hx
    have a4 : (kX h f X').b.size = 16 := hx'
    simp [a1, a2, a3, a4]
  have e := take_overlap (kin_X z X' z.x') dl [kX h f X] e1 e2 400 700 tm
  rw [show takeP [dX h f X dl] 0 (kX h f X') 400 700 tm = _ from e, tookH_no _ _ _ _ (by decide)] at hh
  exact recv_no b _ hg 0 _ 9 _ _ hh
theorem z_poisonX (b : Nat) {h i f : Int} {M X Y X' : ByteArray} (z : PZ h i f M X Y X') (tm dl : Int) (cs : List Int) (hg : Good (stV tm cs [dP h f X dl])) : RecvAt b (stV tm cs [dP h f X dl]) 0 (rawP (pX h f X)) 8 none (stV tm (bump cs 8) [dP h f X dl]) ∧ Good (stV tm (bump cs 8) [dP h f X dl]) := by
  obtain ⟨-, hh⟩ := hX z X z.x tm cs [dP h f X dl]
  rw [show takeP [dP h f X dl] 0 (kX h f X) 400 700 tm = _ from take_poisoned (kin_X z X z.x) dl [] 400 700 tm, tookH_no _ _ _ _ (by decide)] at hh
  exact recv_no b _ hg 0 _ 8 _ _ hh
theorem z_poisonY (b : Nat) {h i f : Int} {M X Y X' : ByteArray} (z : PZ h i f M X Y X') (tm dl : Int) (cs : List Int) (hg : Good (stV tm cs [dP h f X dl])) : RecvAt b (stV tm cs [dP h f X dl]) 0 (rawP (pY h f Y)) 8 none (stV tm (bump cs 8) [dP h f X dl]) ∧ Good (stV tm (bump cs 8) [dP h f X dl]) := by
  obtain ⟨-, hh⟩ := hY z tm cs [dP h f X dl]
  rw [show takeP [dP h f X dl] 0 (kY h f Y) 400 700 tm = _ from take_poisoned (kin_Y z) dl [] 400 700 tm, tookH_no _ _ _ _ (by decide)] at hh
  exact recv_no b _ hg 0 _ 8 _ _ hh
theorem z_last (b : Nat) {h i f : Int} {M X Y X' : ByteArray} (z : PZ h i f M X Y X') (tm dl : Int) (cs : List Int) (hg : Good (stV tm cs [dX h f X dl])) :
    ∃ s', ∀ W v, BoxAt W b v (stV tm cs [dX h f X dl]) → Calls Tryz.prog 21 #[.pointer (some ⟨b, 0, none⟩), .int .i64 0, .string (rawP (pY h f Y))] W fun e w' => ∃ ao cap, e = .returned (.tuple #[.int .i64 0, .slice ao 2 cap]) ∧ ∃ v', BoxAt w' b v' s' ∧ Chg b v W w' v' := by
  obtain ⟨hd, hh⟩ := hY z tm cs [dX h f X dl]
  have hd2 := (hX z X z.x tm cs []).1
  have hx := z.x
  have hy := z.y
  have a1 : placeI (kX h f X).h = 0 := hd2.pl
  have a2 : placeI (kY h f Y).h = 16 := hd.pl
  have a3 : (kX h f X).b.size = 16 := hx
  have a4 : (kY h f Y).b.size = 8 := hy
  have a5 : moreB (kX h f X).h = true := hd2.mo
  have a6 : moreB (kY h f Y).h = false := hd.mo
  have e1 : hasP [kX h f X] (kY h f Y) = false := by unfold hasP likeB; simp [a1, a2]
  have e2 : clashB [kX h f X] (kY h f Y) = false := by unfold clashB overB beyondB endI; simp [a1, a2, a3, a4, a5, a6]
  have ew : withP [kX h f X] (kY h f Y) = [kX h f X, kY h f Y] := by
    unfold withP layL layTo
    have : befK (kY h f Y) (kX h f X) = false := by unfold befK; simp [a1, a2]
    simp [layStep, this]
  have ewh : wholeB [kX h f X, kY h f Y] = true := by unfold wholeB whStep endI; simp [a2, a3, a4, a5, a6]
  have c1 : costD [kX h f X] + costK (kY h f Y) = 56 := by unfold costD costK; simp [a3, a4]
  have e := take_next (kin_Y z) dl [kX h f X] 400 700 tm (by simp) (by simp) e1 e2 (by unfold endI; rw [a2, a4]; decide) (by omega) (by omega)
  rw [ew, ewh, if_pos rfl] at e
  rw [show takeP [dX h f X dl] 0 (kY h f Y) 400 700 tm = _ from e] at hh
  have ew2 : wOf [kX h f X, kY h f Y] = ⟨17, h, f, udpB h i f i ⟨#[97, 98, 99, 100, 101, 102, 103, 104, 105, 106, 107, 108, 109, 110, 111, 112]⟩⟩ := by
    have : wOf [kX h f X, kY h f Y] = ⟨17, h, f, (⟨#[]⟩ ++ X) ++ Y⟩ := rfl
    rw [this, empty_app, z.xy, z.m]
  have hr : URange h i f i ⟨#[97, 98, 99, 100, 101, 102, 103, 104, 105, 106, 107, 108, 109, 110, 111, 112]⟩ := by
    have := z.h0; have := z.h1; have := z.f0; have := z.f1
    exact ⟨by omega, by omega, by omega, by omega, z.i0, z.i1, z.i0, z.i1, by decide⟩
  obtain ⟨p1, p2⟩ := pass_udp (stV tm cs []) [kX h f X, kY h f Y] ew2 hr
  have hif := ins_fresh (stV tm cs []) rfl h i f i (udpB h i f i ⟨#[97, 98, 99, 100, 101, 102, 103, 104, 105, 106, 107, 108, 109, 110, 111, 112]⟩) (by have := z.f1; show ¬ f = 3405803781; omega) (by show ¬ (5000 : Int) = 0; decide) (by show (5000 : Int) ≤ 5001; decide)
  have hw0 : (passW (stV tm cs []) 0 [kX h f X, kY h f Y]).what = 0 := by rw [p1, hif.1]
  have hph : tookH (stV tm cs [dX h f X dl]) 0 ⟨0, [kX h f X, kY h f Y], []⟩ = passH (stV tm cs []) 0 [kX h f X, kY h f Y] := by unfold tookH; rw [if_pos rfl]; rfl
  rw [hph] at hh
  have hp : (passH (stV tm cs []) 0 [kX h f X, kY h f Y]).what = 0 ∧ (passH (stV tm cs []) 0 [kX h f X, kY h f Y]).frs.length = 2 := by
    unfold passH
    rw [if_pos hw0]
    refine ⟨rfl, ?_⟩
    show (List.map _ _).length = 2
    rw [List.length_map, onAll_len]
    rfl
  refine ⟨recvG (stV tm cs [dX h f X dl]) (passH (stV tm cs []) 0 [kX h f X, kY h f Y]), fun W v hW => ?_⟩
  have hrc := Receive_good hW hg 0 (rawP (pY h f Y))
  rw [hh, hp.1] at hrc
  refine hrc.mono ?_
  rintro e w' ⟨fv, rfl, hfr, v', hbx, hch⟩
  obtain ⟨ao, cap, hs⟩ := LsAt.shape hfr
  rw [hp.2] at hs
  exact ⟨ao, cap, by rw [hs], v', hbx, hch⟩
theorem stV_good : Good (stV 0 [0, 0, 0, 0, 0, 0, 0, 0, 0, 0, 0, 0, 0, 0, 0, 0, 0, 0] []) := stW_good
end Go.Proofs.YtfkjobiapjhacabGreat
