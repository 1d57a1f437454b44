/- Quota: a round, and the walk. Own work. -/
import Derived.Test.YtfkjobiapjhacabGreatQb
namespace Go.Proofs.YtfkjobiapjhacabGreat
open Go.RowKit
attribute [local go_sem ↓] Go.wp_at_zero Go.wp_at_succ

set_option maxRecDepth 100000 in
set_option maxHeartbeats 1000000 in
theorem BHeld_any {w : World} {b : Nat} {v : Value} {s : BX} (h : BoxAt w b v s) (hg : Good s) (src : Int) :
    Calls Tryz.prog 32 #[.pointer (some ⟨b, 0, none⟩), .int .i64 src] w fun e w' => e = .returned (.tuple #[.int .i64 (heldAll s.wl), .int .i64 (heldOf s.wl src)]) ∧ Below w.heap.size w w' := by
  obtain ⟨wv, hc, rl, e, hp⟩ := h.wait
  have hn : rl.length ≤ 1000 := by have := congrArg List.length e; have := hg.w4; simp at *; omega
  have h1 := PHeld_any b 27 wv rl src w hc hp hn (HeldOK.of hg.wlok e)
  rw [e] at h1
  have H1 : Hid (Calls _ _ _ _ _) := h1
  clear h1 hc hp hn e hg h
  go_enter Tryz.func32, Tryz.ntmps32
  go_wp2_with fail
  refine H1.out.mono ?_
  rintro e w1 ⟨rfl, hb⟩
  go_wp2_with fail
  go_ret2
  exact ⟨rfl, hb⟩
def stW (cs : List Int) (wl : List PD) : BX := ⟨3405803781, 167772160, 8, 5000, 5001, 400, 700, 0, cs, [], wl⟩
theorem stW_good : Good (stW [0, 0, 0, 0, 0, 0, 0, 0, 0, 0, 0, 0, 0, 0, 0, 0, 0, 0] []) := by
  refine ⟨?_, by decide, by decide, by decide, fun x hx => absurd hx (by simp [stW]), by decide, fun d hd => absurd hd (by simp [stW]), by simp [stW, heldAll], fun src => by simp [stW, heldOf]⟩
  have := box0_valid 2 (by decide) (by decide)
  exact this
/-- A piece that is held, or is too much. -/
theorem quota_recv (b : Nat) (cs : List Int) (wl : List PD) (hg : Good (stW cs wl)) {sz : Nat} {m R : Nat → Nat → Nat} (h : QS wl sz m R) (j i : Nat) (hj : j < 2) (hi : i < 2) (hm6 : m j i < 6) (hR : R j i ≤ 5) (hs0 : 1 ≤ sz) (hs1 : sz ≤ 24) (hs8 : sz % 8 = 0) (B : ByteArray) (hB : B.size = sz) :
    ∃ cs' wl' m', RecvAt b (stW cs wl) 0 (rawP ⟨(i : Int), 1, 24 * (R j i : Int), 5, 17, 167772161 + (j : Int), 134744064, B⟩) (if ((sz + 16) * (m j 0 + m j 1) + (sz + 16) ≤ 400 ∧ (sz + 16) * sum4 m + (sz + 16) ≤ 700) then 1 else 11) none (stW cs' wl')
      ∧ Good (stW cs' wl') ∧ QS wl' sz m' (upM R j i) ∧ m' = (if ((sz + 16) * (m j 0 + m j 1) + (sz + 16) ≤ 400 ∧ (sz + 16) * sum4 m + (sz + 16) ≤ 700) then upM m j i else m) := by
  have hpc : PCOK (i : Int) 1 (3 * (R j i : Int)) 5 17 (167772161 + (j : Int)) 134744064 B := ⟨by omega, by omega, by decide, by decide, by omega, by omega, by decide, by decide, by decide, by omega, by omega, by decide, by decide, by omega, by omega, fun _ => by omega⟩
  obtain ⟨hd, f0, f1, -, f3, f4, f5, f6, f7⟩ := piece_raw hpc
  rw [show 8 * (3 * (R j i : Int)) = 24 * (R j i : Int) by omega] at f0 f1 f3 f4
  generalize rawP ⟨(i : Int), 1, 24 * (R j i : Int), 5, 17, 167772161 + (j : Int), 134744064, B⟩ = raw at f0 f1 f3
  have hpk : pkOf raw = ⟨hd, 167772161 + (j : Int), 134744064, 17, B⟩ := f1
  have e12 : addrAt raw 12 = 167772161 + (j : Int) := by have := congrArg KP.sr hpk; exact this
  have e16 : addrAt raw 16 = 134744064 := by have := congrArg KP.ds hpk; exact this
  have e9 : byteAt raw 9 = 17 := by have := congrArg KP.pr hpk; exact this
  have hmay : mayB (stW cs wl) 0 (167772161 + (j : Int)) 134744064 = true := may_in (stW cs wl) rfl rfl _ _ (by omega) (by omega) (by decide)
  have hpb : pieceB (raw.extract 0 20) = true := by rw [← f3, f7]; rfl
  have hst := quota_step h j i hj hi hm6 hR hs0 hs1 ⟨hd, 167772161 + (j : Int), 134744064, 17, B⟩ rfl rfl rfl f6 f4 (by rw [f5]; rfl) hB
  have hH : ∀ T : TKR, T = takeP wl 0 ⟨hd, 167772161 + (j : Int), 134744064, 17, B⟩ 400 700 0 → ¬ T.what = 0 → handG (stW cs wl) 0 raw = ⟨T.what, [], [], T.wl⟩ := fun T hT h0 => by
    unfold handG
    rw [if_neg (by decide), if_neg (by rw [f0]; decide), e12, e16, hmay, if_neg (by decide), e9, if_neg (by decide), hpb, if_pos rfl, hpk]
    have e : takeP (stW cs wl).wl 0 ⟨hd, 167772161 + (j : Int), 134744064, 17, B⟩ (stW cs wl).ps (stW cs wl).gl (stW cs wl).tm = T := hT.symm
    rw [e]
    unfold tookH
    rw [if_neg h0]
    rfl
  obtain ⟨T, hT⟩ : ∃ T, T = takeP wl 0 ⟨hd, 167772161 + (j : Int), 134744064, 17, B⟩ 400 700 0 := ⟨_, rfl⟩
  rw [← hT] at hst
  have hgr := hg.recv 0 raw
  have hrc : ∀ W v, BoxAt W b v (stW cs wl) → _ := fun W v hW => Receive_good hW hg 0 raw
  by_cases hroom : ((sz + 16) * (m j 0 + m j 1) + (sz + 16) ≤ 400 ∧ (sz + 16) * sum4 m + (sz + 16) ≤ 700)
  · obtain ⟨k1, -, k3⟩ := hst.1 hroom
    have hh := hH T hT (by rw [k1]; decide)
    rw [k1] at hh
    rw [hh] at hgr hrc
    rw [if_pos hroom, if_pos hroom]
    exact ⟨bump cs 1, T.wl, _, fun W v hW => hrc W v hW, hgr, k3, rfl⟩
  · obtain ⟨k1, -, k3⟩ := hst.2 hroom
    have hh := hH T hT (by rw [k1]; decide)
    rw [k1] at hh
    rw [hh] at hgr hrc
    rw [if_neg hroom, if_neg hroom]
    exact ⟨bump cs 11, T.wl, _, fun W v hW => hrc W v hW, hgr, k3, rfl⟩
/-- How often a name has come before the k-th round. -/
def idxQ (e j i : Nat) : Nat := 2 * ((j + e) % 2) + i
def RfQ (e k j i : Nat) : Nat := k / 4 + (if idxQ e j i < k % 4 then 1 else 0)
theorem RfQ_now (e k : Nat) : RfQ e k ((k / 2 + e) % 2) (k % 2) = k / 4 := by
  unfold RfQ idxQ
  have : 2 * (((k / 2 + e) % 2 + e) % 2) + k % 2 = k % 4 := by omega
  rw [this, if_neg (by omega)]
  omega
theorem RfQ_next (e k a b : Nat) (ha : a < 2) (hb : b < 2) : RfQ e (k + 1) a b = upM (RfQ e k) ((k / 2 + e) % 2) (k % 2) a b := by
  unfold upM RfQ idxQ
  by_cases hx : a = (k / 2 + e) % 2 ∧ b = k % 2
  · rw [if_pos hx]
    obtain ⟨rfl, rfl⟩ := hx
    have h1 : 2 * (((k / 2 + e) % 2 + e) % 2) + k % 2 = k % 4 := by omega
    rw [h1, if_neg (by omega : ¬ k % 4 < k % 4)]
    by_cases h3 : k % 4 = 3
    · rw [if_neg (by omega)]; omega
    · rw [if_pos (by omega)]; omega
  · rw [if_neg hx]
    have hne : 2 * ((a + e) % 2) + b ≠ k % 4 := fun hh => hx (by omega)
    by_cases h3 : k % 4 = 3
    · rw [if_neg (by omega), if_pos (by omega)]; omega
    · by_cases h4 : 2 * ((a + e) % 2) + b < k % 4
      · rw [if_pos (by omega), if_pos h4]; omega
      · rw [if_neg (by omega), if_neg h4]; omega
theorem QS.congr {wl : List PD} {sz : Nat} {m R R' : Nat → Nat → Nat} (h : QS wl sz m R) (hR : ∀ a b, a < 2 → b < 2 → R a b = R' a b) : QS wl sz m R' := by
  refine ⟨h.uq, fun d hd => ?_, h.ex, h.ha, h.ho, h.dl, h.ln⟩
  obtain ⟨j', i', hj', hi', e0, e1, e2, e3, e4, e5, e6, e7, e8⟩ := h.el d hd
  exact ⟨j', i', hj', hi', e0, e1, e2, e3, e4, e5, e6, e7, by rw [← hR j' i' hj' hi']; exact e8⟩
theorem tick_all {cs : List Int} {wl : List PD} {sz : Nat} {m R : Nat → Nat → Nat} (h : QS wl sz m R) : (tickS (stW cs wl) 12).wl = [] := by
  show wl.filter (fun d => decide ((0 : Int) + 12 < d.dl)) = []
  rw [List.filter_eq_nil_iff]
  intro d hd
  rw [h.dl d hd]
  decide
end Go.Proofs.YtfkjobiapjhacabGreat
