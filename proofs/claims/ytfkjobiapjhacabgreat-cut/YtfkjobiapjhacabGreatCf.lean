/- Cut: the walk of pieces. Own work. -/
import Derived.Test.YtfkjobiapjhacabGreatCe
import Derived.Test.YtfkjobiapjhacabGreatXf
namespace Go.Proofs.YtfkjobiapjhacabGreat
open Go.RowKit
attribute [local go_sem ↓] Go.wp_at_zero Go.wp_at_succ

theorem LMid.low1 {w W W' : World} {k : Nat} {c : Array Value} {t : TypeId} {B : Nat} (h : LMid w W [(k, c, t)]) (hk : k < B) (hB : w.heap.size ≤ B) (hb : Below B W W') : LMid w W' [(k, c, t)] := by
  obtain ⟨h1, h2⟩ := h.bk (k, c, t) (by simp)
  refine ⟨h.bl.trans (hb.mono hB), fun p hp => ?_, by simp⟩
  simp at hp
  subst hp
  exact ⟨by rw [hb.block k hk]; exact h1, h2⟩
theorem LMid.low2 {w W W' : World} {k k2 : Nat} {c c2 : Array Value} {t t2 : TypeId} {B : Nat} (h : LMid w W [(k, c, t), (k2, c2, t2)]) (hk : k < B) (hB : w.heap.size ≤ B) (hb : Below B W W') : LMid w W' [(k, c, t), (k2, c2, t2)] := by
  obtain ⟨h1, h2⟩ := h.bk (k, c, t) (by simp)
  obtain ⟨g1, g2⟩ := h.bk (k2, c2, t2) (by simp)
  have ho : k2 < k := by have := h.ord; simp at this; exact this
  refine ⟨h.bl.trans (hb.mono hB), fun p hp => ?_, h.ord⟩
  simp at hp
  rcases hp with rfl | rfl
  · exact ⟨by rw [hb.block k hk]; exact h1, h2⟩
  · exact ⟨by rw [hb.block k2 (by omega)]; exact g1, g2⟩
theorem GMid.none {w W : World} {b : Nat} {v0 v : Value} {s : BX} {bs : List (Nat × Array Value × TypeId)} (h : GMid w W b v0 v s bs) : GMid w W b v0 v s [] := ⟨h.box, h.chg, h.lt, fun p hp => absurd hp (by simp), List.Pairwise.nil⟩
theorem PksAt.at {w : World} {v : Value} {l : List PK} (h : PksAt w v l) (k : Nat) (hk : k < l.length) : ∃ g cap, v = .slice (some ⟨g, 0, none⟩) l.length cap ∧ g < w.heap.size ∧ w.cell? ⟨g, k * 8, none⟩ = some (.int .i64 l[k].id) ∧ w.cell? ⟨g, k * 8 + 1, none⟩ = some (.int .i64 l[k].fl) ∧ w.cell? ⟨g, k * 8 + 2, none⟩ = some (.int .i64 l[k].off) ∧ w.cell? ⟨g, k * 8 + 3, none⟩ = some (.int .i64 l[k].ttl) ∧ w.cell? ⟨g, k * 8 + 4, none⟩ = some (.int .i64 l[k].pr) ∧ w.cell? ⟨g, k * 8 + 5, none⟩ = some (.int .i64 l[k].src) ∧ w.cell? ⟨g, k * 8 + 6, none⟩ = some (.int .i64 l[k].dst) ∧ w.cell? ⟨g, k * 8 + 7, none⟩ = some (.string l[k].body) := by
  obtain ⟨g, cap, e, hg, hc⟩ := LsAt.get h (by intro e; rw [e] at hk; simp at hk)
  exact ⟨g, cap, e, hg, hc k hk 0 (by decide), hc k hk 1 (by decide), hc k hk 2 (by decide), hc k hk 3 (by decide), hc k hk 4 (by decide), hc k hk 5 (by decide), hc k hk 6 (by decide), hc k hk 7 (by decide)⟩
theorem CZ.pkok {h f : Int} {M : ByteArray} {q N : Nat} (z : CZ h f M q N) {k : Nat} (hk : k < N) : PKOK (cP h f M q N k) := by
  obtain ⟨-, s1, s2, -⟩ := z.sz hk
  have h1 := z.lt hk
  have h2 := z.big
  have h3 := z.q1
  have c0 : cF N k = 0 ∨ cF N k = 1 := by unfold cF; split <;> simp
  exact ⟨by show (cB M q k).size ≤ 1000; omega, by show 0 ≤ cF N k; omega, by show cF N k ≤ 7; omega, by show 0 ≤ 8 * ((q * k : Nat) : Int); omega, by show 8 * ((q * k : Nat) : Int) ≤ 65535; omega⟩
set_option maxRecDepth 100000 in
set_option maxHeartbeats 400000 in
theorem pieces_any (a c : Int) (dd : ByteArray) (w : World) (ha0 : -9223372036854775808 ≤ a) (ha1 : a ≤ 9223372036854775807) (hc0 : -9223372036854775808 ≤ c) (hc1 : c ≤ 9223372036854775807) :
    Calls Tryz.prog 9 #[.int .i64 a, .int .i64 c, .string dd] w fun e w' => e = .returned (.bool true) ∧ Below w.heap.size w w' := by
  have hk := pickI_bd a 200 (by decide)
  have hk2 := pickI_bd a 65535 (by decide)
  have hk3 := pickI_bd a 3 (by decide)
  have hk4 := pickI_bd c 200 (by decide)
  have hk5 := pickI_bd c 65535 (by decide)
  have hds := clipB_size dd 60
  have HCL : Hid (∀ w, Calls Tryz.prog 29 #[.string dd, .int .i64 60] w fun e w' => e = .returned (.string (clipB dd 60)) ∧ w' = w) := fun w => clipped_any dd 60 w (by decide)
  have HHO : Hid (∀ w, Calls Tryz.prog 15 #[.int .i64 a] w fun e w' => e = .returned (.int .i64 (167772161 + pickI a 200)) ∧ w' = w) := fun w => host_any a w ha0 ha1
  have HPO : Hid (∀ w, Calls Tryz.prog 17 #[.int .i64 a] w fun e w' => e = .returned (.int .i64 (1 + pickI a 65535)) ∧ w' = w) := fun w => port_any a w ha0 ha1
  have HFA : Hid (∀ w, Calls Tryz.prog 16 #[.int .i64 c] w fun e w' => e = .returned (.int .i64 (134744064 + pickI c 200)) ∧ w' = w) := fun w => far_any c w hc0 hc1
  have HPO2 : Hid (∀ w, Calls Tryz.prog 17 #[.int .i64 c] w fun e w' => e = .returned (.int .i64 (1 + pickI c 65535)) ∧ w' = w) := fun w => port_any c w hc0 hc1
  have HPK : Hid (∀ w, Calls Tryz.prog 12 #[.int .i64 a, .int .i64 3] w fun e w' => e = .returned (.int .i64 (pickI a 3)) ∧ w' = w) := fun w => pick_any a 3 w ha0 ha1 (by decide) (by decide)
  obtain ⟨kk, hkk⟩ : ∃ kk : Nat, pickI a 3 = (kk : Int) := ⟨(pickI a 3).toNat, by omega⟩
  rw [hkk] at HPK
  have hkk3 : kk ≤ 2 := by omega
  have hkI0 : (0 : Int) ≤ (kk : Int) := by omega
  have hkI2 : (kk : Int) ≤ 2 := by omega
  obtain ⟨h, hh⟩ : ∃ h, h = 167772161 + pickI a 200 := ⟨_, rfl⟩
  obtain ⟨i, hi⟩ : ∃ i, i = 1 + pickI a 65535 := ⟨_, rfl⟩
  obtain ⟨f, hf⟩ : ∃ f, f = 134744064 + pickI c 200 := ⟨_, rfl⟩
  obtain ⟨j, hj⟩ : ∃ j, j = 1 + pickI c 65535 := ⟨_, rfl⟩
  rw [← hh] at HHO
  rw [← hi] at HPO
  rw [← hf] at HFA
  rw [← hj] at HPO2
  obtain ⟨data, hdata⟩ : ∃ data, data = clipB dd 60 := ⟨_, rfl⟩
  rw [← hdata] at HCL hds
  obtain ⟨M, hMe⟩ : ∃ M, M = udpB h i f j data := ⟨_, rfl⟩
  have hms : M.size = 8 + data.size := by rw [hMe, udpB_size]
  have HME : Hid (M = udpB h i f j data) := hMe
  have HUR : Hid (URange h i f j data) := ⟨by omega, by omega, by omega, by omega, by omega, by omega, by omega, by omega, by omega⟩
  have HRQ : Hid (RQ h i f j) := ⟨by omega, by omega, by omega, by omega, by omega, by omega, by omega, by omega⟩
  obtain ⟨m, hm⟩ : ∃ m, m = udpB 3405803781 5000 f j data := ⟨_, rfl⟩
  have HBT : Hid (btwM 17 M 3405803781 5000 f j = m) := by
    show _ = _
    rw [hMe, hm]
    exact btw_same HUR.out
  have HZ0 : Hid (167772161 ≤ h ∧ h ≤ 167772361 ∧ 134744064 ≤ f ∧ f ≤ 134744300) := ⟨by omega, by omega, by omega, by omega⟩
  have HMS : Hid (m.size = M.size) := by
    show _ = _
    rw [hm, udpB_size, hms]
  have HUD : Hid (∀ w, Calls Tryz.prog 18 #[.int .i64 h, .int .i64 i, .int .i64 f, .int .i64 j, .string data] w fun e w' => e = .returned (.agg #[.int .i64 7, .int .i64 0, .int .i64 0, .int .i64 9, .int .i64 17, .int .i64 h, .int .i64 f, .string M]) ∧ Below w.heap.size w w') := fun w => by
    have hu := udp_any h i f j data w (by omega)
    have e : (udpP h i f j data).val = .agg #[.int .i64 7, .int .i64 0, .int .i64 0, .int .i64 9, .int .i64 17, .int .i64 h, .int .i64 f, .string M] := by rw [hMe]; simp only [udpP, PK.val]
    rw [e] at hu
    exact hu
  have hbx0 : box0 2 = stV 0 [0, 0, 0, 0, 0, 0, 0, 0, 0, 0, 0, 0, 0, 0, 0, 0, 0, 0] [] := rfl
  have HONE : Hid (∀ b, ∃ s' : BX, ∀ W v, BoxAt W b v (box0 2) → Calls Tryz.prog 24 #[.pointer (some ⟨b, 0, none⟩), .int .i64 0, .agg #[.int .i64 7, .int .i64 0, .int .i64 0, .int .i64 9, .int .i64 17, .int .i64 h, .int .i64 f, .string M], .int .i64 1] W fun e w' => e = .returned (.tuple #[.agg #[.int .i64 7, .int .i64 0, .int .i64 0, .int .i64 8, .int .i64 17, .int .i64 3405803781, .int .i64 f, .string m], .bool true]) ∧ ∃ v', BoxAt w' b v' s' ∧ Chg b v W w' v') := fun b => by
    have ho := n_out b 2 0 [0, 0, 0, 0, 0, 0, 0, 0, 0, 0, 0, 0, 0, 0, 0, 0, 0, 0] h i f j data (by decide) (by decide) HRQ.out (by omega) (by decide) (by decide)
    have e1 : (udpP h i f j data).val = .agg #[.int .i64 7, .int .i64 0, .int .i64 0, .int .i64 9, .int .i64 17, .int .i64 h, .int .i64 f, .string M] := by rw [hMe]; simp only [udpP, PK.val]
    have e2 : (⟨7, 0, 0, 8, 17, 3405803781, f, udpB 3405803781 5000 f j data⟩ : PK).val = .agg #[.int .i64 7, .int .i64 0, .int .i64 0, .int .i64 8, .int .i64 17, .int .i64 3405803781, .int .i64 f, .string m] := by rw [hm]; exact val_mk _ _ _ _ _ _ _ _
    exact ⟨_, fun W v hW => by
      have := ho.run W v hW
      rw [e1, e2] at this
      exact this⟩
  clear hk hk2 hk3 hk4 hk5 hkk hh hi hf hj hdata hMe hm
  go_enter Tryz.func9, Tryz.ntmps9
  go_wp2_with fail
  refine (HCL.out _).mono ?_; rintro e w' ⟨rfl, rfl⟩
  go_wp2_with fail
  refine (HHO.out _).mono ?_; rintro e w' ⟨rfl, rfl⟩
  go_wp2_with fail
  refine (HPO.out _).mono ?_; rintro e w' ⟨rfl, rfl⟩
  go_wp2_with fail
  refine (HFA.out _).mono ?_; rintro e w' ⟨rfl, rfl⟩
  go_wp2_with fail
  refine (HPO2.out _).mono ?_; rintro e w' ⟨rfl, rfl⟩
  obtain ⟨w, hw1⟩ : ∃ w, w = w' := ⟨_, rfl⟩
  subst hw1
  go_wp2_with fail
  refine (HUD.out _).mono ?_
  rintro e w2 ⟨rfl, hb1⟩
  obtain ⟨kp, hkp⟩ : ∃ kp, w2.heap.size = kp := ⟨_, rfl⟩
  have HLM : Hid (LMid w (w2.alloc (.cells #[.int .i64 7, .int .i64 0, .int .i64 0, .int .i64 9, .int .i64 17, .int .i64 h, .int .i64 f, .string M] 37)) [(kp, #[.int .i64 7, .int .i64 0, .int .i64 0, .int .i64 9, .int .i64 17, .int .i64 h, .int .i64 f, .string M], 37)]) := ((LMid.start w).call hb1).alloc' _ _ _ hkp
  clear hb1 HCL HHO HPO HFA HPO2 HUD
  go_wp2_with fail
  refine (box_any 2 _ (by decide) (by decide)).mono ?_
  rintro e w3 ⟨bv, rfl, hbx, hle, hbl⟩
  have hL3 := HLM.out.call hbl
  have HLE : Hid (kp + 1 ≤ bv ∧ w.heap.size ≤ kp + 1 ∧ kp + 1 ≤ w3.heap.size) := by
    have e1 := hbl.size
    have e2 := HLM.out.bl.size
    simp [hkp] at hle e1 e2
    exact ⟨hle, e2, e1⟩
  obtain ⟨s1, hone⟩ := HONE.out bv
  have HO1 : Hid (∀ W v, BoxAt W bv v (box0 2) → Calls Tryz.prog 24 #[.pointer (some ⟨bv, 0, none⟩), .int .i64 0, .agg #[.int .i64 7, .int .i64 0, .int .i64 0, .int .i64 9, .int .i64 17, .int .i64 h, .int .i64 f, .string M], .int .i64 1] W fun e w' => e = .returned (.tuple #[.agg #[.int .i64 7, .int .i64 0, .int .i64 0, .int .i64 8, .int .i64 17, .int .i64 3405803781, .int .i64 f, .string m], .bool true]) ∧ ∃ v', BoxAt w' bv v' s1 ∧ Chg bv v W w' v') := hone
  have HBX : Hid (BoxAt w3 bv (.slice none 0 0) (box0 2)) := hbx
  obtain ⟨⟨p0, p1, p2, p3, p4, p5, p6, p7⟩, pf⟩ := c8 hL3.at0
  have HL3 : Hid _ := hL3
  clear hone hL3 hle hbl hbx HONE HLM
  go_wp2_with fail
  refine (HO1.out _ _ HBX.out).mono ?_
  rintro e w4 ⟨rfl, v4, hbx4, hch4⟩
  have hlow := (hch4.low HLE.out.1 (fun k e => by simp [Value.ownBlock] at e) HLE.out.2.2).1
  have hL4 := HL3.out.low1 (Nat.lt_succ_self kp) HLE.out.2.1 hlow
  obtain ⟨kw, hkw⟩ : ∃ kw, w4.heap.size = kw := ⟨_, rfl⟩
  have HL4 : Hid (LMid w (w4.alloc (.cells #[.int .i64 7, .int .i64 0, .int .i64 0, .int .i64 8, .int .i64 17, .int .i64 3405803781, .int .i64 f, .string m] 37)) [(kw, #[.int .i64 7, .int .i64 0, .int .i64 0, .int .i64 8, .int .i64 17, .int .i64 3405803781, .int .i64 f, .string m], 37), (kp, #[.int .i64 7, .int .i64 0, .int .i64 0, .int .i64 9, .int .i64 17, .int .i64 h, .int .i64 f, .string M], 37)]) := hL4.alloc' _ _ _ hkw
  clear hbx4 hch4 hlow hL4 HO1 HL3 HLE p0 p1 p2 p3 p4 p5 p6 p7 pf
  go_wp2_with fail
  refine (HPK.out _).mono ?_; rintro e w' ⟨rfl, rfl⟩
  clear HPK
  go_wp2_with fail
  try rw [hkw]
  try rw [hkp]
  go_loopw [15] (fun st wr => ∃ q : Nat, 1 ≤ q ∧ q ≤ 3 ∧ st = .int .i64 ((8 * q : Nat) : Int) ∧ LMid w wr [(kw, #[.int .i64 7, .int .i64 0, .int .i64 0, .int .i64 8, .int .i64 17, .int .i64 3405803781, .int .i64 f, .string m], 37), (kp, #[.int .i64 7, .int .i64 0, .int .i64 0, .int .i64 9, .int .i64 17, .int .i64 h, .int .i64 f, .string M], 37)]) (fun st _ => 100 - (intOf st).toNat)
  case atStart => exact ⟨1 + kk, by omega, by omega, by first | go_num | (congr 1; omega), HL4.out⟩
  case round =>
    obtain ⟨q, q0, q1, rfl, hL⟩ := hrel
    clear HL4
    obtain ⟨st, hst⟩ : ∃ st : Nat, st = 8 * q := ⟨_, rfl⟩
    rw [← hst]
    have hst0 : (0 : Int) < (st : Int) := by omega
    have hst1 : (st : Int) ≤ 24 := by omega
    have hM68 : (M.size : Int) ≤ 68 := by omega
    obtain ⟨⟨p0, p1, p2, p3, p4, p5, p6, p7⟩, pf⟩ := c8 hL.at1
    have HL : Hid (LMid w wr [(kw, #[.int .i64 7, .int .i64 0, .int .i64 0, .int .i64 8, .int .i64 17, .int .i64 3405803781, .int .i64 f, .string m], 37), (kp, #[.int .i64 7, .int .i64 0, .int .i64 0, .int .i64 9, .int .i64 17, .int .i64 h, .int .i64 f, .string M], 37)]) := hL
    have HQ : Hid (1 ≤ q ∧ q ≤ 3 ∧ st = 8 * q) := ⟨q0, q1, hst⟩
    clear hL q0 q1 hst hms hds hkk3 hkI0 hkI2 hkp hkw
    by_cases hgt : (st : Int) * 6 < (M.size : Int)
    · go_wp2_with fail
      go_roundw
      case rel =>
        obtain ⟨q0, q1, hst⟩ := HQ.out
        exact ⟨q + 1, by omega, by omega, by first | go_num | (congr 1; omega), HL.out⟩
      case measure => simp [intOf]; omega
    · by_cases hle : (M.size : Int) ≤ (st : Int)
      · go_wp2_with fail
        go_ret
        exact ⟨rfl, HL.out.bl⟩
      · obtain ⟨q0, q1, hst⟩ := HQ.out
        obtain ⟨N, z⟩ := cz_of (M := M) HZ0.out.1 HZ0.out.2.1 HZ0.out.2.2.1 HZ0.out.2.2.2 q0 q1 (by omega) (by omega)
        have HZ : Hid (CZ h f M q N) := z
        have hN2 := z.n0
        have hN6 := z.n1
        have HCUT : Hid (∀ W, Calls Tryz.prog 30 #[.agg #[.int .i64 7, .int .i64 0, .int .i64 0, .int .i64 9, .int .i64 17, .int .i64 h, .int .i64 f, .string M], .int .i64 (st : Int)] W fun e w' => ∃ v, e = .returned v ∧ PksAt w' v ((List.range N).map (cP h f M q N)) ∧ Below W.heap.size W w') := fun W => by rw [hst]; exact cut_any z W
        have HMIX : Hid (∀ W v, PksAt W v ((List.range N).map (cP h f M q N)) → Calls Tryz.prog 31 #[v, .int .i64 c] W fun e w' => ∃ v' l', e = .returned v' ∧ PksAt w' v' l' ∧ List.Perm l' ((List.range N).map (cP h f M q N)) ∧ Below W.heap.size W w') := fun W v hv => mixed_any v _ c W hv (by intro e; have := congrArg List.length e; simp at this; omega) (by simp; omega) hc0 hc1
        clear z q0 q1 hst
        go_wp2_with fail
        refine (box_any 2 _ (by decide) (by decide)).mono ?_
        rintro e w5 ⟨b, rfl, hbx, hle5, hbl⟩
        rw [hbx0] at hbx
        have hL5 := HL.out.call hbl
        have HLE : Hid (wr.heap.size ≤ b ∧ Below wr.heap.size wr w5 ∧ LMid w wr [(kw, #[.int .i64 7, .int .i64 0, .int .i64 0, .int .i64 8, .int .i64 17, .int .i64 3405803781, .int .i64 f, .string m], 37), (kp, #[.int .i64 7, .int .i64 0, .int .i64 0, .int .i64 9, .int .i64 17, .int .i64 h, .int .i64 f, .string M], 37)]) := ⟨hle5, hbl, HL.out⟩
        have HM5 : Hid (GMid w5 w5 b (.slice none 0 0) (.slice none 0 0) (stV 0 [0, 0, 0, 0, 0, 0, 0, 0, 0, 0, 0, 0, 0, 0, 0, 0, 0, 0] []) []) := GMid.start hbx
        clear HL p0 p1 p2 p3 p4 p5 p6 p7 pf hbx hle5 hbl
        obtain ⟨⟨p0, p1, p2, p3, p4, p5, p6, p7⟩, pf⟩ := c8 hL5.at1
        clear hL5
        go_wp2_with fail
        refine (HCUT.out _).mono ?_
        rintro e w6 ⟨lv, rfl, hl6, hb6⟩
        obtain ⟨la, lc, rfl⟩ := LsAt.shape hl6
        have eN : ((List.range N).map (cP h f M q N)).length = N := by simp
        rw [eN] at hl6 ⊢
        have HM6 : Hid _ := HM5.out.call hb6
        have HL6 : Hid (PksAt w6 (.slice la N lc) ((List.range N).map (cP h f M q N))) := hl6
        clear hl6 hb6 HCUT HM5 eN p0 p1 p2 p3 p4 p5 p6 p7 pf
        go_wp2_with fail
        refine (HMIX.out _ _ HL6.out).mono ?_
        rintro e w7 ⟨ov, o, rfl, ho7, hperm, hb7⟩
        obtain ⟨oa, oc, rfl⟩ := LsAt.shape ho7
        obtain ⟨I, hI, rfl⟩ := perm_map_inv hperm (List.range N) rfl
        have eN : (I.map (cP h f M q N)).length = N := by rw [List.length_map, idx_len hI]
        rw [eN] at ho7 ⊢
        have HIN : Hid (List.Perm I (List.range N)) := hI
        have HM7 : Hid (GMid w5 w7 b (.slice none 0 0) (.slice none 0 0) (stV 0 [0, 0, 0, 0, 0, 0, 0, 0, 0, 0, 0, 0, 0, 0, 0, 0, 0, 0] []) []) := HM6.out.call hb7
        have HL7 : Hid (PksAt w7 (.slice la N lc) ((List.range N).map (cP h f M q N))) := LsAt.keep HL6.out hb7
        have HO7 : Hid (PksAt w7 (.slice oa N oc) (I.map (cP h f M q N))) := ho7
        clear hperm hI eN HMIX HM6 HL6 ho7 hb7
        go_wp2_with fail
        go_loopw [19] (fun i wx => ∃ (k : Nat) (v : Value) (s : BX), k + 1 ≤ N ∧ i = .int .i64 (k : Int) ∧ StC h f M q N I k s ∧ GMid w5 wx b (.slice none 0 0) v s [] ∧ PksAt wx (.slice la N lc) ((List.range N).map (cP h f M q N)) ∧ PksAt wx (.slice oa N oc) (I.map (cP h f M q N))) (fun i _ => N - (intOf i).toNat)
        case atStart => exact ⟨0, _, _, by omega, rfl, ⟨stV_good, Or.inl ⟨rfl, _, rfl⟩⟩, HM7.out, HL7.out, HO7.out⟩
        case round =>
          obtain ⟨k, v, s, hk, rfl, hS, hM1, hl1, ho1⟩ := hrel
          clear HM7 HL7 HO7
          have hIl := idx_len HIN.out
          have HM : Hid (GMid w5 wr b (.slice none 0 0) v s []) := hM1
          have HL1 : Hid (PksAt wr (.slice la N lc) ((List.range N).map (cP h f M q N))) := hl1
          have HO1 : Hid (PksAt wr (.slice oa N oc) (I.map (cP h f M q N))) := ho1
          have HS : Hid (StC h f M q N I k s) := hS
          clear hM1 hl1 ho1 hS
          by_cases hlt : k + 1 < N
          · have hkl : k < I.length := by omega
            obtain ⟨s', hR, hS'⟩ := HS.out.step b HZ.out HIN.out hkl hlt
            obtain ⟨g, cp, hv, hg, c0, c1, c2, c3, c4, c5, c6, c7⟩ := PksAt.at HO1.out k (by simpa using hkl)
            simp at hv
            obtain ⟨rfl, -, rfl⟩ := hv
            rw [List.getElem_map] at c0 c1 c2 c3 c4 c5 c6 c7
            have hok := HZ.out.pkok (idx_lt HIN.out hkl)
            generalize cP h f M q N I[k] = P at c0 c1 c2 c3 c4 c5 c6 c7 hR hok
            have HNO : Hid (∀ W v, BoxAt W b v s → Calls Tryz.prog 28 #[.pointer (some ⟨b, 0, none⟩), .int .i64 0, .agg #[.int .i64 P.id, .int .i64 P.fl, .int .i64 P.off, .int .i64 P.ttl, .int .i64 P.pr, .int .i64 P.src, .int .i64 P.dst, .string P.body], .int .i64 1] W fun e w' => e = .returned (.bool true) ∧ ∃ v', BoxAt w' b v' s' ∧ Chg b v W w' v') := fun W v hW => none_yes hW 0 1 P hok hR
            have HS' : Hid (StC h f M q N I (k + 1) s') := hS'
            have hkI : (0 : Int) ≤ (k : Int) := by omega
            have hkN : (k : Int) + 1 < (N : Int) := by omega
            have hkN2 : (k : Int) < (N : Int) := by omega
            have hN6I : (N : Int) ≤ 6 := by omega
            clear hR hok hS' HS hIl
            go_wp2_with fail
            refine (HNO.out _ _ HM.out.box).mono ?_
            rintro e w8 ⟨rfl, v8, hbx, hch⟩
            have hkt := hch.keptT (t := 37) HM.out.box (by decide) (by decide)
            have HM8 : Hid (GMid w5 w8 b (.slice none 0 0) v8 s' []) := HM.out.change hbx hch
            have HL8 : Hid (PksAt w8 (.slice la N lc) ((List.range N).map (cP h f M q N))) := LsAt.kept HL1.out hkt
            have HO8 : Hid (PksAt w8 (.slice (some ⟨g, 0, none⟩) N oc) (I.map (cP h f M q N))) := LsAt.kept HO1.out hkt
            clear hbx hch hkt HM HL1 HO1 HNO c0 c1 c2 c3 c4 c5 c6 c7 hg
            go_wp2_with fail
            go_roundw
            case rel => exact ⟨k + 1, v8, s', by omega, by go_num, HS'.out, HM8.out, HL8.out, HO8.out⟩
            case measure => simp [intOf]; omega
          · have hkN : ¬ (k : Int) + 1 < (N : Int) := by omega
            have hkl : k < I.length := by omega
            have h0l : 0 < I.length := by omega
            obtain ⟨s2, hR2, hS2⟩ := HS.out.copy b HZ.out (show 0 < k by omega) (by omega)
            obtain ⟨s3, hwl, hg3, hrecv⟩ := hS2.last b HZ.out HIN.out hkl (by omega) HME.out HUR.out
            rw [HBT.out] at hrecv
            obtain ⟨g, cp, hv, hg, c0, c1, c2, c3, c4, c5, c6, c7⟩ := PksAt.at HO1.out 0 (by simpa using h0l)
            simp at hv
            obtain ⟨rfl, -, rfl⟩ := hv
            rw [List.getElem_map] at c0 c1 c2 c3 c4 c5 c6 c7
            simp only [Nat.zero_mul, Nat.zero_add] at c0 c1 c2 c3 c4 c5 c6 c7
            have hok := HZ.out.pkok (idx_lt HIN.out h0l)
            have hokL := HZ.out.pkok (idx_lt HIN.out hkl)
            generalize cP h f M q N I[0] = P at c0 c1 c2 c3 c4 c5 c6 c7 hR2 hok
            have HNO : Hid (∀ W v, BoxAt W b v s → Calls Tryz.prog 28 #[.pointer (some ⟨b, 0, none⟩), .int .i64 0, .agg #[.int .i64 P.id, .int .i64 P.fl, .int .i64 P.off, .int .i64 P.ttl, .int .i64 P.pr, .int .i64 P.src, .int .i64 P.dst, .string P.body], .int .i64 10] W fun e w' => e = .returned (.bool true) ∧ ∃ v', BoxAt w' b v' s2 ∧ Chg b v W w' v') := fun W v hW => none_yes hW 0 10 P hok hR2
            have HPL : Hid ((I.map (cP h f M q N))[k]'(by simpa using hkl) = cP h f M q N I[k]) := List.getElem_map _
            obtain ⟨PL, hPL⟩ : ∃ PL, PL = cP h f M q N I[k] := ⟨_, rfl⟩
            rw [← hPL] at hrecv hokL HPL
            have HRA : Hid (∀ W, Calls Tryz.prog 20 #[.agg #[.int .i64 PL.id, .int .i64 PL.fl, .int .i64 PL.off, .int .i64 PL.ttl, .int .i64 PL.pr, .int .i64 PL.src, .int .i64 PL.dst, .string PL.body]] W fun e w' => e = .returned (.string (rawP PL)) ∧ Below W.heap.size W w') := fun W => raw_any PL W (by have := hokL.sz; omega) hokL.f0 hokL.f1 hokL.o0 hokL.o1
            generalize rawP PL = R at HRA hrecv
            have HRC : Hid (∀ W v, BoxAt W b v s2 → Calls Tryz.prog 21 #[.pointer (some ⟨b, 0, none⟩), .int .i64 0, .string R] W fun e w' => ∃ fv, e = .returned (.tuple #[.int .i64 0, fv]) ∧ FrsAt w' fv ((List.range N).map (fun k => (1, cR h f M q N m k))) ∧ ∃ v', BoxAt w' b v' s3 ∧ Chg b v W w' v') := hrecv
            have HG3 : Hid (s3.wl = [] ∧ Good s3) := ⟨hwl, hg3⟩
            have HKL : Hid (k < I.length) := hkl
            have hkI : (0 : Int) ≤ (k : Int) := by omega
            have hNk : (N : Int) - 1 = (k : Int) := by omega
            have hkN2 : (k : Int) < (N : Int) := by omega
            have hN0 : (0 : Int) < (N : Int) := by omega
            have hN6I : (N : Int) ≤ 6 := by omega
            clear hR2 hS2 hwl hg3 hrecv hok hokL hPL HS hIl h0l
            go_wp2_with fail
            refine (HNO.out _ _ HM.out.box).mono ?_
            rintro e w8 ⟨rfl, v8, hbx, hch⟩
            have hkt := hch.keptT (t := 37) HM.out.box (by decide) (by decide)
            have HM8 : Hid (GMid w5 w8 b (.slice none 0 0) v8 s2 []) := HM.out.change hbx hch
            have HL8 : Hid (PksAt w8 (.slice la N lc) ((List.range N).map (cP h f M q N))) := LsAt.kept HL1.out hkt
            have ho8 : PksAt w8 (.slice (some ⟨g, 0, none⟩) N oc) (I.map (cP h f M q N)) := LsAt.kept HO1.out hkt
            clear hbx hch hkt HM HL1 HO1 HNO c0 c1 c2 c3 c4 c5 c6 c7 hg
            obtain ⟨g', cp', hv, hg, c0, c1, c2, c3, c4, c5, c6, c7⟩ := PksAt.at ho8 k (by simpa using HKL.out)
            simp at hv
            obtain ⟨rfl, -⟩ := hv
            rw [HPL.out] at c0 c1 c2 c3 c4 c5 c6 c7
            clear ho8 HPL
            go_wp2_with fail
            refine (HRA.out _).mono ?_
            rintro e w9 ⟨rfl, hb9⟩
            have HM9 : Hid (GMid w5 w9 b (.slice none 0 0) v8 s2 []) := HM8.out.call hb9
            have HL9 : Hid (PksAt w9 (.slice la N lc) ((List.range N).map (cP h f M q N))) := LsAt.keep HL8.out hb9
            clear hb9 HM8 HL8 HRA c0 c1 c2 c3 c4 c5 c6 c7 hg
            go_wp2_with fail
            refine (HRC.out _ _ HM9.out.box).mono ?_
            rintro e w10 ⟨fv, rfl, hfr, v10, hbx, hch⟩
            obtain ⟨fa, fc, rfl⟩ := LsAt.shape hfr
            have eN : ((List.range N).map (fun k => ((1 : Int), cR h f M q N m k))).length = N := by simp
            rw [eN] at hfr ⊢
            have HL10 : Hid (PksAt w10 (.slice la N lc) ((List.range N).map (cP h f M q N))) := LsAt.kept HL9.out (hch.keptT (t := 37) HM9.out.box (by decide) (by decide))
            have HM10 : Hid (GMid w5 w10 b (.slice none 0 0) v10 s3 []) := HM9.out.change hbx hch
            have HF10 : Hid (FrsAt w10 (.slice fa N fc) ((List.range N).map (fun k => ((1 : Int), cR h f M q N m k)))) := hfr
            clear hbx hch hfr eN HM9 HL9 HRC
            go_wp2_with fail
            clear hkI hNk hkN2 hkN
            go_loopw [25, 26] (fun wh i wx => ∃ (k : Nat), k ≤ N ∧ i = .int .i64 (k : Int) ∧ wh = .string (m.extract 0 (pp M q k)) ∧ GMid w5 wx b (.slice none 0 0) v10 s3 [] ∧ PksAt wx (.slice la N lc) ((List.range N).map (cP h f M q N)) ∧ FrsAt wx (.slice fa N fc) ((List.range N).map (fun k => ((1 : Int), cR h f M q N m k)))) (fun _ i _ => N - (intOf i).toNat)
            case atStart =>
              have e0 : pp M q 0 = 0 := by unfold pp; simp
              have e1 : m.extract 0 0 = ⟨#[]⟩ := by
                apply bl_inj
                rw [bl_ex]
                simp [bl]
              exact ⟨0, by omega, rfl, by rw [e0, e1], HM10.out, HL10.out, HF10.out⟩
            case round =>
              obtain ⟨k3, hk3, rfl, rfl, hM1, hl1, hf1⟩ := hrel
              clear HM10 HL10 HF10
              have HM : Hid (GMid w5 wr b (.slice none 0 0) v10 s3 []) := hM1
              have HL1 : Hid (PksAt wr (.slice la N lc) ((List.range N).map (cP h f M q N))) := hl1
              have HF1 : Hid (FrsAt wr (.slice fa N fc) ((List.range N).map (fun k => ((1 : Int), cR h f M q N m k)))) := hf1
              clear hM1 hl1 hf1
              by_cases hlt : k3 < N
              · obtain ⟨g3, cp3, hv, hg, c0, c1⟩ := FrsAt.at HF1.out k3 (by simpa using hlt)
                simp at hv
                obtain ⟨rfl, -, rfl⟩ := hv
                rw [List.getElem_map, List.getElem_range] at c0 c1
                have HPA : Hid (∀ W, Calls Tryz.prog 25 #[.string (cR h f M q N m k3)] W fun e w' => e = .returned (.tuple #[(⟨7, cF N k3, 8 * ((q * k3 : Nat) : Int), 2 + (k3 : Int), 17, 3405803781, f, m.extract (pp M q k3) (pp M q (k3 + 1))⟩ : PK).val, .bool true]) ∧ Below W.heap.size W w') := HZ.out.par hlt m HMS.out
                rw [val_mk] at HPA
                obtain ⟨XB, hXB⟩ : ∃ XB, XB = m.extract (pp M q k3) (pp M q (k3 + 1)) := ⟨_, rfl⟩
                obtain ⟨OF, hOF⟩ : ∃ OF : Int, OF = 8 * ((q * k3 : Nat) : Int) := ⟨_, rfl⟩
                obtain ⟨FL, hFL⟩ : ∃ FL, FL = cF N k3 := ⟨_, rfl⟩
                rw [← hXB, ← hOF, ← hFL] at HPA
                have HXB : Hid (XB = m.extract (pp M q k3) (pp M q (k3 + 1))) := hXB
                have HOF : Hid (OF = 8 * ((q * k3 : Nat) : Int)) := hOF
                have HFL : Hid (FL = cF N k3) := hFL
                have HSZ : Hid (XB.size = (cB M q k3).size) := by
                  show _ = _
                  obtain ⟨-, z1, z2, -⟩ := HZ.out.sz hlt
                  rw [hXB, ByteArray.size_extract, HMS.out]
                  unfold cB
                  rw [ByteArray.size_extract]
                  unfold pp
                  have : 8 * (q * (k3 + 1)) = 8 * (q * k3) + 8 * q := by rw [Nat.mul_succ, Nat.mul_add]
                  omega
                have HCJ : Hid (m.extract 0 (pp M q k3) ++ XB = m.extract 0 (pp M q (k3 + 1))) := by
                  show _ = _
                  rw [hXB]
                  exact HZ.out.joined m hlt
                clear hXB hOF hFL
                generalize cR h f M q N m k3 = R3 at HPA c1
                have hkI : (0 : Int) ≤ (k3 : Int) := by omega
                have hkN : (k3 : Int) < (N : Int) := by omega
                go_wp2_with fail
                refine (HPA.out _).mono ?_
                rintro e w11 ⟨rfl, hb11⟩
                obtain ⟨kx, hkx⟩ : ∃ kx, w11.heap.size = kx := ⟨_, rfl⟩
                have hG := (HM.out.call hb11).alloc' #[.int .i64 7, .int .i64 FL, .int .i64 OF, .int .i64 (2 + (k3 : Int)), .int .i64 17, .int .i64 3405803781, .int .i64 f, .string XB] 37 kx hkx
                have hb12 : Below w11.heap.size w11 (w11.alloc (.cells #[.int .i64 7, .int .i64 FL, .int .i64 OF, .int .i64 (2 + (k3 : Int)), .int .i64 17, .int .i64 3405803781, .int .i64 f, .string XB] 37)) := (Below.refl _ _).alloc (Nat.le_refl _) _
                have hl12 := LsAt.keep (LsAt.keep HL1.out hb11) hb12
                have hf12 := LsAt.keep (LsAt.keep HF1.out hb11) hb12
                obtain ⟨⟨x0, x1, x2, x3, x4, x5, x6, x7⟩, xf⟩ := c8 hG.at0
                obtain ⟨gl, cl, hv, hgl, l0, l1, l2, l3, l4, l5, l6, l7⟩ := PksAt.at hl12 k3 (by simpa using hlt)
                simp at hv
                obtain ⟨rfl, -, rfl⟩ := hv
                rw [List.getElem_map, List.getElem_range] at l1 l2 l3 l7
                have e1 : (cP h f M q N k3).fl = FL := HFL.out.symm
                have e2 : (cP h f M q N k3).off = OF := HOF.out.symm
                have e3 : (cP h f M q N k3).ttl = 3 + (k3 : Int) := rfl
                have e7 : (cP h f M q N k3).body = cB M q k3 := rfl
                rw [e1] at l1
                rw [e2] at l2
                rw [e3] at l3
                rw [e7] at l7
                clear l0 l4 l5 l6 e1 e2 e3 e7
                obtain ⟨CB, hCB⟩ : ∃ CB, CB = cB M q k3 := ⟨_, rfl⟩
                rw [← hCB] at l7 HSZ
                clear hCB
                obtain ⟨g3', cp3', hv, hg', d0, d1⟩ := FrsAt.at hf12 k3 (by simpa using hlt)
                simp at hv
                obtain ⟨rfl, -⟩ := hv
                rw [List.getElem_map, List.getElem_range] at d0
                clear d1 c0 c1
                have HG12 : Hid _ := hG
                have HL12 : Hid _ := hl12
                have HF12 : Hid _ := hf12
                clear hG hl12 hf12 hb12 hb11
                obtain ⟨W12, hW12⟩ : ∃ W12, W12 = w11.alloc (.cells #[.int .i64 7, .int .i64 FL, .int .i64 OF, .int .i64 (2 + (k3 : Int)), .int .i64 17, .int .i64 3405803781, .int .i64 f, .string XB] 37) := ⟨_, rfl⟩
                rw [← hW12] at x0 x1 x2 x3 x4 x5 x6 x7 xf l1 l2 l3 l7 d0 HG12 HL12 HF12 hgl hg'
                go_wp2_with fail
                rw [← hW12]
                clear hW12 hkx
                have n1 : (k3 : Int) ≤ 6 := by omega
                have hsub : (2 + (k3 : Int) != 3 + (k3 : Int) - 1) = false := by simp; omega
                have hsz : ((XB.size : Int) != (CB.size : Int)) = false := by rw [HSZ.out]; simp
                obtain ⟨WH, hWH⟩ : ∃ WH, WH = m.extract 0 (pp M q k3) := ⟨_, rfl⟩
                have hW2 : WH.size ≤ 144 := by
                  rw [hWH, ByteArray.size_extract, HMS.out]
                  have := HZ.out.big
                  omega
                have hX2 : XB.size ≤ 144 := by
                  have e := HSZ.out
                  rw [HXB.out, ByteArray.size_extract, HMS.out]
                  have := HZ.out.big
                  omega
                have hmx : ¬ 9223372036854775807 < WH.size + XB.size := by omega
                rw [← hWH] at HCJ ⊢
                clear hWH hW2 hX2
                go_quiet (fail)
                go_wp2_with fail
                go_quiet (fail)
                go_wp2_with fail
                go_roundw
                case rel =>
                  have hbq : ∀ n, Below W12.heap.size W12 (W12.drewN n) := fun n => bdrewN' (Below.refl _ _) n
                  exact ⟨k3 + 1, by omega, by go_num, by rw [HCJ.out], HG12.out.none.call (hbq _), LsAt.keep HL12.out (hbq _), LsAt.keep HF12.out (hbq _)⟩
                case measure => simp [intOf]; omega
              · have hkN : k3 = N := by omega
                subst hkN
                obtain ⟨b1, b2, b3⟩ := HLE.out
                have hlow := (HM.out.chg.low b1 (fun k e => by simp [Value.ownBlock] at e) b2.size).1
                have hL := b3.low2 (lt_of_block b3.at0) b3.bl.size (b2.trans hlow)
                obtain ⟨⟨p0, p1, p2, p3, p4, p5, p6, p7⟩, pf⟩ := c8 hL.at1
                have HLL : Hid _ := hL
                have HHE : Hid (∀ W v, BoxAt W b v s3 → Calls Tryz.prog 32 #[.pointer (some ⟨b, 0, none⟩), .int .i64 h] W fun e w' => e = .returned (.tuple #[.int .i64 0, .int .i64 0]) ∧ Below W.heap.size W w') := fun W v hW => by
                  have h1 := BHeld_any hW HG3.out.2 h
                  rw [HG3.out.1] at h1
                  exact h1
                have HWH : Hid (m.extract 0 (pp M q k3) = m) := by
                  show _ = _
                  rw [HZ.out.pN, ← HMS.out]
                  exact ByteArray.extract_zero_size
                rw [HWH.out]
                clear hL hlow b1 b2 b3
                go_wp2_with fail
                refine (HHE.out _ _ HM.out.box).mono ?_
                rintro e w11 ⟨rfl, hb11⟩
                have HL2 : Hid _ := HLL.out.call hb11
                clear p0 p1 p2 p3 p4 p5 p6 p7 pf hb11
                obtain ⟨⟨p0, p1, p2, p3, p4, p5, p6, p7⟩, pf⟩ := c8 HL2.out.at0
                go_wp2_with fail
                go_ret
                exact ⟨rfl, HL2.out.bl⟩
set_option maxHeartbeats 400000 in
theorem Cut_any (a c : Int) (dd : ByteArray) (w : World) (ha0 : -9223372036854775808 ≤ a) (ha1 : a ≤ 9223372036854775807) (hc0 : -9223372036854775808 ≤ c) (hc1 : c ≤ 9223372036854775807) :
    Calls Tryz.prog 4 #[.int .i64 a, .int .i64 c, .string dd] w fun e w' => e = .returned (.bool true) ∧ Below w.heap.size w w' := by
  have HR : Hid (∀ w, Calls Tryz.prog 9 #[.int .i64 a, .int .i64 c, .string dd] w fun e w' => e = .returned (.bool true) ∧ Below w.heap.size w w') := fun w => pieces_any a c dd w ha0 ha1 hc0 hc1
  go_enter Tryz.func4, Tryz.ntmps4
  go_wp2_with (go_at_call 9; refine (HR.out _).mono ?_; rintro e w1 ⟨rfl, hb1⟩)
  go_ret
  exact ⟨rfl, hb1⟩
end Go.Proofs.YtfkjobiapjhacabGreat
