/- Poison: the walk. Own work. -/
import Derived.Test.YtfkjobiapjhacabGreatQf
import Derived.Test.YtfkjobiapjhacabGreatQd
import Derived.Laws.IdiomStrings
namespace Go.Proofs.YtfkjobiapjhacabGreat
open Go.RowKit
attribute [local go_sem ↓] Go.wp_at_zero Go.wp_at_succ

/-- The bytes with one bit of one byte turned. -/
def flipL (l : List UInt8) (k : Nat) : List UInt8 := l.set k (l.getD k 0 ^^^ 1)
def flipA (X : ByteArray) (k : Nat) : ByteArray := ⟨(flipL (bl X) k).toArray⟩
theorem flipA_size (X : ByteArray) (k : Nat) : (flipA X k).size = X.size := by
  have : (flipA X k).size = (flipL (bl X) k).length := by simp [flipA, ByteArray.size]
  rw [this]
  unfold flipL
  rw [List.length_set, bl_length]
theorem xor1_ne (x : UInt8) : x ^^^ 1 ≠ x := by
  intro h
  have h2 : (x ^^^ 1) ^^^ x = x ^^^ x := by rw [h]
  rw [UInt8.xor_self, UInt8.xor_comm x 1, UInt8.xor_assoc, UInt8.xor_self, UInt8.xor_zero] at h2
  exact absurd h2 (by decide)
theorem flipA_ne (X : ByteArray) (k : Nat) (hk : k < X.size) : ¬ X = flipA X k := by
  intro h
  have h2 : bl X = flipL (bl X) k := by
    have : bl (flipA X k) = flipL (bl X) k := by simp [flipA, bl]
    rw [← this, ← h]
  have hk2 : k < (bl X).length := by rw [bl_length]; exact hk
  have h3 : (bl X)[k]? = (flipL (bl X) k)[k]? := congrArg (fun l => l[k]?) h2
  unfold flipL at h3
  rw [List.getElem?_set_self hk2, List.getElem?_eq_getElem hk2] at h3
  have h4 : (bl X).getD k 0 = (bl X)[k] := by simp [List.getD_eq_getElem?_getD, List.getElem?_eq_getElem hk2]
  rw [h4] at h3
  exact xor1_ne _ (Option.some.inj h3).symm
theorem split_at (M : ByteArray) (n : Nat) : M.extract 0 n ++ M.extract n M.size = M := by
  apply bl_inj
  have : ∀ a b : ByteArray, bl (a ++ b) = bl a ++ bl b := fun a b => by simp [bl]
  rw [this, bl_ex, bl_ex, List.drop_zero, Nat.sub_zero, List.take_of_length_le (l := (bl M).drop n) (by rw [List.length_drop, bl_length]; omega)]
  exact List.take_append_drop n (bl M)
theorem ad_cell (w : World) (C : Array Value) (t : TypeId) (fr : Nat × Nat) (j : Nat) : ((w.alloc (.cells C t fr)).drew).cell? ⟨w.heap.size, j, none⟩ = C[j]? := by
  have h : ((w.alloc (.cells C t fr)).drew).heap[w.heap.size]? = some (.cells C t fr) := heap_alloc_new w _
  unfold World.cell?
  rw [h]
  simp
theorem ad_frozen (w : World) (C : Array Value) (t : TypeId) (j : Nat) (hj : j < C.size) : ((w.alloc (.cells C t (C.size, C.size + 1))).drew).frozen? ⟨w.heap.size, j, none⟩ = false := by
  have h : ((w.alloc (.cells C t (C.size, C.size + 1))).drew).heap[w.heap.size]? = some (.cells C t (C.size, C.size + 1)) := heap_alloc_new w _
  unfold World.frozen?
  rw [h]
  simp
  omega
theorem xor_byte (x : UInt8) : bits .xor .u8 (x.toNat : Int) 1 = ((x ^^^ 1).toNat : Int) := by
  have h := u8_xor_nat x.toNat 1 (by have := x.toNat_lt; omega) (by decide)
  rw [show ((1 : Nat) : Int) = (1 : Int) from rfl] at h
  rw [h, UInt8.toNat_xor]
  rfl
set_option maxRecDepth 100000 in
set_option maxHeartbeats 4000000 in
theorem poison_any (a : Int) (w : World) (ha0 : -9223372036854775808 ≤ a) (ha1 : a ≤ 9223372036854775807) :
    Calls Tryz.prog 10 #[.int .i64 a] w fun e w' => e = .returned (.bool true) ∧ Below w.heap.size w w' := by
  have hk := pickI_bd a 200 (by decide)
  have hk2 := pickI_bd a 65535 (by decide)
  have hk3 := pickI_bd a 16 (by decide)
  have HHO : Hid (∀ w, Calls Tryz.prog 15 #[.int .i64 a] w fun e w' => e = .returned (.int .i64 (167772161 + pickI a 200)) ∧ w' = w) := fun w => host_any a w ha0 ha1
  have HPO : Hid (∀ w, Calls Tryz.prog 17 #[.int .i64 a] w fun e w' => e = .returned (.int .i64 (1 + pickI a 65535)) ∧ w' = w) := fun w => port_any a w ha0 ha1
  have HFA : Hid (∀ w, Calls Tryz.prog 16 #[.int .i64 a] w fun e w' => e = .returned (.int .i64 (134744064 + pickI a 200)) ∧ w' = w) := fun w => far_any a w ha0 ha1
  have HPK : Hid (∀ w, Calls Tryz.prog 12 #[.int .i64 a, .int .i64 16] w fun e w' => e = .returned (.int .i64 (pickI a 16)) ∧ w' = w) := fun w => pick_any a 16 w ha0 ha1 (by decide) (by decide)
  obtain ⟨kk, hkk⟩ : ∃ kk : Nat, pickI a 16 = (kk : Int) := ⟨(pickI a 16).toNat, by omega⟩
  have hkk16 : kk < 16 := by omega
  rw [hkk] at HPK
  obtain ⟨h, hh⟩ : ∃ h, h = 167772161 + pickI a 200 := ⟨_, rfl⟩
  obtain ⟨i, hi⟩ : ∃ i, i = 1 + pickI a 65535 := ⟨_, rfl⟩
  obtain ⟨f, hf⟩ : ∃ f, f = 134744064 + pickI a 200 := ⟨_, rfl⟩
  rw [← hh] at HHO
  rw [← hi] at HPO
  rw [← hf] at HFA
  obtain ⟨M, hMe⟩ : ∃ M, M = udpB h i f i ⟨#[97, 98, 99, 100, 101, 102, 103, 104, 105, 106, 107, 108, 109, 110, 111, 112]⟩ := ⟨_, rfl⟩
  have hms : M.size = 24 := by rw [hMe, udpB_size]; decide
  obtain ⟨X, hXe⟩ : ∃ X, X = M.extract 0 16 := ⟨_, rfl⟩
  obtain ⟨Y, hYe⟩ : ∃ Y, Y = M.extract 16 M.size := ⟨_, rfl⟩
  have hxs : X.size = 16 := by rw [hXe, ByteArray.size_extract]; omega
  have hys : Y.size = 8 := by rw [hYe, ByteArray.size_extract]; omega
  obtain ⟨X', hX'e⟩ : ∃ X', X' = flipA X kk := ⟨_, rfl⟩
  have HZ : Hid (PZ h i f M X Y X') := ⟨by omega, by omega, by omega, by omega, by omega, by omega, hMe, hxs, hys, by rw [hX'e, flipA_size]; exact hxs, by rw [hX'e]; exact flipA_ne X kk (by omega), by rw [hXe, hYe]; exact split_at M 16⟩
  have HUD : Hid (∀ w, Calls Tryz.prog 18 #[.int .i64 h, .int .i64 i, .int .i64 f, .int .i64 i, .string ⟨#[97, 98, 99, 100, 101, 102, 103, 104, 105, 106, 107, 108, 109, 110, 111, 112]⟩] w fun e w' => e = .returned (.agg #[.int .i64 7, .int .i64 0, .int .i64 0, .int .i64 9, .int .i64 17, .int .i64 h, .int .i64 f, .string M]) ∧ Below w.heap.size w w') := fun w => by
    have hu := udp_any h i f i ⟨#[97, 98, 99, 100, 101, 102, 103, 104, 105, 106, 107, 108, 109, 110, 111, 112]⟩ w (by decide)
    have e : (udpP h i f i ⟨#[97, 98, 99, 100, 101, 102, 103, 104, 105, 106, 107, 108, 109, 110, 111, 112]⟩).val = .agg #[.int .i64 7, .int .i64 0, .int .i64 0, .int .i64 9, .int .i64 17, .int .i64 h, .int .i64 f, .string M] := by rw [hMe]; simp only [udpP, PK.val]
    rw [e] at hu
    exact hu
  have HX : Hid (M.extract 0 16 = X) := hXe.symm
  have HY : Hid (M.extract 16 M.size = Y) := hYe.symm
  have HX' : Hid (X' = flipA X kk) := hX'e
  have HXS : Hid (X.size = 16) := hxs
  have hm16 : (16 : Int) ≤ (M.size : Int) := by omega
  obtain ⟨R, hRR⟩ : ∃ R : ByteArray, R = rawP (pY h f Y) := ⟨_, rfl⟩
  have HALL : Hid (∀ b, ∃ s1 s2 s3 s4 s5 s6 s7 s8 : BX,
      (∀ W v, BoxAt W b v (stV 0 [0, 0, 0, 0, 0, 0, 0, 0, 0, 0, 0, 0, 0, 0, 0, 0, 0, 0] []) → Calls Tryz.prog 28 #[.pointer (some ⟨b, 0, none⟩), .int .i64 0, .agg #[.int .i64 7, .int .i64 1, .int .i64 0, .int .i64 9, .int .i64 17, .int .i64 h, .int .i64 f, .string X], .int .i64 1] W fun e w' => e = .returned (.bool true) ∧ ∃ v', BoxAt w' b v' s1 ∧ Chg b v W w' v')
      ∧ (∀ W v, BoxAt W b v s1 → Calls Tryz.prog 28 #[.pointer (some ⟨b, 0, none⟩), .int .i64 0, .agg #[.int .i64 7, .int .i64 1, .int .i64 0, .int .i64 9, .int .i64 17, .int .i64 h, .int .i64 f, .string X'], .int .i64 9] W fun e w' => e = .returned (.bool true) ∧ ∃ v', BoxAt w' b v' s2 ∧ Chg b v W w' v')
      ∧ (∀ W v, BoxAt W b v s2 → Calls Tryz.prog 28 #[.pointer (some ⟨b, 0, none⟩), .int .i64 0, .agg #[.int .i64 7, .int .i64 0, .int .i64 16, .int .i64 9, .int .i64 17, .int .i64 h, .int .i64 f, .string Y], .int .i64 8] W fun e w' => e = .returned (.bool true) ∧ ∃ v', BoxAt w' b v' s3 ∧ Chg b v W w' v')
      ∧ (∀ W v, BoxAt W b v s3 → Calls Tryz.prog 33 #[.pointer (some ⟨b, 0, none⟩), .int .i64 5] W fun e w' => e = .returned (.int .i64 0) ∧ ∃ v', BoxAt w' b v' s4 ∧ Chg b v W w' v')
      ∧ (∀ W v, BoxAt W b v s4 → Calls Tryz.prog 28 #[.pointer (some ⟨b, 0, none⟩), .int .i64 0, .agg #[.int .i64 7, .int .i64 1, .int .i64 0, .int .i64 9, .int .i64 17, .int .i64 h, .int .i64 f, .string X], .int .i64 8] W fun e w' => e = .returned (.bool true) ∧ ∃ v', BoxAt w' b v' s5 ∧ Chg b v W w' v')
      ∧ (∀ W v, BoxAt W b v s5 → Calls Tryz.prog 33 #[.pointer (some ⟨b, 0, none⟩), .int .i64 1] W fun e w' => e = .returned (.int .i64 0) ∧ ∃ v', BoxAt w' b v' s6 ∧ Chg b v W w' v')
      ∧ (∀ W v, BoxAt W b v s6 → Calls Tryz.prog 28 #[.pointer (some ⟨b, 0, none⟩), .int .i64 0, .agg #[.int .i64 7, .int .i64 1, .int .i64 0, .int .i64 9, .int .i64 17, .int .i64 h, .int .i64 f, .string X], .int .i64 1] W fun e w' => e = .returned (.bool true) ∧ ∃ v', BoxAt w' b v' s7 ∧ Chg b v W w' v')
      ∧ (∀ W v, BoxAt W b v s7 → Calls Tryz.prog 21 #[.pointer (some ⟨b, 0, none⟩), .int .i64 0, .string R] W fun e w' => ∃ ao cap, e = .returned (.tuple #[.int .i64 0, .slice ao 2 cap]) ∧ ∃ v', BoxAt w' b v' s8 ∧ Chg b v W w' v')) := fun b => by
    have z := HZ.out
    have okX : ∀ B : ByteArray, B.size = 16 → PKOK (pX h f B) := fun B hB => ⟨by show B.size ≤ 1000; omega, by show (0 : Int) ≤ 1; decide, by show (1 : Int) ≤ 7; decide, by show (0 : Int) ≤ 0; decide, by show (0 : Int) ≤ 65535; decide⟩
    have okY : PKOK (pY h f Y) := ⟨by have := z.y; show Y.size ≤ 1000; omega, by show (0 : Int) ≤ 0; decide, by show (0 : Int) ≤ 7; decide, by show (0 : Int) ≤ 16; decide, by show (16 : Int) ≤ 65535; decide⟩
    obtain ⟨r1, g1⟩ := z_first b z 0 [0, 0, 0, 0, 0, 0, 0, 0, 0, 0, 0, 0, 0, 0, 0, 0, 0, 0] stV_good
    obtain ⟨r2, g2⟩ := z_unlike b z 0 (0 + 6) _ g1
    obtain ⟨r3, g3⟩ := z_poisonY b z 0 (0 + 6) _ g2
    have g4 := g3.tick 5 (by decide) (by show (0 : Int) + 5 ≤ 1000000000000; decide)
    rw [tickV_stay 0 _ _ 5 (by show (0 : Int) + 5 < 0 + 6; decide)] at g4
    obtain ⟨r5, g5⟩ := z_poisonX b z (0 + 5) (0 + 6) _ g4
    have g6 := g5.tick 1 (by decide) (by show (0 : Int) + 5 + 1 ≤ 1000000000000; decide)
    rw [tickV_gone (0 + 5) _ _ 1 (by show ¬ (0 : Int) + 5 + 1 < 0 + 6; decide)] at g6
    obtain ⟨r7, g7⟩ := z_first b z (0 + 5 + 1) _ g6
    obtain ⟨s8, r8⟩ := z_last b z (0 + 5 + 1) (0 + 5 + 1 + 6) _ g7
    refine ⟨_, _, _, _, _, _, _, s8, fun W v hW => none_yes hW 0 1 (pX h f X) (okX X z.x) r1, fun W v hW => none_yes hW 0 9 (pX h f X') (okX X' z.x') r2, fun W v hW => none_yes hW 0 8 (pY h f Y) okY r3, fun W v hW => ?_, fun W v hW => none_yes hW 0 8 (pX h f X) (okX X z.x) r5, fun W v hW => ?_, fun W v hW => none_yes hW 0 1 (pX h f X) (okX X z.x) r7, fun W v hW => by rw [hRR]; exact r8 W v hW⟩
    · have := Tick_good hW g3 5 (by decide) (by decide)
      rw [tickV_stay 0 _ _ 5 (by show (0 : Int) + 5 < 0 + 6; decide)] at this
      exact this
    · have := Tick_good hW g5 1 (by decide) (by decide)
      rw [tickV_gone (0 + 5) _ _ 1 (by show ¬ (0 : Int) + 5 + 1 < 0 + 6; decide)] at this
      exact this
  have HRA : Hid (∀ W, Calls Tryz.prog 20 #[.agg #[.int .i64 7, .int .i64 0, .int .i64 16, .int .i64 9, .int .i64 17, .int .i64 h, .int .i64 f, .string Y]] W fun e w' => e = .returned (.string R) ∧ Below W.heap.size W w') := fun W => by
    rw [hRR]
    exact raw_any (pY h f Y) W (by have := HZ.out.y; show Y.size ≤ 1000000; omega) (by show (0 : Int) ≤ 0; decide) (by show (0 : Int) ≤ 7; decide) (by show (0 : Int) ≤ 16; decide) (by show (16 : Int) ≤ 65535; decide)
  have hbx0 : box0 2 = (stV 0 [0, 0, 0, 0, 0, 0, 0, 0, 0, 0, 0, 0, 0, 0, 0, 0, 0, 0] []) := rfl
  clear hk hk2 hk3 hkk hh hi hf hMe hXe hYe hX'e hxs hys hRR HZ hms
  go_enter Tryz.func10, Tryz.ntmps10
  go_wp2_with fail
  refine (box_any 2 _ (by decide) (by decide)).mono ?_
  rintro e w1 ⟨b, rfl, hbx, hle, hbl⟩
  rw [hbx0] at hbx
  have HL : Hid (w.heap.size ≤ b ∧ Below w.heap.size w w1) := ⟨hle, hbl⟩
  have hM : Hid (GMid w1 w1 b (.slice none 0 0) (.slice none 0 0) (stV 0 [0, 0, 0, 0, 0, 0, 0, 0, 0, 0, 0, 0, 0, 0, 0, 0, 0, 0] []) []) := GMid.start hbx
  clear hbx hle hbl hbx0
  go_wp2_with fail
  refine (HHO.out _).mono ?_; rintro e w' ⟨rfl, rfl⟩
  go_wp2_with fail
  refine (HPO.out _).mono ?_; rintro e w' ⟨rfl, rfl⟩
  go_wp2_with fail
  refine (HFA.out _).mono ?_; rintro e w' ⟨rfl, rfl⟩
  obtain ⟨w1, hw1⟩ : ∃ w1, w1 = w' := ⟨_, rfl⟩
  subst hw1
  go_wp2_with fail
  refine (HUD.out _).mono ?_
  rintro e w2 ⟨rfl, hb1⟩
  have hM1 := (hM.out.call hb1).alloc' #[.int .i64 7, .int .i64 0, .int .i64 0, .int .i64 9, .int .i64 17, .int .i64 h, .int .i64 f, .string M] 37 w2.heap.size rfl
  clear hM hb1 HHO HPO HFA HUD
  obtain ⟨⟨p0, p1, p2, p3, p4, p5, p6, p7⟩, pf⟩ := c8 hM1.at0
  have hM : Hid _ := hM1
  clear hM1
  go_upto_region 6 with fail
  go_cut [8] (fun s8 wx => ∃ kx, s8 = .pointer (some ⟨kx, 0, none⟩) ∧ GMid w1 wx b (.slice none 0 0) (.slice none 0 0) (stV 0 [0, 0, 0, 0, 0, 0, 0, 0, 0, 0, 0, 0, 0, 0, 0, 0, 0, 0] []) [(kx, #[.int .i64 7, .int .i64 0, .int .i64 0, .int .i64 9, .int .i64 17, .int .i64 h, .int .i64 f, .string M], 37), (w2.heap.size, #[.int .i64 7, .int .i64 0, .int .i64 0, .int .i64 9, .int .i64 17, .int .i64 h, .int .i64 f, .string M], 37)])
  case first =>
    go_wp2_with fail
    go_meet
    exact ⟨_, rfl, hM.out.alloc' _ _ _ (by simp)⟩
  case rest =>
  obtain ⟨kx, rfl, hM1⟩ := hcut
  clear hM p0 p1 p2 p3 p4 p5 p6 p7 pf
  obtain ⟨kp, hkp⟩ : ∃ kp, kp = w2.heap.size := ⟨_, rfl⟩
  rw [← hkp] at hM1 ⊢
  clear hkp
  obtain ⟨⟨p0, p1, p2, p3, p4, p5, p6, p7⟩, pf⟩ := c8 hM1.at0
  have hM : Hid _ := hM1
  clear hM1
  go_upto_region 7 with fail
  go_cut [] (fun wx => GMid w1 wx b (.slice none 0 0) (.slice none 0 0) (stV 0 [0, 0, 0, 0, 0, 0, 0, 0, 0, 0, 0, 0, 0, 0, 0, 0, 0, 0] []) [(kx, #[.int .i64 7, .int .i64 1, .int .i64 0, .int .i64 9, .int .i64 17, .int .i64 h, .int .i64 f, .string M], 37), (kp, #[.int .i64 7, .int .i64 0, .int .i64 0, .int .i64 9, .int .i64 17, .int .i64 h, .int .i64 f, .string M], 37)])
  case first =>
    go_wp2_with fail
    go_meet
    have hE := hM.out.set0 1 (.int .i64 1)
    simp only [List.setIfInBounds_toArray, List.set_cons_zero, List.set_cons_succ] at hE
    exact hE
  case rest =>
  have hM1 := hcut
  clear hM hcut p0 p1 p2 p3 p4 p5 p6 p7 pf
  obtain ⟨⟨p0, p1, p2, p3, p4, p5, p6, p7⟩, pf⟩ := c8 hM1.at0
  obtain ⟨⟨q0, q1, q2, q3, q4, q5, q6, q7⟩, qf⟩ := c8 hM1.at1
  have hM : Hid _ := hM1
  clear hM1
  go_upto_region 8 with fail
  go_cut [] (fun wx => GMid w1 wx b (.slice none 0 0) (.slice none 0 0) (stV 0 [0, 0, 0, 0, 0, 0, 0, 0, 0, 0, 0, 0, 0, 0, 0, 0, 0, 0] []) [(kx, #[.int .i64 7, .int .i64 1, .int .i64 0, .int .i64 9, .int .i64 17, .int .i64 h, .int .i64 f, .string X], 37), (kp, #[.int .i64 7, .int .i64 0, .int .i64 0, .int .i64 9, .int .i64 17, .int .i64 h, .int .i64 f, .string M], 37)])
  case first =>
    go_wp2_with fail
    go_meet
    have hE := hM.out.set0 7 (.string (M.extract 0 16))
    simp only [List.setIfInBounds_toArray, List.set_cons_zero, List.set_cons_succ] at hE
    rw [HX.out] at hE
    first | exact hE | (rw [HX.out]; exact hE)
  case rest =>
  have hM1 := hcut
  clear hM hcut p0 p1 p2 p3 p4 p5 p6 p7 pf q0 q1 q2 q3 q4 q5 q6 q7 qf
  obtain ⟨⟨q0, q1, q2, q3, q4, q5, q6, q7⟩, qf⟩ := c8 hM1.at1
  have hM : Hid _ := hM1
  clear hM1
  go_upto_region 9 with fail
  go_cut [9] (fun s9 wx => ∃ ky, s9 = .pointer (some ⟨ky, 0, none⟩) ∧ GMid w1 wx b (.slice none 0 0) (.slice none 0 0) (stV 0 [0, 0, 0, 0, 0, 0, 0, 0, 0, 0, 0, 0, 0, 0, 0, 0, 0, 0] []) [(ky, #[.int .i64 7, .int .i64 0, .int .i64 0, .int .i64 9, .int .i64 17, .int .i64 h, .int .i64 f, .string M], 37), (kx, #[.int .i64 7, .int .i64 1, .int .i64 0, .int .i64 9, .int .i64 17, .int .i64 h, .int .i64 f, .string X], 37), (kp, #[.int .i64 7, .int .i64 0, .int .i64 0, .int .i64 9, .int .i64 17, .int .i64 h, .int .i64 f, .string M], 37)])
  case first =>
    go_wp2_with fail
    go_meet
    exact ⟨_, rfl, hM.out.alloc' _ _ _ rfl⟩
  case rest =>
  obtain ⟨ky, rfl, hM1⟩ := hcut
  clear hM q0 q1 q2 q3 q4 q5 q6 q7 qf
  obtain ⟨⟨p0, p1, p2, p3, p4, p5, p6, p7⟩, pf⟩ := c8 hM1.at0
  have hM : Hid _ := hM1
  clear hM1
  go_upto_region 10 with fail
  go_cut [] (fun wx => GMid w1 wx b (.slice none 0 0) (.slice none 0 0) (stV 0 [0, 0, 0, 0, 0, 0, 0, 0, 0, 0, 0, 0, 0, 0, 0, 0, 0, 0] []) [(ky, #[.int .i64 7, .int .i64 0, .int .i64 16, .int .i64 9, .int .i64 17, .int .i64 h, .int .i64 f, .string M], 37), (kx, #[.int .i64 7, .int .i64 1, .int .i64 0, .int .i64 9, .int .i64 17, .int .i64 h, .int .i64 f, .string X], 37), (kp, #[.int .i64 7, .int .i64 0, .int .i64 0, .int .i64 9, .int .i64 17, .int .i64 h, .int .i64 f, .string M], 37)])
  case first =>
    go_wp2_with fail
    go_meet
    have hE := hM.out.set0 2 (.int .i64 16)
    simp only [List.setIfInBounds_toArray, List.set_cons_zero, List.set_cons_succ] at hE
    exact hE
  case rest =>
  have hM1 := hcut
  clear hM hcut p0 p1 p2 p3 p4 p5 p6 p7 pf
  obtain ⟨⟨p0, p1, p2, p3, p4, p5, p6, p7⟩, pf⟩ := c8 hM1.at0
  obtain ⟨⟨q0, q1, q2, q3, q4, q5, q6, q7⟩, qf⟩ := c8 hM1.at2
  have hM : Hid _ := hM1
  clear hM1
  go_upto_region 11 with fail
  go_cut [] (fun wx => GMid w1 wx b (.slice none 0 0) (.slice none 0 0) (stV 0 [0, 0, 0, 0, 0, 0, 0, 0, 0, 0, 0, 0, 0, 0, 0, 0, 0, 0] []) [(ky, #[.int .i64 7, .int .i64 0, .int .i64 16, .int .i64 9, .int .i64 17, .int .i64 h, .int .i64 f, .string Y], 37), (kx, #[.int .i64 7, .int .i64 1, .int .i64 0, .int .i64 9, .int .i64 17, .int .i64 h, .int .i64 f, .string X], 37), (kp, #[.int .i64 7, .int .i64 0, .int .i64 0, .int .i64 9, .int .i64 17, .int .i64 h, .int .i64 f, .string M], 37)])
  case first =>
    go_wp2_with fail
    go_meet
    have hE := hM.out.set0 7 (.string (M.extract 16 M.size))
    simp only [List.setIfInBounds_toArray, List.set_cons_zero, List.set_cons_succ] at hE
    rw [HY.out] at hE
    first | exact hE | (rw [HY.out]; exact hE)
  case rest =>
  have hM1 := hcut
  clear hM hcut p0 p1 p2 p3 p4 p5 p6 p7 pf q0 q1 q2 q3 q4 q5 q6 q7 qf
  obtain ⟨⟨q0, q1, q2, q3, q4, q5, q6, q7⟩, qf⟩ := c8 hM1.at1
  have hM : Hid _ := hM1
  clear hM1
  go_upto_region 12 with fail
  go_cut [10] (fun s10 wx => ∃ kb, s10 = .pointer (some ⟨kb, 0, none⟩) ∧ GMid w1 wx b (.slice none 0 0) (.slice none 0 0) (stV 0 [0, 0, 0, 0, 0, 0, 0, 0, 0, 0, 0, 0, 0, 0, 0, 0, 0, 0] []) [(kb, #[.int .i64 7, .int .i64 1, .int .i64 0, .int .i64 9, .int .i64 17, .int .i64 h, .int .i64 f, .string X], 37), (ky, #[.int .i64 7, .int .i64 0, .int .i64 16, .int .i64 9, .int .i64 17, .int .i64 h, .int .i64 f, .string Y], 37), (kx, #[.int .i64 7, .int .i64 1, .int .i64 0, .int .i64 9, .int .i64 17, .int .i64 h, .int .i64 f, .string X], 37)])
  case first =>
    go_wp2_with fail
    go_meet
    have hE := hM.out.alloc' #[.int .i64 7, .int .i64 1, .int .i64 0, .int .i64 9, .int .i64 17, .int .i64 h, .int .i64 f, .string X] 37 _ rfl
    exact ⟨_, rfl, ⟨hE.box, hE.chg, hE.lt, fun q hq => hE.bk q (by simp at hq ⊢; rcases hq with e | e | e <;> simp [e]), by
      have ho := hE.ord
      simp only [List.pairwise_cons] at ho ⊢
      exact ⟨fun q hq => ho.1 q (by simp at hq ⊢; rcases hq with e | e <;> simp [e]), fun q hq => ho.2.1 q (by simp at hq ⊢; simp [hq]), by simp, List.Pairwise.nil⟩⟩⟩
  case rest =>
  obtain ⟨kb, rfl, hM1⟩ := hcut
  clear hM q0 q1 q2 q3 q4 q5 q6 q7 qf
  obtain ⟨⟨p0, p1, p2, p3, p4, p5, p6, p7⟩, pf⟩ := c8 hM1.at0
  have nb := lt_of_block hM1.at0
  have hM : Hid _ := hM1
  clear hM1 HX HY
  go_wp2_with fail
  refine (HPK.out _).mono ?_; rintro e w' ⟨rfl, rfl⟩
  obtain ⟨wq, hwq⟩ : ∃ wq, wq = w' := ⟨_, rfl⟩
  subst hwq
  have hcv : ∀ W, (convert 9 59 (.string X)).run Tryz.prog W = .ok (.slice (some ⟨W.heap.size, 0, none⟩) X.size (grownCap W X.size 0 5)) (W.drew.alloc (.cells (bytesRow X (grownCap W X.size 0 5)) 5 ((bytesRow X (grownCap W X.size 0 5)).size, (bytesRow X (grownCap W X.size 0 5)).size + 1))) := fun W => run_bytes_of_string W _ _ _ X Tryz.underlying9 Tryz.underlying59 Tryz.underlying5
  go_upto_region 14 with fail
  go_cut [12] (fun s12 wx => ∃ g cap, s12 = .slice (some ⟨g, 0, none⟩) 16 cap ∧ wq.heap.size ≤ g ∧ g < wx.heap.size ∧ (∀ j, j < 16 → wx.cell? ⟨g, j, none⟩ = some (.int .u8 (((bl X).getD j 0).toNat : Int))) ∧ (∀ j, j < 16 → wx.frozen? ⟨g, j, none⟩ = false) ∧ Below wq.heap.size wq wx)
  case first =>
    go_wp2_with fail
    go_meet
    have hxs := HXS.out
    have hbr : ∀ c, 16 ≤ (bytesRow X c).size := fun c => by unfold bytesRow; simp; omega
    refine ⟨wq.heap.size, _, by rw [hxs], Nat.le_refl _, by simp, fun j hj => ?_, fun j hj => ?_, ((Below.refl _ _).alloc (Nat.le_refl _) _).drew⟩
    · have hj' : j < X.data.size := by rw [show X.data.size = X.size from rfl, hxs]; exact hj
      rw [ad_cell, bytesRow_at X _ j hj']
      have hl : j < (bl X).length := by rw [bl_length, hxs]; exact hj
      have h2 : (bl X).getD j 0 = X.data[j] := by
        rw [List.getD_eq_getElem?_getD, List.getElem?_eq_getElem hl]
        rfl
      rw [h2]
      rfl
    · exact ad_frozen _ _ _ _ (Nat.lt_of_lt_of_le hj (hbr _))
  case rest =>
  obtain ⟨g, cap, rfl, hg0, hg1, hcell, hfro, hbel⟩ := hcut
  clear hcv p0 p1 p2 p3 p4 p5 p6 p7 pf
  have hck := hcell kk hkk16
  have hfk := hfro kk hkk16
  have HCE : Hid (∀ j, j < 16 → wc.cell? ⟨g, j, none⟩ = some (.int .u8 (((bl X).getD j 0).toNat : Int))) := hcell
  have HXO : Hid (bits .xor .u8 (((bl X).getD kk 0).toNat : Int) 1 = (((bl X).getD kk 0 ^^^ 1).toNat : Int)) := xor_byte _
  have hx0 : (0 : Int) ≤ (((bl X).getD kk 0).toNat : Int) := by omega
  have hx1 : (((bl X).getD kk 0).toNat : Int) < 256 := by have := ((bl X).getD kk 0).toNat_lt; omega
  clear hcell hfro
  generalize (((bl X).getD kk 0).toNat : Int) = xv at hck HXO hx0 hx1
  have hki : (0 : Int) ≤ (kk : Int) := by omega
  have hkl : (kk : Int) < 16 := by omega
  have HBE : Hid (Below wq.heap.size wq wc) := hbel
  clear hbel
  go_upto_region 15 with fail
  go_cut [] (fun wx => (∀ j, j < 16 → wx.cell? ⟨g, j, none⟩ = some (.int .u8 (((flipL (bl X) kk).getD j 0).toNat : Int))) ∧ g < wx.heap.size ∧ Below wq.heap.size wq wx)
  case first =>
    go_wp2_with fail
    go_meet
    refine ⟨fun j hj => ?_, by simp; exact hg1, HBE.out.setCell hg0 _⟩
    have hl : (bl X).length = 16 := by rw [bl_length, HXS.out]
    by_cases e : j = kk
    · subst e
      rw [World.cell?_setCell_same' _ _ _ (by rw [hck]; rfl)]
      unfold flipL
      rw [List.getD_eq_getElem?_getD, List.getElem?_set_self (by omega)]
      simp only [Option.getD_some]
      rw [← HXO.out]
    · rw [World.cell?_setCell_other _ _ _ _ (fun h => e (congrArg Addr.off h).symm), HCE.out j hj]
      unfold flipL
      rw [List.getD_eq_getElem?_getD, List.getD_eq_getElem?_getD, List.getElem?_set_ne (by omega)]
  case rest =>
  obtain ⟨hcell, hg2, hbel⟩ := hcut
  clear hck hfk HCE HXO hx0 hx1 HBE hg1
  have hfl : (flipL (bl X) kk).length = 16 := by unfold flipL; rw [List.length_set, bl_length, HXS.out]
  have hcb : (convert 59 9 (.slice (some ⟨g, 0, none⟩) 16 cap)).run Tryz.prog wc = .ok (.string X') wc := by
    have h1 := run_convert_bytes_back (P := Tryz.prog) wc 59 9 5 ⟨g, 0, none⟩ cap (flipL (bl X) kk) Tryz.underlying59 Tryz.underlying5 Tryz.underlying9 (fun j hj => by
      have h2 := hcell j (by omega)
      have e : (flipL (bl X) kk).getD j 0 = (flipL (bl X) kk)[j] := by simp [List.getD_eq_getElem?_getD, List.getElem?_eq_getElem hj]
      rw [e] at h2
      have e2 : (⟨g, 0, none⟩ : Addr).add j = ⟨g, j, none⟩ := by simp [Addr.add, eq_comm]
      rw [e2]
      exact h2)
    rw [hfl] at h1
    rw [HX'.out]
    exact h1
  have hM1 := hM.out.call hbel
  clear hM hbel hcell hfl
  obtain ⟨⟨p0, p1, p2, p3, p4, p5, p6, p7⟩, pf⟩ := c8 hM1.at0
  have hM : Hid _ := hM1
  clear hM1
  go_upto_region 16 with fail
  go_cut [] (fun wx => GMid w1 wx b (.slice none 0 0) (.slice none 0 0) (stV 0 [0, 0, 0, 0, 0, 0, 0, 0, 0, 0, 0, 0, 0, 0, 0, 0, 0, 0] []) [(kb, #[.int .i64 7, .int .i64 1, .int .i64 0, .int .i64 9, .int .i64 17, .int .i64 h, .int .i64 f, .string X'], 37), (ky, #[.int .i64 7, .int .i64 0, .int .i64 16, .int .i64 9, .int .i64 17, .int .i64 h, .int .i64 f, .string Y], 37), (kx, #[.int .i64 7, .int .i64 1, .int .i64 0, .int .i64 9, .int .i64 17, .int .i64 h, .int .i64 f, .string X], 37)])
  case first =>
    go_wp2_with fail
    go_meet
    have hE := hM.out.set0 7 (.string X')
    simp only [List.setIfInBounds_toArray, List.set_cons_zero, List.set_cons_succ] at hE
    exact hE
  case rest =>
  have hM1 := hcut
  clear hM hcut hcb p0 p1 p2 p3 p4 p5 p6 p7 pf
  have hM : Hid _ := hM1
  clear hM1
  obtain ⟨s1, s2, s3, s4, s5, s6, s7, s8, r1, r2, r3, r4, r5, r6, r7, r8⟩ := HALL.out b
  have R1 : Hid _ := r1
  have R2 : Hid _ := r2
  have R3 : Hid _ := r3
  have R4 : Hid _ := r4
  have R5 : Hid _ := r5
  have R6 : Hid _ := r6
  have R7 : Hid _ := r7
  have R8 : Hid _ := r8
  clear r1 r2 r3 r4 r5 r6 r7 r8 HALL
  have hM1 := hM.out
  clear hM
  obtain ⟨⟨z0, z1, z2, z3, z4, z5, z6, z7⟩, zf⟩ := c8 hM1.at0; obtain ⟨⟨y0, y1, y2, y3, y4, y5, y6, y7⟩, yf⟩ := c8 hM1.at1; obtain ⟨⟨x0, x1, x2, x3, x4, x5, x6, x7⟩, xf⟩ := c8 hM1.at2
  have hM : Hid _ := hM1
  clear hM1
  go_wp2_with fail
  refine (R1.out _ _ hM.out.box).mono ?_
  rintro e w9 ⟨rfl, v9, hbx, hch⟩
  have hM1 := hM.out.change hbx hch
  clear hM hbx hch
  clear z0 z1 z2 z3 z4 z5 z6 z7 zf y0 y1 y2 y3 y4 y5 y6 y7 yf x0 x1 x2 x3 x4 x5 x6 x7 xf
  obtain ⟨⟨z0, z1, z2, z3, z4, z5, z6, z7⟩, zf⟩ := c8 hM1.at0; obtain ⟨⟨y0, y1, y2, y3, y4, y5, y6, y7⟩, yf⟩ := c8 hM1.at1; obtain ⟨⟨x0, x1, x2, x3, x4, x5, x6, x7⟩, xf⟩ := c8 hM1.at2
  have hM : Hid _ := hM1
  clear hM1
  go_wp2_with fail
  refine (R2.out _ _ hM.out.box).mono ?_
  rintro e w9 ⟨rfl, v9, hbx, hch⟩
  have hM1 := hM.out.change hbx hch
  clear hM hbx hch
  clear z0 z1 z2 z3 z4 z5 z6 z7 zf y0 y1 y2 y3 y4 y5 y6 y7 yf x0 x1 x2 x3 x4 x5 x6 x7 xf
  obtain ⟨⟨z0, z1, z2, z3, z4, z5, z6, z7⟩, zf⟩ := c8 hM1.at0; obtain ⟨⟨y0, y1, y2, y3, y4, y5, y6, y7⟩, yf⟩ := c8 hM1.at1; obtain ⟨⟨x0, x1, x2, x3, x4, x5, x6, x7⟩, xf⟩ := c8 hM1.at2
  have hM : Hid _ := hM1
  clear hM1
  go_wp2_with fail
  refine (R3.out _ _ hM.out.box).mono ?_
  rintro e w9 ⟨rfl, v9, hbx, hch⟩
  have hM1 := hM.out.change hbx hch
  clear hM hbx hch
  clear z0 z1 z2 z3 z4 z5 z6 z7 zf y0 y1 y2 y3 y4 y5 y6 y7 yf x0 x1 x2 x3 x4 x5 x6 x7 xf
  obtain ⟨⟨z0, z1, z2, z3, z4, z5, z6, z7⟩, zf⟩ := c8 hM1.at0; obtain ⟨⟨y0, y1, y2, y3, y4, y5, y6, y7⟩, yf⟩ := c8 hM1.at1; obtain ⟨⟨x0, x1, x2, x3, x4, x5, x6, x7⟩, xf⟩ := c8 hM1.at2
  have hM : Hid _ := hM1
  clear hM1
  go_wp2_with fail
  refine (R4.out _ _ hM.out.box).mono ?_
  rintro e w9 ⟨rfl, v9, hbx, hch⟩
  have hM1 := hM.out.change hbx hch
  clear hM hbx hch
  clear z0 z1 z2 z3 z4 z5 z6 z7 zf y0 y1 y2 y3 y4 y5 y6 y7 yf x0 x1 x2 x3 x4 x5 x6 x7 xf
  obtain ⟨⟨z0, z1, z2, z3, z4, z5, z6, z7⟩, zf⟩ := c8 hM1.at0; obtain ⟨⟨y0, y1, y2, y3, y4, y5, y6, y7⟩, yf⟩ := c8 hM1.at1; obtain ⟨⟨x0, x1, x2, x3, x4, x5, x6, x7⟩, xf⟩ := c8 hM1.at2
  have hM : Hid _ := hM1
  clear hM1
  go_wp2_with fail
  refine (R5.out _ _ hM.out.box).mono ?_
  rintro e w9 ⟨rfl, v9, hbx, hch⟩
  have hM1 := hM.out.change hbx hch
  clear hM hbx hch
  clear z0 z1 z2 z3 z4 z5 z6 z7 zf y0 y1 y2 y3 y4 y5 y6 y7 yf x0 x1 x2 x3 x4 x5 x6 x7 xf
  obtain ⟨⟨z0, z1, z2, z3, z4, z5, z6, z7⟩, zf⟩ := c8 hM1.at0; obtain ⟨⟨y0, y1, y2, y3, y4, y5, y6, y7⟩, yf⟩ := c8 hM1.at1; obtain ⟨⟨x0, x1, x2, x3, x4, x5, x6, x7⟩, xf⟩ := c8 hM1.at2
  have hM : Hid _ := hM1
  clear hM1
  go_wp2_with fail
  refine (R6.out _ _ hM.out.box).mono ?_
  rintro e w9 ⟨rfl, v9, hbx, hch⟩
  have hM1 := hM.out.change hbx hch
  clear hM hbx hch
  clear z0 z1 z2 z3 z4 z5 z6 z7 zf y0 y1 y2 y3 y4 y5 y6 y7 yf x0 x1 x2 x3 x4 x5 x6 x7 xf
  obtain ⟨⟨z0, z1, z2, z3, z4, z5, z6, z7⟩, zf⟩ := c8 hM1.at0; obtain ⟨⟨y0, y1, y2, y3, y4, y5, y6, y7⟩, yf⟩ := c8 hM1.at1; obtain ⟨⟨x0, x1, x2, x3, x4, x5, x6, x7⟩, xf⟩ := c8 hM1.at2
  have hM : Hid _ := hM1
  clear hM1
  go_wp2_with fail
  refine (R7.out _ _ hM.out.box).mono ?_
  rintro e w9 ⟨rfl, v9, hbx, hch⟩
  have hM1 := hM.out.change hbx hch
  clear hM hbx hch
  clear z0 z1 z2 z3 z4 z5 z6 z7 zf y0 y1 y2 y3 y4 y5 y6 y7 yf x0 x1 x2 x3 x4 x5 x6 x7 xf
  obtain ⟨⟨z0, z1, z2, z3, z4, z5, z6, z7⟩, zf⟩ := c8 hM1.at0; obtain ⟨⟨y0, y1, y2, y3, y4, y5, y6, y7⟩, yf⟩ := c8 hM1.at1; obtain ⟨⟨x0, x1, x2, x3, x4, x5, x6, x7⟩, xf⟩ := c8 hM1.at2
  have hM : Hid _ := hM1
  clear hM1
  go_wp2_with fail
  refine (HRA.out _).mono ?_
  rintro e w9 ⟨rfl, hb9⟩
  have hM1 := hM.out.call hb9
  clear hM hb9
  clear z0 z1 z2 z3 z4 z5 z6 z7 zf y0 y1 y2 y3 y4 y5 y6 y7 yf x0 x1 x2 x3 x4 x5 x6 x7 xf
  have hM : Hid _ := hM1
  clear hM1
  go_wp2_with fail
  refine (R8.out _ _ hM.out.box).mono ?_
  rintro e w9 ⟨ao9, cap9, rfl, v9, hbx, hch⟩
  have hM1 := hM.out.change hbx hch
  clear hM hbx hch
  have hM : Hid _ := hM1
  clear hM1
  go_wp2_with fail
  go_ret
  refine ⟨rfl, ?_⟩
  obtain ⟨q1, -⟩ := hM.out.chg.low HL.out.1 (fun k hk => absurd hk (by simp [Value.ownBlock])) HL.out.2.size
  exact HL.out.2.trans q1
theorem Poison_any (n : Int) (w : World) (ha0 : -9223372036854775808 ≤ n) (ha1 : n ≤ 9223372036854775807) :
    Calls Tryz.prog 5 #[.int .i64 n] w fun e w' => e = .returned (.bool true) ∧ Below w.heap.size w w' := by
  have HR : Hid (∀ w, Calls Tryz.prog 10 #[.int .i64 n] w fun e w' => e = .returned (.bool true) ∧ Below w.heap.size w w') := fun w => poison_any n w ha0 ha1
  go_enter Tryz.func5, Tryz.ntmps5
  go_wp2_with (go_at_call 10; refine (HR.out _).mono ?_; rintro e w1 ⟨rfl, hb1⟩)
  go_ret
  exact ⟨rfl, hb1⟩
end Go.Proofs.YtfkjobiapjhacabGreat
