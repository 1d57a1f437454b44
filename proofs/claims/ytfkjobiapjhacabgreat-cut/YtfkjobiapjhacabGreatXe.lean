/- Anything: the law's own looks. Own work. -/
import Derived.Test.YtfkjobiapjhacabGreatXd
namespace Go.Proofs.YtfkjobiapjhacabGreat
open Go.RowKit
attribute [local go_sem ↓] Go.wp_at_zero Go.wp_at_succ

/-- The law's own world. -/
structure BxN (s : BX) : Prop where
  ou : s.ou = 3405803781
  ne : s.ne = 167772160
  bi : s.bi = 8
  ps : s.ps = 400
  gl : s.gl = 700
theorem inner_shr (a : Int) (h0 : 0 ≤ a) (h1 : a ≤ 4294967295) : innerB 167772160 8 a = (a / 16777216 == 10) := by
  rw [inn8, Bool.eq_iff_iff]
  simp
  omega
set_option maxRecDepth 100000 in
set_option maxHeartbeats 1000000 in
theorem proper_any {s : BX} (hx : BxN s) {side sd : Int} {r : ByteArray} (h : FrOK s side sd r) (w : World) :
    Calls Tryz.prog 36 #[.agg #[.int .i64 sd, .string r], .int .i64 side] w fun e w' => e = .returned (.bool true) ∧ Below w.heap.size w w' := by
  obtain ⟨z0, z1, w2, -, b8, sum, xo, yo, hsd, hou⟩ := h
  rw [hx.ne, hx.bi] at xo yo
  rw [hx.ou] at hou
  have A0 := addrAt_bd r 12
  have D0 := addrAt_bd r 16
  rw [inner_shr _ A0.1 A0.2] at xo
  rw [inner_shr _ D0.1 D0.2] at yo
  have a2 : atNI r 2 2 = (r.size : Int) := by rw [atNI_two]; exact w2
  have e12 : atNI r 12 4 = addrAt r 12 := atNI_four r 12
  have e16 : atNI r 16 4 = addrAt r 16 := atNI_four r 16
  rw [← e12] at xo hou A0
  rw [← e16] at yo D0
  have hz8 : 8 < r.size := by omega
  have hb8 : (((r[8]'hz8).toNat : Int) == 0) = false := by
    rw [← byteAt_nat r 8 hz8]
    have e : byteAt r ((8 : Nat) : Int) = byteAt r 8 := rfl
    rw [e]
    exact beq_false_of_ne (by omega)
  have HW : Hid (∀ w, Calls Tryz.prog 40 #[.string (r.extract 0 20)] w fun e w' => e = .returned (.int .i64 65535) ∧ w' = w) := fun w => by
    have h := words_any (r.extract 0 20) w (by rw [ByteArray.size_extract]; omega)
    rw [sum] at h; exact h
  have z0i : (21 : Int) ≤ (r.size : Int) := by omega
  have z1i : (r.size : Int) ≤ 160 := by omega
  have n20 : (20 : Int) ≤ (r.size : Int) := by omega
  have A1 := A0.1
  have A2 := A0.2
  have D1 := D0.1
  have D2 := D0.2
  have xo' : (atNI r 12 4 / 16777216 != 10) = true := by show (!(atNI r 12 4 / 16777216 == 10)) = true; rw [xo]; rfl
  clear w2 b8 sum A0 D0 e12 e16 xo
  rcases hsd with rfl | rfl
  · have yo' : (atNI r 16 4 / 16777216 == 10) = true := by rw [yo]; rfl
    clear yo
    rcases hou with rfl | hou
    · go_enter Tryz.func36, Tryz.ntmps36
      go_wp2_with (first | (go_at_call 37; refine (atI_any _ _ _ _ (by decide) (by decide) (by decide) (by decide) (by omega)).mono ?_; rintro e w' ⟨rfl, rfl⟩) | (go_at_call 40; refine (HW.out _).mono ?_; rintro e w' ⟨rfl, rfl⟩))
      go_ret
      exact ⟨rfl, (Below.refl _ _).alloc (Nat.le_refl _) _⟩
    · have hou' : (atNI r 12 4 == 3405803781) = true := by simp [hou]
      clear hou
      by_cases h1 : side = 1
      · subst h1
        go_enter Tryz.func36, Tryz.ntmps36
        go_wp2_with (first | (go_at_call 37; refine (atI_any _ _ _ _ (by decide) (by decide) (by decide) (by decide) (by omega)).mono ?_; rintro e w' ⟨rfl, rfl⟩) | (go_at_call 40; refine (HW.out _).mono ?_; rintro e w' ⟨rfl, rfl⟩))
        go_ret
        exact ⟨rfl, (Below.refl _ _).alloc (Nat.le_refl _) _⟩
      · have h1' : (side == 1) = false := by simp [h1]
        clear h1
        go_enter Tryz.func36, Tryz.ntmps36
        go_wp2_with (first | (go_at_call 37; refine (atI_any _ _ _ _ (by decide) (by decide) (by decide) (by decide) (by omega)).mono ?_; rintro e w' ⟨rfl, rfl⟩) | (go_at_call 40; refine (HW.out _).mono ?_; rintro e w' ⟨rfl, rfl⟩))
        go_ret
        exact ⟨rfl, (Below.refl _ _).alloc (Nat.le_refl _) _⟩
  · have yo' : (atNI r 16 4 / 16777216 == 10) = false := by rw [yo]; rfl
    clear yo
    rcases hou with rfl | hou
    · go_enter Tryz.func36, Tryz.ntmps36
      go_wp2_with (first | (go_at_call 37; refine (atI_any _ _ _ _ (by decide) (by decide) (by decide) (by decide) (by omega)).mono ?_; rintro e w' ⟨rfl, rfl⟩) | (go_at_call 40; refine (HW.out _).mono ?_; rintro e w' ⟨rfl, rfl⟩))
      go_ret
      exact ⟨rfl, (Below.refl _ _).alloc (Nat.le_refl _) _⟩
    · have hou' : (atNI r 12 4 == 3405803781) = true := by simp [hou]
      clear hou
      by_cases h1 : side = 1
      · subst h1
        go_enter Tryz.func36, Tryz.ntmps36
        go_wp2_with (first | (go_at_call 37; refine (atI_any _ _ _ _ (by decide) (by decide) (by decide) (by decide) (by omega)).mono ?_; rintro e w' ⟨rfl, rfl⟩) | (go_at_call 40; refine (HW.out _).mono ?_; rintro e w' ⟨rfl, rfl⟩))
        go_ret
        exact ⟨rfl, (Below.refl _ _).alloc (Nat.le_refl _) _⟩
      · have h1' : (side == 1) = false := by simp [h1]
        clear h1
        go_enter Tryz.func36, Tryz.ntmps36
        go_wp2_with (first | (go_at_call 37; refine (atI_any _ _ _ _ (by decide) (by decide) (by decide) (by decide) (by omega)).mono ?_; rintro e w' ⟨rfl, rfl⟩) | (go_at_call 40; refine (HW.out _).mono ?_; rintro e w' ⟨rfl, rfl⟩))
        go_ret
        exact ⟨rfl, (Below.refl _ _).alloc (Nat.le_refl _) _⟩
set_option maxRecDepth 100000 in
set_option maxHeartbeats 1000000 in
theorem parsed_no (s : ByteArray) (w : World) (h21 : 21 ≤ s.size) (hs : s.size ≤ 1000) (h2 : wordAt s 2 = s.size) (h0 : byteAt s 0 = 69) (h1 : byteAt s 1 = 0) (hsum : ¬ sumI (s.extract 0 20) = 65535) :
    Calls Tryz.prog 25 #[.string s] w fun e w' => e = .returned (.tuple #[.agg #[.int .i64 0, .int .i64 0, .int .i64 0, .int .i64 0, .int .i64 0, .int .i64 0, .int .i64 0, .string ⟨#[]⟩], .bool false]) ∧ Below w.heap.size w w' := by
  have a2 : atNI s 2 2 = s.size := by rw [atNI_two]; exact h2
  have hz0 : 0 < s.size := by clear h2 a2; omega
  have hz1 : 1 < s.size := by clear h2 a2; omega
  have b0 : ((s[0]'hz0).toNat : Int) = 69 := by rw [← byteAt_nat s 0 hz0]; exact h0
  have b1 : ((s[1]'hz1).toNat : Int) = 0 := by rw [← byteAt_nat s 1 hz1]; exact h1
  obtain ⟨su, hsu⟩ : ∃ su, su = sumI (s.extract 0 20) := ⟨_, rfl⟩
  have HW : Hid (∀ w, Calls Tryz.prog 40 #[.string (s.extract 0 20)] w fun e w' => e = .returned (.int .i64 su) ∧ w' = w) := fun w => by
    rw [hsu]
    exact words_any (s.extract 0 20) w (by rw [ByteArray.size_extract]; omega)
  have hsne : (su != 65535) = true := by rw [hsu]; simp [hsum]
  clear h0 h1 h2 hsum hsu
  go_enter Tryz.func25, Tryz.ntmps25
  go_wp2_with (first | (go_at_call 37; refine (atI_any _ _ _ _ (by decide) (by decide) (by decide) (by decide) (by omega)).mono ?_; rintro e w' ⟨rfl, rfl⟩) | (go_at_call 40; refine (HW.out _).mono ?_; rintro e w' ⟨rfl, rfl⟩))
  refine bodyPost_ret (v := .tuple #[.agg #[.int .i64 0, .int .i64 0, .int .i64 0, .int .i64 0, .int .i64 0, .int .i64 0, .int .i64 0, .string ⟨#[]⟩], .bool false]) (by simp [results, Tryz.results25, go_sem]) rfl ⟨rfl, ?_⟩
  repeat first | exact Below.refl _ _ | refine Below.setCell ?_ (by simp) _ | refine Below.alloc ?_ (by simp) _
/-- A frame with its second byte 0, looked at by the law. -/
theorem flat_frame (r : ByteArray) (h21 : 21 ≤ r.size) (h160 : r.size ≤ 160) (w2 : wordAt r 2 = (r.size : Int)) : (⟨#[69, 0]⟩ ++ r.extract 2 r.size : ByteArray).size = r.size ∧ wordAt (⟨#[69, 0]⟩ ++ r.extract 2 r.size : ByteArray) 2 = (r.size : Int) ∧ byteAt (⟨#[69, 0]⟩ ++ r.extract 2 r.size : ByteArray) 0 = 69 ∧ byteAt (⟨#[69, 0]⟩ ++ r.extract 2 r.size : ByteArray) 1 = 0 ∧ (byteAt r 0 = 69 → byteAt r 1 = 0 → (⟨#[69, 0]⟩ ++ r.extract 2 r.size : ByteArray) = r) := by
  have hl := bl_length r
  have hex : bl (r.extract 2 r.size) = (bl r).drop 2 := by rw [bl_ex]; exact List.take_of_length_le (by rw [List.length_drop]; omega)
  have e : bl (⟨#[69, 0]⟩ ++ r.extract 2 r.size : ByteArray) = [69, 0] ++ (bl r).drop 2 := by
    have : ∀ a b : ByteArray, bl (a ++ b) = bl a ++ bl b := fun a b => by simp [bl]
    rw [this, hex]
    rfl
  have hget : ∀ k : Nat, 2 ≤ k → byteAt (⟨#[69, 0]⟩ ++ r.extract 2 r.size : ByteArray) (k : Int) = byteAt r (k : Int) := fun k hk => by
    rw [byteAt_list, byteAt_list, e, List.getD_eq_getElem?_getD, List.getD_eq_getElem?_getD, List.getElem?_append_right (by simpa using hk), List.getElem?_drop]
    have : 2 + (k - ([69, 0] : List UInt8).length) = k := by simp; omega
    rw [this]
  refine ⟨?_, ?_, ?_, ?_, fun q0 q1 => ?_⟩
  · rw [← bl_length, e]; simp; omega
  · have a1 := hget 2 (by decide)
    have a2 := hget 3 (by decide)
    unfold wordAt at w2 ⊢
    rw [← w2]
    exact congr (congrArg HAdd.hAdd (congrArg (fun z => z * 256) a1)) a2
  · have := byteAt_list (⟨#[69, 0]⟩ ++ r.extract 2 r.size : ByteArray) 0
    rw [e] at this
    exact this
  · have := byteAt_list (⟨#[69, 0]⟩ ++ r.extract 2 r.size : ByteArray) 1
    rw [e] at this
    exact this
  · apply bl_inj
    rw [e]
    have g0 := byteAt_list r 0
    have g1 := byteAt_list r 1
    rw [show ((0 : Nat) : Int) = 0 from rfl, q0] at g0
    rw [show ((1 : Nat) : Int) = 1 from rfl, q1] at g1
    match hb : bl r, hl with
    | [], hl => simp at hl; omega
    | [x], hl => simp at hl; omega
    | x :: y :: t, hl =>
      rw [hb] at g0 g1
      simp at g0 g1
      have ex : x = 69 := UInt8.toNat_inj.1 (by have : (69 : UInt8).toNat = 69 := rfl; omega)
      have ey : y = 0 := UInt8.toNat_inj.1 (by have : (0 : UInt8).toNat = 0 := rfl; omega)
      rw [ex, ey]
      rfl
end Go.Proofs.YtfkjobiapjhacabGreat
