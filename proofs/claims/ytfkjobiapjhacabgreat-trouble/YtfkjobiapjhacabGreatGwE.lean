/- Contracts of package wire: datagrams. Own work. -/
import Derived.Test.YtfkjobiapjhacabGreatGwC
namespace Go.Proofs.YtfkjobiapjhacabGreat
open Go.RowKit
attribute [local go_sem ↓] Go.wp_at_zero Go.wp_at_succ

/-- Is what a datagram holds a message of its protocol? -/
def formedB (pr fp tp : Int) (m : ByteArray) : Bool :=
  if pr = 1 then decide (8 ≤ m.size) else if fp = 0 ∨ tp = 0 then false else if pr = 17 then decide (8 ≤ m.size) && (wordAt m 4 == (m.size : Int))
  else decide (20 ≤ byteAt m 12 / 16 * 4) && decide (byteAt m 12 / 16 * 4 ≤ m.size)

set_option maxRecDepth 100000 in
set_option maxHeartbeats 2000000 in
theorem formed_any (pr fa fp ta tp : Int) (m : ByteArray) (iq : Bool) (w : World) (hm : m.size ≤ 1000) :
    Calls Tryz.prog 92 #[.agg #[.int .i64 pr, .int .i64 fa, .int .i64 fp, .int .i64 ta, .int .i64 tp, .string m, .bool iq]] w fun e w' => e = .returned (.bool (formedB pr fp tp m)) ∧ Below w.heap.size w w' := by
  have HF : Hid (formedB pr fp tp m = (if pr = 1 then decide (8 ≤ m.size) else if fp = 0 ∨ tp = 0 then false else if pr = 17 then decide (8 ≤ m.size) && (wordAt m 4 == (m.size : Int))
      else decide (20 ≤ byteAt m 12 / 16 * 4) && decide (byteAt m 12 / 16 * 4 ≤ m.size))) := rfl
  have b12 := byteAt_bd m 12
  go_enter Tryz.func92, Tryz.ntmps92
  go_wp2_with (first | (go_at_call 73; refine (Byte_any _ _ _).mono ?_; rintro e w' ⟨rfl, rfl⟩) | (go_at_call 74; refine (Word_any _ _ _ (by decide) (by decide)).mono ?_; rintro e w' ⟨rfl, rfl⟩))
  all_goals
    go_ret
    refine ⟨g_bool ?_, (Below.refl _ _).alloc (Nat.le_refl _) _⟩
    rw [HF.out]
    clear HF
    (repeat' split) <;> first | rfl | (simp_all; done) | (exfalso; simp_all; done) | (simp_all; omega) | (exfalso; simp_all; omega)

def hasSumB (pr : Int) (m : ByteArray) : Bool := if pr = 17 then wordAt m 6 != 0 else true
set_option maxRecDepth 100000 in
set_option maxHeartbeats 2000000 in
theorem hasSum_any (pr fa fp ta tp : Int) (m : ByteArray) (iq : Bool) (w : World) :
    Calls Tryz.prog 93 #[.agg #[.int .i64 pr, .int .i64 fa, .int .i64 fp, .int .i64 ta, .int .i64 tp, .string m, .bool iq]] w fun e w' => e = .returned (.bool (hasSumB pr m)) ∧ Below w.heap.size w w' := by
  have HF : Hid (hasSumB pr m = if pr = 17 then wordAt m 6 != 0 else true) := rfl
  go_enter Tryz.func93, Tryz.ntmps93
  go_wp2_with (first | (go_at_call 73; refine (Byte_any _ _ _).mono ?_; rintro e w' ⟨rfl, rfl⟩) | (go_at_call 74; refine (Word_any _ _ _ (by decide) (by decide)).mono ?_; rintro e w' ⟨rfl, rfl⟩))
  all_goals
    go_ret
    refine ⟨g_bool ?_, (Below.refl _ _).alloc (Nat.le_refl _) _⟩
    rw [HF.out]
    clear HF
    (repeat' split) <;> first | rfl | (simp_all; done) | (exfalso; simp_all; done)

/-- The folded sum of all words that a message's checksum is of. -/
def dSum (pr fa ta : Int) (m : ByteArray) : Int := if pr = 1 then sumI m else foldI (sumI m + (fa / 65536 + fa % 65536 + ta / 65536 + ta % 65536) + pr + m.size)
theorem dSum_bd (pr fa ta : Int) (m : ByteArray) : 0 ≤ dSum pr fa ta m ∧ dSum pr fa ta m ≤ 65535 := by
  unfold dSum; split
  · exact sumI_bd _
  · exact foldI_bd _
set_option maxRecDepth 100000 in
set_option maxHeartbeats 400000 in
theorem addressWords_any (a p : Int) (w : World) (h0 : 0 ≤ a) (h1 : a ≤ 4294967295) :
    Calls Tryz.prog 113 #[.agg #[.int .i64 a, .int .i64 p]] w fun e w' => e = .returned (.int .i64 (a / 65536 + a % 65536)) ∧ Below w.heap.size w w' := by
  have a1 := and_ffff a h0 (by omega)
  go_enter Tryz.func113, Tryz.ntmps113
  go_wp2
  go_ret
  exact ⟨rfl, (Below.refl _ _).alloc (Nat.le_refl _) _⟩
set_option maxRecDepth 100000 in
set_option maxHeartbeats 2000000 in
theorem dsum_any (pr fa fp ta tp : Int) (m : ByteArray) (iq : Bool) (w : World) (hm : m.size ≤ 1000) (hp0 : 0 ≤ pr) (hp1 : pr ≤ 255) (hf0 : 0 ≤ fa) (hf1 : fa ≤ 4294967295) (ht0 : 0 ≤ ta) (ht1 : ta ≤ 4294967295) :
    Calls Tryz.prog 94 #[.agg #[.int .i64 pr, .int .i64 fa, .int .i64 fp, .int .i64 ta, .int .i64 tp, .string m, .bool iq]] w fun e w' => e = .returned (.int .i64 (dSum pr fa ta m)) ∧ Below w.heap.size w w' := by
  have sb := sumI_bd m
  by_cases h1 : pr = 1
  · subst h1
    have HF : Hid (dSum 1 fa ta m = sumI m) := rfl
    go_enter Tryz.func94, Tryz.ntmps94
    go_wp2_with (go_at_call 75; refine (Sum_any _ _ (by omega)).mono ?_; rintro e w' ⟨rfl, rfl⟩)
    go_ret
    exact ⟨g_int HF.out.symm, (Below.refl _ _).alloc (Nat.le_refl _) _⟩
  · have hp : (pr == 1) = false := by simpa using h1
    have HF : Hid (dSum pr fa ta m = foldI (sumI m + (fa / 65536 + fa % 65536 + ta / 65536 + ta % 65536) + pr + m.size)) := by show _ = _; unfold dSum; rw [if_neg h1]
    clear h1
    have HG : Hid (sumI m + (fa / 65536 + fa % 65536 + ta / 65536 + ta % 65536) + pr + m.size = sumI m + (fa / 65536 + fa % 65536 + (ta / 65536 + ta % 65536)) + pr + m.size) := by show _ = _; omega
    rw [HG.out] at HF
    clear HG
    have hB : Hid (Below w.heap.size w (w.alloc (.cells #[.int .i64 pr, .int .i64 fa, .int .i64 fp, .int .i64 ta, .int .i64 tp, .string m, .bool iq] 106)).drew) := ((Below.refl _ _).alloc (Nat.le_refl _) _).drew
    go_enter Tryz.func94, Tryz.ntmps94
    go_wp2_with (go_at_call 75; refine (Sum_any _ _ (by omega)).mono ?_; rintro e w' ⟨rfl, rfl⟩)
    go_region_held3 (fun w' => w'.cell? ⟨w.heap.size, 0, none⟩ = some (.int .i64 pr) ∧ w'.cell? ⟨w.heap.size, 1, none⟩ = some (.int .i64 fa) ∧ w'.cell? ⟨w.heap.size, 2, none⟩ = some (.int .i64 fp) ∧ w'.cell? ⟨w.heap.size, 3, none⟩ = some (.int .i64 ta) ∧ w'.cell? ⟨w.heap.size, 4, none⟩ = some (.int .i64 tp) ∧ w'.cell? ⟨w.heap.size, 5, none⟩ = some (.string m)) (simp [*]) (first | (go_at_call 113; refine (addressWords_any _ _ _ (by assumption) (by assumption)).mono ?_; rintro e w1 ⟨rfl, hb1⟩; obtain ⟨hc1, hf1⟩ := bcell' hb1; have hz1 : w.heap.size < w1.heap.size := below_lt' hb1 (by first | assumption | (simp; done)); have hB1 := hB.out.trans (hb1.mono hB.out.size); clear hB hb1; have hB : Hid _ := hB1; clear hB1))
    go_wp2_with fail
    refine (Fold_any _ _ (by omega) (by omega)).mono ?_
    rintro e w' ⟨rfl, rfl⟩
    go_wp2_with fail
    go_ret
    refine ⟨g_int ?_, hB.out⟩
    rw [HF.out]

def sumAtI (pr : Int) : Nat := if pr = 6 then 16 else if pr = 17 then 6 else 2
set_option maxRecDepth 100000 in
set_option maxHeartbeats 1000000 in
theorem sumAt_any (pr fa fp ta tp : Int) (m : ByteArray) (iq : Bool) (w : World) :
    Calls Tryz.prog 132 #[.agg #[.int .i64 pr, .int .i64 fa, .int .i64 fp, .int .i64 ta, .int .i64 tp, .string m, .bool iq]] w fun e w' => e = .returned (.int .i64 (sumAtI pr : Int)) ∧ Below w.heap.size w w' := by
  have HF : Hid (sumAtI pr = if pr = 6 then 16 else if pr = 17 then 6 else 2) := rfl
  go_enter Tryz.func132, Tryz.ntmps132
  go_wp2
  all_goals
    go_ret
    refine ⟨g_int ?_, (Below.refl _ _).alloc (Nat.le_refl _) _⟩
    rw [HF.out]
    clear HF
    (repeat' split) <;> first | rfl | (exfalso; simp_all; done)

set_option maxRecDepth 100000 in
set_option maxHeartbeats 1000000 in
theorem Flags_any (pr fa fp ta tp : Int) (m : ByteArray) (iq : Bool) (w : World) :
    Calls Tryz.prog 102 #[.agg #[.int .i64 pr, .int .i64 fa, .int .i64 fp, .int .i64 ta, .int .i64 tp, .string m, .bool iq]] w fun e w' => e = .returned (.int .i64 (byteAt m 13)) ∧ Below w.heap.size w w' := by
  go_enter Tryz.func102, Tryz.ntmps102
  go_wp2_with (go_at_call 73; refine (Byte_any _ _ _).mono ?_; rintro e w' ⟨rfl, rfl⟩)
  go_ret
  exact ⟨rfl, (Below.refl _ _).alloc (Nat.le_refl _) _⟩

/-- What speaks against a message; 0: nothing. -/
def dFault (pr fa fp ta tp : Int) (m : ByteArray) : Int := if formedB pr fp tp m = false then 13 else if hasSumB pr m = true ∧ ¬ dSum pr fa ta m = 65535 then 4 else 0
set_option maxRecDepth 100000 in
set_option maxHeartbeats 2000000 in
theorem dFault_any (pr fa fp ta tp : Int) (m : ByteArray) (iq : Bool) (w : World) (hm : m.size ≤ 1000) (hp0 : 0 ≤ pr) (hp1 : pr ≤ 255) (hf0 : 0 ≤ fa) (hf1 : fa ≤ 4294967295) (ht0 : 0 ≤ ta) (ht1 : ta ≤ 4294967295) :
    Calls Tryz.prog 77 #[.agg #[.int .i64 pr, .int .i64 fa, .int .i64 fp, .int .i64 ta, .int .i64 tp, .string m, .bool iq]] w fun e w' => e = .returned (.int .i64 (dFault pr fa fp ta tp m)) ∧ Below w.heap.size w w' := by
  have HF : Hid (dFault pr fa fp ta tp m = if formedB pr fp tp m = false then 13 else if hasSumB pr m = true ∧ ¬ dSum pr fa ta m = 65535 then 4 else 0) := rfl
  cases c1 : formedB pr fp tp m <;> cases c2 : hasSumB pr m
  all_goals
    go_enter Tryz.func77, Tryz.ntmps77
    go_wp2_with (first
      | (go_at_call 92; refine (formed_any pr fa fp ta tp m iq _ hm).mono ?_; rintro e w1 ⟨rfl, hb1⟩; obtain ⟨hc1, hf1⟩ := bcell' hb1; have hz1 : w.heap.size < w1.heap.size := below_lt' hb1)
      | (go_at_call 93; refine (hasSum_any pr fa fp ta tp m iq _).mono ?_; rintro e w2 ⟨rfl, hb2⟩; obtain ⟨hc2, hf2⟩ := bcell' hb2; have hz2 : w.heap.size < w2.heap.size := below_lt' hb2 hz1)
      | (go_at_call 94; refine (dsum_any pr fa fp ta tp m iq _ hm hp0 hp1 (by assumption) (by assumption) ht0 ht1).mono ?_; rintro e w3 ⟨rfl, hb3⟩))
  all_goals
    go_ret
    refine ⟨g_int ?_, ?_⟩
    · rw [HF.out]; clear HF
      (repeat' split) <;> first | rfl | (exfalso; simp_all; done) | (simp_all; done)
    · first
        | exact ((Below.refl _ _).alloc (Nat.le_refl _) _).trans ((hb1.mono (by simp)).trans ((hb2.mono (by omega)).trans (hb3.mono (by omega))))
        | exact ((Below.refl _ _).alloc (Nat.le_refl _) _).trans ((hb1.mono (by simp)).trans (hb2.mono (by omega)))
        | exact ((Below.refl _ _).alloc (Nat.le_refl _) _).trans (hb1.mono (by simp))
end Go.Proofs.YtfkjobiapjhacabGreat
