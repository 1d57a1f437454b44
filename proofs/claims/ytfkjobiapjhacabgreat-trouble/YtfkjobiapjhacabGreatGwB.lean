/- Contracts of package wire: packets. Own work. -/
import Derived.Test.YtfkjobiapjhacabGreatGwA
namespace Go.Proofs.YtfkjobiapjhacabGreat
open Go.RowKit
attribute [local go_sem ↓] Go.wp_at_zero Go.wp_at_succ

/-- What speaks against a packet's header h with body b; 0: nothing. -/
def pFault (h b : ByteArray) : Int :=
  if (byteAt h 0 != 69) = true then 3 else if (wordAt h 2 != 20 + (b.size : Int)) = true then 3 else if (bits .and .i64 (wordAt h 6) 32768 != 0) = true then 3
  else if (sumI h != 65535) = true then 4 else if (bits .and .i64 (wordAt h 6) 8192 != 0) = true ∧ ((b.size : Int) % 8 != 0) = true then 3 else if byteAt h 8 ≤ 1 then 5 else 0

theorem bdrewN' {B : Nat} {a w : World} (h : Below B a w) (n : Nat) : Below B a (w.drewN n) := ⟨h.os, h.tape, h.output, h.size, h.block⟩

/-- Does the datagram go on behind the packet? -/
def moreB (h : ByteArray) : Bool := bits .and .i64 (wordAt h 6) 8192 != 0
set_option maxRecDepth 100000 in
set_option maxHeartbeats 1000000 in
theorem More_any (h b : ByteArray) (sr ds pr : Int) (w : World) :
    Calls Tryz.prog 58 #[.agg #[.string h, .int .i64 sr, .int .i64 ds, .int .i64 pr, .string b]] w fun e w' => e = .returned (.bool (moreB h)) ∧ w' = w.alloc (.cells #[.string h, .int .i64 sr, .int .i64 ds, .int .i64 pr, .string b] 83) := by
  have HP : Hid (moreB h = (bits .and .i64 (wordAt h 6) 8192 != 0)) := rfl
  go_enter Tryz.func58, Tryz.ntmps58
  go_wp2_with (go_at_call 74; refine (Word_any _ _ _ (by decide) (by decide)).mono ?_; rintro e w' ⟨rfl, rfl⟩)
  refine bodyPost_ret (v := .bool (bits .and .i64 (wordAt h 6) 8192 != 0)) (by simp [results, Tryz.results58, go_sem]) rfl ⟨by rw [HP.out], rfl⟩

set_option maxRecDepth 100000 in
set_option maxHeartbeats 2000000 in
theorem fault_any (h b : ByteArray) (sr ds pr : Int) (w : World) (hh : h.size ≤ 1000) (hb : b.size ≤ 1000) :
    Calls Tryz.prog 56 #[.agg #[.string h, .int .i64 sr, .int .i64 ds, .int .i64 pr, .string b]] w fun e w' => e = .returned (.int .i64 (pFault h b)) ∧ Below w.heap.size w w' := by
  cases c1 : (byteAt h 0 != 69)
  · cases c2 : (wordAt h 2 != 20 + (b.size : Int))
    · have HC : Hid (pFault h b = (if (bits .and .i64 (wordAt h 6) 32768 != 0) = true then 3
          else if (sumI h != 65535) = true then 4 else if moreB h = true ∧ ((b.size : Int) % 8 != 0) = true then 3 else if byteAt h 8 ≤ 1 then 5 else 0)) := by
        show _ = _
        unfold pFault; rw [c1, c2]; simp [moreB]
      go_enter Tryz.func56, Tryz.ntmps56
      go_wp2
      go_quiet (first | (go_at_call 73; exact Calls.quiet_of_same (Byte_any _ _ _)) | (go_at_call 74; exact Calls.quiet_of_same (Word_any _ _ _ (by decide) (by decide))))
      go_wp2_with (first | (go_at_call 73; refine (Byte_any _ _ _).mono ?_; rintro e w' ⟨rfl, rfl⟩) | (go_at_call 74; refine (Word_any _ _ _ (by decide) (by decide)).mono ?_; rintro e w' ⟨rfl, rfl⟩) | (go_at_call 75; refine (Sum_any _ _ (by omega)).mono ?_; rintro e w' ⟨rfl, rfl⟩) | (go_at_call 58; refine (More_any h b sr ds pr _).mono ?_; rintro e w' ⟨rfl, rfl⟩))
      all_goals
        go_ret
        refine ⟨g_int ?_, by first | exact (bdrewN' ((Below.refl _ _).alloc (Nat.le_refl _) _) _).alloc (by simp) _ | exact bdrewN' ((Below.refl _ _).alloc (Nat.le_refl _) _) _⟩
        rw [HC.out]
        clear HC
        (repeat' split) <;> first | rfl | (exfalso; simp_all; done) | (exfalso; simp_all; omega)
    · have HC : Hid (pFault h b = 3) := by
        show _ = _
        unfold pFault; rw [c1, c2]; simp
      go_enter Tryz.func56, Tryz.ntmps56
      go_wp2
      go_quiet (first | (go_at_call 73; exact Calls.quiet_of_same (Byte_any _ _ _)) | (go_at_call 74; exact Calls.quiet_of_same (Word_any _ _ _ (by decide) (by decide))))
      go_wp2
      go_ret
      exact ⟨g_int HC.out.symm, bdrewN' ((Below.refl _ _).alloc (Nat.le_refl _) _) _⟩
  · have HC : Hid (pFault h b = 3) := by
      show _ = _
      unfold pFault; rw [c1]; simp
    go_enter Tryz.func56, Tryz.ntmps56
    go_wp2
    go_quiet (first | (go_at_call 73; exact Calls.quiet_of_same (Byte_any _ _ _)) | (go_at_call 74; exact Calls.quiet_of_same (Word_any _ _ _ (by decide) (by decide))))
    go_wp2
    go_ret
    exact ⟨g_int HC.out.symm, bdrewN' ((Below.refl _ _).alloc (Nat.le_refl _) _) _⟩
end Go.Proofs.YtfkjobiapjhacabGreat
