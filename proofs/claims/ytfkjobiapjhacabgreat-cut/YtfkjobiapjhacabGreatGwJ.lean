/- Contracts: kinds of ICMP messages; what speaks against an echo. Own work. -/
import Derived.Test.YtfkjobiapjhacabGreatGwP
namespace Go.Proofs.YtfkjobiapjhacabGreat
open Go.RowKit
attribute [local go_sem ↓] Go.wp_at_zero Go.wp_at_succ

/-- Is a message an ICMP error? -/
def errB (pr : Int) (m : ByteArray) : Bool := (pr == 1) && ((byteAt m 0 == 3) || (byteAt m 0 == 11) || (byteAt m 0 == 12))
set_option maxRecDepth 100000 in
set_option maxHeartbeats 1000000 in
theorem IsError_any (pr fa fp ta tp : Int) (m : ByteArray) (iq : Bool) (w : World) :
    Calls Tryz.prog 78 #[.agg #[.int .i64 pr, .int .i64 fa, .int .i64 fp, .int .i64 ta, .int .i64 tp, .string m, .bool iq]] w fun e w' => e = .returned (.bool (errB pr m)) ∧ Below w.heap.size w w' := by
  have HE : Hid (errB pr m = ((pr == 1) && ((byteAt m 0 == 3) || (byteAt m 0 == 11) || (byteAt m 0 == 12)))) := rfl
  have hB : Hid (Below w.heap.size w (w.alloc (.cells #[.int .i64 pr, .int .i64 fa, .int .i64 fp, .int .i64 ta, .int .i64 tp, .string m, .bool iq] 106))) := (Below.refl _ _).alloc (Nat.le_refl _) _
  by_cases c1 : pr = 1
  · have c1b : (pr != 1) = false := by simp [c1]
    have c1c : (pr == 1) = true := by simp [c1]
    rw [c1c] at HE
    clear c1 c1c
    cases k1 : (byteAt m 0 == 3) <;> cases k2 : (byteAt m 0 == 11)
    all_goals
      go_enter Tryz.func78, Tryz.ntmps78
      go_wp2_with (go_at_call 91; refine (Kind_any _ _ _ _ _ _ _ _).mono ?_; rintro e w1 ⟨rfl, hb1⟩; obtain ⟨hc1, hf1⟩ := bcell' hb1; have hz1 : w.heap.size < w1.heap.size := below_lt' hb1; have hB1 := hB.out.trans (hb1.mono hB.out.size); clear hB hb1; have hB : Hid _ := hB1; clear hB1)
      go_ret
      refine ⟨g_bool ?_, hB.out⟩
      rw [HE.out, k1, k2]
      simp
  · have c1b : (pr != 1) = true := by simp [c1]
    have c1c : (pr == 1) = false := by simp [c1]
    rw [c1c] at HE
    go_enter Tryz.func78, Tryz.ntmps78
    go_wp2_with (go_at_call 91; refine (Kind_any _ _ _ _ _ _ _ _).mono ?_; rintro e w1 ⟨rfl, hb1⟩; obtain ⟨hc1, hf1⟩ := bcell' hb1; have hz1 : w.heap.size < w1.heap.size := below_lt' hb1; have hB1 := hB.out.trans (hb1.mono hB.out.size); clear hB hb1; have hB : Hid _ := hB1; clear hB1)
    go_ret
    exact ⟨g_bool HE.out.symm, hB.out⟩
def echoB (pr : Int) (m : ByteArray) : Bool := (pr == 1) && (byteAt m 0 == 8) && (byteAt m 1 == 0)
set_option maxRecDepth 100000 in
set_option maxHeartbeats 1000000 in
theorem IsEcho_any (pr fa fp ta tp : Int) (m : ByteArray) (iq : Bool) (w : World) :
    Calls Tryz.prog 98 #[.agg #[.int .i64 pr, .int .i64 fa, .int .i64 fp, .int .i64 ta, .int .i64 tp, .string m, .bool iq]] w fun e w' => e = .returned (.bool (echoB pr m)) ∧ Below w.heap.size w w' := by
  have HE : Hid (echoB pr m = ((pr == 1) && (byteAt m 0 == 8) && (byteAt m 1 == 0))) := rfl
  have hB : Hid (Below w.heap.size w (w.alloc (.cells #[.int .i64 pr, .int .i64 fa, .int .i64 fp, .int .i64 ta, .int .i64 tp, .string m, .bool iq] 106))) := (Below.refl _ _).alloc (Nat.le_refl _) _
  cases c1 : (pr == 1)
  · rw [c1] at HE
    go_enter Tryz.func98, Tryz.ntmps98
    go_wp2_with (first | (go_at_call 91; refine (Kind_any _ _ _ _ _ _ _ _).mono ?_; rintro e w1 ⟨rfl, hb1⟩; obtain ⟨hc1, hf1⟩ := bcell' hb1; have hz1 : w.heap.size < w1.heap.size := below_lt' hb1; have hB1 := hB.out.trans (hb1.mono hB.out.size); clear hB hb1; have hB : Hid _ := hB1; clear hB1) | (go_at_call 73; refine (Byte_any _ _ _).mono ?_; rintro e w' ⟨rfl, rfl⟩))
    go_ret
    exact ⟨g_bool HE.out.symm, hB.out⟩
  · rw [c1] at HE
    cases k1 : (byteAt m 0 == 8)
    all_goals
      rw [k1] at HE
      go_enter Tryz.func98, Tryz.ntmps98
      go_wp2_with (first | (go_at_call 91; refine (Kind_any _ _ _ _ _ _ _ _).mono ?_; rintro e w1 ⟨rfl, hb1⟩; obtain ⟨hc1, hf1⟩ := bcell' hb1; have hz1 : w.heap.size < w1.heap.size := below_lt' hb1; have hB1 := hB.out.trans (hb1.mono hB.out.size); clear hB hb1; have hB : Hid _ := hB1; clear hB1) | (go_at_call 73; refine (Byte_any _ _ _).mono ?_; rintro e w' ⟨rfl, rfl⟩))
      go_ret
      refine ⟨g_bool ?_, hB.out⟩
      rw [HE.out]
      simp
def replyB (pr : Int) (m : ByteArray) : Bool := (pr == 1) && (byteAt m 0 == 0) && (byteAt m 1 == 0)
set_option maxRecDepth 100000 in
set_option maxHeartbeats 1000000 in
theorem IsReply_any (pr fa fp ta tp : Int) (m : ByteArray) (iq : Bool) (w : World) :
    Calls Tryz.prog 99 #[.agg #[.int .i64 pr, .int .i64 fa, .int .i64 fp, .int .i64 ta, .int .i64 tp, .string m, .bool iq]] w fun e w' => e = .returned (.bool (replyB pr m)) ∧ Below w.heap.size w w' := by
  have HE : Hid (replyB pr m = ((pr == 1) && (byteAt m 0 == 0) && (byteAt m 1 == 0))) := rfl
  have hB : Hid (Below w.heap.size w (w.alloc (.cells #[.int .i64 pr, .int .i64 fa, .int .i64 fp, .int .i64 ta, .int .i64 tp, .string m, .bool iq] 106))) := (Below.refl _ _).alloc (Nat.le_refl _) _
  cases c1 : (pr == 1)
  · rw [c1] at HE
    go_enter Tryz.func99, Tryz.ntmps99
    go_wp2_with (first | (go_at_call 91; refine (Kind_any _ _ _ _ _ _ _ _).mono ?_; rintro e w1 ⟨rfl, hb1⟩; obtain ⟨hc1, hf1⟩ := bcell' hb1; have hz1 : w.heap.size < w1.heap.size := below_lt' hb1; have hB1 := hB.out.trans (hb1.mono hB.out.size); clear hB hb1; have hB : Hid _ := hB1; clear hB1) | (go_at_call 73; refine (Byte_any _ _ _).mono ?_; rintro e w' ⟨rfl, rfl⟩))
    go_ret
    exact ⟨g_bool HE.out.symm, hB.out⟩
  · rw [c1] at HE
    cases k1 : (byteAt m 0 == 0)
    all_goals
      rw [k1] at HE
      go_enter Tryz.func99, Tryz.ntmps99
      go_wp2_with (first | (go_at_call 91; refine (Kind_any _ _ _ _ _ _ _ _).mono ?_; rintro e w1 ⟨rfl, hb1⟩; obtain ⟨hc1, hf1⟩ := bcell' hb1; have hz1 : w.heap.size < w1.heap.size := below_lt' hb1; have hB1 := hB.out.trans (hb1.mono hB.out.size); clear hB hb1; have hB : Hid _ := hB1; clear hB1) | (go_at_call 73; refine (Byte_any _ _ _).mono ?_; rintro e w' ⟨rfl, rfl⟩))
      go_ret
      refine ⟨g_bool ?_, hB.out⟩
      rw [HE.out]
      simp

def eFault (ou side pr ta : Int) (m : ByteArray) : Int :=
  if echoB pr m = false ∧ replyB pr m = false then 13 else if (echoB pr m != (side == 0)) = true then 16 else if echoB pr m = true ∧ (ta == ou) = true then 16 else 0
set_option maxRecDepth 100000 in
set_option maxHeartbeats 1000000 in
theorem echoFault_any {w : World} {b : Nat} {v : Value} {s : BX} (h : BoxAt w b v s) (side : Int) (pr fa fp ta tp : Int) (m : ByteArray) (iq : Bool) :
    Calls Tryz.prog 80 #[.pointer (some ⟨b, 0, none⟩), .int .i64 side, .agg #[.int .i64 pr, .int .i64 fa, .int .i64 fp, .int .i64 ta, .int .i64 tp, .string m, .bool iq]] w fun e w' => e = .returned (.int .i64 (eFault s.ou side pr ta m)) ∧ BoxAt w' b v s ∧ Chg b v w w' v := by
  have HEC : Hid (∀ W, Calls Tryz.prog 98 #[.agg #[.int .i64 pr, .int .i64 fa, .int .i64 fp, .int .i64 ta, .int .i64 tp, .string m, .bool iq]] W fun e w' => e = .returned (.bool (echoB pr m)) ∧ Below W.heap.size W w') := fun W => IsEcho_any pr fa fp ta tp m iq W
  have HRE : Hid (∀ W, Calls Tryz.prog 99 #[.agg #[.int .i64 pr, .int .i64 fa, .int .i64 fp, .int .i64 ta, .int .i64 tp, .string m, .bool iq]] W fun e w' => e = .returned (.bool (replyB pr m)) ∧ Below W.heap.size W w') := fun W => IsReply_any pr fa fp ta tp m iq W
  have hM1 : GMid w (w.alloc (.cells #[.int .i64 pr, .int .i64 fa, .int .i64 fp, .int .i64 ta, .int .i64 tp, .string m, .bool iq] 106)) b v v s [(w.heap.size, #[.int .i64 pr, .int .i64 fa, .int .i64 fp, .int .i64 ta, .int .i64 tp, .string m, .bool iq], 106)] := (GMid.start h).alloc' _ _ _ rfl
  have hlt := h.lt
  obtain ⟨f, hf⟩ : ∃ f, f = eFault s.ou side pr ta m := ⟨_, rfl⟩
  rw [← hf]
  unfold eFault at hf
  clear h
  obtain ⟨⟨a0, a1, a2, a3, a4, a5, a6, a7, a8⟩, af⟩ := hM1.box.get; obtain ⟨⟨d0, d1, d2, d3, d4, d5, d6⟩, df⟩ := c7 hM1.at0
  have hM : Hid _ := hM1
  clear hM1
  generalize echoB pr m = EC at HEC hf
  generalize replyB pr m = RE at HRE hf
  cases EC <;> cases RE <;> cases k3 : (side == 0) <;> cases k4 : (ta == s.ou)
  all_goals
    rw [k3] at hf
    rw [k4] at hf
    simp at hf
    subst hf
    go_enter Tryz.func80, Tryz.ntmps80
    go_wp2_with (first | (go_at_call 98; refine (HEC.out _).mono ?_; rintro e w1 ⟨rfl, hb1⟩; have hM1 := hM.out.call hb1; clear hM hb1; clear a0 a1 a2 a3 a4 a5 a6 a7 a8 af d0 d1 d2 d3 d4 d5 d6 df; obtain ⟨⟨a0, a1, a2, a3, a4, a5, a6, a7, a8⟩, af⟩ := hM1.box.get; obtain ⟨⟨d0, d1, d2, d3, d4, d5, d6⟩, df⟩ := c7 hM1.at0; have hM : Hid _ := hM1; clear hM1) | (go_at_call 99; refine (HRE.out _).mono ?_; rintro e w2 ⟨rfl, hb1⟩; have hM1 := hM.out.call hb1; clear hM hb1; clear a0 a1 a2 a3 a4 a5 a6 a7 a8 af d0 d1 d2 d3 d4 d5 d6 df; obtain ⟨⟨a0, a1, a2, a3, a4, a5, a6, a7, a8⟩, af⟩ := hM1.box.get; obtain ⟨⟨d0, d1, d2, d3, d4, d5, d6⟩, df⟩ := c7 hM1.at0; have hM : Hid _ := hM1; clear hM1))
    try (go_region; go_wp2_with fail)
    go_ret
    first | exact ⟨rfl, hM.out.box, hM.out.chg⟩ | exact ⟨rfl, hM.out.drew.box, hM.out.drew.chg⟩
end Go.Proofs.YtfkjobiapjhacabGreat
