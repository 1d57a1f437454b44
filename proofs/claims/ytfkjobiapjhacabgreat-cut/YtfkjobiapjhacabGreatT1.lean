/- Own work. -/
import Derived.Test.YtfkjobiapjhacabGreatG4
import Derived.Test.YtfkjobiapjhacabGreatGwD
import Derived.Test.YtfkjobiapjhacabGreatA3
/- Contracts of package wire: ICMP errors, and the packet that they are about. Own work. -/
namespace Go.Proofs.YtfkjobiapjhacabGreat
open Go.RowKit
attribute [local go_sem ↓] Go.wp_at_zero Go.wp_at_succ

set_option maxRecDepth 100000 in
set_option maxHeartbeats 400000 in
theorem PutWord_no (s : ByteArray) (i : Nat) (v : Int) (w : World) (hs : s.size ≤ 1000000) (hi : s.size < i + 2) (hi2 : i ≤ 1000000) :
    Calls Tryz.prog 109 #[.string s, .int .i64 i, .int .i64 v] w fun e w' => e = .returned (.string s) ∧ Below w.heap.size w w' := by
  have h1 : (0 : Int) ≤ (i : Int) := by omega
  have h2 : (s.size : Int) - 2 < (i : Int) := by omega
  have h3 : IntKind.i64.wrap ((s.size : Int) - 2) = (s.size : Int) - 2 := g_wrap _ (by omega) (by omega)
  go_enter Tryz.func109, Tryz.ntmps109
  go_wp2
  go_ret
  exact ⟨rfl, Below.refl _ _⟩
theorem PutWord_w (s : ByteArray) (i : Nat) (v : Int) (w : World) (hs : s.size ≤ 1000000) (hi2 : i ≤ 1000000) :
    Calls Tryz.prog 109 #[.string s, .int .i64 i, .int .i64 v] w fun e w' => e = .returned (.string (putW s i v)) ∧ Below w.heap.size w w' := by
  unfold putW
  split
  · exact PutWord_any s i v w hs (by omega)
  · exact PutWord_no s i v w hs (by omega) hi2
theorem putW_size (s : ByteArray) (i : Nat) (v : Int) : (putW s i v).size = s.size := by
  unfold putW
  split
  · exact size_put _ _ _ (by omega)
  · rfl
theorem abR_size (m : ByteArray) : (abR m).size = m.size - 8 := by unfold abR; rw [ByteArray.size_extract]; omega
theorem abH_size (m : ByteArray) (h : 28 ≤ m.size) : (abH m).size = 20 := by unfold abH; rw [ByteArray.size_extract, abR_size]; omega
theorem abB_size (m : ByteArray) : (abB m).size = m.size - 28 := by unfold abB; rw [ByteArray.size_extract, abR_size]; omega

set_option maxRecDepth 100000 in
set_option maxHeartbeats 400000 in
theorem told_any (pr fa fp ta tp : Int) (m : ByteArray) (iq : Bool) (w : World) (hm : m.size ≤ 1000) (h8 : 8 ≤ m.size) (r : Array Value) (hr : 28 ≤ m.size ∧ r = #[.string (abH m), .int .i64 (addrAt (abR m) 12), .int .i64 (addrAt (abR m) 16), .int .i64 (byteAt (abR m) 9), .string (abB m)] ∨ m.size < 28 ∧ r = #[.string ⟨#[]⟩, .int .i64 0, .int .i64 0, .int .i64 0, .string ⟨#[]⟩]) :
    Calls Tryz.prog 114 #[.agg #[.int .i64 pr, .int .i64 fa, .int .i64 fp, .int .i64 ta, .int .i64 tp, .string m, .bool iq]] w fun e w' => e = .returned (.agg r) ∧ Below w.heap.size w w' := by
  have HRD : Hid (∀ W, Calls Tryz.prog 55 #[.string (m.extract 8 m.size)] W fun e w' => e = .returned (.agg r) ∧ Below W.heap.size W w') := fun W => by
    have hz := abR_size m
    rcases hr with ⟨h, rfl⟩ | ⟨h, rfl⟩
    · exact read_long (abR m) W (by omega) (by omega)
    · exact read_short (abR m) W (by omega)
  have h5 : ∃ (v0 : ByteArray) (v1 v2 v3 : Int) (v4 : ByteArray), r = #[.string v0, .int .i64 v1, .int .i64 v2, .int .i64 v3, .string v4] := by
    rcases hr with ⟨-, rfl⟩ | ⟨-, rfl⟩
    · exact ⟨_, _, _, _, _, rfl⟩
    · exact ⟨_, _, _, _, _, rfl⟩
  obtain ⟨v0, v1, v2, v3, v4, rfl⟩ := h5
  clear hr
  have hz8 : (8 : Int) ≤ (m.size : Int) := by omega
  go_enter Tryz.func114, Tryz.ntmps114
  go_wp2_with fail
  refine (HRD.out _).mono ?_
  rintro e w1 ⟨rfl, hb1⟩
  have hM : Hid (LMid w w1 [(w.heap.size + 1, #[.string ⟨#[]⟩, .int .i64 0, .int .i64 0, .int .i64 0, .string ⟨#[]⟩], 83), (w.heap.size, #[.int .i64 pr, .int .i64 fa, .int .i64 fp, .int .i64 ta, .int .i64 tp, .string m, .bool iq], 106)]) := (((LMid.start w).alloc' _ _ _ rfl).alloc' _ _ _ (by simp)).call hb1
  clear hb1
  obtain ⟨⟨r0, r1, r2, r3, r4⟩, rf⟩ := c5 hM.out.at0
  go_wp2_with fail
  refine bodyPost_ret (v := .agg #[.string v0, .int .i64 v1, .int .i64 v2, .int .i64 v3, .string v4]) (by simp [results, Tryz.results114, go_sem, r0, r1, r2, r3, r4]) rfl ⟨rfl, ?_⟩
  exact ((((hM.out.bl.setCell (by simp) _).setCell (by simp) _).setCell (by simp) _).setCell (by simp) _).setCell (by simp) _
def tellB (h b : ByteArray) (pr : Int) : Bool := decide (8 ≤ b.size) && (byteAt h 0 == 69) && (sumI h == 65535) && ((pr == 1) || (pr == 6) || (pr == 17)) && (bits .and .i64 (wordAt h 6) 8191 == 0)
theorem abOK_tell (m : ByteArray) (h : 28 ≤ m.size) : abOK m = tellB (abH m) (abB m) (byteAt (abR m) 9) := by
  have e : decide (36 ≤ m.size) = decide (8 ≤ (abB m).size) := decide_eq_decide.mpr (by rw [abB_size]; omega)
  unfold abOK tellB
  rw [e]
set_option maxRecDepth 100000 in
set_option maxHeartbeats 2000000 in
theorem tellable_any (h b : ByteArray) (sr ds pr : Int) (w : World) (hh : h.size ≤ 1000) (hb : b.size ≤ 1000) :
    Calls Tryz.prog 115 #[.agg #[.string h, .int .i64 sr, .int .i64 ds, .int .i64 pr, .string b]] w fun e w' => e = .returned (.bool (tellB h b pr)) ∧ Below w.heap.size w w' := by
  have HT : Hid (tellB h b pr = (decide (8 ≤ b.size) && (byteAt h 0 == 69) && (sumI h == 65535) && ((pr == 1) || (pr == 6) || (pr == 17)) && (bits .and .i64 (wordAt h 6) 8191 == 0))) := rfl
  by_cases c1 : (b.size : Int) < 8
  · have e1 : decide (8 ≤ b.size) = false := decide_eq_false (by omega)
    rw [e1] at HT
    clear e1
    go_enter Tryz.func115, Tryz.ntmps115
    go_wp2_with (first | (go_at_call 73; refine (Byte_any _ _ _).mono ?_; rintro e w' ⟨rfl, rfl⟩) | (go_at_call 74; refine (Word_any _ _ _ (by first | assumption | decide) (by first | assumption | decide)).mono ?_; rintro e w' ⟨rfl, rfl⟩) | (go_at_call 75; refine (Sum_any _ _ (by omega)).mono ?_; rintro e w' ⟨rfl, rfl⟩))
    go_ret
    exact ⟨g_bool (by rw [HT.out]; rfl), (Below.refl _ _).alloc (Nat.le_refl _) _⟩
  · have e1 : decide (8 ≤ b.size) = true := decide_eq_true (by omega)
    rw [e1] at HT
    clear e1
    by_cases c2 : byteAt h 0 = 69
    · have k2 : (byteAt h 0 != 69) = false := by simp [c2]
      have e2 : (byteAt h 0 == 69) = true := by simp [c2]
      rw [e2] at HT
      clear e2 c2
      by_cases c3 : sumI h = 65535
      · have k3 : (sumI h != 65535) = false := by simp [c3]
        have e3 : (sumI h == 65535) = true := by simp [c3]
        rw [e3] at HT
        clear e3 c3
        by_cases c4 : pr = 1 ∨ pr = 6 ∨ pr = 17
        · have c4' : (pr != 1) = false ∨ (pr != 1) = true ∧ (pr != 6) = false ∨ (pr != 1) = true ∧ (pr != 6) = true ∧ (pr != 17) = false := by
            rcases c4 with e | e | e <;> simp [e]
          have e4 : ((pr == 1) || (pr == 6) || (pr == 17)) = true := by rcases c4 with e | e | e <;> simp [e]
          rw [e4] at HT
          clear e4 c4
          rcases c4' with k4 | ⟨k4, k5⟩ | ⟨k4, k5, k6⟩
          all_goals
            go_enter Tryz.func115, Tryz.ntmps115
            go_wp2_with (first | (go_at_call 73; refine (Byte_any _ _ _).mono ?_; rintro e w' ⟨rfl, rfl⟩) | (go_at_call 74; refine (Word_any _ _ _ (by first | assumption | decide) (by first | assumption | decide)).mono ?_; rintro e w' ⟨rfl, rfl⟩) | (go_at_call 75; refine (Sum_any _ _ (by omega)).mono ?_; rintro e w' ⟨rfl, rfl⟩))
            go_ret
            exact ⟨g_bool (by rw [HT.out]; simp), (Below.refl _ _).alloc (Nat.le_refl _) _⟩
        · have k4 : (pr != 1) = true := by simp; omega
          have k5 : (pr != 6) = true := by simp; omega
          have k6 : (pr != 17) = true := by simp; omega
          have e4 : ((pr == 1) || (pr == 6) || (pr == 17)) = false := by simp; omega
          rw [e4] at HT
          clear e4 c4
          go_enter Tryz.func115, Tryz.ntmps115
          go_wp2_with (first | (go_at_call 73; refine (Byte_any _ _ _).mono ?_; rintro e w' ⟨rfl, rfl⟩) | (go_at_call 74; refine (Word_any _ _ _ (by first | assumption | decide) (by first | assumption | decide)).mono ?_; rintro e w' ⟨rfl, rfl⟩) | (go_at_call 75; refine (Sum_any _ _ (by omega)).mono ?_; rintro e w' ⟨rfl, rfl⟩))
          go_ret
          exact ⟨g_bool (by rw [HT.out]; rfl), (Below.refl _ _).alloc (Nat.le_refl _) _⟩
      · have k3 : (sumI h != 65535) = true := by simp [c3]
        have e3 : (sumI h == 65535) = false := by simp [c3]
        rw [e3] at HT
        clear e3 c3
        go_enter Tryz.func115, Tryz.ntmps115
        go_wp2_with (first | (go_at_call 73; refine (Byte_any _ _ _).mono ?_; rintro e w' ⟨rfl, rfl⟩) | (go_at_call 74; refine (Word_any _ _ _ (by first | assumption | decide) (by first | assumption | decide)).mono ?_; rintro e w' ⟨rfl, rfl⟩) | (go_at_call 75; refine (Sum_any _ _ (by omega)).mono ?_; rintro e w' ⟨rfl, rfl⟩))
        go_ret
        exact ⟨g_bool (by rw [HT.out]; rfl), (Below.refl _ _).alloc (Nat.le_refl _) _⟩
    · have k2 : (byteAt h 0 != 69) = true := by simp [c2]
      have e2 : (byteAt h 0 == 69) = false := by simp [c2]
      rw [e2] at HT
      clear e2 c2
      go_enter Tryz.func115, Tryz.ntmps115
      go_wp2_with (first | (go_at_call 73; refine (Byte_any _ _ _).mono ?_; rintro e w' ⟨rfl, rfl⟩) | (go_at_call 74; refine (Word_any _ _ _ (by first | assumption | decide) (by first | assumption | decide)).mono ?_; rintro e w' ⟨rfl, rfl⟩) | (go_at_call 75; refine (Sum_any _ _ (by omega)).mono ?_; rintro e w' ⟨rfl, rfl⟩))
      go_ret
      exact ⟨g_bool (by rw [HT.out]; rfl), (Below.refl _ _).alloc (Nat.le_refl _) _⟩

set_option maxRecDepth 100000 in
set_option maxHeartbeats 1000000 in
theorem About_any (pr fa fp ta tp : Int) (m : ByteArray) (iq : Bool) (w : World) (hm : m.size ≤ 1000) (h8 : 8 ≤ m.size) (r : Array Value) (hr : abOK m = true ∧ r = #[.int .i64 (byteAt (abR m) 9), .int .i64 (addrAt (abR m) 12), .int .i64 (portsOf (byteAt (abR m) 9) (abB m)).1, .int .i64 (addrAt (abR m) 16), .int .i64 (portsOf (byteAt (abR m) 9) (abB m)).2, .string (abB m), .bool false] ∨ abOK m = false ∧ r = #[.int .i64 0, .int .i64 0, .int .i64 0, .int .i64 0, .int .i64 0, .string ⟨#[]⟩, .bool false]) :
    Calls Tryz.prog 95 #[.agg #[.int .i64 pr, .int .i64 fa, .int .i64 fp, .int .i64 ta, .int .i64 tp, .string m, .bool iq]] w fun e w' => e = .returned (.tuple #[.agg r, .bool (abOK m)]) ∧ Below w.heap.size w w' := by
  obtain ⟨v0, v1, v2, v3, v4, hT, hTe, hWh⟩ : ∃ (v0 : ByteArray) (v1 v2 v3 : Int) (v4 : ByteArray), (∀ W, Calls Tryz.prog 114 #[.agg #[.int .i64 pr, .int .i64 fa, .int .i64 fp, .int .i64 ta, .int .i64 tp, .string m, .bool iq]] W fun e w' => e = .returned (.agg #[.string v0, .int .i64 v1, .int .i64 v2, .int .i64 v3, .string v4]) ∧ Below W.heap.size W w') ∧
      (∀ W, Calls Tryz.prog 115 #[.agg #[.string v0, .int .i64 v1, .int .i64 v2, .int .i64 v3, .string v4]] W fun e w' => e = .returned (.bool (abOK m)) ∧ Below W.heap.size W w') ∧
      (abOK m = true → ∀ W g, W.heap[g]? = some (.cells #[.string v0, .int .i64 v1, .int .i64 v2, .int .i64 v3, .string v4] 83 (0, 0)) → Calls Tryz.prog 60 #[.slice (some ⟨g, 0, none⟩) 1 1] W fun e w' => e = .returned (.agg #[.int .i64 (byteAt (abR m) 9), .int .i64 (addrAt (abR m) 12), .int .i64 (portsOf (byteAt (abR m) 9) (abB m)).1, .int .i64 (addrAt (abR m) 16), .int .i64 (portsOf (byteAt (abR m) 9) (abB m)).2, .string (abB m), .bool false]) ∧ Below W.heap.size W w') := by
    by_cases h28 : 28 ≤ m.size
    · refine ⟨_, _, _, _, _, fun W => told_any pr fa fp ta tp m iq W hm h8 _ (Or.inl ⟨h28, rfl⟩), fun W => ?_, fun _ W g hg => Whole_one _ _ _ _ _ W g 1 hg (by rw [abB_size]; omega)⟩
      rw [abOK_tell m h28]
      exact tellable_any _ _ _ _ _ W (by rw [abH_size m h28]; decide) (by rw [abB_size]; omega)
    · have ho : abOK m = false := by
        unfold abOK
        rw [decide_eq_false (by omega)]
        rfl
      refine ⟨_, _, _, _, _, fun W => told_any pr fa fp ta tp m iq W hm h8 _ (Or.inr ⟨by omega, rfl⟩), fun W => ?_, fun h => absurd h (by rw [ho]; decide)⟩
      rw [ho]
      have := tellable_any ⟨#[]⟩ ⟨#[]⟩ 0 0 0 W (by decide) (by decide)
      exact this
  have HT : Hid _ := hT
  have HTE : Hid _ := hTe
  clear hT hTe
  rcases hr with ⟨ho, rfl⟩ | ⟨ho, rfl⟩
  · have HW : Hid _ := hWh ho
    clear hWh
    rw [ho] at HTE ⊢
    clear ho
    generalize byteAt (abR m) 9 = q0 at HW ⊢
    generalize addrAt (abR m) 12 = q1 at HW ⊢
    generalize addrAt (abR m) 16 = q3 at HW ⊢
    generalize (portsOf q0 (abB m)).1 = q2 at HW ⊢
    generalize (portsOf q0 (abB m)).2 = q4 at HW ⊢
    generalize abB m = q5 at HW ⊢
    go_enter Tryz.func95, Tryz.ntmps95
    go_wp2_with fail
    refine (HT.out _).mono ?_
    rintro e w1 ⟨rfl, hb1⟩
    have hM : Hid (LMid w (w1.alloc (.cells #[.string v0, .int .i64 v1, .int .i64 v2, .int .i64 v3, .string v4] 83)) [(w1.heap.size, #[.string v0, .int .i64 v1, .int .i64 v2, .int .i64 v3, .string v4], 83), (w.heap.size + 1, #[.int .i64 0, .int .i64 0, .int .i64 0, .int .i64 0, .int .i64 0, .string ⟨#[]⟩, .bool false], 106), (w.heap.size, #[.int .i64 pr, .int .i64 fa, .int .i64 fp, .int .i64 ta, .int .i64 tp, .string m, .bool iq], 106)]) := ((((LMid.start w).alloc' _ _ _ rfl).alloc' _ _ _ (by simp)).call hb1).alloc' _ _ _ rfl
    clear hb1
    go_wp2_with fail
    refine (HTE.out _).mono ?_
    rintro e w2 ⟨rfl, hb2⟩
    have hM1 := hM.out.call hb2
    clear hM hb2
    have hM : Hid _ := hM1
    clear hM1
    obtain ⟨⟨p0, p1, p2, p3, p4⟩, pf⟩ := c5 hM.out.at0
    go_wp2_with fail
    refine (HW.out _ w2.heap.size (heap_alloc_new w2 _)).mono ?_
    rintro e w3 ⟨rfl, hb3⟩
    have hM1 := ((hM.out.alloc' #[.string v0, .int .i64 v1, .int .i64 v2, .int .i64 v3, .string v4] 83 w2.heap.size rfl).call hb3).tail
    clear hM hb3 p0 p1 p2 p3 p4 pf
    have hM : Hid _ := hM1
    clear hM1
    obtain ⟨⟨r0, r1, r2, r3, r4, r5, r6⟩, rf⟩ := c7 hM.out.at1
    go_wp2_with fail
    refine bodyPost_ret (v := .tuple #[.agg #[.int .i64 q0, .int .i64 q1, .int .i64 q2, .int .i64 q3, .int .i64 q4, .string q5, .bool false], .bool true]) (by simp [results, Tryz.results95, go_sem, r0, r1, r2, r3, r4, r5, r6]) rfl ⟨rfl, ?_⟩
    exact ((((((hM.out.bl.setCell (by simp) _).setCell (by simp) _).setCell (by simp) _).setCell (by simp) _).setCell (by simp) _).setCell (by simp) _).setCell (by simp) _
  · clear hWh
    rw [ho] at HTE ⊢
    clear ho
    go_enter Tryz.func95, Tryz.ntmps95
    go_wp2_with fail
    refine (HT.out _).mono ?_
    rintro e w1 ⟨rfl, hb1⟩
    have hM : Hid (LMid w (w1.alloc (.cells #[.string v0, .int .i64 v1, .int .i64 v2, .int .i64 v3, .string v4] 83)) [(w1.heap.size, #[.string v0, .int .i64 v1, .int .i64 v2, .int .i64 v3, .string v4], 83), (w.heap.size + 1, #[.int .i64 0, .int .i64 0, .int .i64 0, .int .i64 0, .int .i64 0, .string ⟨#[]⟩, .bool false], 106), (w.heap.size, #[.int .i64 pr, .int .i64 fa, .int .i64 fp, .int .i64 ta, .int .i64 tp, .string m, .bool iq], 106)]) := ((((LMid.start w).alloc' _ _ _ rfl).alloc' _ _ _ (by simp)).call hb1).alloc' _ _ _ rfl
    clear hb1
    go_wp2_with fail
    refine (HTE.out _).mono ?_
    rintro e w2 ⟨rfl, hb2⟩
    have hM1 := hM.out.call hb2
    clear hM hb2
    have hM : Hid _ := hM1
    clear hM1
    obtain ⟨⟨r0, r1, r2, r3, r4, r5, r6⟩, rf⟩ := c7 hM.out.at1
    go_wp2_with fail
    refine bodyPost_ret (v := .tuple #[.agg #[.int .i64 0, .int .i64 0, .int .i64 0, .int .i64 0, .int .i64 0, .string ⟨#[]⟩, .bool false], .bool false]) (by simp [results, Tryz.results95, go_sem, r0, r1, r2, r3, r4, r5, r6]) rfl ⟨rfl, ?_⟩
    exact ((((((hM.out.bl.setCell (by simp) _).setCell (by simp) _).setCell (by simp) _).setCell (by simp) _).setCell (by simp) _).setCell (by simp) _).setCell (by simp) _
end Go.Proofs.YtfkjobiapjhacabGreat
/- Contracts of package wire: a message that may be cut, between other ends. Own work. -/
namespace Go.Proofs.YtfkjobiapjhacabGreat
open Go.RowKit
attribute [local go_sem ↓] Go.wp_at_zero Go.wp_at_succ

set_option maxRecDepth 100000 in
set_option maxHeartbeats 1000000 in
theorem EndChange_any (xa xp ya yp : Int) (w : World) (a0 : 0 ≤ xa) (a1 : xa ≤ 4294967295) (p0 : 0 ≤ xp) (p1 : xp ≤ 65535) (b0 : 0 ≤ ya) (b1 : ya ≤ 4294967295) (q0 : 0 ≤ yp) (q1 : yp ≤ 65535) :
    Calls Tryz.prog 135 #[.agg #[.int .i64 xa, .int .i64 xp], .agg #[.int .i64 ya, .int .i64 yp]] w fun e w' => e = .returned (.int .i64 (endChg xa xp ya yp)) ∧ Below w.heap.size w w' := by
  have HE : Hid (endChg xa xp ya yp = 196605 - (xa / 65536 + xa % 65536) - xp + (ya / 65536 + ya % 65536) + yp) := rfl
  have hM1 : LMid w ((w.alloc (.cells #[.int .i64 xa, .int .i64 xp] 98)).alloc (.cells #[.int .i64 ya, .int .i64 yp] 98)) [(w.heap.size + 1, #[.int .i64 ya, .int .i64 yp], 98), (w.heap.size, #[.int .i64 xa, .int .i64 xp], 98)] := ((LMid.start w).alloc' _ _ _ rfl).alloc' _ _ _ (by simp)
  obtain ⟨⟨x0, x1⟩, xf⟩ := c2 hM1.at1; obtain ⟨⟨y0, y1⟩, yf⟩ := c2 hM1.at0
  have hM : Hid _ := hM1.drew
  clear hM1
  go_enter Tryz.func135, Tryz.ntmps135
  go_wp2_with fail
  go_region_held3 (fun w' => w'.cell? ⟨w.heap.size, 0, none⟩ = some (.int .i64 xa) ∧ w'.cell? ⟨w.heap.size, 1, none⟩ = some (.int .i64 xp) ∧ w'.cell? ⟨w.heap.size + 1, 0, none⟩ = some (.int .i64 ya) ∧ w'.cell? ⟨w.heap.size + 1, 1, none⟩ = some (.int .i64 yp)) (simp [*]) (first | (go_at_call 113; refine (addressWords_any _ _ _ (by assumption) (by assumption)).mono ?_; rintro e w1 ⟨rfl, hb1⟩; have hM1 := hM.out.call hb1; clear hM hb1; clear x0 x1 xf y0 y1 yf; obtain ⟨⟨x0, x1⟩, xf⟩ := c2 hM1.at1; obtain ⟨⟨y0, y1⟩, yf⟩ := c2 hM1.at0; have hM : Hid _ := hM1; clear hM1))
  go_wp2_with fail
  go_ret
  refine ⟨g_int ?_, hM.out.bl⟩
  rw [HE.out]
  simp only [IntKind.wrap_i64]
  omega
theorem endChg_bd (xa xp ya yp : Int) (a0 : 0 ≤ xa) (a1 : xa ≤ 4294967295) (p0 : 0 ≤ xp) (p1 : xp ≤ 65535) (b0 : 0 ≤ ya) (b1 : ya ≤ 4294967295) (q0 : 0 ≤ yp) (q1 : yp ≤ 65535) : 0 ≤ endChg xa xp ya yp ∧ endChg xa xp ya yp ≤ 393210 := by
  unfold endChg; omega
set_option maxRecDepth 100000 in
set_option maxHeartbeats 1000000 in
theorem change_any (pr fa fp ta tp : Int) (m : ByteArray) (iq : Bool) (o : ByteArray) (xa xp ya yp : Int) (w : World) (f0 : 0 ≤ fa) (f1 : fa ≤ 4294967295) (p0 : 0 ≤ fp) (p1 : fp ≤ 65535) (t0 : 0 ≤ ta) (t1 : ta ≤ 4294967295) (u0 : 0 ≤ tp) (u1 : tp ≤ 65535)
    (a0 : 0 ≤ xa) (a1 : xa ≤ 4294967295) (q0 : 0 ≤ xp) (q1 : xp ≤ 65535) (b0 : 0 ≤ ya) (b1 : ya ≤ 4294967295) (r0 : 0 ≤ yp) (r1 : yp ≤ 65535) :
    Calls Tryz.prog 134 #[.agg #[.int .i64 pr, .int .i64 fa, .int .i64 fp, .int .i64 ta, .int .i64 tp, .string m, .bool iq], .agg #[.int .i64 pr, .int .i64 xa, .int .i64 xp, .int .i64 ya, .int .i64 yp, .string o, .bool false]] w fun e w' => e = .returned (.int .i64 (chgI pr fa fp ta tp m o xa xp ya yp)) ∧ Below w.heap.size w w' := by
  have hM1 : LMid w ((w.alloc (.cells #[.int .i64 pr, .int .i64 fa, .int .i64 fp, .int .i64 ta, .int .i64 tp, .string m, .bool iq] 106)).alloc (.cells #[.int .i64 pr, .int .i64 xa, .int .i64 xp, .int .i64 ya, .int .i64 yp, .string o, .bool false] 106)) [(w.heap.size + 1, #[.int .i64 pr, .int .i64 xa, .int .i64 xp, .int .i64 ya, .int .i64 yp, .string o, .bool false], 106), (w.heap.size, #[.int .i64 pr, .int .i64 fa, .int .i64 fp, .int .i64 ta, .int .i64 tp, .string m, .bool iq], 106)] := ((LMid.start w).alloc' _ _ _ rfl).alloc' _ _ _ (by simp)
  obtain ⟨⟨d0, d1, d2, d3, d4, d5, d6⟩, df⟩ := c7 hM1.at1; obtain ⟨⟨o0, o1, o2, o3, o4, o5, o6⟩, of⟩ := c7 hM1.at0
  have hM : Hid _ := hM1.drew
  clear hM1
  by_cases h1 : pr = 1
  · have hp : (pr == 1) = true := by simp [h1]
    have HE : Hid (chgI pr fa fp ta tp m o xa xp ya yp = 65535 - wordAt m 4 + wordAt o 4) := if_pos h1
    have w0 := wordAt_bd m 4
    have w1 := wordAt_bd o 4
    clear h1
    go_enter Tryz.func134, Tryz.ntmps134
    go_wp2_with fail
    go_region_held3 (fun w' => w'.cell? ⟨w.heap.size, 5, none⟩ = some (.string m) ∧ w'.cell? ⟨w.heap.size + 1, 5, none⟩ = some (.string o)) (simp [*]) (first | (go_at_call 74; refine (Word_any _ _ _ (by first | assumption | decide) (by first | assumption | decide)).mono ?_; rintro e w' ⟨rfl, rfl⟩))
    go_wp2_with fail
    go_ret
    refine ⟨g_int ?_, hM.out.bl⟩
    rw [HE.out]
    simp only [IntKind.wrap_i64]
    omega
  · have hp : (pr == 1) = false := by simp [h1]
    have HE : Hid (chgI pr fa fp ta tp m o xa xp ya yp = endChg fa fp xa xp + endChg ta tp ya yp) := if_neg h1
    have e0 := endChg_bd fa fp xa xp f0 f1 p0 p1 a0 a1 q0 q1
    have e1 := endChg_bd ta tp ya yp t0 t1 u0 u1 b0 b1 r0 r1
    clear h1
    go_enter Tryz.func134, Tryz.ntmps134
    go_wp2_with fail
    go_region_held3 (fun w' => w'.cell? ⟨w.heap.size, 1, none⟩ = some (.int .i64 fa) ∧ w'.cell? ⟨w.heap.size, 2, none⟩ = some (.int .i64 fp) ∧ w'.cell? ⟨w.heap.size, 3, none⟩ = some (.int .i64 ta) ∧ w'.cell? ⟨w.heap.size, 4, none⟩ = some (.int .i64 tp) ∧ w'.cell? ⟨w.heap.size + 1, 1, none⟩ = some (.int .i64 xa) ∧ w'.cell? ⟨w.heap.size + 1, 2, none⟩ = some (.int .i64 xp) ∧ w'.cell? ⟨w.heap.size + 1, 3, none⟩ = some (.int .i64 ya) ∧ w'.cell? ⟨w.heap.size + 1, 4, none⟩ = some (.int .i64 yp)) (simp [*]) (first | (go_at_call 135; refine (EndChange_any _ _ _ _ _ (by assumption) (by assumption) (by assumption) (by assumption) (by assumption) (by assumption) (by assumption) (by assumption)).mono ?_; rintro e w1 ⟨rfl, hb1⟩; have hM1 := hM.out.call hb1; clear hM hb1; clear d0 d1 d2 d3 d4 d5 d6 df o0 o1 o2 o3 o4 o5 o6 of; obtain ⟨⟨d0, d1, d2, d3, d4, d5, d6⟩, df⟩ := c7 hM1.at1; obtain ⟨⟨o0, o1, o2, o3, o4, o5, o6⟩, of⟩ := c7 hM1.at0; have hM : Hid _ := hM1; clear hM1))
    go_wp2_with fail
    go_ret
    refine ⟨g_int ?_, hM.out.bl⟩
    rw [HE.out]
    try (simp only [IntKind.wrap_i64]; omega)
end Go.Proofs.YtfkjobiapjhacabGreat
/- Contracts of package wire: shifted. Own work. -/
namespace Go.Proofs.YtfkjobiapjhacabGreat
open Go.RowKit
attribute [local go_sem ↓] Go.wp_at_zero Go.wp_at_succ

theorem chgI_bd (pr fa fp ta tp : Int) (m o : ByteArray) (xa xp ya yp : Int) (f0 : 0 ≤ fa) (f1 : fa ≤ 4294967295) (p0 : 0 ≤ fp) (p1 : fp ≤ 65535) (t0 : 0 ≤ ta) (t1 : ta ≤ 4294967295) (u0 : 0 ≤ tp) (u1 : tp ≤ 65535)
    (a0 : 0 ≤ xa) (a1 : xa ≤ 4294967295) (q0 : 0 ≤ xp) (q1 : xp ≤ 65535) (b0 : 0 ≤ ya) (b1 : ya ≤ 4294967295) (r0 : 0 ≤ yp) (r1 : yp ≤ 65535) : 0 ≤ chgI pr fa fp ta tp m o xa xp ya yp ∧ chgI pr fa fp ta tp m o xa xp ya yp ≤ 1000000 := by
  have e0 := endChg_bd fa fp xa xp f0 f1 p0 p1 a0 a1 q0 q1
  have e1 := endChg_bd ta tp ya yp t0 t1 u0 u1 b0 b1 r0 r1
  have w0 := wordAt_bd m 4
  have w1 := wordAt_bd o 4
  unfold chgI
  split <;> omega
set_option maxRecDepth 100000 in
set_option maxHeartbeats 1000000 in
theorem shifted_any (pr fa fp ta tp : Int) (m : ByteArray) (iq : Bool) (xa xp ya yp : Int) (w : World) (hm : m.size ≤ 1000) (h6 : 6 ≤ m.size) (f0 : 0 ≤ fa) (f1 : fa ≤ 4294967295) (p0 : 0 ≤ fp) (p1 : fp ≤ 65535) (t0 : 0 ≤ ta) (t1 : ta ≤ 4294967295) (u0 : 0 ≤ tp) (u1 : tp ≤ 65535)
    (a0 : 0 ≤ xa) (a1 : xa ≤ 4294967295) (q0 : 0 ≤ xp) (q1 : xp ≤ 65535) (b0 : 0 ≤ ya) (b1 : ya ≤ 4294967295) (r0 : 0 ≤ yp) (r1 : yp ≤ 65535) :
    Calls Tryz.prog 126 #[.agg #[.int .i64 pr, .int .i64 fa, .int .i64 fp, .int .i64 ta, .int .i64 tp, .string m, .bool iq], .agg #[.int .i64 xa, .int .i64 xp], .agg #[.int .i64 ya, .int .i64 yp]] w fun e w' => e = .returned (.agg #[.int .i64 pr, .int .i64 xa, .int .i64 xp, .int .i64 ya, .int .i64 yp, .string (shiftM pr fa fp ta tp m xa xp ya yp), .bool false]) ∧ Below w.heap.size w w' := by
  have hos := portM_size pr m xp yp h6
  have HPO : Hid (∀ W, Calls Tryz.prog 123 #[.agg #[.int .i64 pr, .int .i64 fa, .int .i64 fp, .int .i64 ta, .int .i64 tp, .string m, .bool iq], .agg #[.int .i64 xa, .int .i64 xp], .agg #[.int .i64 ya, .int .i64 yp]] W fun e w' => e = .returned (.string (portM pr m xp yp)) ∧ Below W.heap.size W w') := fun W => ported_any pr fa fp ta tp m iq xa xp ya yp W hm h6
  have HHS : Hid (∀ W, Calls Tryz.prog 93 #[.agg #[.int .i64 pr, .int .i64 fa, .int .i64 fp, .int .i64 ta, .int .i64 tp, .string m, .bool iq]] W fun e w' => e = .returned (.bool (hasSumB pr m)) ∧ Below W.heap.size W w') := fun W => hasSum_any pr fa fp ta tp m iq W
  have HSA : Hid (∀ W, Calls Tryz.prog 132 #[.agg #[.int .i64 pr, .int .i64 fa, .int .i64 fp, .int .i64 ta, .int .i64 tp, .string m, .bool iq]] W fun e w' => e = .returned (.int .i64 (sumAtI pr : Int)) ∧ Below W.heap.size W w') := fun W => sumAt_any pr fa fp ta tp m iq W
  have HCH : Hid (∀ W, Calls Tryz.prog 134 #[.agg #[.int .i64 pr, .int .i64 fa, .int .i64 fp, .int .i64 ta, .int .i64 tp, .string m, .bool iq], .agg #[.int .i64 pr, .int .i64 xa, .int .i64 xp, .int .i64 ya, .int .i64 yp, .string (portM pr m xp yp), .bool false]] W fun e w' => e = .returned (.int .i64 (chgI pr fa fp ta tp m (portM pr m xp yp) xa xp ya yp)) ∧ Below W.heap.size W w') := fun W => change_any pr fa fp ta tp m iq (portM pr m xp yp) xa xp ya yp W f0 f1 p0 p1 t0 t1 u0 u1 a0 a1 q0 q1 b0 b1 r0 r1
  have hcb := chgI_bd pr fa fp ta tp m (portM pr m xp yp) xa xp ya yp f0 f1 p0 p1 t0 t1 u0 u1 a0 a1 q0 q1 b0 b1 r0 r1
  obtain ⟨F, hF⟩ : ∃ F, F = shiftM pr fa fp ta tp m xa xp ya yp := ⟨_, rfl⟩
  rw [← hF]
  unfold shiftM at hF
  generalize portM pr m xp yp = o at HPO HCH hcb hos hF
  generalize chgI pr fa fp ta tp m o xa xp ya yp = CH at HCH hcb hF
  have hwb := wordAt_bd m (sumAtI pr : Nat)
  have sa0 : (0 : Int) ≤ (sumAtI pr : Int) := by omega
  have sa2 : sumAtI pr ≤ 16 := sumAtI_le pr
  have sa1 : (sumAtI pr : Int) ≤ 1000000000000000000 := by omega
  have HFO : Hid (∀ W, Calls Tryz.prog 90 #[.int .i64 (65535 - wordAt m (sumAtI pr : Nat) + CH)] W fun e w' => e = .returned (.int .i64 (foldI (65535 - wordAt m (sumAtI pr : Nat) + CH))) ∧ w' = W) := fun W => Fold_any _ W (by omega) (by omega)
  have HCK : Hid (∀ W, Calls Tryz.prog 133 #[.agg #[.int .i64 pr, .int .i64 fa, .int .i64 fp, .int .i64 ta, .int .i64 tp, .string m, .bool iq], .int .i64 (foldI (65535 - wordAt m (sumAtI pr : Nat) + CH))] W fun e w' => e = .returned (.int .i64 (ckI pr (foldI (65535 - wordAt m (sumAtI pr : Nat) + CH)))) ∧ Below W.heap.size W w') := fun W => checksum_any pr fa fp ta tp m iq _ W (foldI_bd _).1 (foldI_bd _).2
  have HPU : Hid (hasSumB pr m = true → ∀ W, Calls Tryz.prog 109 #[.string o, .int .i64 (sumAtI pr : Int), .int .i64 (ckI pr (foldI (65535 - wordAt m (sumAtI pr : Nat) + CH)))] W fun e w' => e = .returned (.string F) ∧ Below W.heap.size W w') := fun h W => by
    rw [hF, if_neg (by rw [h]; decide)]
    exact PutWord_w o (sumAtI pr) _ W (by omega) (by omega)
  have HNO : Hid (hasSumB pr m = false → F = o) := fun h => by rw [hF, if_pos h]
  clear hF hos sa2 f0 f1 p0 p1 t0 t1 u0 u1 a0 a1 q0 q1 b0 b1 r0 r1
  generalize foldI (65535 - wordAt m (sumAtI pr : Nat) + CH) = FO at HFO HCK HPU
  generalize ckI pr FO = CK at HCK HPU
  have hM1 : LMid w ((((w.alloc (.cells #[.int .i64 pr, .int .i64 fa, .int .i64 fp, .int .i64 ta, .int .i64 tp, .string m, .bool iq] 106)).alloc (.cells #[.int .i64 xa, .int .i64 xp] 98)).alloc (.cells #[.int .i64 ya, .int .i64 yp] 98)).alloc (.cells #[.int .i64 0, .int .i64 0, .int .i64 0, .int .i64 0, .int .i64 0, .string ⟨#[]⟩, .bool false] 106)) [(w.heap.size + 3, #[.int .i64 0, .int .i64 0, .int .i64 0, .int .i64 0, .int .i64 0, .string ⟨#[]⟩, .bool false], 106), (w.heap.size + 2, #[.int .i64 ya, .int .i64 yp], 98), (w.heap.size + 1, #[.int .i64 xa, .int .i64 xp], 98), (w.heap.size, #[.int .i64 pr, .int .i64 fa, .int .i64 fp, .int .i64 ta, .int .i64 tp, .string m, .bool iq], 106)] := ((((LMid.start w).alloc' _ _ _ rfl).alloc' _ _ _ (by simp)).alloc' _ _ _ (by simp)).alloc' _ _ _ (by simp)
  obtain ⟨⟨d0, d1, d2, d3, d4, d5, d6⟩, df⟩ := c7 hM1.at3; obtain ⟨⟨x0, x1⟩, xf⟩ := c2 hM1.at2; obtain ⟨⟨y0, y1⟩, yf⟩ := c2 hM1.at1
  have hM : Hid _ := hM1
  clear hM1
  go_enter Tryz.func126, Tryz.ntmps126
  go_upto_region 1 with fail
  go_cut [7] (fun s7 wx => ∃ k, s7 = .pointer (some ⟨k, 0, none⟩) ∧ LMid w wx ((k, #[.int .i64 pr, .int .i64 xa, .int .i64 xp, .int .i64 ya, .int .i64 yp, .string o, .bool false], 106) :: [(w.heap.size + 3, #[.int .i64 0, .int .i64 0, .int .i64 0, .int .i64 0, .int .i64 0, .string ⟨#[]⟩, .bool false], 106), (w.heap.size + 2, #[.int .i64 ya, .int .i64 yp], 98), (w.heap.size + 1, #[.int .i64 xa, .int .i64 xp], 98), (w.heap.size, #[.int .i64 pr, .int .i64 fa, .int .i64 fp, .int .i64 ta, .int .i64 tp, .string m, .bool iq], 106)]))
  case first =>
    go_region_held3 (fun w' => w'.cell? ⟨w.heap.size, 0, none⟩ = some (.int .i64 pr) ∧ w'.cell? ⟨w.heap.size, 1, none⟩ = some (.int .i64 fa) ∧ w'.cell? ⟨w.heap.size, 2, none⟩ = some (.int .i64 fp) ∧ w'.cell? ⟨w.heap.size, 3, none⟩ = some (.int .i64 ta) ∧ w'.cell? ⟨w.heap.size, 4, none⟩ = some (.int .i64 tp) ∧ w'.cell? ⟨w.heap.size, 5, none⟩ = some (.string m) ∧ w'.cell? ⟨w.heap.size, 6, none⟩ = some (.bool iq) ∧ w'.cell? ⟨w.heap.size + 1, 0, none⟩ = some (.int .i64 xa) ∧ w'.cell? ⟨w.heap.size + 1, 1, none⟩ = some (.int .i64 xp) ∧ w'.cell? ⟨w.heap.size + 2, 0, none⟩ = some (.int .i64 ya) ∧ w'.cell? ⟨w.heap.size + 2, 1, none⟩ = some (.int .i64 yp)) (first | (simp [*]; done) | (have hne := lt_of_block hM.out.at3; have hne1 := lt_of_block hM.out.at2; have hne2 := lt_of_block hM.out.at1; simp only [cell_alloc_lt hne, cell_alloc_lt hne1, cell_alloc_lt hne2]; simp [*]; done) | (simp only [cell_set_lt (show w.heap.size < w.heap.size + 4 by omega), cell_set_lt (show w.heap.size + 1 < w.heap.size + 4 by omega), cell_set_lt (show w.heap.size + 2 < w.heap.size + 4 by omega)]; simp [*]; done) | (have hne := lt_of_block hM.out.at3; have hne1 := lt_of_block hM.out.at2; have hne2 := lt_of_block hM.out.at1; simp only [cell_set_lt hne, cell_set_lt hne1, cell_set_lt hne2, cell_alloc_lt hne, cell_alloc_lt hne1, cell_alloc_lt hne2]; simp [*]; done) | go_keep) (first | (go_at_call 123; refine (HPO.out _).mono ?_; rintro e w1 ⟨rfl, hb1⟩; have hM1 := hM.out.drew.call hb1; clear hM hb1; clear d0 d1 d2 d3 d4 d5 d6 df x0 x1 xf y0 y1 yf; obtain ⟨⟨d0, d1, d2, d3, d4, d5, d6⟩, df⟩ := c7 hM1.at3; obtain ⟨⟨x0, x1⟩, xf⟩ := c2 hM1.at2; obtain ⟨⟨y0, y1⟩, yf⟩ := c2 hM1.at1; have hM : Hid _ := hM1; clear hM1) | (go_at_call 123; refine (HPO.out _).mono ?_; rintro e w1 ⟨rfl, hb1⟩; have hM1 := (hM.out.alloc' #[.int .i64 0, .int .i64 0, .int .i64 0, .int .i64 0, .int .i64 0, .string ⟨#[]⟩, .bool false] 106 (w.heap.size + 4) (by simp)).drew.call hb1; clear hM hb1; clear d0 d1 d2 d3 d4 d5 d6 df x0 x1 xf y0 y1 yf; obtain ⟨⟨r0, r1, r2, r3, r4, r5, r6⟩, rf⟩ := c7 hM1.at1; obtain ⟨⟨o0, o1, o2, o3, o4, o5, o6⟩, of⟩ := c7 hM1.at0; obtain ⟨⟨d0, d1, d2, d3, d4, d5, d6⟩, df⟩ := c7 hM1.at4; obtain ⟨⟨x0, x1⟩, xf⟩ := c2 hM1.at3; obtain ⟨⟨y0, y1⟩, yf⟩ := c2 hM1.at2; have hM : Hid _ := hM1; clear hM1))
    · go_wp2_with fail; go_meet; exact ⟨w1.heap.size, rfl, hM.out.alloc' _ _ _ rfl⟩
    · go_wp2_with fail; go_meet; exact ⟨w.heap.size + 4, rfl, ((((((hM.out.set0 0 (.int .i64 pr)).set0 1 (.int .i64 xa)).set0 2 (.int .i64 xp)).set0 3 (.int .i64 ya)).set0 4 (.int .i64 yp)).set0 5 (.string o)).set0 6 (.bool false)⟩
  case rest =>
    obtain ⟨k, rfl, hM1⟩ := hcut
    clear hM
    clear d0 d1 d2 d3 d4 d5 d6 df x0 x1 xf y0 y1 yf
    obtain ⟨⟨r0, r1, r2, r3, r4, r5, r6⟩, rf⟩ := c7 hM1.at1; obtain ⟨⟨o0, o1, o2, o3, o4, o5, o6⟩, of⟩ := c7 hM1.at0; obtain ⟨⟨d0, d1, d2, d3, d4, d5, d6⟩, df⟩ := c7 hM1.at4; obtain ⟨⟨x0, x1⟩, xf⟩ := c2 hM1.at3; obtain ⟨⟨y0, y1⟩, yf⟩ := c2 hM1.at2
    have hlt : w.heap.size + 3 < k := (List.pairwise_cons.1 hM1.ord).1 _ List.mem_cons_self
    have hkn : k ≠ w.heap.size + 3 := by omega
    have hkm : w.heap.size + 3 ≠ k := by omega
    have hM : Hid _ := hM1
    clear hM1
    cases hs : hasSumB pr m
    · have hFo := HNO.out hs
      rw [hs] at HHS
      clear HNO HPU hs
      go_wp2_with (go_at_call 93; refine (HHS.out _).mono ?_; rintro e w2 ⟨rfl, hb1⟩; have hM1 := hM.out.call hb1; clear hM hb1; clear r0 r1 r2 r3 r4 r5 r6 rf o0 o1 o2 o3 o4 o5 o6 of d0 d1 d2 d3 d4 d5 d6 df x0 x1 xf y0 y1 yf; obtain ⟨⟨r0, r1, r2, r3, r4, r5, r6⟩, rf⟩ := c7 hM1.at1; obtain ⟨⟨o0, o1, o2, o3, o4, o5, o6⟩, of⟩ := c7 hM1.at0; obtain ⟨⟨d0, d1, d2, d3, d4, d5, d6⟩, df⟩ := c7 hM1.at4; obtain ⟨⟨x0, x1⟩, xf⟩ := c2 hM1.at3; obtain ⟨⟨y0, y1⟩, yf⟩ := c2 hM1.at2; have hM : Hid _ := hM1; clear hM1)
      refine bodyPost_ret (v := .agg #[.int .i64 pr, .int .i64 xa, .int .i64 xp, .int .i64 ya, .int .i64 yp, .string F, .bool false]) (by simp [results, Tryz.results126, go_sem, r0, r1, r2, r3, r4, r5, r6, hFo]) rfl ⟨rfl, ?_⟩
      have hE := hM.out.bl
      exact ((((((hE.setCell (by simp; omega) _).setCell (by simp; omega) _).setCell (by simp; omega) _).setCell (by simp; omega) _).setCell (by simp; omega) _).setCell (by simp; omega) _).setCell (by simp; omega) _
    · have HP := HPU.out hs
      rw [hs] at HHS
      have HPV : Hid _ := HP
      clear HNO HPU hs HP
      go_upto_region 5 with (first | (go_at_call 93; refine (HHS.out _).mono ?_; rintro e w2 ⟨rfl, hb1⟩; have hM1 := hM.out.call hb1; clear hM hb1; clear r0 r1 r2 r3 r4 r5 r6 rf o0 o1 o2 o3 o4 o5 o6 of d0 d1 d2 d3 d4 d5 d6 df x0 x1 xf y0 y1 yf; obtain ⟨⟨r0, r1, r2, r3, r4, r5, r6⟩, rf⟩ := c7 hM1.at1; obtain ⟨⟨o0, o1, o2, o3, o4, o5, o6⟩, of⟩ := c7 hM1.at0; obtain ⟨⟨d0, d1, d2, d3, d4, d5, d6⟩, df⟩ := c7 hM1.at4; obtain ⟨⟨x0, x1⟩, xf⟩ := c2 hM1.at3; obtain ⟨⟨y0, y1⟩, yf⟩ := c2 hM1.at2; have hM : Hid _ := hM1; clear hM1) | (go_at_call 132; refine (HSA.out _).mono ?_; rintro e w3 ⟨rfl, hb1⟩; have hM1 := hM.out.call hb1; clear hM hb1; clear r0 r1 r2 r3 r4 r5 r6 rf o0 o1 o2 o3 o4 o5 o6 of d0 d1 d2 d3 d4 d5 d6 df x0 x1 xf y0 y1 yf; obtain ⟨⟨r0, r1, r2, r3, r4, r5, r6⟩, rf⟩ := c7 hM1.at1; obtain ⟨⟨o0, o1, o2, o3, o4, o5, o6⟩, of⟩ := c7 hM1.at0; obtain ⟨⟨d0, d1, d2, d3, d4, d5, d6⟩, df⟩ := c7 hM1.at4; obtain ⟨⟨x0, x1⟩, xf⟩ := c2 hM1.at3; obtain ⟨⟨y0, y1⟩, yf⟩ := c2 hM1.at2; have hM : Hid _ := hM1; clear hM1))
      go_cut [9] (fun s9 wx => s9 = .int .i64 (65535 - wordAt m (sumAtI pr : Nat) + CH) ∧ LMid w wx ((k, #[.int .i64 pr, .int .i64 xa, .int .i64 xp, .int .i64 ya, .int .i64 yp, .string o, .bool false], 106) :: [(w.heap.size + 3, #[.int .i64 0, .int .i64 0, .int .i64 0, .int .i64 0, .int .i64 0, .string ⟨#[]⟩, .bool false], 106), (w.heap.size + 2, #[.int .i64 ya, .int .i64 yp], 98), (w.heap.size + 1, #[.int .i64 xa, .int .i64 xp], 98), (w.heap.size, #[.int .i64 pr, .int .i64 fa, .int .i64 fp, .int .i64 ta, .int .i64 tp, .string m, .bool iq], 106)]))
      case first =>
        have hM1 := hM.out.drew
        clear hM
        have hM : Hid _ := hM1
        clear hM1
        go_region_held3 (fun w' => w'.cell? ⟨w.heap.size, 0, none⟩ = some (.int .i64 pr) ∧ w'.cell? ⟨w.heap.size, 1, none⟩ = some (.int .i64 fa) ∧ w'.cell? ⟨w.heap.size, 2, none⟩ = some (.int .i64 fp) ∧ w'.cell? ⟨w.heap.size, 3, none⟩ = some (.int .i64 ta) ∧ w'.cell? ⟨w.heap.size, 4, none⟩ = some (.int .i64 tp) ∧ w'.cell? ⟨w.heap.size, 5, none⟩ = some (.string m) ∧ w'.cell? ⟨w.heap.size, 6, none⟩ = some (.bool iq) ∧ w'.cell? ⟨k, 0, none⟩ = some (.int .i64 pr) ∧ w'.cell? ⟨k, 1, none⟩ = some (.int .i64 xa) ∧ w'.cell? ⟨k, 2, none⟩ = some (.int .i64 xp) ∧ w'.cell? ⟨k, 3, none⟩ = some (.int .i64 ya) ∧ w'.cell? ⟨k, 4, none⟩ = some (.int .i64 yp) ∧ w'.cell? ⟨k, 5, none⟩ = some (.string o) ∧ w'.cell? ⟨k, 6, none⟩ = some (.bool false)) (simp [*]) (first | (go_at_call 74; refine (Word_any _ _ _ (by first | assumption | decide) (by first | assumption | decide)).mono ?_; rintro e w' ⟨rfl, rfl⟩) | (go_at_call 134; refine (HCH.out _).mono ?_; rintro e w4 ⟨rfl, hb1⟩; have hM1 := hM.out.call hb1; clear hM hb1; clear r0 r1 r2 r3 r4 r5 r6 rf o0 o1 o2 o3 o4 o5 o6 of d0 d1 d2 d3 d4 d5 d6 df x0 x1 xf y0 y1 yf; obtain ⟨⟨r0, r1, r2, r3, r4, r5, r6⟩, rf⟩ := c7 hM1.at1; obtain ⟨⟨o0, o1, o2, o3, o4, o5, o6⟩, of⟩ := c7 hM1.at0; obtain ⟨⟨d0, d1, d2, d3, d4, d5, d6⟩, df⟩ := c7 hM1.at4; obtain ⟨⟨x0, x1⟩, xf⟩ := c2 hM1.at3; obtain ⟨⟨y0, y1⟩, yf⟩ := c2 hM1.at2; have hM : Hid _ := hM1; clear hM1))
        go_wp2_with fail
        go_meet
        refine ⟨?_, hM.out⟩
        simp only [IntKind.wrap_i64]
        first | rfl | (refine congrArg _ ?_; omega)
      case rest =>
        obtain ⟨rfl, hM1⟩ := hcut
        clear hM
        clear r0 r1 r2 r3 r4 r5 r6 rf o0 o1 o2 o3 o4 o5 o6 of d0 d1 d2 d3 d4 d5 d6 df x0 x1 xf y0 y1 yf
        obtain ⟨⟨r0, r1, r2, r3, r4, r5, r6⟩, rf⟩ := c7 hM1.at1; obtain ⟨⟨o0, o1, o2, o3, o4, o5, o6⟩, of⟩ := c7 hM1.at0; obtain ⟨⟨d0, d1, d2, d3, d4, d5, d6⟩, df⟩ := c7 hM1.at4; obtain ⟨⟨x0, x1⟩, xf⟩ := c2 hM1.at3; obtain ⟨⟨y0, y1⟩, yf⟩ := c2 hM1.at2
        have hM : Hid _ := hM1.drew
        clear hM1
        go_wp2_with fail
        go_region_with (first | (go_at_call 90; refine (HFO.out _).mono ?_; rintro e w' ⟨rfl, rfl⟩) | (go_at_call 133; refine (HCK.out _).mono ?_; rintro e w5 ⟨rfl, hb1⟩; have hM1 := hM.out.call hb1; clear hM hb1; clear r0 r1 r2 r3 r4 r5 r6 rf o0 o1 o2 o3 o4 o5 o6 of d0 d1 d2 d3 d4 d5 d6 df x0 x1 xf y0 y1 yf; obtain ⟨⟨r0, r1, r2, r3, r4, r5, r6⟩, rf⟩ := c7 hM1.at1; obtain ⟨⟨o0, o1, o2, o3, o4, o5, o6⟩, of⟩ := c7 hM1.at0; obtain ⟨⟨d0, d1, d2, d3, d4, d5, d6⟩, df⟩ := c7 hM1.at4; obtain ⟨⟨x0, x1⟩, xf⟩ := c2 hM1.at3; obtain ⟨⟨y0, y1⟩, yf⟩ := c2 hM1.at2; have hM : Hid _ := hM1; clear hM1) | (go_at_call 109; refine (HPV.out _).mono ?_; rintro e w6 ⟨rfl, hb1⟩; have hM1 := hM.out.call hb1; clear hM hb1; clear r0 r1 r2 r3 r4 r5 r6 rf o0 o1 o2 o3 o4 o5 o6 of d0 d1 d2 d3 d4 d5 d6 df x0 x1 xf y0 y1 yf; obtain ⟨⟨r0, r1, r2, r3, r4, r5, r6⟩, rf⟩ := c7 hM1.at1; obtain ⟨⟨o0, o1, o2, o3, o4, o5, o6⟩, of⟩ := c7 hM1.at0; obtain ⟨⟨d0, d1, d2, d3, d4, d5, d6⟩, df⟩ := c7 hM1.at4; obtain ⟨⟨x0, x1⟩, xf⟩ := c2 hM1.at3; obtain ⟨⟨y0, y1⟩, yf⟩ := c2 hM1.at2; have hM : Hid _ := hM1; clear hM1))
        all_goals
          go_wp2_with fail
          refine bodyPost_ret (v := .agg #[.int .i64 pr, .int .i64 xa, .int .i64 xp, .int .i64 ya, .int .i64 yp, .string F, .bool false]) (by simp [results, Tryz.results126, go_sem, r0, r1, r2, r3, r4, r5, r6]) rfl ⟨rfl, ?_⟩
          have hE := hM.out.bl
          exact (((((((hE.setCell (by show w.heap.size ≤ k; omega) _).setCell (by simp; omega) _).setCell (by simp; omega) _).setCell (by simp; omega) _).setCell (by simp; omega) _).setCell (by simp; omega) _).setCell (by simp; omega) _).setCell (by simp; omega) _
end Go.Proofs.YtfkjobiapjhacabGreat
