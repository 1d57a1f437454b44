/- Contracts of package wire: ICMP errors, and the packet that they are about. Own work. -/
import Derived.Test.YtfkjobiapjhacabGreatGwK
import Derived.Test.YtfkjobiapjhacabGreatGwD
import Derived.Test.YtfkjobiapjhacabGreatLb
namespace Go.Proofs.YtfkjobiapjhacabGreat
open Go.RowKit
attribute [local go_sem ↓] Go.wp_at_zero Go.wp_at_succ

set_option maxRecDepth 100000 in
set_option maxHeartbeats 400000 in
theorem PutWord_no (s : ByteArray) (i : Nat) (v : Int) (w : World) (hs : s.size ≤ 1000000) (hi : s.size < i + 2) (hi2 : i ≤ 1000000) :
    Calls Tryz.prog 109 #[.string s, .int .i64 i, .int .i64 v] w fun e w' => e = .returned (.string s) ∧ Below w.heap.size w w' := by
  have h1 : (0 : Int) ≤ (i : Int) := by omega
  have h2 : (s.size : Int) - 2 < (i : Int) := by omega
  have h3 : IntKind.i64.wrap ((s.size : Int) - 2) = (s.size : Int) - 2 := g_wrap _ (by omega) (by omega)
  go_enter Tryz.func109, Tryz.ntmps109
  go_wp2
  go_ret
  exact ⟨rfl, Below.refl _ _⟩
theorem PutWord_w (s : ByteArray) (i : Nat) (v : Int) (w : World) (hs : s.size ≤ 1000000) (hi2 : i ≤ 1000000) :
    Calls Tryz.prog 109 #[.string s, .int .i64 i, .int .i64 v] w fun e w' => e = .returned (.string (putW s i v)) ∧ Below w.heap.size w w' := by
  unfold putW
  split
  · exact PutWord_any s i v w hs (by omega)
  · exact PutWord_no s i v w hs (by omega) hi2
theorem putW_size (s : ByteArray) (i : Nat) (v : Int) : (putW s i v).size = s.size := by
  unfold putW
  split
  · exact size_put _ _ _ (by omega)
  · rfl
theorem abR_size (m : ByteArray) : (abR m).size = m.size - 8 := by unfold abR; rw [ByteArray.size_extract]; omega
theorem abH_size (m : ByteArray) (h : 28 ≤ m.size) : (abH m).size = 20 := by unfold abH; rw [ByteArray.size_extract, abR_size]; omega
theorem abB_size (m : ByteArray) : (abB m).size = m.size - 28 := by unfold abB; rw [ByteArray.size_extract, abR_size]; omega

set_option maxRecDepth 100000 in
set_option maxHeartbeats 400000 in
theorem told_any (pr fa fp ta tp : Int) (m : ByteArray) (iq : Bool) (w : World) (hm : m.size ≤ 1000) (h8 : 8 ≤ m.size) (r : Array Value) (hr : 28 ≤ m.size ∧ r = #[.string (abH m), .int .i64 (addrAt (abR m) 12), .int .i64 (addrAt (abR m) 16), .int .i64 (byteAt (abR m) 9), .string (abB m)] ∨ m.size < 28 ∧ r = #[.string ⟨#[]⟩, .int .i64 0, .int .i64 0, .int .i64 0, .string ⟨#[]⟩]) :
    Calls Tryz.prog 114 #[.agg #[.int .i64 pr, .int .i64 fa, .int .i64 fp, .int .i64 ta, .int .i64 tp, .string m, .bool iq]] w fun e w' => e = .returned (.agg r) ∧ Below w.heap.size w w' := by
  have HRD : Hid (∀ W, Calls Tryz.prog 55 #[.string (m.extract 8 m.size)] W fun e w' => e = .returned (.agg r) ∧ Below W.heap.size W w') := fun W => by
    have hz := abR_size m
    rcases hr with ⟨h, rfl⟩ | ⟨h, rfl⟩
    · exact read_long (abR m) W (by omega) (by omega)
    · exact read_short (abR m) W (by omega)
  have h5 : ∃ (v0 : ByteArray) (v1 v2 v3 : Int) (v4 : ByteArray), r = #[.string v0, .int .i64 v1, .int .i64 v2, .int .i64 v3, .string v4] := by
    rcases hr with ⟨-, rfl⟩ | ⟨-, rfl⟩
    · exact ⟨_, _, _, _, _, rfl⟩
    · exact ⟨_, _, _, _, _, rfl⟩
  obtain ⟨v0, v1, v2, v3, v4, rfl⟩ := h5
  clear hr
  have hz8 : (8 : Int) ≤ (m.size : Int) := by omega
  go_enter Tryz.func114, Tryz.ntmps114
  go_wp2_with fail
  refine (HRD.out _).mono ?_
  rintro e w1 ⟨rfl, hb1⟩
  have hM : Hid (LMid w w1 [(w.heap.size + 1, #[.string ⟨#[]⟩, .int .i64 0, .int .i64 0, .int .i64 0, .string ⟨#[]⟩], 83), (w.heap.size, #[.int .i64 pr, .int .i64 fa, .int .i64 fp, .int .i64 ta, .int .i64 tp, .string m, .bool iq], 106)]) := (((LMid.start w).alloc' _ _ _ rfl).alloc' _ _ _ (by simp)).call hb1
  clear hb1
  obtain ⟨⟨r0, r1, r2, r3, r4⟩, rf⟩ := c5 hM.out.at0
  go_wp2_with fail
  refine bodyPost_ret (v := .agg #[.string v0, .int .i64 v1, .int .i64 v2, .int .i64 v3, .string v4]) (by simp [results, Tryz.results114, go_sem, r0, r1, r2, r3, r4]) rfl ⟨rfl, ?_⟩
  exact ((((hM.out.bl.setCell (by simp) _).setCell (by simp) _).setCell (by simp) _).setCell (by simp) _).setCell (by simp) _
def tellB (h b : ByteArray) (pr : Int) : Bool := decide (8 ≤ b.size) && (byteAt h 0 == 69) && (sumI h == 65535) && ((pr == 1) || (pr == 6) || (pr == 17)) && (bits .and .i64 (wordAt h 6) 8191 == 0)
theorem abOK_tell (m : ByteArray) (h : 28 ≤ m.size) : abOK m = tellB (abH m) (abB m) (byteAt (abR m) 9) := by
  have e : decide (36 ≤ m.size) = decide (8 ≤ (abB m).size) := decide_eq_decide.mpr (by rw [abB_size]; omega)
  unfold abOK tellB
  rw [e]
set_option maxRecDepth 100000 in
set_option maxHeartbeats 2000000 in
theorem tellable_any (h b : ByteArray) (sr ds pr : Int) (w : World) (hh : h.size ≤ 1000) (hb : b.size ≤ 1000) :
    Calls Tryz.prog 115 #[.agg #[.string h, .int .i64 sr, .int .i64 ds, .int .i64 pr, .string b]] w fun e w' => e = .returned (.bool (tellB h b pr)) ∧ Below w.heap.size w w' := by
  have HT : Hid (tellB h b pr = (decide (8 ≤ b.size) && (byteAt h 0 == 69) && (sumI h == 65535) && ((pr == 1) || (pr == 6) || (pr == 17)) && (bits .and .i64 (wordAt h 6) 8191 == 0))) := rfl
  by_cases c1 : (b.size : Int) < 8
  · have e1 : decide (8 ≤ b.size) = false := decide_eq_false (by omega)
    rw [e1] at HT
    clear e1
    go_enter Tryz.func115, Tryz.ntmps115
    go_wp2_with (first | (go_at_call 73; refine (Byte_any _ _ _).mono ?_; rintro e w' ⟨rfl, rfl⟩) | (go_at_call 74; refine (Word_any _ _ _ (by first | assumption | decide) (by first | assumption | decide)).mono ?_; rintro e w' ⟨rfl, rfl⟩) | (go_at_call 75; refine (Sum_any _ _ (by omega)).mono ?_; rintro e w' ⟨rfl, rfl⟩))
    go_ret
    exact ⟨g_bool (by rw [HT.out]; rfl), (Below.refl _ _).alloc (Nat.le_refl _) _⟩
  · have e1 : decide (8 ≤ b.size) = true := decide_eq_true (by omega)
    rw [e1] at HT
    clear e1
    by_cases c2 : byteAt h 0 = 69
    · have k2 : (byteAt h 0 != 69) = false := by simp [c2]
      have e2 : (byteAt h 0 == 69) = true := by simp [c2]
      rw [e2] at HT
      clear e2 c2
      by_cases c3 : sumI h = 65535
      · have k3 : (sumI h != 65535) = false := by simp [c3]
        have e3 : (sumI h == 65535) = true := by simp [c3]
        rw [e3] at HT
        clear e3 c3
        by_cases c4 : pr = 1 ∨ pr = 6 ∨ pr = 17
        · have c4' : (pr != 1) = false ∨ (pr != 1) = true ∧ (pr != 6) = false ∨ (pr != 1) = true ∧ (pr != 6) = true ∧ (pr != 17) = false := by
            rcases c4 with e | e | e <;> simp [e]
          have e4 : ((pr == 1) || (pr == 6) || (pr == 17)) = true := by rcases c4 with e | e | e <;> simp [e]
          rw [e4] at HT
          clear e4 c4
          rcases c4' with k4 | ⟨k4, k5⟩ | ⟨k4, k5, k6⟩
          all_goals
            go_enter Tryz.func115, Tryz.ntmps115
            go_wp2_with (first | (go_at_call 73; refine (Byte_any _ _ _).mono ?_; rintro e w' ⟨rfl, rfl⟩) | (go_at_call 74; refine (Word_any _ _ _ (by first | assumption | decide) (by first | assumption | decide)).mono ?_; rintro e w' ⟨rfl, rfl⟩) | (go_at_call 75; refine (Sum_any _ _ (by omega)).mono ?_; rintro e w' ⟨rfl, rfl⟩))
            go_ret
            exact ⟨g_bool (by rw [HT.out]; simp), (Below.refl _ _).alloc (Nat.le_refl _) _⟩
        · have k4 : (pr != 1) = true := by simp; omega
          have k5 : (pr != 6) = true := by simp; omega
          have k6 : (pr != 17) = true := by simp; omega
          have e4 : ((pr == 1) || (pr == 6) || (pr == 17)) = false := by simp; omega
          rw [e4] at HT
          clear e4 c4
          go_enter Tryz.func115, Tryz.ntmps115
          go_wp2_with (first | (go_at_call 73; refine (Byte_any _ _ _).mono ?_; rintro e w' ⟨rfl, rfl⟩) | (go_at_call 74; refine (Word_any _ _ _ (by first | assumption | decide) (by first | assumption | decide)).mono ?_; rintro e w' ⟨rfl, rfl⟩) | (go_at_call 75; refine (Sum_any _ _ (by omega)).mono ?_; rintro e w' ⟨rfl, rfl⟩))
          go_ret
          exact ⟨g_bool (by rw [HT.out]; rfl), (Below.refl _ _).alloc (Nat.le_refl _) _⟩
      · have k3 : (sumI h != 65535) = true := by simp [c3]
        have e3 : (sumI h == 65535) = false := by simp [c3]
        rw [e3] at HT
        clear e3 c3
        go_enter Tryz.func115, Tryz.ntmps115
        go_wp2_with (first | (go_at_call 73; refine (Byte_any _ _ _).mono ?_; rintro e w' ⟨rfl, rfl⟩) | (go_at_call 74; refine (Word_any _ _ _ (by first | assumption | decide) (by first | assumption | decide)).mono ?_; rintro e w' ⟨rfl, rfl⟩) | (go_at_call 75; refine (Sum_any _ _ (by omega)).mono ?_; rintro e w' ⟨rfl, rfl⟩))
        go_ret
        exact ⟨g_bool (by rw [HT.out]; rfl), (Below.refl _ _).alloc (Nat.le_refl _) _⟩
    · have k2 : (byteAt h 0 != 69) = true := by simp [c2]
      have e2 : (byteAt h 0 == 69) = false := by simp [c2]
      rw [e2] at HT
      clear e2 c2
      go_enter Tryz.func115, Tryz.ntmps115
      go_wp2_with (first | (go_at_call 73; refine (Byte_any _ _ _).mono ?_; rintro e w' ⟨rfl, rfl⟩) | (go_at_call 74; refine (Word_any _ _ _ (by first | assumption | decide) (by first | assumption | decide)).mono ?_; rintro e w' ⟨rfl, rfl⟩) | (go_at_call 75; refine (Sum_any _ _ (by omega)).mono ?_; rintro e w' ⟨rfl, rfl⟩))
      go_ret
      exact ⟨g_bool (by rw [HT.out]; rfl), (Below.refl _ _).alloc (Nat.le_refl _) _⟩

set_option maxRecDepth 100000 in
set_option maxHeartbeats 1000000 in
theorem About_any (pr fa fp ta tp : Int) (m : ByteArray) (iq : Bool) (w : World) (hm : m.size ≤ 1000) (h8 : 8 ≤ m.size) (r : Array Value) (hr : abOK m = true ∧ r = #[.int .i64 (byteAt (abR m) 9), .int .i64 (addrAt (abR m) 12), .int .i64 (portsOf (byteAt (abR m) 9) (abB m)).1, .int .i64 (addrAt (abR m) 16), .int .i64 (portsOf (byteAt (abR m) 9) (abB m)).2, .string (abB m), .bool false] ∨ abOK m = false ∧ r = #[.int .i64 0, .int .i64 0, .int .i64 0, .int .i64 0, .int .i64 0, .string ⟨#[]⟩, .bool false]) :
    Calls Tryz.prog 95 #[.agg #[.int .i64 pr, .int .i64 fa, .int .i64 fp, .int .i64 ta, .int .i64 tp, .string m, .bool iq]] w fun e w' => e = .returned (.tuple #[.agg r, .bool (abOK m)]) ∧ Below w.heap.size w w' := by
  obtain ⟨v0, v1, v2, v3, v4, hT, hTe, hWh⟩ : ∃ (v0 : ByteArray) (v1 v2 v3 : Int) (v4 : ByteArray), (∀ W, Calls Tryz.prog 114 #[.agg #[.int .i64 pr, .int .i64 fa, .int .i64 fp, .int .i64 ta, .int .i64 tp, .string m, .bool iq]] W fun e w' => e = .returned (.agg #[.string v0, .int .i64 v1, .int .i64 v2, .int .i64 v3, .string v4]) ∧ Below W.heap.size W w') ∧
      (∀ W, Calls Tryz.prog 115 #[.agg #[.string v0, .int .i64 v1, .int .i64 v2, .int .i64 v3, .string v4]] W fun e w' => e = .returned (.bool (abOK m)) ∧ Below W.heap.size W w') ∧
      (abOK m = true → ∀ W g, W.heap[g]? = some (.cells #[.string v0, .int .i64 v1, .int .i64 v2, .int .i64 v3, .string v4] 83 (0, 0)) → Calls Tryz.prog 60 #[.slice (some ⟨g, 0, none⟩) 1 1] W fun e w' => e = .returned (.agg #[.int .i64 (byteAt (abR m) 9), .int .i64 (addrAt (abR m) 12), .int .i64 (portsOf (byteAt (abR m) 9) (abB m)).1, .int .i64 (addrAt (abR m) 16), .int .i64 (portsOf (byteAt (abR m) 9) (abB m)).2, .string (abB m), .bool false]) ∧ Below W.heap.size W w') := by
    by_cases h28 : 28 ≤ m.size
    · refine ⟨_, _, _, _, _, fun W => told_any pr fa fp ta tp m iq W hm h8 _ (Or.inl ⟨h28, rfl⟩), fun W => ?_, fun _ W g hg => Whole_one _ _ _ _ _ W g 1 hg (by rw [abB_size]; omega)⟩
      rw [abOK_tell m h28]
      exact tellable_any _ _ _ _ _ W (by rw [abH_size m h28]; decide) (by rw [abB_size]; omega)
    · have ho : abOK m = false := by
        unfold abOK
        rw [decide_eq_false (by omega)]
        rfl
      refine ⟨_, _, _, _, _, fun W => told_any pr fa fp ta tp m iq W hm h8 _ (Or.inr ⟨by omega, rfl⟩), fun W => ?_, fun h => absurd h (by rw [ho]; decide)⟩
      rw [ho]
      have := tellable_any ⟨#[]⟩ ⟨#[]⟩ 0 0 0 W (by decide) (by decide)
      exact this
  have HT : Hid _ := hT
  have HTE : Hid _ := hTe
  clear hT hTe
  rcases hr with ⟨ho, rfl⟩ | ⟨ho, rfl⟩
  · have HW : Hid _ := hWh ho
    clear hWh
    rw [ho] at HTE ⊢
    clear ho
    generalize byteAt (abR m) 9 = q0 at HW ⊢
    generalize addrAt (abR m) 12 = q1 at HW ⊢
    generalize addrAt (abR m) 16 = q3 at HW ⊢
    generalize (portsOf q0 (abB m)).1 = q2 at HW ⊢
    generalize (portsOf q0 (abB m)).2 = q4 at HW ⊢
    generalize abB m = q5 at HW ⊢
    go_enter Tryz.func95, Tryz.ntmps95
    go_wp2_with fail
    refine (HT.out _).mono ?_
    rintro e w1 ⟨rfl, hb1⟩
    have hM : Hid (LMid w (w1.alloc (.cells #[.string v0, .int .i64 v1, .int .i64 v2, .int .i64 v3, .string v4] 83)) [(w1.heap.size, #[.string v0, .int .i64 v1, .int .i64 v2, .int .i64 v3, .string v4], 83), (w.heap.size + 1, #[.int .i64 0, .int .i64 0, .int .i64 0, .int .i64 0, .int .i64 0, .string ⟨#[]⟩, .bool false], 106), (w.heap.size, #[.int .i64 pr, .int .i64 fa, .int .i64 fp, .int .i64 ta, .int .i64 tp, .string m, .bool iq], 106)]) := ((((LMid.start w).alloc' _ _ _ rfl).alloc' _ _ _ (by simp)).call hb1).alloc' _ _ _ rfl
    clear hb1
    go_wp2_with fail
    refine (HTE.out _).mono ?_
    rintro e w2 ⟨rfl, hb2⟩
    have hM1 := hM.out.call hb2
    clear hM hb2
    have hM : Hid _ := hM1
    clear hM1
    obtain ⟨⟨p0, p1, p2, p3, p4⟩, pf⟩ := c5 hM.out.at0
    go_wp2_with fail
    refine (HW.out _ w2.heap.size (heap_alloc_new w2 _)).mono ?_
    rintro e w3 ⟨rfl, hb3⟩
    have hM1 := ((hM.out.alloc' #[.string v0, .int .i64 v1, .int .i64 v2, .int .i64 v3, .string v4] 83 w2.heap.size rfl).call hb3).tail
    clear hM hb3 p0 p1 p2 p3 p4 pf
    have hM : Hid _ := hM1
    clear hM1
    obtain ⟨⟨r0, r1, r2, r3, r4, r5, r6⟩, rf⟩ := c7 hM.out.at1
    go_wp2_with fail
    refine bodyPost_ret (v := .tuple #[.agg #[.int .i64 q0, .int .i64 q1, .int .i64 q2, .int .i64 q3, .int .i64 q4, .string q5, .bool false], .bool true]) (by simp [results, Tryz.results95, go_sem, r0, r1, r2, r3, r4, r5, r6]) rfl ⟨rfl, ?_⟩
    exact ((((((hM.out.bl.setCell (by simp) _).setCell (by simp) _).setCell (by simp) _).setCell (by simp) _).setCell (by simp) _).setCell (by simp) _).setCell (by simp) _
  · clear hWh
    rw [ho] at HTE ⊢
    clear ho
    go_enter Tryz.func95, Tryz.ntmps95
    go_wp2_with fail
    refine (HT.out _).mono ?_
    rintro e w1 ⟨rfl, hb1⟩
    have hM : Hid (LMid w (w1.alloc (.cells #[.string v0, .int .i64 v1, .int .i64 v2, .int .i64 v3, .string v4] 83)) [(w1.heap.size, #[.string v0, .int .i64 v1, .int .i64 v2, .int .i64 v3, .string v4], 83), (w.heap.size + 1, #[.int .i64 0, .int .i64 0, .int .i64 0, .int .i64 0, .int .i64 0, .string ⟨#[]⟩, .bool false], 106), (w.heap.size, #[.int .i64 pr, .int .i64 fa, .int .i64 fp, .int .i64 ta, .int .i64 tp, .string m, .bool iq], 106)]) := ((((LMid.start w).alloc' _ _ _ rfl).alloc' _ _ _ (by simp)).call hb1).alloc' _ _ _ rfl
    clear hb1
    go_wp2_with fail
    refine (HTE.out _).mono ?_
    rintro e w2 ⟨rfl, hb2⟩
    have hM1 := hM.out.call hb2
    clear hM hb2
    have hM : Hid _ := hM1
    clear hM1
    obtain ⟨⟨r0, r1, r2, r3, r4, r5, r6⟩, rf⟩ := c7 hM.out.at1
    go_wp2_with fail
    refine bodyPost_ret (v := .tuple #[.agg #[.int .i64 0, .int .i64 0, .int .i64 0, .int .i64 0, .int .i64 0, .string ⟨#[]⟩, .bool false], .bool false]) (by simp [results, Tryz.results95, go_sem, r0, r1, r2, r3, r4, r5, r6]) rfl ⟨rfl, ?_⟩
    exact ((((((hM.out.bl.setCell (by simp) _).setCell (by simp) _).setCell (by simp) _).setCell (by simp) _).setCell (by simp) _).setCell (by simp) _).setCell (by simp) _
end Go.Proofs.YtfkjobiapjhacabGreat
