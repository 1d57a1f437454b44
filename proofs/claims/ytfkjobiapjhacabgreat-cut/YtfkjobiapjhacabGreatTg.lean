/- Contracts of package gateway: trouble. Own work. -/
import Derived.Test.YtfkjobiapjhacabGreatTf
namespace Go.Proofs.YtfkjobiapjhacabGreat
open Go.RowKit
attribute [local go_sem ↓] Go.wp_at_zero Go.wp_at_succ

theorem retM_size (m : ByteArray) (src dst xa xp ya yp : Int) (h36 : 36 ≤ m.size) : (retM m src dst xa xp ya yp).size = m.size := by
  have hbs := abB_size m
  have hhs := abH_size m (by omega)
  have hss := shiftM_size (byteAt (abR m) 9) (addrAt (abR m) 12) (portsOf (byteAt (abR m) 9) (abB m)).1 (addrAt (abR m) 16) (portsOf (byteAt (abR m) 9) (abB m)).2 (abB m) xa xp ya yp (by omega)
  have has := size_addrHead (abH m) xa ya hhs
  unfold retM
  have hms : (m.extract 0 8 ++ addrHead (abH m) xa ya ++ shiftM (byteAt (abR m) 9) (addrAt (abR m) 12) (portsOf (byteAt (abR m) 9) (abB m)).1 (addrAt (abR m) 16) (portsOf (byteAt (abR m) 9) (abB m)).2 (abB m) xa xp ya yp).size = m.size := by
    rw [ByteArray.size_append, ByteArray.size_append, ByteArray.size_extract, has, hss, hbs]
    omega
  rw [sealM_size src dst (by rw [hms]; show 2 + 2 ≤ m.size; omega), hms]
theorem abOK_size {m : ByteArray} (h : abOK m = true) : 36 ≤ m.size := by
  unfold abOK at h
  simp only [Bool.and_eq_true, decide_eq_true_eq] at h
  exact h.1.1.1.1
theorem trW_size (s : BX) (side pr fa fp ta tp : Int) (m : ByteArray) (hm : m.size ≤ 1000) : (trW s side pr fa fp ta tp m).m.size ≤ 1000 := by
  have e0 : ∀ k, (noW k).m.size ≤ 1000 := fun k => by show (⟨#[]⟩ : ByteArray).size ≤ 1000; decide
  unfold trW
  by_cases h : abOK m = false
  · rw [if_pos h]; exact e0 _
  · rw [if_neg h]
    have h36 := abOK_size (m := m) (by simpa using h)
    have hb : ∀ src dst xa xp ya yp, (retM m src dst xa xp ya yp).size ≤ 1000 := fun src dst xa xp ya yp => by rw [retM_size m src dst xa xp ya yp h36]; exact hm
    split
    · unfold trIn
      split
      · exact e0 _
      · split
        · exact e0 _
        · exact hb _ _ _ _ _ _
    · unfold trOut
      split
      · exact e0 _
      · split
        · exact e0 _
        · split
          · exact e0 _
          · exact hb _ _ _ _ _ _
set_option maxRecDepth 100000 in
set_option maxHeartbeats 2000000 in
theorem trouble_any {w : World} {b : Nat} {v : Value} {s : BX} (h : BoxAt w b v s) (hk : OKB s) (ht : OKT s) (side fa fp ta tp : Int) (m : ByteArray) (hm : m.size ≤ 900) (h8 : 8 ≤ m.size)
    (f0 : 0 ≤ fa) (f1 : fa ≤ 4294967295) (t0 : 0 ≤ ta) (t1 : ta ≤ 4294967295) :
    Calls Tryz.prog 79 #[.pointer (some ⟨b, 0, none⟩), .int .i64 side, .agg #[.int .i64 1, .int .i64 fa, .int .i64 fp, .int .i64 ta, .int .i64 tp, .string m, .bool false]] w fun e w' => (∃ qb, e = .returned ((trW s side 1 fa fp ta tp m).val qb)) ∧ BoxAt w' b v s ∧ Chg b v w w' v := by
  obtain ⟨TR, hTR⟩ : ∃ TR, TR = trW s side 1 fa fp ta tp m := ⟨_, rfl⟩
  rw [← hTR]
  unfold trW at hTR
  have hM1 : GMid w ((w.alloc (.cells #[.int .i64 1, .int .i64 fa, .int .i64 fp, .int .i64 ta, .int .i64 tp, .string m, .bool false] 106)).alloc (.cells #[.int .i64 0, .int .i64 0, .int .i64 0, .int .i64 0, .int .i64 0, .int .i64 0, .int .i64 0, .string ⟨#[]⟩, .bool false] 109)) b v v s [(w.heap.size + 1, #[.int .i64 0, .int .i64 0, .int .i64 0, .int .i64 0, .int .i64 0, .int .i64 0, .int .i64 0, .string ⟨#[]⟩, .bool false], 109), (w.heap.size, #[.int .i64 1, .int .i64 fa, .int .i64 fp, .int .i64 ta, .int .i64 tp, .string m, .bool false], 106)] := ((GMid.start h).alloc' _ _ _ rfl).alloc' _ _ _ (by simp)
  have hlt := h.lt
  clear h
  by_cases c1 : abOK m = false
  · rw [if_pos c1] at hTR
    subst hTR
    have HAB : Hid (∀ W, Calls Tryz.prog 95 #[.agg #[.int .i64 1, .int .i64 fa, .int .i64 fp, .int .i64 ta, .int .i64 tp, .string m, .bool false]] W fun e w' => e = .returned (.tuple #[.agg #[.int .i64 0, .int .i64 0, .int .i64 0, .int .i64 0, .int .i64 0, .string ⟨#[]⟩, .bool false], .bool false]) ∧ Below W.heap.size W w') := fun W => by
      have := About_any 1 fa fp ta tp m false W (by omega) h8 _ (Or.inr ⟨c1, rfl⟩)
      rw [c1] at this
      exact this
    have hM : Hid _ := hM1
    clear hM1 c1 hk ht
    go_enter Tryz.func79, Tryz.ntmps79
    go_wp2_with fail
    refine (HAB.out _).mono ?_
    rintro e w1 ⟨rfl, hb1⟩
    have hM1 := hM.out.call hb1
    clear hM hb1
    have hz3 := lt_of_block hM1.at0
    have hz4 := lt_of_block hM1.at1
    obtain ⟨⟨z0, z1, z2, z3, z4, z5, z6, z7, z8⟩, zf⟩ := c9g hM1.at0; obtain ⟨⟨d0, d1, d2, d3, d4, d5, d6⟩, df⟩ := c7 hM1.at1
    have hM : Hid _ := hM1
    clear hM1
    go_wp2_with fail
    refine bodyPost_ret (v := .agg #[.int .i64 13, .int .i64 0, .int .i64 0, .int .i64 0, .int .i64 0, .int .i64 0, .int .i64 0, .string ⟨#[]⟩, .bool false]) (by simp [results, Tryz.results79, go_sem, z0, z1, z2, z3, z4, z5, z6, z7, z8, hz3]) rfl ⟨⟨_, rfl⟩, ?_⟩
    have hE := (((((((((hM.out.set0 0 (.int .i64 13)).set0 1 (.int .i64 0)).set0 2 (.int .i64 0)).set0 3 (.int .i64 0)).set0 4 (.int .i64 0)).set0 5 (.int .i64 0)).set0 6 (.int .i64 0)).set0 7 (.string ⟨#[]⟩)).set0 8 (.bool false)).alloc' #[.int .i64 0, .int .i64 0, .int .i64 0, .int .i64 0, .int .i64 0, .string ⟨#[]⟩, .bool false] 106 w1.heap.size (by simp)
    exact ⟨hE.box, hE.chg⟩
  · rw [if_neg c1] at hTR
    have c1' : abOK m = true := by simpa using c1
    have h36 := abOK_size c1'
    have HAB : Hid (∀ W, Calls Tryz.prog 95 #[.agg #[.int .i64 1, .int .i64 fa, .int .i64 fp, .int .i64 ta, .int .i64 tp, .string m, .bool false]] W fun e w' => e = .returned (.tuple #[.agg #[.int .i64 (byteAt (abR m) 9), .int .i64 (addrAt (abR m) 12), .int .i64 (portsOf (byteAt (abR m) 9) (abB m)).1, .int .i64 (addrAt (abR m) 16), .int .i64 (portsOf (byteAt (abR m) 9) (abB m)).2, .string (abB m), .bool false], .bool true]) ∧ Below W.heap.size W w') := fun W => by
      have := About_any 1 fa fp ta tp m false W (by omega) h8 _ (Or.inl ⟨c1', rfl⟩)
      rw [c1'] at this
      exact this
    have hpb := portsOf_bd (byteAt (abR m) 9) (abB m)
    have hA1 := addrAt_bd (abR m) 12
    have hA2 := addrAt_bd (abR m) 16
    clear c1 c1'
    generalize byteAt (abR m) 9 = q at HAB hpb hTR
    generalize addrAt (abR m) 12 = aa at HAB hA1 hTR
    generalize addrAt (abR m) 16 = ba at HAB hA2 hTR
    generalize (portsOf q (abB m)).1 = ap at HAB hpb hTR
    generalize (portsOf q (abB m)).2 = bp at HAB hpb hTR
    have HI : Hid (side = 0 → ∀ W, BoxAt W b v s → Calls Tryz.prog 96 #[.pointer (some ⟨b, 0, none⟩), .agg #[.int .i64 1, .int .i64 fa, .int .i64 fp, .int .i64 ta, .int .i64 tp, .string m, .bool false], .agg #[.int .i64 q, .int .i64 aa, .int .i64 ap, .int .i64 ba, .int .i64 bp, .string (abB m), .bool false]] W fun e w' => ∃ qb, e = .returned (.agg #[.int .i64 TR.what, .int .i64 TR.side, .int .i64 TR.pr, .int .i64 TR.xa, .int .i64 TR.xp, .int .i64 TR.ya, .int .i64 TR.yp, .string TR.m, .bool qb]) ∧ BoxAt w' b v s ∧ Chg b v W w' v) := fun e W hW => by
      have := troubleIn_any hW hk ht fa fp ta tp m false q aa ap ba bp hm h36 t0 t1 hA1.1 hA1.2 hpb.1.1 hpb.1.2
      rw [if_pos e] at hTR
      rw [← hTR] at this
      exact this.mono (fun e w' h => by obtain ⟨⟨qb, h1⟩, h2⟩ := h; exact ⟨qb, h1, h2⟩)
    have HO : Hid (¬ side = 0 → ∀ W, BoxAt W b v s → Calls Tryz.prog 97 #[.pointer (some ⟨b, 0, none⟩), .agg #[.int .i64 1, .int .i64 fa, .int .i64 fp, .int .i64 ta, .int .i64 tp, .string m, .bool false], .agg #[.int .i64 q, .int .i64 aa, .int .i64 ap, .int .i64 ba, .int .i64 bp, .string (abB m), .bool false]] W fun e w' => ∃ qb, e = .returned (.agg #[.int .i64 TR.what, .int .i64 TR.side, .int .i64 TR.pr, .int .i64 TR.xa, .int .i64 TR.xp, .int .i64 TR.ya, .int .i64 TR.yp, .string TR.m, .bool qb]) ∧ BoxAt w' b v s ∧ Chg b v W w' v) := fun e W hW => by
      have := troubleOut_any hW hk ht fa fp ta tp m false q aa ap ba bp hm h36 f0 f1 hA2.1 hA2.2 hpb.2.1 hpb.2.2
      rw [if_neg e] at hTR
      rw [← hTR] at this
      exact this.mono (fun e w' h => by obtain ⟨⟨qb, h1⟩, h2⟩ := h; exact ⟨qb, h1, h2⟩)
    clear hTR hk ht hm h8 f0 f1 t0 t1 hpb hA1 hA2 h36
    generalize abB m = B at HAB HI HO
    have hM : Hid _ := hM1
    clear hM1
    by_cases c2 : side = 0
    · have k2 : (side == 0) = true := by simp [c2]
      have H2 : Hid _ := HI.out c2
      clear HI HO c2
      go_enter Tryz.func79, Tryz.ntmps79
      go_wp2_with fail
      refine (HAB.out _).mono ?_
      rintro e w1 ⟨rfl, hb1⟩
      have hM1 := hM.out.call hb1
      clear hM hb1
      have hz3 := lt_of_block hM1.at1
      obtain ⟨⟨z0, z1, z2, z3, z4, z5, z6, z7, z8⟩, zf⟩ := c9g hM1.at0; obtain ⟨⟨d0, d1, d2, d3, d4, d5, d6⟩, df⟩ := c7 hM1.at1
      have hM : Hid _ := hM1
      clear hM1
      go_wp2_with fail
      refine (H2.out _ (hM.out.alloc' #[.int .i64 q, .int .i64 aa, .int .i64 ap, .int .i64 ba, .int .i64 bp, .string B, .bool false] 106 w1.heap.size rfl).box).mono ?_
      rintro e w2 ⟨qb, rfl, hbx2, hch2⟩
      have hM1 := (hM.out.alloc' #[.int .i64 q, .int .i64 aa, .int .i64 ap, .int .i64 ba, .int .i64 bp, .string B, .bool false] 106 w1.heap.size rfl).change hbx2 hch2
      clear hM hbx2 hch2
      clear z0 z1 z2 z3 z4 z5 z6 z7 z8 zf d0 d1 d2 d3 d4 d5 d6 df
      obtain ⟨⟨z0, z1, z2, z3, z4, z5, z6, z7, z8⟩, zf⟩ := c9g hM1.at1
      have hM : Hid _ := hM1
      clear hM1
      go_wp2_with fail
      refine bodyPost_ret (v := .agg #[.int .i64 TR.what, .int .i64 TR.side, .int .i64 TR.pr, .int .i64 TR.xa, .int .i64 TR.xp, .int .i64 TR.ya, .int .i64 TR.yp, .string TR.m, .bool qb]) (by simp [results, Tryz.results79, go_sem, z0, z1, z2, z3, z4, z5, z6, z7, z8]) rfl ⟨⟨_, rfl⟩, ?_⟩
      have hE := ((((((((hM.out.set1 0 (.int .i64 TR.what)).set1 1 (.int .i64 TR.side)).set1 2 (.int .i64 TR.pr)).set1 3 (.int .i64 TR.xa)).set1 4 (.int .i64 TR.xp)).set1 5 (.int .i64 TR.ya)).set1 6 (.int .i64 TR.yp)).set1 7 (.string TR.m)).set1 8 (.bool qb)
      exact ⟨hE.box, hE.chg⟩
    · have k2 : (side == 0) = false := by simp [c2]
      have H2 : Hid _ := HO.out c2
      clear HI HO c2
      go_enter Tryz.func79, Tryz.ntmps79
      go_wp2_with fail
      refine (HAB.out _).mono ?_
      rintro e w1 ⟨rfl, hb1⟩
      have hM1 := hM.out.call hb1
      clear hM hb1
      have hz3 := lt_of_block hM1.at1
      obtain ⟨⟨z0, z1, z2, z3, z4, z5, z6, z7, z8⟩, zf⟩ := c9g hM1.at0; obtain ⟨⟨d0, d1, d2, d3, d4, d5, d6⟩, df⟩ := c7 hM1.at1
      have hM : Hid _ := hM1
      clear hM1
      go_wp2_with fail
      refine (H2.out _ (hM.out.alloc' #[.int .i64 q, .int .i64 aa, .int .i64 ap, .int .i64 ba, .int .i64 bp, .string B, .bool false] 106 w1.heap.size rfl).box).mono ?_
      rintro e w2 ⟨qb, rfl, hbx2, hch2⟩
      have hM1 := (hM.out.alloc' #[.int .i64 q, .int .i64 aa, .int .i64 ap, .int .i64 ba, .int .i64 bp, .string B, .bool false] 106 w1.heap.size rfl).change hbx2 hch2
      clear hM hbx2 hch2
      clear z0 z1 z2 z3 z4 z5 z6 z7 z8 zf d0 d1 d2 d3 d4 d5 d6 df
      obtain ⟨⟨z0, z1, z2, z3, z4, z5, z6, z7, z8⟩, zf⟩ := c9g hM1.at1
      have hM : Hid _ := hM1
      clear hM1
      go_wp2_with fail
      refine bodyPost_ret (v := .agg #[.int .i64 TR.what, .int .i64 TR.side, .int .i64 TR.pr, .int .i64 TR.xa, .int .i64 TR.xp, .int .i64 TR.ya, .int .i64 TR.yp, .string TR.m, .bool qb]) (by simp [results, Tryz.results79, go_sem, z0, z1, z2, z3, z4, z5, z6, z7, z8]) rfl ⟨⟨_, rfl⟩, ?_⟩
      have hE := ((((((((hM.out.set1 0 (.int .i64 TR.what)).set1 1 (.int .i64 TR.side)).set1 2 (.int .i64 TR.pr)).set1 3 (.int .i64 TR.xa)).set1 4 (.int .i64 TR.xp)).set1 5 (.int .i64 TR.ya)).set1 6 (.int .i64 TR.yp)).set1 7 (.string TR.m)).set1 8 (.bool qb)
      exact ⟨hE.box, hE.chg⟩
set_option maxRecDepth 100000 in
set_option maxHeartbeats 2000000 in
theorem trouble_pieces {w : World} {b : Nat} {v : Value} {s : BX} (h : BoxAt w b v s) (side fa fp ta tp : Int) (m : ByteArray) (hm : m.size ≤ 900) (h8 : 8 ≤ m.size) :
    Calls Tryz.prog 79 #[.pointer (some ⟨b, 0, none⟩), .int .i64 side, .agg #[.int .i64 1, .int .i64 fa, .int .i64 fp, .int .i64 ta, .int .i64 tp, .string m, .bool true]] w fun e w' => (∃ qb, e = .returned ((noW 13).val qb)) ∧ BoxAt w' b v s ∧ Chg b v w w' v := by
  have hM1 : GMid w ((w.alloc (.cells #[.int .i64 1, .int .i64 fa, .int .i64 fp, .int .i64 ta, .int .i64 tp, .string m, .bool true] 106)).alloc (.cells #[.int .i64 0, .int .i64 0, .int .i64 0, .int .i64 0, .int .i64 0, .int .i64 0, .int .i64 0, .string ⟨#[]⟩, .bool false] 109)) b v v s [(w.heap.size + 1, #[.int .i64 0, .int .i64 0, .int .i64 0, .int .i64 0, .int .i64 0, .int .i64 0, .int .i64 0, .string ⟨#[]⟩, .bool false], 109), (w.heap.size, #[.int .i64 1, .int .i64 fa, .int .i64 fp, .int .i64 ta, .int .i64 tp, .string m, .bool true], 106)] := ((GMid.start h).alloc' _ _ _ rfl).alloc' _ _ _ (by simp)
  have hlt := h.lt
  clear h
  obtain ⟨q, aa, ap, ba, bp, B, ok, hAB⟩ : ∃ (q aa ap ba bp : Int) (B : ByteArray) (ok : Bool), ∀ W, Calls Tryz.prog 95 #[.agg #[.int .i64 1, .int .i64 fa, .int .i64 fp, .int .i64 ta, .int .i64 tp, .string m, .bool true]] W fun e w' => e = .returned (.tuple #[.agg #[.int .i64 q, .int .i64 aa, .int .i64 ap, .int .i64 ba, .int .i64 bp, .string B, .bool false], .bool ok]) ∧ Below W.heap.size W w' := by
    by_cases c1 : abOK m = true
    · exact ⟨_, _, _, _, _, _, _, fun W => About_any 1 fa fp ta tp m true W (by omega) h8 _ (Or.inl ⟨c1, rfl⟩)⟩
    · exact ⟨0, 0, 0, 0, 0, ⟨#[]⟩, _, fun W => About_any 1 fa fp ta tp m true W (by omega) h8 _ (Or.inr ⟨by simpa using c1, rfl⟩)⟩
  have HAB : Hid _ := hAB
  have hM : Hid _ := hM1
  clear hM1 hAB
  go_enter Tryz.func79, Tryz.ntmps79
  go_wp2_with fail
  refine (HAB.out _).mono ?_
  rintro e w1 ⟨rfl, hb1⟩
  have hM1 := hM.out.call hb1
  clear hM hb1
  have hz3 := lt_of_block hM1.at0
  have hz4 := lt_of_block hM1.at1
  obtain ⟨⟨z0, z1, z2, z3, z4, z5, z6, z7, z8⟩, zf⟩ := c9g hM1.at0; obtain ⟨⟨d0, d1, d2, d3, d4, d5, d6⟩, df⟩ := c7 hM1.at1
  have hM : Hid _ := hM1
  clear hM1
  go_wp2_with fail
  refine bodyPost_ret (v := .agg #[.int .i64 13, .int .i64 0, .int .i64 0, .int .i64 0, .int .i64 0, .int .i64 0, .int .i64 0, .string ⟨#[]⟩, .bool false]) (by simp [results, Tryz.results79, go_sem, z0, z1, z2, z3, z4, z5, z6, z7, z8, hz3]) rfl ⟨⟨_, rfl⟩, ?_⟩
  have hE := (((((((((hM.out.set0 0 (.int .i64 13)).set0 1 (.int .i64 0)).set0 2 (.int .i64 0)).set0 3 (.int .i64 0)).set0 4 (.int .i64 0)).set0 5 (.int .i64 0)).set0 6 (.int .i64 0)).set0 7 (.string ⟨#[]⟩)).set0 8 (.bool false)).alloc' #[.int .i64 q, .int .i64 aa, .int .i64 ap, .int .i64 ba, .int .i64 bp, .string B, .bool false] 106 w1.heap.size (by simp)
  exact ⟨hE.box, hE.chg⟩
theorem trW_same (s : BX) (side pr fa fp ta tp : Int) (m : ByteArray) (h0 : (trW s side pr fa fp ta tp m).what = 0) : (trW s side pr fa fp ta tp m).m.size = m.size := by
  have e0 : ∀ k, (noW k).what = k := fun _ => rfl
  unfold trW at h0 ⊢
  by_cases h : abOK m = false
  · rw [if_pos h, e0] at h0; exact absurd h0 (by decide)
  · rw [if_neg h] at h0 ⊢
    have h36 := abOK_size (m := m) (by simpa using h)
    have hb : ∀ src dst xa xp ya yp, (retM m src dst xa xp ya yp).size = m.size := fun src dst xa xp ya yp => retM_size m src dst xa xp ya yp h36
    generalize byteAt (abR m) 9 = q at h0 ⊢
    generalize addrAt (abR m) 12 = aa at h0 ⊢
    generalize addrAt (abR m) 16 = ba at h0 ⊢
    generalize (portsOf q (abB m)).1 = ap at h0 ⊢
    generalize (portsOf q (abB m)).2 = bp at h0 ⊢
    by_cases hs : side = 0
    · rw [if_pos hs] at h0 ⊢
      unfold trIn at h0 ⊢
      split at h0
      · exact absurd h0 (by decide)
      · rename_i h1
        rw [if_neg h1]
        split at h0
        · exact absurd h0 (by decide)
        · rename_i h2
          rw [if_neg h2]
          exact hb _ _ _ _ _ _
    · rw [if_neg hs] at h0 ⊢
      unfold trOut at h0 ⊢
      split at h0
      · exact absurd h0 (by decide)
      · rename_i h1
        rw [if_neg h1]
        rcases hi : innerI q ap s.l with _ | x
        · rw [hi] at h0; exact absurd (show (16 : Int) = 0 from h0) (by decide)
        · rw [hi] at h0
          simp only at h0 ⊢
          split at h0
          · exact absurd h0 (by decide)
          · rename_i h2
            rw [if_neg h2]
            exact hb _ _ _ _ _ _
theorem TrOK_all (b : Nat) (s : BX) (hk : OKB s) (ht : OKT s) : TrOK b s := by
  intro side pr fa fp ta tp m iq hm he f0 f1 t0 t1 hd
  have hp : pr = 1 := by
    unfold errB at he
    simp at he
    exact he.1
  subst hp
  have h8 : 8 ≤ m.size := by
    unfold dFault at hd
    split at hd
    · omega
    · rename_i hf
      have hf' : formedB 1 fp tp m = true := by simpa using hf
      unfold formedB at hf'
      rw [if_pos rfl] at hf'
      exact of_decide_eq_true hf'
  refine ⟨⟨trW_size s side 1 fa fp ta tp m (by omega), trW_same s side 1 fa fp ta tp m⟩, fun v W hW => ?_⟩
  cases iq
  · exact trouble_any hW hk ht side fa fp ta tp m (by omega) h8 f0 f1 t0 t1
  · exact trouble_pieces hW side fa fp ta tp m (by omega) h8
end Go.Proofs.YtfkjobiapjhacabGreat
