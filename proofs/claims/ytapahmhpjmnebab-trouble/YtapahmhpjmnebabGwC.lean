/- Contracts of package wire: packets, read and made. Own work. -/
import Derived.Test.YtapahmhpjmnebabGwZ
namespace Go.Proofs.Ytapahmhpjmnebab
open Go.RowKit
attribute [local go_sem ↓] Go.wp_at_zero Go.wp_at_succ

def pieceB (h : ByteArray) : Bool := bits .and .i64 (wordAt h 6) 16383 != 0
set_option maxRecDepth 100000 in
set_option maxHeartbeats 1000000 in
theorem Piece_any (h b : ByteArray) (sr ds pr : Int) (w : World) :
    Calls Try.prog 37 #[.agg #[.string h, .int .i64 sr, .int .i64 ds, .int .i64 pr, .string b]] w fun e w' => e = .returned (.bool (pieceB h)) ∧ Below w.heap.size w w' := by
  have HP : Hid (pieceB h = (bits .and .i64 (wordAt h 6) 16383 != 0)) := rfl
  go_enter Try.func37, Try.ntmps37
  go_wp2_with (go_at_call 47; refine (Word_any _ _ _ (by decide) (by decide)).mono ?_; rintro e w' ⟨rfl, rfl⟩)
  go_ret
  exact ⟨g_bool HP.out.symm, (Below.refl _ _).alloc (Nat.le_refl _) _⟩

/-- A header between other addresses, with the checksum that it then has. -/
def addrHead (h : ByteArray) (src dst : Int) : ByteArray :=
  let h2 := putAddr (putAddr h 12 src) 16 dst
  let h4 := putWord h2 10 0
  putWord h4 10 (65535 - sumI h4)
/-- The header that goes out for header h, between other addresses. -/
def onHead (h : ByteArray) (src dst : Int) : ByteArray := addrHead (putWord h 8 (wordAt h 8 - 256)) src dst
theorem size_addrHead (h : ByteArray) (src dst : Int) (hh : h.size = 20) : (addrHead h src dst).size = 20 := by
  have z1 : (putAddr h 12 src).size = 20 := by rw [size_addr _ _ _ (by omega), hh]
  have z2 : (putAddr (putAddr h 12 src) 16 dst).size = 20 := by rw [size_addr _ _ _ (by omega), z1]
  have z4 : (putWord (putAddr (putAddr h 12 src) 16 dst) 10 0).size = 20 := by rw [size_put _ _ _ (by omega), z2]
  show (putWord _ 10 _).size = 20
  rw [size_put _ _ _ (by omega), z4]

set_option maxRecDepth 100000 in
set_option maxHeartbeats 2000000 in
theorem addressed_any (h : ByteArray) (src dst : Int) (w : World) (hh : h.size = 20) :
    Calls Try.prog 56 #[.string h, .int .i64 src, .int .i64 dst] w fun e w' => e = .returned (.string (addrHead h src dst)) ∧ Below w.heap.size w w' := by
  obtain ⟨h1, e1⟩ : ∃ x, x = putAddr h 12 src := ⟨_, rfl⟩
  obtain ⟨h2, e2⟩ : ∃ x, x = putAddr h1 16 dst := ⟨_, rfl⟩
  obtain ⟨h4, e4⟩ : ∃ x, x = putWord h2 10 0 := ⟨_, rfl⟩
  obtain ⟨h5, e5⟩ : ∃ x, x = putWord h4 10 (65535 - sumI h4) := ⟨_, rfl⟩
  have z1 : h1.size = 20 := by rw [e1, size_addr _ _ _ (by omega), hh]
  have z2 : h2.size = 20 := by rw [e2, size_addr _ _ _ (by omega), z1]
  have z4 : h4.size = 20 := by rw [e4, size_put _ _ _ (by omega), z2]
  have HO : Hid (addrHead h src dst = h5) := by show _ = _; unfold addrHead; simp only [← e1, ← e2, ← e4, ← e5]
  have p1 : Hid (∀ w, Calls Try.prog 79 #[.string h, .int .i64 12, .int .i64 src] w fun e w' => e = .returned (.string h1) ∧ Below w.heap.size w w') := fun w => by rw [e1]; exact PutAddress_any h 12 src w (by omega) (by omega)
  have p2 : Hid (∀ w, Calls Try.prog 79 #[.string h1, .int .i64 16, .int .i64 dst] w fun e w' => e = .returned (.string h2) ∧ Below w.heap.size w w') := fun w => by rw [e2]; exact PutAddress_any h1 16 dst w (by omega) (by omega)
  have p4 : Hid (∀ w, Calls Try.prog 55 #[.string h2, .int .i64 10, .int .i64 0] w fun e w' => e = .returned (.string h4) ∧ Below w.heap.size w w') := fun w => by rw [e4]; exact PutWord_any h2 10 0 w (by omega) (by omega)
  have p5 : Hid (∀ w, Calls Try.prog 55 #[.string h4, .int .i64 10, .int .i64 (65535 - sumI h4)] w fun e w' => e = .returned (.string h5) ∧ Below w.heap.size w w') := fun w => by rw [e5]; exact PutWord_any h4 10 _ w (by omega) (by omega)
  have q5 := sumI_bd h4
  clear e1 e2 e4 e5
  go_enter Try.func56, Try.ntmps56
  go_wp2_with fail
  refine (p1.out _).mono ?_; rintro e w1 ⟨rfl, b1⟩
  go_wp2_with fail
  refine (p2.out _).mono ?_; rintro e w2 ⟨rfl, b2⟩
  go_wp2_with fail
  refine (p4.out _).mono ?_; rintro e w4 ⟨rfl, b4⟩
  go_wp2_with fail
  refine (Sum_any h4 _ (by omega)).mono ?_; rintro e w' ⟨rfl, rfl⟩
  go_wp2_with fail
  refine (p5.out _).mono ?_; rintro e w5 ⟨rfl, b5⟩
  go_wp2_with fail
  go_ret
  have s0 := b1.size; have s1 := b2.size; have s2 := b4.size
  refine ⟨g_str (by rw [HO.out]), b1.trans ((b2.mono (by omega)).trans ((b4.mono (by omega)).trans (b5.mono (by omega))))⟩

set_option maxRecDepth 100000 in
set_option maxHeartbeats 2000000 in
theorem Onward_any (h b : ByteArray) (sr ds pr : Int) (src dst : Int) (body : ByteArray) (w : World) (hh : h.size = 20) (hb : body.size ≤ 1000) :
    Calls Try.prog 40 #[.agg #[.string h, .int .i64 sr, .int .i64 ds, .int .i64 pr, .string b], .int .i64 src, .int .i64 dst, .string body] w fun e w' => e = .returned (.string (onHead h src dst ++ body)) ∧ Below w.heap.size w w' := by
  obtain ⟨h1, e1⟩ : ∃ x, x = putWord h 8 (wordAt h 8 - 256) := ⟨_, rfl⟩
  obtain ⟨h5, e5⟩ : ∃ x, x = addrHead h1 src dst := ⟨_, rfl⟩
  have z1 : h1.size = 20 := by rw [e1, size_put _ _ _ (by omega), hh]
  have z5 : h5.size = 20 := by rw [e5, size_addrHead _ _ _ z1]
  have HO : Hid (onHead h src dst = h5) := by show _ = _; unfold onHead; rw [← e1, ← e5]
  have p1 : Hid (∀ w, Calls Try.prog 55 #[.string h, .int .i64 8, .int .i64 (IntKind.i64.wrap (wordAt h 8 - 256))] w fun e w' => e = .returned (.string h1) ∧ Below w.heap.size w w') := fun w => by rw [e1, g_wrap _ (by have := wordAt_bd h 8; omega) (by have := wordAt_bd h 8; omega)]; exact PutWord_any h 8 _ w (by omega) (by omega)
  have p5 : Hid (∀ w, Calls Try.prog 56 #[.string h1, .int .i64 src, .int .i64 dst] w fun e w' => e = .returned (.string h5) ∧ Below w.heap.size w w') := fun w => by rw [e5]; exact addressed_any h1 src dst w z1
  have q3 := wordAt_bd h 8
  have m1 : ¬ 9223372036854775807 < h5.size + body.size := by omega
  clear e1 e5
  go_enter Try.func40, Try.ntmps40
  go_wp2_with fail
  go_region_held3 (fun w' => w'.cell? ⟨w.heap.size, 0, none⟩ = some (.string h)) (simp [*]) (first | (go_at_call 47; refine (Word_any _ _ _ (by decide) (by decide)).mono ?_; rintro e w' ⟨rfl, rfl⟩) | (go_at_call 55; refine (p1.out _).mono ?_; rintro e w1 ⟨rfl, b1⟩; obtain ⟨hc1, hf1⟩ := bcell' b1; have hz1 : w.heap.size < w1.heap.size := below_lt' b1))
  go_wp2_with fail
  refine (p5.out _).mono ?_; rintro e w5 ⟨rfl, b5⟩
  go_wp2_with fail
  go_ret
  have s0 := b1.size
  simp at s0
  refine ⟨g_str (by rw [HO.out]), ((Below.refl _ _).alloc (Nat.le_refl _) _).drew.trans ((b1.mono (by simp)).trans (b5.mono (by omega)))⟩

set_option maxRecDepth 100000 in
set_option maxHeartbeats 1000000 in
theorem Kind_any (pr fa fp ta tp : Int) (m : ByteArray) (w : World) :
    Calls Try.prog 61 #[.agg #[.int .i64 pr, .int .i64 fa, .int .i64 fp, .int .i64 ta, .int .i64 tp, .string m]] w fun e w' => e = .returned (.int .i64 (byteAt m 0)) ∧ Below w.heap.size w w' := by
  go_enter Try.func61, Try.ntmps61
  go_wp2_with (go_at_call 59; refine (Byte_any _ _ _).mono ?_; rintro e w' ⟨rfl, rfl⟩)
  go_ret
  exact ⟨rfl, (Below.refl _ _).alloc (Nat.le_refl _) _⟩

/-- The ports of a message of ICMP. -/
def numb (m : ByteArray) (fp tp : Int) : Int × Int := if (byteAt m 0 == 8) = true then (wordAt m 4, tp) else if (byteAt m 0 == 0) = true then (fp, wordAt m 4) else (fp, tp)
set_option maxRecDepth 100000 in
set_option maxHeartbeats 1000000 in
theorem numbered_any (pr fa fp ta tp : Int) (m : ByteArray) (w : World) :
    Calls Try.prog 48 #[.agg #[.int .i64 pr, .int .i64 fa, .int .i64 fp, .int .i64 ta, .int .i64 tp, .string m]] w fun e w' => e = .returned (.agg #[.int .i64 pr, .int .i64 fa, .int .i64 (numb m fp tp).1, .int .i64 ta, .int .i64 (numb m fp tp).2, .string m]) ∧ Below w.heap.size w w' := by
  have HM0 : Hid (SealMid w ((w.alloc (.cells #[.int .i64 pr, .int .i64 fa, .int .i64 fp, .int .i64 ta, .int .i64 tp, .string m] 80)).alloc (.cells #[.int .i64 0, .int .i64 0, .int .i64 0, .int .i64 0, .int .i64 0, .string ⟨#[]⟩] 80)) #[.int .i64 pr, .int .i64 fa, .int .i64 fp, .int .i64 ta, .int .i64 tp, .string m]) := SealMid.start w #[.int .i64 pr, .int .i64 fa, .int .i64 fp, .int .i64 ta, .int .i64 tp, .string m]
  obtain ⟨np, hnp⟩ : ∃ np, np = numb m fp tp := ⟨_, rfl⟩
  rw [← hnp]
  unfold numb at hnp
  cases k1 : (byteAt m 0 == 8) <;> cases k2 : (byteAt m 0 == 0)
  all_goals
    simp only [k1, k2, Bool.false_eq_true, if_false, if_true] at hnp
    have HN : Hid (_) := hnp
    clear hnp
    go_enter Try.func48, Try.ntmps48
    go_wp2_with fail
    refine (Kind_any pr fa fp ta tp m _).mono ?_; rintro e w1 ⟨rfl, hb1⟩
    have HM1 : Hid (SealMid w w1 #[.int .i64 pr, .int .i64 fa, .int .i64 fp, .int .i64 ta, .int .i64 tp, .string m]) := HM0.out.call hb1
    clear hb1
    obtain ⟨⟨d0, d1, d2, d3, d4, d5⟩, df⟩ := c6 HM1.out.dg
    obtain ⟨⟨r0, r1, r2, r3, r4, r5⟩, rf⟩ := c6 HM1.out.rs
    go_wp2_with (go_at_call 47; refine (Word_any _ _ _ (by decide) (by decide)).mono ?_; rintro e w' ⟨rfl, rfl⟩)
  · refine bodyPost_ret (v := .agg #[.int .i64 pr, .int .i64 fa, .int .i64 fp, .int .i64 ta, .int .i64 tp, .string m]) (by simp [results, Try.results48, go_sem, r0, r1, r2, r3, r4, r5]) rfl ⟨by rw [HN.out], ?_⟩
    have := HM1.out.bl
    exact (((((this.setCell (by simp) _).setCell (by simp) _).setCell (by simp) _).setCell (by simp) _).setCell (by simp) _).setCell (by simp) _
  · refine bodyPost_ret (v := .agg #[.int .i64 pr, .int .i64 fa, .int .i64 fp, .int .i64 ta, .int .i64 (wordAt m 4), .string m]) (by simp [results, Try.results48, go_sem, r0, r1, r2, r3, r4, r5]) rfl ⟨by rw [HN.out], ?_⟩
    have := HM1.out.bl
    exact ((((((this.setCell (by simp) _).setCell (by simp) _).setCell (by simp) _).setCell (by simp) _).setCell (by simp) _).setCell (by simp) _).setCell (by simp) _
  · refine bodyPost_ret (v := .agg #[.int .i64 pr, .int .i64 fa, .int .i64 (wordAt m 4), .int .i64 ta, .int .i64 tp, .string m]) (by simp [results, Try.results48, go_sem, r0, r1, r2, r3, r4, r5]) rfl ⟨by rw [HN.out], ?_⟩
    have := HM1.out.bl
    exact ((((((this.setCell (by simp) _).setCell (by simp) _).setCell (by simp) _).setCell (by simp) _).setCell (by simp) _).setCell (by simp) _).setCell (by simp) _
  · exfalso; simp at k1 k2; omega

def portsOf (pr : Int) (b : ByteArray) : Int × Int := if (pr != 1) = true then (wordAt b 0, wordAt b 2) else numb b 0 0
set_option maxRecDepth 100000 in
set_option maxHeartbeats 1000000 in
theorem Whole_any (h b : ByteArray) (sr ds pr : Int) (w : World) :
    Calls Try.prog 38 #[.agg #[.string h, .int .i64 sr, .int .i64 ds, .int .i64 pr, .string b]] w fun e w' => e = .returned (.agg #[.int .i64 pr, .int .i64 sr, .int .i64 (portsOf pr b).1, .int .i64 ds, .int .i64 (portsOf pr b).2, .string b]) ∧ Below w.heap.size w w' := by
  cases hp : (pr == 1)
  · have HP : Hid (portsOf pr b = (wordAt b 0, wordAt b 2)) := by show _ = _; unfold portsOf; rw [if_pos (by simpa using hp)]
    go_enter Try.func38, Try.ntmps38
    go_wp2_with (go_at_call 47; refine (Word_any _ _ _ (by decide) (by decide)).mono ?_; rintro e w' ⟨rfl, rfl⟩)
    exact bodyPost_ret (v := .agg #[.int .i64 pr, .int .i64 sr, .int .i64 (wordAt b 0), .int .i64 ds, .int .i64 (wordAt b 2), .string b]) (by simp [results, Try.results38, go_sem]) rfl ⟨by rw [HP.out], (by repeat (first | exact Below.refl _ _ | refine Below.drew ?_ | (refine Below.alloc ?_ (by simp <;> omega) _) | (refine Below.setCell ?_ (by simp) _)))⟩
  · have HP : Hid (portsOf pr b = numb b 0 0) := by show _ = _; unfold portsOf; rw [if_neg (by simpa using hp)]
    have HN : Hid (∀ W, Calls Try.prog 48 #[.agg #[.int .i64 pr, .int .i64 sr, .int .i64 0, .int .i64 ds, .int .i64 0, .string b]] W fun e w' => e = .returned (.agg #[.int .i64 pr, .int .i64 sr, .int .i64 (numb b 0 0).1, .int .i64 ds, .int .i64 (numb b 0 0).2, .string b]) ∧ Below W.heap.size W w') := fun W => numbered_any pr sr 0 ds 0 b W
    generalize numb b 0 0 = nb at HP HN
    go_enter Try.func38, Try.ntmps38
    go_wp2_with fail
    refine (HN.out _).mono ?_
    rintro e w1 ⟨rfl, hb1⟩
    obtain ⟨hc1, hf1⟩ := bcell' hb1
    have hz2 : w.heap.size + 1 < w1.heap.size := Nat.lt_of_lt_of_le (by simp) hb1.size
    have K0 : Hid (w1.heap[w.heap.size + 1]? = some (.cells #[.int .i64 0, .int .i64 0, .int .i64 0, .int .i64 0, .int .i64 0, .string ⟨#[]⟩] 80 (0, 0))) := blk hb1 (by rw [hget_alloc, if_neg (by simp), hget_alloc, if_pos (by simp)])
    obtain ⟨⟨r0, r1, r2, r3, r4, r5⟩, rf⟩ := c6 K0.out
    have HB : Hid (Below w.heap.size w w1) := ((((Below.refl _ _).alloc (Nat.le_refl _) _).alloc (by simp) _).alloc (by simp; omega) _).trans (hb1.mono (by simp; omega))
    clear hc1 hf1 hb1
    go_wp2_with fail
    exact bodyPost_ret (v := .agg #[.int .i64 pr, .int .i64 sr, .int .i64 nb.1, .int .i64 ds, .int .i64 nb.2, .string b]) (by simp [results, Try.results38, go_sem, r0, r1, r2, r3, r4, r5]) rfl ⟨by rw [HP.out], (((((HB.out.setCell (by simp) _).setCell (by simp) _).setCell (by simp) _).setCell (by simp) _).setCell (by simp) _).setCell (by simp) _⟩

end Go.Proofs.Ytapahmhpjmnebab
