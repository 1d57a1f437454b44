/- Contracts of package wire: packets, read and made. Own work. -/
import Derived.Test.YtoockkfbocmliaaGwB
namespace Go.Proofs.Ytoockkfbocmliaa
open Go.RowKit
attribute [local go_sem ↓] Go.wp_at_zero Go.wp_at_succ

theorem bcell' {W w1 : World} (hb : Below W.heap.size W w1) : (∀ b o, b < W.heap.size → w1.cell? ⟨b, o, none⟩ = W.cell? ⟨b, o, none⟩) ∧ (∀ b o, b < W.heap.size → w1.frozen? ⟨b, o, none⟩ = W.frozen? ⟨b, o, none⟩) :=
  ⟨fun b o h => hb.cell (p := ⟨b, o, none⟩) h, fun b o h => hb.frozen (p := ⟨b, o, none⟩) h⟩
theorem below_lt' {w W w1 : World} (hb : Below W.heap.size W w1) (h : w.heap.size < W.heap.size := by simp) : w.heap.size < w1.heap.size := Nat.lt_of_lt_of_le h hb.size

theorem g_bool {a b : Bool} (h : a = b) : Ending.returned (.bool a) = .returned (.bool b) := by rw [h]
def pieceB (h : ByteArray) : Bool := bits .and .i64 (wordAt h 6) 16383 != 0
set_option maxRecDepth 100000 in
set_option maxHeartbeats 1000000 in
theorem Piece_any (h b : ByteArray) (sr ds pr : Int) (w : World) :
    Calls Try.prog 53 #[.agg #[.string h, .int .i64 sr, .int .i64 ds, .int .i64 pr, .string b]] w fun e w' => e = .returned (.bool (pieceB h)) ∧ Below w.heap.size w w' := by
  have HP : Hid (pieceB h = (bits .and .i64 (wordAt h 6) 16383 != 0)) := rfl
  go_enter Try.func53, Try.ntmps53
  go_wp2_with (go_at_call 60; refine (Word_any _ _ _ (by decide) (by decide)).mono ?_; rintro e w' ⟨rfl, rfl⟩)
  go_ret
  exact ⟨g_bool HP.out.symm, (Below.refl _ _).alloc (Nat.le_refl _) _⟩

theorem foldI_bd (n : Int) : 0 ≤ foldI n ∧ foldI n ≤ 65535 := by
  unfold foldI; split
  · omega
  · have := Int.emod_nonneg (n - 1) (b := 65535) (by decide); have := Int.emod_lt_of_pos (n - 1) (b := 65535) (by decide); omega
theorem sumI_bd (s : ByteArray) : 0 ≤ sumI s ∧ sumI s ≤ 65535 := foldI_bd _

/-- The header that goes out for header h, between other addresses. -/
def onHead (h : ByteArray) (src dst : Int) : ByteArray :=
  let h2 := putAddr (putAddr h 12 src) 16 dst
  let h4 := putWord (putWord h2 8 (wordAt h2 8 - 256)) 10 0
  putWord h4 10 (65535 - sumI h4)
theorem size_addr (s : ByteArray) (i : Nat) (a : Int) (h : i + 4 ≤ s.size) : (putAddr s i a).size = s.size := by
  unfold putAddr
  have := size_put s i (a / 65536) (by omega)
  rw [size_put _ _ _ (by omega), this]

set_option maxRecDepth 100000 in
set_option maxHeartbeats 2000000 in
theorem Onward_any (h b : ByteArray) (sr ds pr : Int) (src dst : Int) (body : ByteArray) (w : World) (hh : h.size = 20) (hb : body.size ≤ 1000) :
    Calls Try.prog 56 #[.agg #[.string h, .int .i64 sr, .int .i64 ds, .int .i64 pr, .string b], .int .i64 src, .int .i64 dst, .string body] w fun e w' => e = .returned (.string (onHead h src dst ++ body)) ∧ Below w.heap.size w w' := by
  obtain ⟨h1, e1⟩ : ∃ x, x = putAddr h 12 src := ⟨_, rfl⟩
  obtain ⟨h2, e2⟩ : ∃ x, x = putAddr h1 16 dst := ⟨_, rfl⟩
  obtain ⟨h3, e3⟩ : ∃ x, x = putWord h2 8 (wordAt h2 8 - 256) := ⟨_, rfl⟩
  obtain ⟨h4, e4⟩ : ∃ x, x = putWord h3 10 0 := ⟨_, rfl⟩
  obtain ⟨h5, e5⟩ : ∃ x, x = putWord h4 10 (65535 - sumI h4) := ⟨_, rfl⟩
  have z1 : h1.size = 20 := by rw [e1, size_addr _ _ _ (by omega), hh]
  have z2 : h2.size = 20 := by rw [e2, size_addr _ _ _ (by omega), z1]
  have z3 : h3.size = 20 := by rw [e3, size_put _ _ _ (by omega), z2]
  have z4 : h4.size = 20 := by rw [e4, size_put _ _ _ (by omega), z3]
  have z5 : h5.size = 20 := by rw [e5, size_put _ _ _ (by omega), z4]
  have HO : Hid (onHead h src dst = h5) := by show _ = _; unfold onHead; simp only [← e1, ← e2, ← e3, ← e4, ← e5]
  have p1 : Hid (∀ w, Calls Try.prog 64 #[.string h, .int .i64 12, .int .i64 src] w fun e w' => e = .returned (.string h1) ∧ Below w.heap.size w w') := fun w => by rw [e1]; exact PutAddress_any h 12 src w (by omega) (by omega)
  have p2 : Hid (∀ w, Calls Try.prog 64 #[.string h1, .int .i64 16, .int .i64 dst] w fun e w' => e = .returned (.string h2) ∧ Below w.heap.size w w') := fun w => by rw [e2]; exact PutAddress_any h1 16 dst w (by omega) (by omega)
  have p3 : Hid (∀ w, Calls Try.prog 65 #[.string h2, .int .i64 8, .int .i64 (wordAt h2 8 - 256)] w fun e w' => e = .returned (.string h3) ∧ Below w.heap.size w w') := fun w => by rw [e3]; exact PutWord_any h2 8 _ w (by omega) (by omega)
  have p4 : Hid (∀ w, Calls Try.prog 65 #[.string h3, .int .i64 10, .int .i64 0] w fun e w' => e = .returned (.string h4) ∧ Below w.heap.size w w') := fun w => by rw [e4]; exact PutWord_any h3 10 0 w (by omega) (by omega)
  have p5 : Hid (∀ w, Calls Try.prog 65 #[.string h4, .int .i64 10, .int .i64 (65535 - sumI h4)] w fun e w' => e = .returned (.string h5) ∧ Below w.heap.size w w') := fun w => by rw [e5]; exact PutWord_any h4 10 _ w (by omega) (by omega)
  have q3 := wordAt_bd h2 8
  have q5 := sumI_bd h4
  have m1 : ¬ 9223372036854775807 < h5.size + body.size := by omega
  clear e1 e2 e3 e4 e5
  go_enter Try.func56, Try.ntmps56
  go_wp2_with fail
  refine (p1.out _).mono ?_; rintro e w1 ⟨rfl, b1⟩
  go_wp2_with fail
  refine (p2.out _).mono ?_; rintro e w2 ⟨rfl, b2⟩
  go_wp2_with fail
  refine (Word_any h2 8 _ (by decide) (by decide)).mono ?_; rintro e w' ⟨rfl, rfl⟩
  go_wp2_with fail
  refine (p3.out _).mono ?_; rintro e w3 ⟨rfl, b3⟩
  go_wp2_with fail
  refine (p4.out _).mono ?_; rintro e w4 ⟨rfl, b4⟩
  go_wp2_with fail
  refine (Sum_any h4 _ (by omega)).mono ?_; rintro e w' ⟨rfl, rfl⟩
  go_wp2_with fail
  refine (p5.out _).mono ?_; rintro e w5 ⟨rfl, b5⟩
  go_wp2_with fail
  go_ret
  have s0 := b1.size; have s1 := b2.size; have s2 := b3.size; have s3 := b4.size
  simp at s0
  refine ⟨g_str (by rw [HO.out]), ((Below.refl _ _).alloc (Nat.le_refl _) _).trans ((b1.mono (by simp)).trans ((b2.mono (by omega)).trans ((b3.mono (by omega)).trans ((b4.mono (by omega)).trans (b5.mono (by omega))))))⟩

def portsOf (pr : Int) (b : ByteArray) : Int × Int := if (pr != 1) = true then (wordAt b 0, wordAt b 2) else (0, 0)
set_option maxRecDepth 100000 in
set_option maxHeartbeats 1000000 in
theorem Whole_any (h b : ByteArray) (sr ds pr : Int) (w : World) :
    Calls Try.prog 54 #[.agg #[.string h, .int .i64 sr, .int .i64 ds, .int .i64 pr, .string b]] w fun e w' => e = .returned (.agg #[.int .i64 pr, .int .i64 sr, .int .i64 (portsOf pr b).1, .int .i64 ds, .int .i64 (portsOf pr b).2, .string b]) ∧ Below w.heap.size w w' := by
  cases hp : (pr != 1)
  · have HP : Hid (portsOf pr b = (0, 0)) := by show _ = _; unfold portsOf; rw [hp]; rfl
    go_enter Try.func54, Try.ntmps54
    go_wp2
    exact bodyPost_ret (v := .agg #[.int .i64 pr, .int .i64 sr, .int .i64 0, .int .i64 ds, .int .i64 0, .string b]) (by simp [results, Try.results54, go_sem]) rfl ⟨by rw [HP.out], (by repeat (first | exact Below.refl _ _ | refine Below.drew ?_ | (refine Below.alloc ?_ (by simp <;> omega) _) | (refine Below.setCell ?_ (by simp) _)))⟩
  · have HP : Hid (portsOf pr b = (wordAt b 0, wordAt b 2)) := by show _ = _; unfold portsOf; rw [hp]; rfl
    go_enter Try.func54, Try.ntmps54
    go_wp2_with (go_at_call 60; refine (Word_any _ _ _ (by decide) (by decide)).mono ?_; rintro e w' ⟨rfl, rfl⟩)
    exact bodyPost_ret (v := .agg #[.int .i64 pr, .int .i64 sr, .int .i64 (wordAt b 0), .int .i64 ds, .int .i64 (wordAt b 2), .string b]) (by simp [results, Try.results54, go_sem]) rfl ⟨by rw [HP.out], (by repeat (first | exact Below.refl _ _ | refine Below.drew ?_ | (refine Below.alloc ?_ (by simp <;> omega) _) | (refine Below.setCell ?_ (by simp) _)))⟩

end Go.Proofs.Ytoockkfbocmliaa
