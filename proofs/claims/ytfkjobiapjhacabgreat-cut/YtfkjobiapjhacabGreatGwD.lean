/- Contracts of package wire: Parse. Own work. -/
import Derived.Test.YtfkjobiapjhacabGreatA1
namespace Go.Proofs.YtfkjobiapjhacabGreat
open Go.RowKit
attribute [local go_sem ↓] Go.wp_at_zero Go.wp_at_succ

/-- What speaks against bytes as a packet; 0: nothing. -/
def rFault (raw : ByteArray) : Int := if raw.size ≤ 20 ∨ 160 < raw.size then 3 else pFault (raw.extract 0 20) (raw.extract 20 raw.size)

set_option maxRecDepth 100000 in
set_option maxHeartbeats 400000 in
theorem read_short (raw : ByteArray) (w : World) (hz : (raw.size : Int) < 20) :
    Calls Tryz.prog 55 #[.string raw] w fun e w' => e = .returned (.agg #[.string ⟨#[]⟩, .int .i64 0, .int .i64 0, .int .i64 0, .string ⟨#[]⟩]) ∧ Below w.heap.size w w' := by
  go_enter Tryz.func55, Tryz.ntmps55
  go_wp2
  exact bodyPost_ret (v := .agg #[.string ⟨#[]⟩, .int .i64 0, .int .i64 0, .int .i64 0, .string ⟨#[]⟩]) (by simp [results, Tryz.results55, go_sem]) rfl ⟨rfl, (by repeat (first | exact Below.refl _ _ | refine Below.drew ?_ | (refine Below.alloc ?_ (by simp <;> omega) _) | (refine Below.setCell ?_ (by simp) _)))⟩
set_option maxRecDepth 100000 in
set_option maxHeartbeats 1000000 in
theorem read_long (raw : ByteArray) (w : World) (hz1 : (20 : Int) ≤ (raw.size : Int)) (hz2 : (raw.size : Int) ≤ 1000) :
    Calls Tryz.prog 55 #[.string raw] w fun e w' => e = .returned (.agg #[.string (raw.extract 0 20), .int .i64 (addrAt raw 12), .int .i64 (addrAt raw 16), .int .i64 (byteAt raw 9), .string (raw.extract 20 raw.size)]) ∧ Below w.heap.size w w' := by
  go_enter Tryz.func55, Tryz.ntmps55
  go_wp2_with fail
  go_region_held3 (fun _ => True) (trivial) (first | (go_at_call 72; refine (Address_any _ _ _ (by decide) (by decide)).mono ?_; rintro e w' ⟨rfl, rfl⟩) | (go_at_call 73; refine (Byte_any _ _ _).mono ?_; rintro e w' ⟨rfl, rfl⟩))
  all_goals
    go_wp2_with fail
    exact bodyPost_ret (v := .agg #[.string (raw.extract 0 20), .int .i64 (addrAt raw 12), .int .i64 (addrAt raw 16), .int .i64 (byteAt raw 9), .string (raw.extract 20 raw.size)]) (by simp [results, Tryz.results55, go_sem]) rfl ⟨rfl, (by repeat (first | exact Below.refl _ _ | refine Below.drew ?_ | (refine Below.alloc ?_ (by simp <;> omega) _) | (refine Below.setCell ?_ (by simp) _)))⟩

set_option maxRecDepth 100000 in
set_option maxHeartbeats 400000 in
theorem Parse_short (raw : ByteArray) (w : World) (hz : raw.size ≤ 20 ∨ 160 < raw.size) :
    Calls Tryz.prog 46 #[.string raw] w fun e w' => e = .returned (.tuple #[.agg #[.string ⟨#[]⟩, .int .i64 0, .int .i64 0, .int .i64 0, .string ⟨#[]⟩], .int .i64 3]) ∧ Below w.heap.size w w' := by
  rcases hz with hz | hz
  all_goals
    go_enter Tryz.func46, Tryz.ntmps46
    go_wp2
    exact bodyPost_ret (v := .tuple #[.agg #[.string ⟨#[]⟩, .int .i64 0, .int .i64 0, .int .i64 0, .string ⟨#[]⟩], .int .i64 3]) (by simp [results, Tryz.results46, go_sem]) rfl ⟨rfl, (by repeat (first | exact Below.refl _ _ | refine Below.drew ?_ | (refine Below.alloc ?_ (by simp <;> omega) _) | (refine Below.setCell ?_ (by simp) _)))⟩

set_option maxRecDepth 100000 in
set_option maxHeartbeats 1000000 in
theorem Parse_long (raw : ByteArray) (w : World) (hz3 : (20 : Int) < (raw.size : Int)) (hz2 : (raw.size : Int) ≤ 160) (f : Int) (hf : pFault (raw.extract 0 20) (raw.extract 20 raw.size) = f) (r : Value) (hr : f = 0 ∧ r = .agg #[.string (raw.extract 0 20), .int .i64 (addrAt raw 12), .int .i64 (addrAt raw 16), .int .i64 (byteAt raw 9), .string (raw.extract 20 raw.size)] ∨ ¬ f = 0 ∧ r = .agg #[.string ⟨#[]⟩, .int .i64 0, .int .i64 0, .int .i64 0, .string ⟨#[]⟩]) :
    Calls Tryz.prog 46 #[.string raw] w fun e w' => e = .returned (.tuple #[r, .int .i64 f]) ∧ Below w.heap.size w w' := by
  have hz1 : (20 : Int) ≤ (raw.size : Int) := by omega
  have x1 : (raw.extract 0 20).size = 20 := by simp; omega
  have x2 : (raw.extract 20 raw.size).size ≤ 1000 := by simp; omega
  have HFA : Hid (∀ w, Calls Tryz.prog 56 #[.agg #[.string (raw.extract 0 20), .int .i64 (addrAt raw 12), .int .i64 (addrAt raw 16), .int .i64 (byteAt raw 9), .string (raw.extract 20 raw.size)]] w fun e w' => e = .returned (.int .i64 f) ∧ Below w.heap.size w w') := fun w => by
    rw [← hf]; exact fault_any _ _ _ _ _ w (by omega) x2
  clear hf
  have HRD : Hid (∀ w, Calls Tryz.prog 55 #[.string raw] w fun e w' => e = .returned (.agg #[.string (raw.extract 0 20), .int .i64 (addrAt raw 12), .int .i64 (addrAt raw 16), .int .i64 (byteAt raw 9), .string (raw.extract 20 raw.size)]) ∧ Below w.heap.size w w') := fun w => read_long raw w hz1 (by omega)
  rcases hr with ⟨rfl, rfl⟩ | ⟨hf0, rfl⟩
  · go_enter Tryz.func46, Tryz.ntmps46
    go_wp2_with fail
    refine (HRD.out _).mono ?_
    rintro e w0 ⟨rfl, hb0⟩
    have K0 : Hid (w0.heap[w.heap.size]? = some (.cells #[.string ⟨#[]⟩, .int .i64 0, .int .i64 0, .int .i64 0, .string ⟨#[]⟩] 83 (0, 0))) := blk hb0 (by rw [hget_alloc, if_pos rfl])
    have HB0 : Hid (Below w.heap.size w w0) := ((Below.refl _ _).alloc (Nat.le_refl _) _).trans (hb0.mono (by simp))
    clear hb0
    go_wp2_with fail
    refine (HFA.out _).mono ?_
    rintro e w1 ⟨rfl, hb1⟩
    have K1 : Hid (w1.heap[w.heap.size]? = some (.cells #[.string ⟨#[]⟩, .int .i64 0, .int .i64 0, .int .i64 0, .string ⟨#[]⟩] 83 (0, 0))) := blk hb1 (by rw [hget_alloc, if_neg (by have := lt_of_block K0.out; omega)]; exact K0.out)
    have K2 : Hid (w1.heap[w0.heap.size]? = some (.cells #[.string (raw.extract 0 20), .int .i64 (addrAt raw 12), .int .i64 (addrAt raw 16), .int .i64 (byteAt raw 9), .string (raw.extract 20 raw.size)] 83 (0, 0))) := blk hb1 (by rw [hget_alloc, if_pos rfl])
    have HB : Hid (Below w.heap.size w w1) := (HB0.out.alloc HB0.out.size _).trans (hb1.mono (by have := HB0.out.size; simp; omega))
    have hz0 : w.heap.size ≠ w0.heap.size := by have := lt_of_block K0.out; omega
    clear hb1
    obtain ⟨⟨r0, r1, r2, r3, r4⟩, rf⟩ := c5 K1.out
    obtain ⟨⟨p0, p1, p2, p3, p4⟩, pf⟩ := c5 K2.out
    go_wp2_with fail
    refine bodyPost_ret (v := .tuple #[.agg #[.string (raw.extract 0 20), .int .i64 (addrAt raw 12), .int .i64 (addrAt raw 16), .int .i64 (byteAt raw 9), .string (raw.extract 20 raw.size)], .int .i64 _]) (by simp [results, Tryz.results46, go_sem, r0, r1, r2, r3, r4]) rfl ⟨rfl, ?_⟩
    exact ((((HB.out.setCell (by simp) _).setCell (by simp) _).setCell (by simp) _).setCell (by simp) _).setCell (by simp) _
  · have hf1 : (f != 0) = true := by simpa using hf0
    go_enter Tryz.func46, Tryz.ntmps46
    go_wp2_with fail
    refine (HRD.out _).mono ?_
    rintro e w0 ⟨rfl, hb0⟩
    have K0 : Hid (w0.heap[w.heap.size]? = some (.cells #[.string ⟨#[]⟩, .int .i64 0, .int .i64 0, .int .i64 0, .string ⟨#[]⟩] 83 (0, 0))) := blk hb0 (by rw [hget_alloc, if_pos rfl])
    have HB0 : Hid (Below w.heap.size w w0) := ((Below.refl _ _).alloc (Nat.le_refl _) _).trans (hb0.mono (by simp))
    clear hb0
    go_wp2_with fail
    refine (HFA.out _).mono ?_
    rintro e w1 ⟨rfl, hb1⟩
    have K1 : Hid (w1.heap[w.heap.size]? = some (.cells #[.string ⟨#[]⟩, .int .i64 0, .int .i64 0, .int .i64 0, .string ⟨#[]⟩] 83 (0, 0))) := blk hb1 (by rw [hget_alloc, if_neg (by have := lt_of_block K0.out; omega)]; exact K0.out)
    have K2 : Hid (w1.heap[w0.heap.size]? = some (.cells #[.string (raw.extract 0 20), .int .i64 (addrAt raw 12), .int .i64 (addrAt raw 16), .int .i64 (byteAt raw 9), .string (raw.extract 20 raw.size)] 83 (0, 0))) := blk hb1 (by rw [hget_alloc, if_pos rfl])
    have HB : Hid (Below w.heap.size w w1) := (HB0.out.alloc HB0.out.size _).trans (hb1.mono (by have := HB0.out.size; simp; omega))
    have hz0 : w.heap.size ≠ w0.heap.size := by have := lt_of_block K0.out; omega
    clear hb1
    obtain ⟨⟨r0, r1, r2, r3, r4⟩, rf⟩ := c5 K1.out
    obtain ⟨⟨p0, p1, p2, p3, p4⟩, pf⟩ := c5 K2.out
    go_wp2_with fail
    refine bodyPost_ret (v := .tuple #[.agg #[.string ⟨#[]⟩, .int .i64 0, .int .i64 0, .int .i64 0, .string ⟨#[]⟩], .int .i64 _]) (by simp [results, Tryz.results46, go_sem, r0, r1, r2, r3, r4]) rfl ⟨rfl, ?_⟩
    exact ((((HB.out.setCell (by simp) _).setCell (by simp) _).setCell (by simp) _).setCell (by simp) _).setCell (by simp) _
end Go.Proofs.YtfkjobiapjhacabGreat
