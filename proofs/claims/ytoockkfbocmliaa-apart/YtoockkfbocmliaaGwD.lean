/- Contracts of package wire: Parse. Own work. -/
import Derived.Test.YtoockkfbocmliaaGwF
namespace Go.Proofs.Ytoockkfbocmliaa
open Go.RowKit
attribute [local go_sem ↓] Go.wp_at_zero Go.wp_at_succ

/-- What speaks against bytes as a packet; 0: nothing. -/
def rFault (raw : ByteArray) : Int := if raw.size ≤ 20 ∨ 160 < raw.size then 3 else pFault (raw.extract 0 20) (raw.extract 20 raw.size)

theorem c5 {w : World} {b : Nat} {v0 v1 v2 v3 v4 : Value} {t : TypeId} (h : w.heap[b]? = some (.cells #[v0, v1, v2, v3, v4] t (0, 0))) :
    (w.cell? ⟨b, 0, none⟩ = some v0 ∧ w.cell? ⟨b, 1, none⟩ = some v1 ∧ w.cell? ⟨b, 2, none⟩ = some v2 ∧ w.cell? ⟨b, 3, none⟩ = some v3 ∧ w.cell? ⟨b, 4, none⟩ = some v4) ∧ (∀ j, w.frozen? ⟨b, j, none⟩ = false) := by
  constructor
  · simp [World.cell?, h]
  · intro j; simp [World.frozen?, h]


set_option maxRecDepth 100000 in
set_option maxHeartbeats 400000 in
theorem Parse_short (raw : ByteArray) (w : World) (hz : raw.size ≤ 20 ∨ 160 < raw.size) :
    Calls Try.prog 51 #[.string raw] w fun e w' => e = .returned (.tuple #[.agg #[.string ⟨#[]⟩, .int .i64 0, .int .i64 0, .int .i64 0, .string ⟨#[]⟩], .int .i64 3]) ∧ Below w.heap.size w w' := by
  rcases hz with hz | hz
  all_goals
    go_enter Try.func51, Try.ntmps51
    go_wp2
    exact bodyPost_ret (v := .tuple #[.agg #[.string ⟨#[]⟩, .int .i64 0, .int .i64 0, .int .i64 0, .string ⟨#[]⟩], .int .i64 3]) (by simp [results, Try.results51, go_sem]) rfl ⟨rfl, (by repeat (first | exact Below.refl _ _ | refine Below.drew ?_ | (refine Below.alloc ?_ (by simp <;> omega) _) | (refine Below.setCell ?_ (by simp) _)))⟩

set_option maxRecDepth 100000 in
set_option maxHeartbeats 1000000 in
theorem Parse_long (raw : ByteArray) (w : World) (hz3 : (20 : Int) < (raw.size : Int)) (hz2 : (raw.size : Int) ≤ 160) (f : Int) (hf : pFault (raw.extract 0 20) (raw.extract 20 raw.size) = f) (r : Value) (hr : f = 0 ∧ r = .agg #[.string (raw.extract 0 20), .int .i64 (addrAt raw 12), .int .i64 (addrAt raw 16), .int .i64 (byteAt raw 9), .string (raw.extract 20 raw.size)] ∨ ¬ f = 0 ∧ r = .agg #[.string ⟨#[]⟩, .int .i64 0, .int .i64 0, .int .i64 0, .string ⟨#[]⟩]) :
    Calls Try.prog 51 #[.string raw] w fun e w' => e = .returned (.tuple #[r, .int .i64 f]) ∧ Below w.heap.size w w' := by
  have hz1 : (20 : Int) ≤ (raw.size : Int) := by omega
  have x1 : (raw.extract 0 20).size = 20 := by simp; omega
  have x2 : (raw.extract 20 raw.size).size ≤ 1000 := by simp; omega
  have HFA : Hid (∀ w, Calls Try.prog 59 #[.agg #[.string (raw.extract 0 20), .int .i64 (addrAt raw 12), .int .i64 (addrAt raw 16), .int .i64 (byteAt raw 9), .string (raw.extract 20 raw.size)]] w fun e w' => e = .returned (.int .i64 f) ∧ Below w.heap.size w w') := fun w => by
    rw [← hf]; exact fault_any _ _ _ _ _ w (by omega) x2
  clear hf
  rcases hr with ⟨rfl, rfl⟩ | ⟨hf0, rfl⟩
  · go_enter Try.func51, Try.ntmps51
    go_wp2
    go_cut [4] (fun q w2 => q = .pointer (some ⟨w.heap.size + 1, 0, none⟩) ∧ w2 = ((w.alloc (.cells #[.string ⟨#[]⟩, .int .i64 0, .int .i64 0, .int .i64 0, .string ⟨#[]⟩] 82)).alloc (.cells #[.string (raw.extract 0 20), .int .i64 (addrAt raw 12), .int .i64 (addrAt raw 16), .int .i64 (byteAt raw 9), .string (raw.extract 20 raw.size)] 82)).drew)
    case first =>
      go_region_held3 (fun _ => True) (trivial) (first | (go_at_call 57; refine (Address_any _ _ _ (by decide) (by decide)).mono ?_; rintro e w' ⟨rfl, rfl⟩) | (go_at_call 58; refine (Byte_any _ _ _).mono ?_; rintro e w' ⟨rfl, rfl⟩))
      all_goals (go_wp2_with fail; go_meet; exact ⟨rfl, rfl⟩)
    case rest =>
      obtain ⟨rfl, rfl⟩ := hcut
      go_wp2_with fail
      refine (HFA.out _).mono ?_
      rintro e w1 ⟨rfl, hb1⟩
      have K0 : Hid (w1.heap[w.heap.size]? = some (.cells #[.string ⟨#[]⟩, .int .i64 0, .int .i64 0, .int .i64 0, .string ⟨#[]⟩] 82 (0, 0))) := blk hb1 (by show (World.alloc _ _).heap[_]? = _; rw [hget_alloc, if_neg (by simp), hget_alloc, if_pos rfl])
      have K1 : Hid (w1.heap[w.heap.size + 1]? = some (.cells #[.string (raw.extract 0 20), .int .i64 (addrAt raw 12), .int .i64 (addrAt raw 16), .int .i64 (byteAt raw 9), .string (raw.extract 20 raw.size)] 82 (0, 0))) := blk hb1 (by show (World.alloc _ _).heap[_]? = _; rw [hget_alloc, if_pos (by simp)])
      have HB : Hid (Below w.heap.size w w1) := (((Below.refl _ _).alloc (Nat.le_refl _) _).alloc (by simp) _).drew.trans (hb1.mono (by simp; omega))
      clear hb1
      obtain ⟨⟨r0, r1, r2, r3, r4⟩, rf⟩ := c5 K0.out
      obtain ⟨⟨p0, p1, p2, p3, p4⟩, pf⟩ := c5 K1.out
      go_wp2_with fail
      refine bodyPost_ret (v := .tuple #[.agg #[.string (raw.extract 0 20), .int .i64 (addrAt raw 12), .int .i64 (addrAt raw 16), .int .i64 (byteAt raw 9), .string (raw.extract 20 raw.size)], .int .i64 _]) (by simp [results, Try.results51, go_sem, r0, r1, r2, r3, r4]) rfl ⟨rfl, ?_⟩
      exact ((((HB.out.setCell (by simp) _).setCell (by simp) _).setCell (by simp) _).setCell (by simp) _).setCell (by simp) _
  · have hf1 : (f != 0) = true := by simpa using hf0
    go_enter Try.func51, Try.ntmps51
    go_wp2
    go_cut [4] (fun q w2 => q = .pointer (some ⟨w.heap.size + 1, 0, none⟩) ∧ w2 = ((w.alloc (.cells #[.string ⟨#[]⟩, .int .i64 0, .int .i64 0, .int .i64 0, .string ⟨#[]⟩] 82)).alloc (.cells #[.string (raw.extract 0 20), .int .i64 (addrAt raw 12), .int .i64 (addrAt raw 16), .int .i64 (byteAt raw 9), .string (raw.extract 20 raw.size)] 82)).drew)
    case first =>
      go_region_held3 (fun _ => True) (trivial) (first | (go_at_call 57; refine (Address_any _ _ _ (by decide) (by decide)).mono ?_; rintro e w' ⟨rfl, rfl⟩) | (go_at_call 58; refine (Byte_any _ _ _).mono ?_; rintro e w' ⟨rfl, rfl⟩))
      all_goals (go_wp2_with fail; go_meet; exact ⟨rfl, rfl⟩)
    case rest =>
      obtain ⟨rfl, rfl⟩ := hcut
      go_wp2_with fail
      refine (HFA.out _).mono ?_
      rintro e w1 ⟨rfl, hb1⟩
      have K0 : Hid (w1.heap[w.heap.size]? = some (.cells #[.string ⟨#[]⟩, .int .i64 0, .int .i64 0, .int .i64 0, .string ⟨#[]⟩] 82 (0, 0))) := blk hb1 (by show (World.alloc _ _).heap[_]? = _; rw [hget_alloc, if_neg (by simp), hget_alloc, if_pos rfl])
      have K1 : Hid (w1.heap[w.heap.size + 1]? = some (.cells #[.string (raw.extract 0 20), .int .i64 (addrAt raw 12), .int .i64 (addrAt raw 16), .int .i64 (byteAt raw 9), .string (raw.extract 20 raw.size)] 82 (0, 0))) := blk hb1 (by show (World.alloc _ _).heap[_]? = _; rw [hget_alloc, if_pos (by simp)])
      have HB : Hid (Below w.heap.size w w1) := (((Below.refl _ _).alloc (Nat.le_refl _) _).alloc (by simp) _).drew.trans (hb1.mono (by simp; omega))
      clear hb1
      obtain ⟨⟨r0, r1, r2, r3, r4⟩, rf⟩ := c5 K0.out
      obtain ⟨⟨p0, p1, p2, p3, p4⟩, pf⟩ := c5 K1.out
      go_wp2_with fail
      refine bodyPost_ret (v := .tuple #[.agg #[.string ⟨#[]⟩, .int .i64 0, .int .i64 0, .int .i64 0, .string ⟨#[]⟩], .int .i64 _]) (by simp [results, Try.results51, go_sem, r0, r1, r2, r3, r4]) rfl ⟨rfl, ?_⟩
      exact ((((HB.out.setCell (by simp) _).setCell (by simp) _).setCell (by simp) _).setCell (by simp) _).setCell (by simp) _
end Go.Proofs.Ytoockkfbocmliaa
