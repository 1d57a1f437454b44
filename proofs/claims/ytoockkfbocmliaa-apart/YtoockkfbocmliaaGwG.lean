/- Contracts of package wire: Between. Own work. -/
import Derived.Test.YtoockkfbocmliaaGwF
namespace Go.Proofs.Ytoockkfbocmliaa
open Go.RowKit
attribute [local go_sem ↓] Go.wp_at_zero Go.wp_at_succ

theorem sealed_any (pr fa fp ta tp : Int) (m : ByteArray) (w : World) (hm : m.size ≤ 1000) (hat : sumAtI pr + 2 ≤ m.size) (hp0 : 0 ≤ pr) (hp1 : pr ≤ 255) (hf0 : 0 ≤ fa) (hf1 : fa ≤ 4294967295) (ht0 : 0 ≤ ta) (ht1 : ta ≤ 4294967295) :
    Calls Try.prog 86 #[.agg #[.int .i64 pr, .int .i64 fa, .int .i64 fp, .int .i64 ta, .int .i64 tp, .string m]] w fun e w' => e = .returned (.agg #[.int .i64 pr, .int .i64 fa, .int .i64 fp, .int .i64 ta, .int .i64 tp, .string (sealM pr fa ta m)]) ∧ Below w.heap.size w w' := by
  cases hs : hasSumB pr m
  · have e : sealM pr fa ta m = m := by unfold sealM; rw [hs]; rfl
    rw [e]; exact sealed_no pr fa fp ta tp m w hs
  · exact sealed_yes pr fa fp ta tp m w hs hm hat hp0 hp1 hf0 hf1 ht0 ht1

theorem c2 {w : World} {b : Nat} {v0 v1 : Value} {t : TypeId} (h : w.heap[b]? = some (.cells #[v0, v1] t (0, 0))) :
    (w.cell? ⟨b, 0, none⟩ = some v0 ∧ w.cell? ⟨b, 1, none⟩ = some v1) ∧ (∀ j, w.frozen? ⟨b, j, none⟩ = false) := by
  constructor
  · simp [World.cell?, h]
  · intro j; simp [World.frozen?, h]

structure BtwMid (w w1 : World) (d f t : Array Value) : Prop where
  dg : w1.heap[w.heap.size]? = some (.cells d 86 (0, 0))
  fr : w1.heap[w.heap.size + 1]? = some (.cells f 72 (0, 0))
  tt : w1.heap[w.heap.size + 1 + 1]? = some (.cells t 72 (0, 0))
  rs : w1.heap[w.heap.size + 1 + 1 + 1]? = some (.cells #[.int .i64 0, .int .i64 0, .int .i64 0, .int .i64 0, .int .i64 0, .string ⟨#[]⟩] 86 (0, 0))
  bl : Below w.heap.size w w1
theorem BtwMid.call {w w1 w2 : World} {d f t : Array Value} (h : BtwMid w w1 d f t) (hb : Below w1.heap.size w1 w2) : BtwMid w w2 d f t :=
  ⟨blk hb h.dg, blk hb h.fr, blk hb h.tt, blk hb h.rs, h.bl.trans (hb.mono h.bl.size)⟩
theorem BtwMid.alloc {w w1 : World} {d f t : Array Value} (h : BtwMid w w1 d f t) (o : Obj) : BtwMid w (w1.alloc o) d f t :=
  h.call ((Below.refl _ _).alloc (Nat.le_refl _) o)
theorem BtwMid.start (w : World) (d f t : Array Value) : BtwMid w ((((w.alloc (.cells d 86)).alloc (.cells f 72)).alloc (.cells t 72)).alloc (.cells #[.int .i64 0, .int .i64 0, .int .i64 0, .int .i64 0, .int .i64 0, .string ⟨#[]⟩] 86)) d f t :=
  ⟨by rw [hget_alloc, if_neg (by simp <;> omega), hget_alloc, if_neg (by simp <;> omega), hget_alloc, if_neg (by simp <;> omega), hget_alloc, if_pos rfl], by rw [hget_alloc, if_neg (by simp <;> omega), hget_alloc, if_neg (by simp <;> omega), hget_alloc, if_pos (by simp)], by rw [hget_alloc, if_neg (by simp), hget_alloc, if_pos (by simp)], by rw [hget_alloc, if_pos (by simp)], ((((Below.refl _ _).alloc (Nat.le_refl _) _).alloc (by simp) _).alloc (by simp; omega) _).alloc (by simp; omega) _⟩

/-- The message between other ends. -/
def btwM (pr : Int) (m : ByteArray) (xa xp ya yp : Int) : ByteArray := sealM pr xa ya (putWord (putWord m 0 xp) 2 yp)
set_option maxRecDepth 100000 in
set_option maxHeartbeats 2000000 in
theorem Between_any (pr fa fp ta tp : Int) (m : ByteArray) (xa xp ya yp : Int) (w : World) (hm : m.size ≤ 1000) (hat : sumAtI pr + 2 ≤ m.size) (h4 : 4 ≤ m.size) (hp0 : 0 ≤ pr) (hp1 : pr ≤ 255) (hf0 : 0 ≤ xa) (hf1 : xa ≤ 4294967295) (ht0 : 0 ≤ ya) (ht1 : ya ≤ 4294967295) :
    Calls Try.prog 76 #[.agg #[.int .i64 pr, .int .i64 fa, .int .i64 fp, .int .i64 ta, .int .i64 tp, .string m], .agg #[.int .i64 xa, .int .i64 xp], .agg #[.int .i64 ya, .int .i64 yp]] w fun e w' => e = .returned (.agg #[.int .i64 pr, .int .i64 xa, .int .i64 xp, .int .i64 ya, .int .i64 yp, .string (btwM pr m xa xp ya yp)]) ∧ Below w.heap.size w w' := by
  obtain ⟨m1, e1⟩ : ∃ z, z = putWord m 0 xp := ⟨_, rfl⟩
  obtain ⟨m2, e2⟩ : ∃ z, z = putWord m1 2 yp := ⟨_, rfl⟩
  have z1 : m1.size = m.size := by rw [e1, size_put _ _ _ (by omega)]
  have z2 : m2.size = m.size := by rw [e2, size_put _ _ _ (by omega), z1]
  have P1 : Hid (∀ w, Calls Try.prog 65 #[.string m, .int .i64 0, .int .i64 xp] w fun e w' => e = .returned (.string m1) ∧ Below w.heap.size w w') := fun w => by rw [e1]; exact PutWord_any m 0 xp w (by omega) (by omega)
  have P2 : Hid (∀ w, Calls Try.prog 65 #[.string m1, .int .i64 2, .int .i64 yp] w fun e w' => e = .returned (.string m2) ∧ Below w.heap.size w w') := fun w => by rw [e2]; exact PutWord_any m1 2 yp w (by omega) (by omega)
  have P3 : Hid (∀ w, Calls Try.prog 86 #[.agg #[.int .i64 pr, .int .i64 xa, .int .i64 xp, .int .i64 ya, .int .i64 yp, .string m2]] w fun e w' => e = .returned (.agg #[.int .i64 pr, .int .i64 xa, .int .i64 xp, .int .i64 ya, .int .i64 yp, .string (btwM pr m xa xp ya yp)]) ∧ Below w.heap.size w w') := fun w => by
    have e : btwM pr m xa xp ya yp = sealM pr xa ya m2 := by unfold btwM; rw [e2, e1]
    rw [e]; exact sealed_any pr xa xp ya yp m2 w (by omega) (by omega) hp0 hp1 hf0 hf1 ht0 ht1
  have HM0 : Hid (BtwMid w ((((w.alloc (.cells #[.int .i64 pr, .int .i64 fa, .int .i64 fp, .int .i64 ta, .int .i64 tp, .string m] 86)).alloc (.cells #[.int .i64 xa, .int .i64 xp] 72)).alloc (.cells #[.int .i64 ya, .int .i64 yp] 72)).alloc (.cells #[.int .i64 0, .int .i64 0, .int .i64 0, .int .i64 0, .int .i64 0, .string ⟨#[]⟩] 86)) #[.int .i64 pr, .int .i64 fa, .int .i64 fp, .int .i64 ta, .int .i64 tp, .string m] #[.int .i64 xa, .int .i64 xp] #[.int .i64 ya, .int .i64 yp]) := BtwMid.start w _ _ _
  clear e1 e2
  go_enter Try.func76, Try.ntmps76
  go_wp2_with fail
  refine (P1.out _).mono ?_; rintro e w1 ⟨rfl, hb1⟩
  have HM1 : Hid (BtwMid w w1 #[.int .i64 pr, .int .i64 fa, .int .i64 fp, .int .i64 ta, .int .i64 tp, .string m] #[.int .i64 xa, .int .i64 xp] #[.int .i64 ya, .int .i64 yp]) := HM0.out.call hb1
  clear hb1
  obtain ⟨⟨d0, d1, d2, d3, d4, d5⟩, df⟩ := c6 HM1.out.dg
  obtain ⟨⟨f0, f1⟩, ff⟩ := c2 HM1.out.fr
  obtain ⟨⟨t0, t1⟩, tf⟩ := c2 HM1.out.tt
  go_wp2_with fail
  refine (P2.out _).mono ?_; rintro e w2 ⟨rfl, hb2⟩
  have HM2 : Hid (BtwMid w w2 #[.int .i64 pr, .int .i64 fa, .int .i64 fp, .int .i64 ta, .int .i64 tp, .string m] #[.int .i64 xa, .int .i64 xp] #[.int .i64 ya, .int .i64 yp]) := HM1.out.call hb2
  clear hb2 d0 d1 d2 d3 d4 d5 df f0 f1 ff t0 t1 tf
  obtain ⟨⟨d0, d1, d2, d3, d4, d5⟩, df⟩ := c6 HM2.out.dg
  obtain ⟨⟨f0, f1⟩, ff⟩ := c2 HM2.out.fr
  obtain ⟨⟨t0, t1⟩, tf⟩ := c2 HM2.out.tt
  go_wp2_with fail
  refine (P3.out _).mono ?_; rintro e w3 ⟨rfl, hb3⟩
  have HM3 : Hid (BtwMid w w3 #[.int .i64 pr, .int .i64 fa, .int .i64 fp, .int .i64 ta, .int .i64 tp, .string m] #[.int .i64 xa, .int .i64 xp] #[.int .i64 ya, .int .i64 yp]) := (HM2.out.alloc _).call hb3
  clear hb3 d0 d1 d2 d3 d4 d5 df f0 f1 ff t0 t1 tf
  obtain ⟨⟨r0, r1, r2, r3, r4, r5⟩, rf⟩ := c6 HM3.out.rs
  go_wp2_with fail
  refine bodyPost_ret (v := .agg #[.int .i64 pr, .int .i64 xa, .int .i64 xp, .int .i64 ya, .int .i64 yp, .string (btwM pr m xa xp ya yp)]) (by simp [results, Try.results76, go_sem, r0, r1, r2, r3, r4, r5]) rfl ⟨rfl, ?_⟩
  have := HM3.out.bl
  exact (((((this.setCell (by simp; omega) _).setCell (by simp; omega) _).setCell (by simp; omega) _).setCell (by simp; omega) _).setCell (by simp; omega) _).setCell (by simp; omega) _
end Go.Proofs.Ytoockkfbocmliaa
