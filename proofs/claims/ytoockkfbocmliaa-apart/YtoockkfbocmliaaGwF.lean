/- Contracts of package wire: datagrams made. Own work. -/
import Derived.Test.YtoockkfbocmliaaGwE
namespace Go.Proofs.Ytoockkfbocmliaa
open Go.RowKit
attribute [local go_sem ↓] Go.wp_at_zero Go.wp_at_succ

/-- The checksum that goes in. -/
def sealSum (pr fa ta : Int) (z : ByteArray) : Int := if 65535 - dSum pr fa ta z = 0 ∧ pr = 17 then 65535 else 65535 - dSum pr fa ta z
/-- A message with its checksum made. -/
def sealM (pr fa ta : Int) (m : ByteArray) : ByteArray := if hasSumB pr m = false then m else putWord (putWord m (sumAtI pr) 0) (sumAtI pr) (sealSum pr fa ta (putWord m (sumAtI pr) 0))

theorem sumAtI_le (pr : Int) : sumAtI pr ≤ 16 := by unfold sumAtI; split <;> (try split) <;> decide

/-! Blocks of a world, by what was done to it. -/
theorem hget_alloc (w : World) (o : Obj) (k : Nat) : (w.alloc o).heap[k]? = if k = w.heap.size then some o else w.heap[k]? := by
  show (w.heap.push o)[k]? = _
  rw [Array.getElem?_push]
theorem hget_set (w : World) (g j k : Nat) (u : Value) (c : Array Value) (t : TypeId) (h : w.heap[g]? = some (.cells c t (0, 0))) : (w.setCell ⟨g, j, none⟩ u).heap[k]? = if k = g then some (.cells (c.setIfInBounds j u) t (0, 0)) else w.heap[k]? := by
  by_cases e : k = g
  · subst e
    rw [if_pos rfl, setCell_eq_setRow w k j c t (0, 0) u h]; exact setRow_heap w k c _ t (0, 0) h
  · rw [if_neg e, Below.heap_setCell _ _ _ _ e]
theorem blk {W w1 : World} {B : Nat} {o : Obj} (hb : Below W.heap.size W w1) (h : W.heap[B]? = some o) : w1.heap[B]? = some o := by
  rw [hb.block B (lt_of_block h)]; exact h
theorem c6 {w : World} {b : Nat} {v0 v1 v2 v3 v4 v5 : Value} {t : TypeId} (h : w.heap[b]? = some (.cells #[v0, v1, v2, v3, v4, v5] t (0, 0))) :
    (w.cell? ⟨b, 0, none⟩ = some v0 ∧ w.cell? ⟨b, 1, none⟩ = some v1 ∧ w.cell? ⟨b, 2, none⟩ = some v2 ∧ w.cell? ⟨b, 3, none⟩ = some v3 ∧ w.cell? ⟨b, 4, none⟩ = some v4 ∧ w.cell? ⟨b, 5, none⟩ = some v5) ∧ (∀ j, w.frozen? ⟨b, j, none⟩ = false) := by
  constructor
  · simp [World.cell?, h]
  · intro j; simp [World.frozen?, h]

--%def DC(x) #[.int .i64 pr, .int .i64 fa, .int .i64 fp, .int .i64 ta, .int .i64 tp, .string x]
/-- What sealed knows of its memory between two calls. -/
structure SealMid (w w1 : World) (d : Array Value) : Prop where
  dg : w1.heap[w.heap.size]? = some (.cells d 86 (0, 0))
  rs : w1.heap[w.heap.size + 1]? = some (.cells #[.int .i64 0, .int .i64 0, .int .i64 0, .int .i64 0, .int .i64 0, .string ⟨#[]⟩] 86 (0, 0))
  bl : Below w.heap.size w w1
theorem SealMid.call {w w1 w2 : World} {d : Array Value} (h : SealMid w w1 d) (hb : Below w1.heap.size w1 w2) : SealMid w w2 d :=
  ⟨blk hb h.dg, blk hb h.rs, h.bl.trans (hb.mono h.bl.size)⟩
theorem SealMid.start (w : World) (d : Array Value) : SealMid w ((w.alloc (.cells d 86)).alloc (.cells #[.int .i64 0, .int .i64 0, .int .i64 0, .int .i64 0, .int .i64 0, .string ⟨#[]⟩] 86)) d :=
  ⟨by rw [hget_alloc, if_neg (by simp), hget_alloc, if_pos rfl], by rw [hget_alloc, if_pos (by simp)], ((Below.refl _ _).alloc (Nat.le_refl _) _).alloc (by simp) _⟩
theorem SealMid.store {w w1 : World} {d : Array Value} (h : SealMid w w1 d) (j : Nat) (u : Value) : SealMid w (w1.setCell ⟨w.heap.size, j, none⟩ u) (d.setIfInBounds j u) :=
  ⟨by rw [hget_set _ _ _ _ _ _ _ h.dg, if_pos rfl], by rw [hget_set _ _ _ _ _ _ _ h.dg, if_neg (by omega)]; exact h.rs, h.bl.setCell (Nat.le_refl _) _⟩

set_option maxRecDepth 100000 in
set_option maxHeartbeats 2000000 in
theorem sealed_no (pr fa fp ta tp : Int) (m : ByteArray) (w : World) (hs : hasSumB pr m = false) :
    Calls Try.prog 86 #[.agg #[.int .i64 pr, .int .i64 fa, .int .i64 fp, .int .i64 ta, .int .i64 tp, .string m]] w fun e w' => e = .returned (.agg #[.int .i64 pr, .int .i64 fa, .int .i64 fp, .int .i64 ta, .int .i64 tp, .string m]) ∧ Below w.heap.size w w' := by
  have M0 := SealMid.start w #[.int .i64 pr, .int .i64 fa, .int .i64 fp, .int .i64 ta, .int .i64 tp, .string m]
  have HM0 : Hid (SealMid w ((w.alloc (.cells #[.int .i64 pr, .int .i64 fa, .int .i64 fp, .int .i64 ta, .int .i64 tp, .string m] 86)).alloc (.cells #[.int .i64 0, .int .i64 0, .int .i64 0, .int .i64 0, .int .i64 0, .string ⟨#[]⟩] 86)) #[.int .i64 pr, .int .i64 fa, .int .i64 fp, .int .i64 ta, .int .i64 tp, .string m]) := M0
  clear M0
  go_enter Try.func86, Try.ntmps86
  go_wp2_with fail
  refine (hasSum_any pr fa fp ta tp m _).mono ?_; rintro e w1 ⟨rfl, hb1⟩
  have HM1 : Hid (SealMid w w1 #[.int .i64 pr, .int .i64 fa, .int .i64 fp, .int .i64 ta, .int .i64 tp, .string m]) := HM0.out.call hb1
  clear hb1
  obtain ⟨⟨d0, d1, d2, d3, d4, d5⟩, df⟩ := c6 HM1.out.dg
  obtain ⟨⟨r0, r1, r2, r3, r4, r5⟩, rf⟩ := c6 HM1.out.rs
  go_wp2_with fail
  refine bodyPost_ret (v := .agg #[.int .i64 pr, .int .i64 fa, .int .i64 fp, .int .i64 ta, .int .i64 tp, .string m]) (by simp [results, Try.results86, go_sem, r0, r1, r2, r3, r4, r5]) rfl ⟨rfl, ?_⟩
  have := HM1.out.bl
  exact (((((this.setCell (by simp) _).setCell (by simp) _).setCell (by simp) _).setCell (by simp) _).setCell (by simp) _).setCell (by simp) _

set_option maxRecDepth 100000 in
set_option maxHeartbeats 2000000 in
theorem sealed_yes (pr fa fp ta tp : Int) (m : ByteArray) (w : World) (hs : hasSumB pr m = true) (hm : m.size ≤ 1000) (hat : sumAtI pr + 2 ≤ m.size) (hp0 : 0 ≤ pr) (hp1 : pr ≤ 255) (hf0 : 0 ≤ fa) (hf1 : fa ≤ 4294967295) (ht0 : 0 ≤ ta) (ht1 : ta ≤ 4294967295) :
    Calls Try.prog 86 #[.agg #[.int .i64 pr, .int .i64 fa, .int .i64 fp, .int .i64 ta, .int .i64 tp, .string m]] w fun e w' => e = .returned (.agg #[.int .i64 pr, .int .i64 fa, .int .i64 fp, .int .i64 ta, .int .i64 tp, .string (sealM pr fa ta m)]) ∧ Below w.heap.size w w' := by
  obtain ⟨z, ez⟩ : ∃ z, z = putWord m (sumAtI pr) 0 := ⟨_, rfl⟩
  have zz : z.size = m.size := by rw [ez, size_put _ _ _ hat]
  have HP1 : Hid (∀ w, Calls Try.prog 65 #[.string m, .int .i64 (sumAtI pr : Int), .int .i64 0] w fun e w' => e = .returned (.string z) ∧ Below w.heap.size w w') := fun w => by rw [ez]; exact PutWord_any m (sumAtI pr) 0 w (by omega) hat
  have HP2 : Hid (∀ w, Calls Try.prog 65 #[.string z, .int .i64 (sumAtI pr : Int), .int .i64 (sealSum pr fa ta z)] w fun e w' => e = .returned (.string (sealM pr fa ta m)) ∧ Below w.heap.size w w') := fun w => by
    have e : sealM pr fa ta m = putWord z (sumAtI pr) (sealSum pr fa ta z) := by unfold sealM; rw [hs, ← ez]; rfl
    rw [e]; exact PutWord_any z (sumAtI pr) _ w (by omega) (by omega)
  have HSU : Hid (∀ w, Calls Try.prog 69 #[.agg #[.int .i64 pr, .int .i64 fa, .int .i64 fp, .int .i64 ta, .int .i64 tp, .string z]] w fun e w' => e = .returned (.int .i64 (dSum pr fa ta z)) ∧ Below w.heap.size w w') := fun w => dsum_any pr fa fp ta tp z w (by omega) hp0 hp1 hf0 hf1 ht0 ht1
  have hd := dSum_bd pr fa ta z
  have HM0 : Hid (SealMid w ((w.alloc (.cells #[.int .i64 pr, .int .i64 fa, .int .i64 fp, .int .i64 ta, .int .i64 tp, .string m] 86)).alloc (.cells #[.int .i64 0, .int .i64 0, .int .i64 0, .int .i64 0, .int .i64 0, .string ⟨#[]⟩] 86)) #[.int .i64 pr, .int .i64 fa, .int .i64 fp, .int .i64 ta, .int .i64 tp, .string m]) := SealMid.start w #[.int .i64 pr, .int .i64 fa, .int .i64 fp, .int .i64 ta, .int .i64 tp, .string m]
  clear ez hat zz
  have HS0 : Hid (sealSum pr fa ta z = if 65535 - dSum pr fa ta z = 0 ∧ pr = 17 then 65535 else 65535 - dSum pr fa ta z) := rfl
  have HSE : Hid (∀ c1 c2, (65535 - dSum pr fa ta z == 0) = c1 → (pr == 17) = c2 → sealSum pr fa ta z = if c1 && c2 then 65535 else 65535 - dSum pr fa ta z) := by
    intro c1 c2 h1 h2
    rw [HS0.out, ← h1, ← h2]
    by_cases a1 : 65535 - dSum pr fa ta z = 0 <;> by_cases a2 : pr = 17 <;> simp [a1, a2]
  clear HS0
  cases k1 : (65535 - dSum pr fa ta z == 0) <;> cases k2 : (pr == 17)
  all_goals
    have HST := HSE.out _ _ k1 k2
    simp only [Bool.and_true, Bool.and_false, Bool.false_eq_true, if_false, if_true] at HST
    have HP3 := HP2.out
    rw [HST] at HP3
    have HP4 : Hid (_) := HP3
    clear HP3 HST
    go_enter Try.func86, Try.ntmps86
    go_wp2_with fail
    refine (hasSum_any pr fa fp ta tp m _).mono ?_; rintro e w1 ⟨rfl, hb1⟩
    have HM1 : Hid (SealMid w w1 #[.int .i64 pr, .int .i64 fa, .int .i64 fp, .int .i64 ta, .int .i64 tp, .string m]) := HM0.out.call hb1
    clear hb1
    obtain ⟨⟨d0, d1, d2, d3, d4, d5⟩, df⟩ := c6 HM1.out.dg
    go_wp2_with fail
    refine (sumAt_any pr fa fp ta tp m _).mono ?_; rintro e w2 ⟨rfl, hb2⟩
    have HM2 : Hid (SealMid w w2 #[.int .i64 pr, .int .i64 fa, .int .i64 fp, .int .i64 ta, .int .i64 tp, .string m]) := HM1.out.call hb2
    clear hb2 d0 d1 d2 d3 d4 d5 df
    obtain ⟨⟨d0, d1, d2, d3, d4, d5⟩, df⟩ := c6 HM2.out.dg
    go_wp2_with fail
    refine (HP1.out _).mono ?_; rintro e w3 ⟨rfl, hb3⟩
    have HM3 : Hid (SealMid w w3 #[.int .i64 pr, .int .i64 fa, .int .i64 fp, .int .i64 ta, .int .i64 tp, .string m]) := HM2.out.call hb3
    clear hb3 d0 d1 d2 d3 d4 d5 df
    obtain ⟨⟨d0, d1, d2, d3, d4, d5⟩, df⟩ := c6 HM3.out.dg
    go_wp2_with fail
    refine (HSU.out _).mono ?_; rintro e w4 ⟨rfl, hb4⟩
    have HM4 : Hid (SealMid w w4 #[.int .i64 pr, .int .i64 fa, .int .i64 fp, .int .i64 ta, .int .i64 tp, .string z]) := (HM3.out.store 5 (.string z)).call hb4
    clear hb4 d0 d1 d2 d3 d4 d5 df
    obtain ⟨⟨d0, d1, d2, d3, d4, d5⟩, df⟩ := c6 HM4.out.dg
    go_wp2_with fail
    refine (HP4.out _).mono ?_; rintro e w5 ⟨rfl, hb5⟩
    have HM5 : Hid (SealMid w w5 #[.int .i64 pr, .int .i64 fa, .int .i64 fp, .int .i64 ta, .int .i64 tp, .string z]) := HM4.out.call hb5
    clear hb5 d0 d1 d2 d3 d4 d5 df
    obtain ⟨⟨d0, d1, d2, d3, d4, d5⟩, df⟩ := c6 HM5.out.dg
    obtain ⟨⟨r0, r1, r2, r3, r4, r5⟩, rf⟩ := c6 HM5.out.rs
    go_wp2_with fail
    refine bodyPost_ret (v := .agg #[.int .i64 pr, .int .i64 fa, .int .i64 fp, .int .i64 ta, .int .i64 tp, .string (sealM pr fa ta m)]) (by simp [results, Try.results86, go_sem, r0, r1, r2, r3, r4, r5]) rfl ⟨rfl, ?_⟩
    have := HM5.out.bl
    exact ((((((this.setCell (by simp) _).setCell (by simp) _).setCell (by simp) _).setCell (by simp) _).setCell (by simp) _).setCell (by simp) _).setCell (by simp) _
end Go.Proofs.Ytoockkfbocmliaa
