/- Turned: the walk. Own work. -/
import Derived.Test.YtfkjobiapjhacaaGreatKpM
namespace Go.Proofs.YtfkjobiapjhacaaGreat
open Go.RowKit
attribute [local go_sem ↓] Go.wp_at_zero Go.wp_at_succ

/-- Two inner ends. -/
structure TR (h p g q : Int) : Prop where
  h0 : 167772161 ≤ h
  h1 : h ≤ 167772400
  p0 : 1 ≤ p
  p1 : p ≤ 65535
  g0 : 167772161 ≤ g
  g1 : g ≤ 167772400
  q0 : 1 ≤ q
  q1 : q ≤ 65535
  ne : ¬ (h = g ∧ p = q)
theorem kok {h p g q : Int} (r : TR h p g q) : KOK [((17, h, p, 134744064, 9, 5000) : KY)] ∧ KOK [((17, g, q, 134744064, 9, 5001) : KY), (17, h, p, 134744064, 9, 5000)] ∧ KOK [((17, h, p, 3405803781, 5001, 5000) : KY), (17, g, q, 134744064, 9, 5001), (17, h, p, 134744064, 9, 5000)] ∧ KOK [((17, g, q, 3405803781, 5000, 5001) : KY), (17, h, p, 3405803781, 5001, 5000), (17, g, q, 134744064, 9, 5001), (17, h, p, 134744064, 9, 5000)] := by
  obtain ⟨h0, h1, p0, p1, g0, g1, q0, q1, ne⟩ := r
  refine ⟨⟨by simp, ?_⟩, ⟨by simp, ?_⟩, ⟨by simp, ?_⟩, ⟨by simp, ?_⟩⟩
  all_goals
    rintro ⟨k1, k2, k3, k4, k5, k6⟩ hm
    simp only [List.mem_cons, List.not_mem_nil, Prod.mk.injEq, or_false] at hm
    constructor
    · show 0 ≤ k2; omega
    · show k2 ≤ 4294967295; omega
theorem askP_old (s : BX) (ks : List KY) (hk : Ks s.l ks) (a b P fa fp : Int) (hm : (17, a, b, fa, fp, P) ∈ ks) (hu : ∀ fa fp P', (17, a, b, fa, fp, P') ∈ ks → P' = P) (hP : ¬ P = 0) : askP s 17 a b = P := by
  unfold askP
  rw [hk.outer hm hu, if_neg hP]
theorem ur {a p c d : Int} {data : ByteArray} (h0 : 0 ≤ a) (h1 : a ≤ 4294967295) (p0 : 1 ≤ p) (p1 : p ≤ 65535) (c0 : 0 ≤ c) (c1 : c ≤ 4294967295) (d0 : 1 ≤ d) (d1 : d ≤ 65535) (hz : data.size ≤ 120) : URange a p c d data := ⟨h0, h1, c0, c1, p0, p1, d0, d1, hz⟩
theorem s2 (b : Nat) (cs : List Int) (l : List SD) {h p g q : Int} (r : TR h p g q) (hk : Ks l [((17, h, p, 134744064, 9, 5000) : KY)]) :
    ∃ l', Ks l' [((17, g, q, 134744064, 9, 5001) : KY), (17, h, p, 134744064, 9, 5000)] ∧ OneOK b (stN 4 0 cs l) 0 (udpP g q 134744064 9 ⟨#[120]⟩) 1 ⟨7, 0, 0, 8, 17, 3405803781, 134744064, udpB 3405803781 5001 134744064 9 ⟨#[120]⟩⟩ (stN 4 0 (bump cs 0) l') := by
  have ho := (kok r).1
  obtain ⟨h0, h1, p0, p1, g0, g1, q0, q1, ne⟩ := r
  have hP : askP (stN 4 0 cs l) 17 g q = 5001 := by
    have e0 : outerI 17 g q (stN 4 0 cs l).l = 0 := hk.outer0 (by intro fa fp P hm; simp only [List.mem_cons, List.not_mem_nil, Prod.mk.injEq, or_false] at hm; omega)
    unfold askP
    rw [e0, if_pos rfl]
    show freeI 17 l 5000 4 = 5001
    unfold freeI
    rw [(hk.inner (pr := 17) (ia := h) (ip := p) (fa := 134744064) (fp := 9) (tp := 5000) (by simp) (by intro ia ip fa fp hm; simp only [List.mem_cons, List.not_mem_nil, Prod.mk.injEq, or_false] at hm; omega)).2]
    simp only [Bool.false_eq_true, if_false]
    unfold freeI
    rw [(hk.inner0 (pr := 17) (tp := 5000 + 1) (by intro ia ip fa fp hm; simp only [List.mem_cons, List.not_mem_nil, Prod.mk.injEq, or_false] at hm; omega)).2]
    rfl
  exact t_new b 4 cs l [((17, h, p, 134744064, 9, 5000) : KY)] (by decide) (by decide) hk ho g q 134744064 9 5001 ⟨#[120]⟩ (ur (by omega) (by omega) q0 q1 (by decide) (by decide) (by decide) (by decide) (by decide)) (by omega) (by omega) (by decide) (by decide)
    (by intro P hm; simp only [List.mem_cons, List.not_mem_nil, Prod.mk.injEq, or_false] at hm; omega) (by simp) hP (by decide) (by intro fa fp P' hm; simp only [List.mem_cons, List.not_mem_nil, Prod.mk.injEq, or_false] at hm; omega)
theorem s3 (b : Nat) (cs : List Int) (l : List SD) {h p g q : Int} (r : TR h p g q) (hk : Ks l [((17, g, q, 134744064, 9, 5001) : KY), (17, h, p, 134744064, 9, 5000)]) :
    ∃ l', Ks l' [((17, h, p, 3405803781, 5001, 5000) : KY), (17, g, q, 134744064, 9, 5001), (17, h, p, 134744064, 9, 5000)] ∧ NoneOK b (stN 4 0 cs l) 0 (udpP h p 3405803781 5001 ⟨#[120]⟩) 17 (stN 4 0 (bump cs 17) l') := by
  have ho := (kok r).2.1
  obtain ⟨h0, h1, p0, p1, g0, g1, q0, q1, ne⟩ := r
  have hP := askP_old (stN 4 0 cs l) [((17, g, q, 134744064, 9, 5001) : KY), (17, h, p, 134744064, 9, 5000)] hk h p 5000 134744064 9 (by simp) (by intro fa fp P' hm; simp only [List.mem_cons, List.not_mem_nil, Prod.mk.injEq, or_false] at hm; omega) (by decide)
  obtain ⟨hW, hL⟩ := ask_new (stN 4 0 cs l) [((17, g, q, 134744064, 9, 5001) : KY), (17, h, p, 134744064, 9, 5000)] hk h p 3405803781 5001 5000 (byteAt (udpB h p 3405803781 5001 ⟨#[120]⟩) 13) (by intro P hm; simp only [List.mem_cons, List.not_mem_nil, Prod.mk.injEq, or_false] at hm; omega) (by simp) hP (by decide)
  exact t_filt b 4 cs l [((17, g, q, 134744064, 9, 5001) : KY), (17, h, p, 134744064, 9, 5000)] [((17, h, p, 3405803781, 5001, 5000) : KY), (17, g, q, 134744064, 9, 5001), (17, h, p, 134744064, 9, 5000)] (by decide) (by decide) hk ho h p 5001 5000 g q ⟨#[120]⟩ (ur (by omega) (by omega) p0 p1 (by decide) (by decide) (by decide) (by decide) (by decide)) (by omega) (by omega)
    (hk.inner (pr := 17) (ia := g) (ip := q) (fa := 134744064) (fp := 9) (tp := 5001) (by simp) (by intro ia ip fa fp hm; simp only [List.mem_cons, List.not_mem_nil, Prod.mk.injEq, or_false] at hm; omega)).1 hW hL (by simp) (by intro fa fp P' hm; simp only [List.mem_cons, List.not_mem_nil, Prod.mk.injEq, or_false] at hm; omega) (by intro P' hm; simp only [List.mem_cons, List.not_mem_nil, Prod.mk.injEq, or_false] at hm; omega)
theorem s4 (b : Nat) (cs : List Int) (l : List SD) {h p g q : Int} (r : TR h p g q) (hk : Ks l [((17, h, p, 3405803781, 5001, 5000) : KY), (17, g, q, 134744064, 9, 5001), (17, h, p, 134744064, 9, 5000)]) (data : ByteArray) (hz : data.size ≤ 120) :
    ∃ l', Ks l' [((17, g, q, 3405803781, 5000, 5001) : KY), (17, h, p, 3405803781, 5001, 5000), (17, g, q, 134744064, 9, 5001), (17, h, p, 134744064, 9, 5000)] ∧ OneOK b (stN 4 0 cs l) 0 (udpP g q 3405803781 5000 data) 0 ⟨7, 0, 0, 8, 17, 3405803781, h, udpB 3405803781 5001 h p data⟩ (stN 4 0 (bump cs 0) l') := by
  have ho := (kok r).2.2.1
  obtain ⟨h0, h1, p0, p1, g0, g1, q0, q1, ne⟩ := r
  have hP := askP_old (stN 4 0 cs l) [((17, h, p, 3405803781, 5001, 5000) : KY), (17, g, q, 134744064, 9, 5001), (17, h, p, 134744064, 9, 5000)] hk g q 5001 134744064 9 (by simp) (by intro fa fp P' hm; simp only [List.mem_cons, List.not_mem_nil, Prod.mk.injEq, or_false] at hm; omega) (by decide)
  obtain ⟨hW, hL⟩ := ask_new (stN 4 0 cs l) [((17, h, p, 3405803781, 5001, 5000) : KY), (17, g, q, 134744064, 9, 5001), (17, h, p, 134744064, 9, 5000)] hk g q 3405803781 5000 5001 (byteAt (udpB g q 3405803781 5000 data) 13) (by intro P hm; simp only [List.mem_cons, List.not_mem_nil, Prod.mk.injEq, or_false] at hm; omega) (by simp) hP (by decide)
  exact t_turn b 4 cs l [((17, h, p, 3405803781, 5001, 5000) : KY), (17, g, q, 134744064, 9, 5001), (17, h, p, 134744064, 9, 5000)] [((17, g, q, 3405803781, 5000, 5001) : KY), (17, h, p, 3405803781, 5001, 5000), (17, g, q, 134744064, 9, 5001), (17, h, p, 134744064, 9, 5000)] (by decide) (by decide) hk ho g q 5000 5001 h p data (ur (by omega) (by omega) q0 q1 (by decide) (by decide) (by decide) (by decide) hz) (by omega) (by omega) (by omega) (by omega)
    (hk.inner (pr := 17) (ia := h) (ip := p) (fa := 134744064) (fp := 9) (tp := 5000) (by simp) (by intro ia ip fa fp hm; simp only [List.mem_cons, List.not_mem_nil, Prod.mk.injEq, or_false] at hm; omega)).1 hW hL (by simp) (by intro fa fp P' hm; simp only [List.mem_cons, List.not_mem_nil, Prod.mk.injEq, or_false] at hm; omega) 5000 (by simp)
theorem s5 (b : Nat) (cs : List Int) (l : List SD) {h p g q : Int} (r : TR h p g q) (hk : Ks l [((17, g, q, 3405803781, 5000, 5001) : KY), (17, h, p, 3405803781, 5001, 5000), (17, g, q, 134744064, 9, 5001), (17, h, p, 134744064, 9, 5000)]) (data : ByteArray) (hz : data.size ≤ 120) :
    ∃ l', Ks l' [((17, g, q, 3405803781, 5000, 5001) : KY), (17, h, p, 3405803781, 5001, 5000), (17, g, q, 134744064, 9, 5001), (17, h, p, 134744064, 9, 5000)] ∧ OneOK b (stN 4 0 cs l) 0 (udpP h p 3405803781 5001 data) 0 ⟨7, 0, 0, 8, 17, 3405803781, g, udpB 3405803781 5000 g q data⟩ (stN 4 0 (bump cs 0) l') := by
  have ho := (kok r).2.2.2
  obtain ⟨h0, h1, p0, p1, g0, g1, q0, q1, ne⟩ := r
  obtain ⟨hW, hL⟩ := ask_old (stN 4 0 cs l) [((17, g, q, 3405803781, 5000, 5001) : KY), (17, h, p, 3405803781, 5001, 5000), (17, g, q, 134744064, 9, 5001), (17, h, p, 134744064, 9, 5000)] hk h p 3405803781 5001 5000 (byteAt (udpB h p 3405803781 5001 data) 13) (by simp)
  exact t_turn b 4 cs l [((17, g, q, 3405803781, 5000, 5001) : KY), (17, h, p, 3405803781, 5001, 5000), (17, g, q, 134744064, 9, 5001), (17, h, p, 134744064, 9, 5000)] [((17, g, q, 3405803781, 5000, 5001) : KY), (17, h, p, 3405803781, 5001, 5000), (17, g, q, 134744064, 9, 5001), (17, h, p, 134744064, 9, 5000)] (by decide) (by decide) hk ho h p 5001 5000 g q data (ur (by omega) (by omega) p0 p1 (by decide) (by decide) (by decide) (by decide) hz) (by omega) (by omega) (by omega) (by omega)
    (hk.inner (pr := 17) (ia := g) (ip := q) (fa := 134744064) (fp := 9) (tp := 5001) (by simp) (by intro ia ip fa fp hm; simp only [List.mem_cons, List.not_mem_nil, Prod.mk.injEq, or_false] at hm; omega)).1 hW hL (by simp) (by intro fa fp P' hm; simp only [List.mem_cons, List.not_mem_nil, Prod.mk.injEq, or_false] at hm; omega) 5001 (by simp)
theorem s6 (b : Nat) (cs : List Int) (l : List SD) {h p g q : Int} (r : TR h p g q) (hk : Ks l [((17, g, q, 3405803781, 5000, 5001) : KY), (17, h, p, 3405803781, 5001, 5000), (17, g, q, 134744064, 9, 5001), (17, h, p, 134744064, 9, 5000)]) :
    NoneOK b (stN 4 0 cs l) 0 (udpP h p 3405803781 5002 ⟨#[120]⟩) 16 (stN 4 0 (bump cs 16) l) := by
  have ho := (kok r).2.2.2
  obtain ⟨h0, h1, p0, p1, g0, g1, q0, q1, ne⟩ := r
  exact t_lost b 4 cs l [((17, g, q, 3405803781, 5000, 5001) : KY), (17, h, p, 3405803781, 5001, 5000), (17, g, q, 134744064, 9, 5001), (17, h, p, 134744064, 9, 5000)] (by decide) (by decide) hk ho h p 5002 ⟨#[120]⟩ (ur (by omega) (by omega) p0 p1 (by decide) (by decide) (by decide) (by decide) (by decide)) (by omega) (by omega) (by intro ia ip fa fp hm; simp only [List.mem_cons, List.not_mem_nil, Prod.mk.injEq, or_false] at hm; omega)
end Go.Proofs.YtfkjobiapjhacaaGreat
