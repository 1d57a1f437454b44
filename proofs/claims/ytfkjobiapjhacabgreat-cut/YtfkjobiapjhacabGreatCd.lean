/- Cut: mixed. Own work. -/
import Derived.Test.YtfkjobiapjhacabGreatCc
namespace Go.Proofs.YtfkjobiapjhacabGreat
open Go.RowKit
attribute [local go_sem ↓] Go.wp_at_zero Go.wp_at_succ

theorem tdiv_bd (c m : Int) (h0 : -9223372036854775808 ≤ c) (h1 : c ≤ 9223372036854775807) (hm : 1 ≤ m) : -9223372036854775808 ≤ c.tdiv m ∧ c.tdiv m ≤ 9223372036854775807 := by
  rcases Int.le_total 0 c with h | h
  · rw [Int.tdiv_eq_ediv_of_nonneg h]
    have a := Int.ediv_le_self m h
    have b := Int.ediv_nonneg h (show 0 ≤ m by omega)
    omega
  · have e : c.tdiv m = -((-c).tdiv m) := by rw [Int.neg_tdiv]; omega
    have hc : 0 ≤ -c := by omega
    rw [e, Int.tdiv_eq_ediv_of_nonneg hc]
    have a := Int.ediv_le_self m hc
    have b := Int.ediv_nonneg hc (show 0 ≤ m by omega)
    omega
/-- Packets in a block, one behind the other. -/
def RowIs (cur : Array Value) (l : List PK) : Prop := ∀ (i : Nat) (h : i < l.length) (j : Nat), j < 8 → cur[i * 8 + j]? = (pkC l[i])[j]?
def put8 (c : Array Value) (o : Nat) (x : PK) : Array Value :=
  (((((((c.setIfInBounds o (.int .i64 x.id)).setIfInBounds (o + 1) (.int .i64 x.fl)).setIfInBounds (o + 2) (.int .i64 x.off)).setIfInBounds (o + 3) (.int .i64 x.ttl)).setIfInBounds (o + 4) (.int .i64 x.pr)).setIfInBounds (o + 5) (.int .i64 x.src)).setIfInBounds (o + 6) (.int .i64 x.dst)).setIfInBounds (o + 7) (.string x.body)
theorem put8_size (c : Array Value) (o : Nat) (x : PK) : (put8 c o x).size = c.size := by simp [put8]
theorem put8_out (c : Array Value) (o : Nat) (x : PK) (k : Nat) (h : k < o ∨ o + 8 ≤ k) : (put8 c o x)[k]? = c[k]? := by
  unfold put8
  repeat rw [Array.getElem?_setIfInBounds_ne (by omega)]
theorem put8_in (c : Array Value) (o : Nat) (x : PK) (j : Nat) (hj : j < 8) (h : o + 8 ≤ c.size) : (put8 c o x)[o + j]? = (pkC x)[j]? := by
  have hs : ∀ (d : Array Value) (i : Nat) (v : Value), i < d.size → (d.setIfInBounds i v)[i]? = some v := fun d i v hi => by simp [hi]
  have hz := put8_size c o x
  match j, hj with
  | 0, _ =>
    unfold put8 pkC
    repeat rw [Array.getElem?_setIfInBounds_ne (by omega)]
    exact hs _ _ _ (by omega)
  | 1, _ =>
    unfold put8 pkC
    repeat rw [Array.getElem?_setIfInBounds_ne (by omega)]
    exact hs _ _ _ (by simp; omega)
  | 2, _ =>
    unfold put8 pkC
    repeat rw [Array.getElem?_setIfInBounds_ne (by omega)]
    exact hs _ _ _ (by simp; omega)
  | 3, _ =>
    unfold put8 pkC
    repeat rw [Array.getElem?_setIfInBounds_ne (by omega)]
    exact hs _ _ _ (by simp; omega)
  | 4, _ =>
    unfold put8 pkC
    repeat rw [Array.getElem?_setIfInBounds_ne (by omega)]
    exact hs _ _ _ (by simp; omega)
  | 5, _ =>
    unfold put8 pkC
    repeat rw [Array.getElem?_setIfInBounds_ne (by omega)]
    exact hs _ _ _ (by simp; omega)
  | 6, _ =>
    unfold put8 pkC
    repeat rw [Array.getElem?_setIfInBounds_ne (by omega)]
    exact hs _ _ _ (by simp; omega)
  | 7, _ =>
    unfold put8 pkC
    exact hs _ _ _ (by simp; omega)
theorem RowIs.big {cur : Array Value} {l : List PK} (h : RowIs cur l) {i : Nat} (hi : i < l.length) : i * 8 + 8 ≤ cur.size := by
  have h1 := h i hi 7 (by decide)
  have e : (pkC l[i])[7]? = some (.string l[i].body) := rfl
  rw [e] at h1
  obtain ⟨h2, -⟩ := Array.getElem?_eq_some_iff.1 h1
  omega
theorem RowIs.set {cur : Array Value} {l : List PK} (h : RowIs cur l) {i : Nat} (hi : i < l.length) (x : PK) : RowIs (put8 cur (i * 8) x) (l.set i x) := by
  intro a ha j hj
  have ha' : a < l.length := by simpa using ha
  by_cases e : i = a
  · subst e
    rw [put8_in _ _ _ _ hj (h.big hi), List.getElem_set_self]
  · rw [put8_out _ _ _ _ (by omega), List.getElem_set_ne e, h a ha' j hj]
theorem LMid.put8' {w W : World} {p0 : Nat × Array Value × TypeId} {post : List (Nat × Array Value × TypeId)} {k : Nat} {c : Array Value} {t : TypeId} (h : LMid w W (p0 :: (k, c, t) :: post)) (o : Nat) (x : PK) :
    LMid w ((((((((W.setCell ⟨k, o, none⟩ (.int .i64 x.id)).setCell ⟨k, o + 1, none⟩ (.int .i64 x.fl)).setCell ⟨k, o + 2, none⟩ (.int .i64 x.off)).setCell ⟨k, o + 3, none⟩ (.int .i64 x.ttl)).setCell ⟨k, o + 4, none⟩ (.int .i64 x.pr)).setCell ⟨k, o + 5, none⟩ (.int .i64 x.src)).setCell ⟨k, o + 6, none⟩ (.int .i64 x.dst)).setCell ⟨k, o + 7, none⟩ (.string x.body)) (p0 :: (k, Go.Proofs.YtfkjobiapjhacabGreat.put8 c o x, t) :: post) :=
  (((((((h.set1 o _).set1 (o + 1) _).set1 (o + 2) _).set1 (o + 3) _).set1 (o + 4) _).set1 (o + 5) _).set1 (o + 6) _).set1 (o + 7) _
theorem RowIs.get {cur : Array Value} {l : List PK} (h : RowIs cur l) {W : World} {g : Nat} (hb : W.heap[g]? = some (.cells cur 37 (0, 0))) (i : Nat) (hi : i < l.length) :
    (W.cell? ⟨g, i * 8, none⟩ = some (.int .i64 l[i].id) ∧ W.cell? ⟨g, i * 8 + 1, none⟩ = some (.int .i64 l[i].fl) ∧ W.cell? ⟨g, i * 8 + 2, none⟩ = some (.int .i64 l[i].off) ∧ W.cell? ⟨g, i * 8 + 3, none⟩ = some (.int .i64 l[i].ttl) ∧ W.cell? ⟨g, i * 8 + 4, none⟩ = some (.int .i64 l[i].pr) ∧ W.cell? ⟨g, i * 8 + 5, none⟩ = some (.int .i64 l[i].src) ∧ W.cell? ⟨g, i * 8 + 6, none⟩ = some (.int .i64 l[i].dst) ∧ W.cell? ⟨g, i * 8 + 7, none⟩ = some (.string l[i].body)) ∧ ∀ j, W.frozen? ⟨g, j, none⟩ = false := by
  have hc : ∀ j, W.cell? ⟨g, j, none⟩ = cur[j]? := fun j => by simp [World.cell?, hb]
  refine ⟨⟨?_, ?_, ?_, ?_, ?_, ?_, ?_, ?_⟩, fun j => by simp [World.frozen?, hb]⟩
  · rw [hc]; exact h i hi 0 (by decide)
  · rw [hc]; exact h i hi 1 (by decide)
  · rw [hc]; exact h i hi 2 (by decide)
  · rw [hc]; exact h i hi 3 (by decide)
  · rw [hc]; exact h i hi 4 (by decide)
  · rw [hc]; exact h i hi 5 (by decide)
  · rw [hc]; exact h i hi 6 (by decide)
  · rw [hc]; exact h i hi 7 (by decide)
theorem pkC_one (l : List PK) : ∀ u ∈ l.flatMap pkC, u.oneCell' = true := by
  intro u hu
  obtain ⟨p, _, hp⟩ := List.mem_flatMap.1 hu
  simp [pkC] at hp
  rcases hp with rfl | rfl | rfl | rfl | rfl | rfl | rfl | rfl <;> rfl
theorem flat_len (l : List PK) : (l.flatMap pkC).length = l.length * 8 := by
  induction l with
  | nil => rfl
  | cons a t ih => rw [List.flatMap_cons, List.length_append, ih, pkC_len, List.length_cons]; omega
theorem PksAt.news {W : World} {g cap : Nat} {l : List PK} (h : PksAt W (.slice (some ⟨g, 0, none⟩) l.length cap) l) (hne : l ≠ []) : ∀ j u, (l.flatMap pkC)[j]? = some u → W.cell? ((⟨g, 0, none⟩ : Addr).add j) = some u := by
  intro j u hu
  obtain ⟨g', cap', e, _, hc⟩ := LsAt.get h hne
  simp at e
  obtain ⟨rfl, -⟩ := e
  have hj : j < l.length * 8 := by
    have := (List.getElem?_eq_some_iff.1 hu).1
    rw [flat_len] at this
    exact this
  have e1 : j / 8 * 8 + j % 8 = j := by omega
  have h1 := fcells_at (n := 8) pkC_len l (j / 8) (j % 8) (by omega) (by omega)
  rw [e1, hu] at h1
  have h2 := hc (j / 8) (by omega) (j % 8) (by omega)
  rw [e1, ← h1] at h2
  have hadd : (⟨g, 0, none⟩ : Addr).add j = ⟨g, j, none⟩ := by unfold Addr.add; split <;> simp_all
  rw [hadd]
  exact h2
set_option maxRecDepth 100000 in
set_option maxHeartbeats 1000000 in
theorem mixed_any (v : Value) (l : List PK) (c : Int) (w : World) (hl : PksAt w v l) (hne : l ≠ []) (h100 : l.length ≤ 100) (hc0 : -9223372036854775808 ≤ c) (hc1 : c ≤ 9223372036854775807) :
    Calls Tryz.prog 31 #[v, .int .i64 c] w fun e w' => ∃ v' l', e = .returned v' ∧ PksAt w' v' l' ∧ List.Perm l' l ∧ Below w.heap.size w w' := by
  obtain ⟨g, cap, rfl, hg, -⟩ := LsAt.get hl hne
  have HNW : Hid (∀ j u, (l.flatMap pkC)[j]? = some u → w.cell? ((⟨g, 0, none⟩ : Addr).add j) = some u) := PksAt.news hl hne
  have HON : Hid (∀ u ∈ l.flatMap pkC, u.oneCell' = true) := pkC_one l
  obtain ⟨n, hn⟩ : ∃ n, n = l.length := ⟨_, rfl⟩
  have HFL : Hid ((l.flatMap pkC).length = n * 8) := by rw [hn]; exact flat_len l
  have HN : Hid (n = l.length) := hn
  rw [← hn] at h100 ⊢
  have hn0 : 0 < n := by
    rw [hn]
    exact List.length_pos_iff.2 hne
  clear hl hne hn
  obtain ⟨i0, hi0, hz0, hz1, hz2⟩ := info_parts info_pk
  have hnI : (0 : Int) < (n : Int) := by omega
  have hnI2 : (n : Int) ≤ 100 := by omega
  go_enter Tryz.func31, Tryz.ntmps31
  go_wp2_with (at_builtin; refine wpList_append_lies _ rfl (.tmp 9) (.tmp 10) 54 rfl w.heap.size 37 i0 _ 8 72 Tryz.underlying54 hi0 hz0 hz1 hz2 rfl (by decide) (.slice none 0 0) 0 [] rfl (World.ownsRow_nil _ _ _ _) ⟨g, 0, none⟩ n cap (l.flatMap pkC) rfl HFL.out HNW.out HON.out hn0 (by unfold maxLen; omega) (by omega) (Nat.le_refl _) w.heap.size rfl ?_; intro g4 cap4 w4 hown hgrow hat hlt4)
  obtain ⟨cur0, hrow0, hM0⟩ : ∃ cur, RowIs cur l ∧ LMid w w4 [(g4, cur, 37)] := by
    have hbl : Below w.heap.size w w4 := (Below.refl _ _).grown hgrow (Nat.le_refl _) (fun k e => by simp [Value.ownBlock] at e)
    obtain ⟨o1, o2⟩ := hown
    rcases o2 with ⟨e, _⟩ | ⟨g', cap', cur, e, hge, hb, _, _, _, ht⟩
    · simp at e
    · simp at e
      obtain ⟨rfl, -⟩ := e
      refine ⟨cur, fun i hi j hj => ?_, ⟨hbl, fun p hp => ?_, by simp⟩⟩
      · have hnl := HN.out
        rw [← fcells_at pkC_len l i j hi hj]
        simp only [List.nil_append] at ht
        rw [← ht, List.getElem?_take_of_lt (by omega)]
        simp
      · simp at hp
        subst hp
        exact ⟨hb, hge⟩
  have HM0 : Hid (RowIs cur0 l ∧ LMid w w4 [(g4, cur0, 37)]) := ⟨hrow0, hM0⟩
  clear hown hgrow hat hlt4 hrow0 hM0 HNW HON HFL
  go_loopw [6] (fun i wr => ∃ (k : Nat) (l' : List PK) (cur : Array Value), k < n ∧ i = .int .i64 (k : Int) ∧ List.Perm l' l ∧ RowIs cur l' ∧ LMid w wr [(g4, cur, 37)]) (fun i _ => (intOf i).toNat)
  case atStart => exact ⟨n - 1, l, cur0, by omega, by first | go_num | (congr 1; omega), List.Perm.refl _, HM0.out.1, HM0.out.2⟩
  case round =>
    obtain ⟨k, l', cur, hk, rfl, hp, hrow, hM1⟩ := hrel
    have hl' : l'.length = n := by rw [hp.length_eq]; exact HN.out.symm
    by_cases hk0 : 0 < k
    · have hkI : (0 : Int) < (k : Int) := by omega
      have hkN : (k : Int) < (n : Int) := by omega
      have htb := tdiv_bd c ((k : Int) + 1) hc0 hc1 (by omega)
      have hpb := pickI_bd (c.tdiv ((k : Int) + 1)) ((k : Int) + 1) (by omega)
      have HPK : Hid (∀ w, Calls Tryz.prog 12 #[.int .i64 (c.tdiv ((k : Int) + 1)), .int .i64 ((k : Int) + 1)] w fun e w' => e = .returned (.int .i64 (pickI (c.tdiv ((k : Int) + 1)) ((k : Int) + 1))) ∧ w' = w) := fun w => pick_any _ _ w htb.1 htb.2 (by omega) (by omega)
      obtain ⟨j, hj⟩ : ∃ j : Nat, pickI (c.tdiv ((k : Int) + 1)) ((k : Int) + 1) = (j : Int) := ⟨(pickI (c.tdiv ((k : Int) + 1)) ((k : Int) + 1)).toNat, by omega⟩
      rw [hj] at HPK hpb
      have hjn : j < n := by omega
      have hjI : (0 : Int) ≤ (j : Int) := by omega
      have hjN : (j : Int) < (n : Int) := by omega
      have HW : Hid (k < l'.length ∧ j < l'.length) := ⟨by omega, by omega⟩
      have HR : Hid (List.Perm l' l ∧ RowIs cur l' ∧ LMid w wr [(g4, cur, 37)]) := ⟨hp, hrow, hM1⟩
      clear hj hpb htb hp hrow hM1 hl'
      go_wp2_with fail
      refine (HPK.out _).mono ?_
      rintro e w' ⟨rfl, rfl⟩
      obtain ⟨wa, hwa⟩ : ∃ wa, wa = w' := ⟨_, rfl⟩
      subst hwa
      clear HPK
      obtain ⟨⟨x0, x1, x2, x3, x4, x5, x6, x7⟩, xf⟩ := HR.out.2.1.get HR.out.2.2.at0 k HW.out.1
      obtain ⟨X, hX⟩ : ∃ X, X = l'[k]'HW.out.1 := ⟨_, rfl⟩
      rw [← hX] at x0 x1 x2 x3 x4 x5 x6 x7
      obtain ⟨Y, hY⟩ : ∃ Y, Y = l'[j]'HW.out.2 := ⟨_, rfl⟩
      have HS : Hid (List.Perm ((l'.set k Y).set j X) l ∧ RowIs (put8 (put8 cur (k * 8) Y) (j * 8) X) ((l'.set k Y).set j X)) := by
        refine ⟨?_, (HR.out.2.1.set HW.out.1 Y).set (by simpa using HW.out.2) X⟩
        rw [hX, hY]
        exact (List.set_set_perm HW.out.1 HW.out.2).trans HR.out.1
      have HY : Hid (Y = l'[j]'HW.out.2) := hY
      clear hX hY
      go_upto_region 7 with fail
      go_cut [8] (fun s8 wx => ∃ kx, s8 = .pointer (some ⟨kx, 0, none⟩) ∧ LMid w wx [(kx, #[.int .i64 X.id, .int .i64 X.fl, .int .i64 X.off, .int .i64 X.ttl, .int .i64 X.pr, .int .i64 X.src, .int .i64 X.dst, .string X.body], 37), (g4, cur, 37)])
      case first =>
        go_wp2_with fail
        go_meet
        exact ⟨_, rfl, HR.out.2.2.alloc' _ _ _ rfl⟩
      case rest =>
      obtain ⟨kx, rfl, hL1⟩ := hcut
      clear x0 x1 x2 x3 x4 x5 x6 x7 xf
      obtain ⟨⟨y0, y1, y2, y3, y4, y5, y6, y7⟩, yf⟩ := HR.out.2.1.get hL1.at1 j HW.out.2
      rw [← HY.out] at y0 y1 y2 y3 y4 y5 y6 y7
      obtain ⟨⟨z0, z1, z2, z3, z4, z5, z6, z7⟩, -⟩ := HR.out.2.1.get hL1.at1 k HW.out.1
      have hL : Hid _ := hL1
      clear hL1 HY
      go_upto_region 8 with fail
      go_cut [] (fun wx => LMid w wx [(kx, #[.int .i64 X.id, .int .i64 X.fl, .int .i64 X.off, .int .i64 X.ttl, .int .i64 X.pr, .int .i64 X.src, .int .i64 X.dst, .string X.body], 37), (g4, put8 cur (k * 8) Y, 37)])
      case first =>
        go_wp2_with fail
        go_meet
        exact hL.out.put8' (k * 8) Y
      case rest =>
      have hL1 := hcut
      clear hL hcut y0 y1 y2 y3 y4 y5 y6 y7 yf z0 z1 z2 z3 z4 z5 z6 z7
      obtain ⟨⟨x0, x1, x2, x3, x4, x5, x6, x7⟩, xf⟩ := c8 hL1.at0
      have yf : ∀ j, wc.frozen? ⟨g4, j, none⟩ = false := fun j => by simp [World.frozen?, hL1.at1]
      have ysz := ((HR.out.2.1.set HW.out.1 Y).get hL1.at1 j (by simpa using HW.out.2)).1
      obtain ⟨y0, y1, y2, y3, y4, y5, y6, y7⟩ := ysz
      have hL : Hid _ := hL1
      clear hL1
      go_wp2_with fail
      go_roundw
      case rel =>
        exact ⟨k - 1, _, _, by omega, by first | go_num | (congr 1; omega), HS.out.1, HS.out.2, (hL.out.put8' (j * 8) X).tail⟩
      case measure => simp [intOf]; omega
    · have hkI : ¬ (0 : Int) < (k : Int) := by omega
      have HO : Hid (PksAt wr (.slice (some ⟨g4, 0, none⟩) n cap4) l') := ⟨some ⟨g4, 0, none⟩, cap4, by rw [hl'], fun _ => ⟨g4, cur, rfl, hM1.at0, fun i hi j hj => hrow i hi j hj⟩⟩
      have HB : Hid (List.Perm l' l ∧ Below w.heap.size w wr) := ⟨hp, hM1.bl⟩
      clear hp hrow hM1 hl'
      go_wp2_with fail
      go_ret
      first | exact ⟨_, rfl, l', HO.out, HB.out.1, HB.out.2⟩ | exact ⟨_, l', rfl, HO.out, HB.out.1, HB.out.2⟩
end Go.Proofs.YtfkjobiapjhacabGreat
