/- Contracts of package gatewaykeep: packets. Own work. -/
import Derived.Test.YtfkjobiapjhacabGreatKpA
namespace Go.Proofs.YtfkjobiapjhacabGreat
open Go.RowKit
attribute [local go_sem ↓] Go.wp_at_zero Go.wp_at_succ

/-- A packet of the law's own, as data. -/
structure PK where
  id : Int
  fl : Int
  off : Int
  ttl : Int
  pr : Int
  src : Int
  dst : Int
  body : ByteArray
def PK.val (p : PK) : Value := .agg #[.int .i64 p.id, .int .i64 p.fl, .int .i64 p.off, .int .i64 p.ttl, .int .i64 p.pr, .int .i64 p.src, .int .i64 p.dst, .string p.body]
theorem c8 {w : World} {b : Nat} {v0 v1 v2 v3 v4 v5 v6 v7 : Value} {t : TypeId} (h : w.heap[b]? = some (.cells #[v0, v1, v2, v3, v4, v5, v6, v7] t (0, 0))) :
    (w.cell? ⟨b, 0, none⟩ = some v0 ∧ w.cell? ⟨b, 1, none⟩ = some v1 ∧ w.cell? ⟨b, 2, none⟩ = some v2 ∧ w.cell? ⟨b, 3, none⟩ = some v3 ∧ w.cell? ⟨b, 4, none⟩ = some v4 ∧ w.cell? ⟨b, 5, none⟩ = some v5 ∧ w.cell? ⟨b, 6, none⟩ = some v6 ∧ w.cell? ⟨b, 7, none⟩ = some v7) ∧ ∀ j, w.frozen? ⟨b, j, none⟩ = false :=
  ⟨⟨(cellsN h).1 0, (cellsN h).1 1, (cellsN h).1 2, (cellsN h).1 3, (cellsN h).1 4, (cellsN h).1 5, (cellsN h).1 6, (cellsN h).1 7⟩, (cellsN h).2⟩
/-- A block that stands, and what lay below. -/
structure KMid (w W : World) (b : Nat) (c : Array Value) (t : TypeId) : Prop where
  bk : W.heap[b]? = some (.cells c t (0, 0))
  bl : Below w.heap.size w W
theorem KMid.call {w W W' : World} {b : Nat} {c : Array Value} {t : TypeId} (h : KMid w W b c t) (hb : Below W.heap.size W W') : KMid w W' b c t := ⟨blk hb h.bk, h.bl.trans (hb.mono h.bl.size)⟩
theorem KMid.alloc {w W : World} {b : Nat} {c : Array Value} {t : TypeId} (h : KMid w W b c t) (o : Obj) : KMid w (W.alloc o) b c t := ⟨by rw [hget_alloc, if_neg (by have := lt_of_block h.bk; omega)]; exact h.bk, h.bl.alloc h.bl.size _⟩
theorem KMid.start (w : World) (c : Array Value) (t : TypeId) : KMid w (w.alloc (.cells c t)) w.heap.size c t := ⟨by rw [hget_alloc, if_pos rfl], (Below.refl _ _).alloc (Nat.le_refl _) _⟩

theorem wideB_size (v : Int) (n : Nat) : (wideB v n).size = n := by simp [wideB, ByteArray.size, wbytes_length]
def wideI (v n : Int) : ByteArray := wideB v n.toNat
theorem wideI_size (v n : Int) : (wideI v n).size = n.toNat := wideB_size v n.toNat
theorem wideI_any (v n : Int) (w : World) (h1 : 1 ≤ n) (h2 : n ≤ 4) : Calls Tryz.prog 22 #[.int .i64 v, .int .i64 n] w fun e w' => e = .returned (.string (wideI v n)) ∧ Below w.heap.size w w' := by
  obtain ⟨k, rfl⟩ := Int.eq_ofNat_of_zero_le (show 0 ≤ n by omega)
  exact wide_any v k w (by omega) (by omega)

/-- What TCP and UDP sum besides. -/
def befM (pr src dst n : Int) : ByteArray := wideI src 4 ++ wideI dst 4 ++ wideI pr 2 ++ wideI n 2
theorem befM_size (a b c d : Int) : (befM a b c d).size = 12 := by simp only [befM, ByteArray.size_append, wideI_size]; rfl
set_option maxRecDepth 100000 in
set_option maxHeartbeats 400000 in
theorem kbefore_any (p : PK) (w : World) :
    Calls Tryz.prog 38 #[.agg #[.int .i64 p.id, .int .i64 p.fl, .int .i64 p.off, .int .i64 p.ttl, .int .i64 p.pr, .int .i64 p.src, .int .i64 p.dst, .string p.body]] w fun e w' => e = .returned (.string (befM p.pr p.src p.dst p.body.size)) ∧ Below w.heap.size w w' := by
  have HE : Hid (befM p.pr p.src p.dst p.body.size = wideI p.src 4 ++ wideI p.dst 4 ++ wideI p.pr 2 ++ wideI p.body.size 2) := rfl
  have hM : Hid (KMid w (w.alloc (.cells #[.int .i64 p.id, .int .i64 p.fl, .int .i64 p.off, .int .i64 p.ttl, .int .i64 p.pr, .int .i64 p.src, .int .i64 p.dst, .string p.body] 37)) w.heap.size #[.int .i64 p.id, .int .i64 p.fl, .int .i64 p.off, .int .i64 p.ttl, .int .i64 p.pr, .int .i64 p.src, .int .i64 p.dst, .string p.body] 37) := KMid.start w _ _
  obtain ⟨⟨p0, p1, p2, p3, p4, p5, p6, p7⟩, pf⟩ := c8 hM.out.bk
  have hz2 : ∀ v, (wideI v 2).size = 2 := fun v => wideI_size v 2
  have hz4 : ∀ v, (wideI v 4).size = 4 := fun v => wideI_size v 4
  go_enter Tryz.func38, Tryz.ntmps38
  go_wp2_with (go_at_call 22; refine (wideI_any _ _ _ (by decide) (by decide)).mono ?_; rintro e w1 ⟨rfl, hb1⟩; have hM1 := hM.out.call hb1; clear hM hb1 p0 p1 p2 p3 p4 p5 p6 p7 pf; obtain ⟨⟨p0, p1, p2, p3, p4, p5, p6, p7⟩, pf⟩ := c8 hM1.bk; have hM : Hid _ := hM1; clear hM1)
  go_ret
  exact ⟨g_str HE.out.symm, hM.out.bl⟩

def flagW (fl off : Int) : Int := bits .or .i64 (fl * 8192) (off / 8)
/-- A header without its checksum. -/
def hdr0 (p : PK) : ByteArray := ⟨#[69, 0]⟩ ++ wideI (20 + (p.body.size : Int)) 2 ++ wideI p.id 2 ++ wideI (flagW p.fl p.off) 2 ++ wideI p.ttl 1 ++ wideI p.pr 1 ++ ⟨#[0, 0]⟩ ++ wideI p.src 4 ++ wideI p.dst 4
theorem hdr0_size (p : PK) : (hdr0 p).size = 20 := by
  simp only [hdr0, ByteArray.size_append, wideI_size]; rfl
def rawP (p : PK) : ByteArray := kseal (hdr0 p) 10 ⟨#[]⟩ ++ p.body
set_option maxRecDepth 100000 in
set_option maxHeartbeats 1000000 in
theorem raw_any (p : PK) (w : World) (hs : p.body.size ≤ 1000000) (hf0 : 0 ≤ p.fl) (hf1 : p.fl ≤ 7) (ho0 : 0 ≤ p.off) (ho1 : p.off ≤ 65535) :
    Calls Tryz.prog 20 #[.agg #[.int .i64 p.id, .int .i64 p.fl, .int .i64 p.off, .int .i64 p.ttl, .int .i64 p.pr, .int .i64 p.src, .int .i64 p.dst, .string p.body]] w fun e w' => e = .returned (.string (rawP p)) ∧ Below w.heap.size w w' := by
  have HE : Hid (rawP p = kseal (hdr0 p) 10 ⟨#[]⟩ ++ p.body) := rfl
  have HS : Hid (∀ w, Calls Tryz.prog 23 #[.string (⟨#[69, 0]⟩ ++ wideI (20 + (p.body.size : Int)) 2 ++ wideI p.id 2 ++ wideI (bits .or .i64 (p.fl * 8192) (p.off / 8)) 2 ++ wideI p.ttl 1 ++ wideI p.pr 1 ++ ⟨#[0, 0]⟩ ++ wideI p.src 4 ++ wideI p.dst 4), .int .i64 10, .string ⟨#[]⟩] w fun e w' => e = .returned (.string (kseal (hdr0 p) 10 ⟨#[]⟩)) ∧ Below w.heap.size w w') := fun w =>
    ksealed_any (hdr0 p) 10 ⟨#[]⟩ w (by rw [hdr0_size]; decide) (by rw [hdr0_size]; decide) (by decide)
  have hM : Hid (KMid w (w.alloc (.cells #[.int .i64 p.id, .int .i64 p.fl, .int .i64 p.off, .int .i64 p.ttl, .int .i64 p.pr, .int .i64 p.src, .int .i64 p.dst, .string p.body] 37)) w.heap.size #[.int .i64 p.id, .int .i64 p.fl, .int .i64 p.off, .int .i64 p.ttl, .int .i64 p.pr, .int .i64 p.src, .int .i64 p.dst, .string p.body] 37) := KMid.start w _ _
  obtain ⟨⟨p0, p1, p2, p3, p4, p5, p6, p7⟩, pf⟩ := c8 hM.out.bk
  have hz1 : ∀ v, (wideI v 1).size = 1 := fun v => wideI_size v 1
  have hz2 : ∀ v, (wideI v 2).size = 2 := fun v => wideI_size v 2
  have hz4 : ∀ v, (wideI v 4).size = 4 := fun v => wideI_size v 4
  have hzk : (kseal (hdr0 p) 10 ⟨#[]⟩).size = 20 := by unfold kseal; rw [size_put _ _ _ (by rw [hdr0_size]; decide), hdr0_size]
  go_enter Tryz.func20, Tryz.ntmps20
  go_wp2_with (first | (go_at_call 22; refine (wideI_any _ _ _ (by decide) (by decide)).mono ?_; rintro e w1 ⟨rfl, hb1⟩; have hM1 := hM.out.call hb1; clear hM hb1 p0 p1 p2 p3 p4 p5 p6 p7 pf; obtain ⟨⟨p0, p1, p2, p3, p4, p5, p6, p7⟩, pf⟩ := c8 hM1.bk; have hM : Hid _ := hM1; clear hM1) | (go_at_call 23; refine (HS.out _).mono ?_; rintro e w1 ⟨rfl, hb1⟩; have hM1 := hM.out.call hb1; clear hM hb1 p0 p1 p2 p3 p4 p5 p6 p7 pf; obtain ⟨⟨p0, p1, p2, p3, p4, p5, p6, p7⟩, pf⟩ := c8 hM1.bk; have hM : Hid _ := hM1; clear hM1))
  go_ret
  exact ⟨g_str HE.out.symm, hM.out.bl⟩

def atNI (s : ByteArray) (p n : Int) : Int := atN s p n.toNat
theorem atNI_one (s : ByteArray) (p : Int) : atNI s p 1 = byteAt s p := atN_one s p
theorem atNI_two (s : ByteArray) (p : Int) : atNI s p 2 = wordAt s p := atN_two s p
theorem atNI_four (s : ByteArray) (p : Int) : atNI s p 4 = addrAt s p := atN_four s p
theorem atI_any (s : ByteArray) (p n : Int) (w : World) (h0 : 0 ≤ p) (h1 : p ≤ 1000000) (hn0 : 0 ≤ n) (hn : n ≤ 4) (hs : s.size ≤ 1000000) :
    Calls Tryz.prog 37 #[.string s, .int .i64 p, .int .i64 n] w fun e w' => e = .returned (.int .i64 (atNI s p n)) ∧ w' = w := by
  obtain ⟨k, rfl⟩ := Int.eq_ofNat_of_zero_le hn0
  exact at_any s p k w h0 h1 (by omega) hs

theorem and_1fff (x : Int) (h0 : 0 ≤ x) (h1 : x < 2 ^ 62) : bits .and .i64 x 8191 = x % 8192 := by
  have h := bits_mask .i64 62 (by decide) wraps_i64_62 13 (by decide) x h0 h1
  simpa using h
/-- The packet that bytes are. -/
def parP (s : ByteArray) : PK := ⟨wordAt s 4, wordAt s 6 / 8192, wordAt s 6 % 8192 * 8, byteAt s 8, byteAt s 9, addrAt s 12, addrAt s 16, s.extract 20 s.size⟩
set_option maxRecDepth 100000 in
set_option maxHeartbeats 1000000 in
theorem parsed_yes (s : ByteArray) (w : World) (h21 : 21 ≤ s.size) (hs : s.size ≤ 1000) (h2 : wordAt s 2 = s.size) (h0 : byteAt s 0 = 69) (h1 : byteAt s 1 = 0) (hsum : sumI (s.extract 0 20) = 65535) :
    Calls Tryz.prog 25 #[.string s] w fun e w' => e = .returned (.tuple #[(parP s).val, .bool true]) ∧ Below w.heap.size w w' := by
  have a2 : atNI s 2 2 = s.size := by rw [atNI_two]; exact h2
  have hz0 : 0 < s.size := by clear h2 a2; omega
  have hz1 : 1 < s.size := by clear h2 a2; omega
  have b0 : ((s[0]'hz0).toNat : Int) = 69 := by rw [← byteAt_nat s 0 hz0]; exact h0
  have b1 : ((s[1]'hz1).toNat : Int) = 0 := by rw [← byteAt_nat s 1 hz1]; exact h1
  have hw6 := wordAt_bd s 6
  rw [← atNI_two] at hw6
  have he6 : bits .and .i64 (atNI s 6 2) 8191 = atNI s 6 2 % 8192 := and_1fff _ (by omega) (by omega)
  have HE : Hid ((parP s).val = .agg #[.int .i64 (wordAt s 4), .int .i64 (wordAt s 6 / 8192), .int .i64 (wordAt s 6 % 8192 * 8), .int .i64 (byteAt s 8), .int .i64 (byteAt s 9), .int .i64 (addrAt s 12), .int .i64 (addrAt s 16), .string (s.extract 20 s.size)]) := rfl
  have HW : Hid (∀ w, Calls Tryz.prog 40 #[.string (s.extract 0 20)] w fun e w' => e = .returned (.int .i64 65535) ∧ w' = w) := fun w => by
    have h := words_any (s.extract 0 20) w (by rw [ByteArray.size_extract]; omega)
    rw [hsum] at h; exact h
  have hw6a := hw6.1
  have hw6b := hw6.2
  clear h0 h1 h2 hsum hw6
  go_enter Tryz.func25, Tryz.ntmps25
  go_wp2_with (first | (go_at_call 37; refine (atI_any _ _ _ _ (by decide) (by decide) (by decide) (by decide) (by omega)).mono ?_; rintro e w' ⟨rfl, rfl⟩) | (go_at_call 40; refine (HW.out _).mono ?_; rintro e w' ⟨rfl, rfl⟩))
  refine bodyPost_ret (v := .tuple #[.agg #[.int .i64 (atNI s 4 2), .int .i64 (atNI s 6 2 / 8192), .int .i64 (atNI s 6 2 % 8192 * 8), .int .i64 (atNI s 8 1), .int .i64 (atNI s 9 1), .int .i64 (atNI s 12 4), .int .i64 (atNI s 16 4), .string (s.extract 20 s.size)], .bool true]) (by simp [results, Tryz.results25, go_sem]) rfl ⟨?_, ?_⟩
  · rw [HE.out, atNI_two, atNI_two, atNI_one, atNI_one, atNI_four, atNI_four]
  · repeat first | exact Below.refl _ _ | refine Below.setCell ?_ (by simp) _ | refine Below.alloc ?_ (by simp) _

/-- Is the message's checksum right? -/
def honB (p : PK) : Bool := if p.pr = 17 ∧ wordAt p.body 6 = 0 then true else if p.pr = 1 then (sumI p.body == 65535) else (sumI p.body + sumI (befM p.pr p.src p.dst p.body.size) == 65535 || sumI p.body + sumI (befM p.pr p.src p.dst p.body.size) == 131070)
theorem sumI_nil : sumI ⟨#[]⟩ = 0 := rfl
set_option maxRecDepth 100000 in
set_option maxHeartbeats 1000000 in
theorem honest_any (p : PK) (w : World) (hs : p.body.size ≤ 1000) :
    Calls Tryz.prog 26 #[.agg #[.int .i64 p.id, .int .i64 p.fl, .int .i64 p.off, .int .i64 p.ttl, .int .i64 p.pr, .int .i64 p.src, .int .i64 p.dst, .string p.body]] w fun e w' => e = .returned (.bool (honB p)) ∧ Below w.heap.size w w' := by
  have HB0 : ∀ w, Calls Tryz.prog 38 #[.agg #[.int .i64 p.id, .int .i64 p.fl, .int .i64 p.off, .int .i64 p.ttl, .int .i64 p.pr, .int .i64 p.src, .int .i64 p.dst, .string p.body]] w fun e w' => e = .returned (.string (befM p.pr p.src p.dst p.body.size)) ∧ Below w.heap.size w w' := fun w => kbefore_any p w
  have HH0 : honB p = if p.pr = 17 ∧ wordAt p.body 6 = 0 then true else if p.pr = 1 then (sumI p.body == 65535) else (sumI p.body + sumI (befM p.pr p.src p.dst p.body.size) == 65535 || sumI p.body + sumI (befM p.pr p.src p.dst p.body.size) == 131070) := rfl
  have hbz : (befM p.pr p.src p.dst p.body.size).size ≤ 1000 := by rw [befM_size]; decide
  generalize befM p.pr p.src p.dst p.body.size = bm at HB0 HH0 hbz
  have HB : Hid (∀ w, Calls Tryz.prog 38 #[.agg #[.int .i64 p.id, .int .i64 p.fl, .int .i64 p.off, .int .i64 p.ttl, .int .i64 p.pr, .int .i64 p.src, .int .i64 p.dst, .string p.body]] w fun e w' => e = .returned (.string bm) ∧ Below w.heap.size w w') := HB0
  clear HB0
  have HA : Hid (∀ w, Calls Tryz.prog 37 #[.string p.body, .int .i64 6, .int .i64 2] w fun e w' => e = .returned (.int .i64 (wordAt p.body 6)) ∧ w' = w) := fun w => by rw [← atNI_two]; exact atI_any _ _ _ w (by decide) (by decide) (by decide) (by decide) (by omega)
  have HW : Hid (∀ (s : ByteArray) w, s.size ≤ 1000 → Calls Tryz.prog 40 #[.string s] w fun e w' => e = .returned (.int .i64 (sumI s)) ∧ w' = w) := fun s w h => words_any s w (by omega)
  have hM : Hid (KMid w (w.alloc (.cells #[.int .i64 p.id, .int .i64 p.fl, .int .i64 p.off, .int .i64 p.ttl, .int .i64 p.pr, .int .i64 p.src, .int .i64 p.dst, .string p.body] 37)) w.heap.size #[.int .i64 p.id, .int .i64 p.fl, .int .i64 p.off, .int .i64 p.ttl, .int .i64 p.pr, .int .i64 p.src, .int .i64 p.dst, .string p.body] 37) := KMid.start w _ _
  have HB1 : Hid (∀ w, Calls Tryz.prog 38 #[.agg #[.int .i64 p.id, .int .i64 p.fl, .int .i64 p.off, .int .i64 p.ttl, .int .i64 p.pr, .int .i64 p.src, .int .i64 p.dst, .string p.body]] w fun e w' => e = .returned (.string bm) ∧ Below w.heap.size w w') := HB
  clear HB
  generalize p.pr = q at HB1 HH0 hM ⊢
  have HB := HB1
  clear HB1
  obtain ⟨⟨p0, p1, p2, p3, p4, p5, p6, p7⟩, pf⟩ := c8 hM.out.bk
  have hb1 := sumI_bd p.body
  have hb2 := sumI_bd bm
  have hnil := sumI_nil
  generalize wordAt p.body 6 = c at HA HH0
  by_cases hA : q = 17 ∧ c = 0
  · have HH : Hid (honB p = true) := by rw [if_pos hA] at HH0; exact HH0
    obtain ⟨rfl, rfl⟩ := hA
    clear HH0
    go_enter Tryz.func26, Tryz.ntmps26
    go_wp2_with (first | (go_at_call 38; refine (HB.out _).mono ?_; rintro e w1 ⟨rfl, hb1⟩; have hM1 := hM.out.call hb1; clear hM hb1 p0 p1 p2 p3 p4 p5 p6 p7 pf; obtain ⟨⟨p0, p1, p2, p3, p4, p5, p6, p7⟩, pf⟩ := c8 hM1.bk; have hM : Hid _ := hM1; clear hM1) | (go_at_call 37; refine (HA.out _).mono ?_; rintro e w' ⟨rfl, rfl⟩) | (go_at_call 40; refine (HW.out _ _ (by first | assumption | decide)).mono ?_; rintro e w' ⟨rfl, rfl⟩))
    all_goals
      go_ret
      exact ⟨g_bool HH.out.symm, hM.out.bl⟩
  · rw [if_neg hA] at HH0
    have hA' : q = 17 → ¬ c = 0 := fun h1 h2 => hA ⟨h1, h2⟩
    by_cases h1 : q = 1
    · have HH : Hid (honB p = (sumI p.body == 65535)) := by rw [if_pos h1] at HH0; exact HH0
      clear HH0 hA hA'
      subst h1
      go_enter Tryz.func26, Tryz.ntmps26
      go_wp2_with (first | (go_at_call 38; refine (HB.out _).mono ?_; rintro e w1 ⟨rfl, hb1⟩; have hM1 := hM.out.call hb1; clear hM hb1 p0 p1 p2 p3 p4 p5 p6 p7 pf; obtain ⟨⟨p0, p1, p2, p3, p4, p5, p6, p7⟩, pf⟩ := c8 hM1.bk; have hM : Hid _ := hM1; clear hM1) | (go_at_call 37; refine (HA.out _).mono ?_; rintro e w' ⟨rfl, rfl⟩) | (go_at_call 40; refine (HW.out _ _ (by first | assumption | decide)).mono ?_; rintro e w' ⟨rfl, rfl⟩))
      all_goals
        go_ret
        refine ⟨g_bool ?_, hM.out.bl⟩
        rw [HH.out] <;> first | (simp [*]; done) | (simp [*]; omega)
    · have HH : Hid (honB p = (sumI p.body + sumI bm == 65535 || sumI p.body + sumI bm == 131070)) := by rw [if_neg h1] at HH0; exact HH0
      clear HH0 hA
      by_cases h17 : q = 17
      · have hc0 := hA' h17
        clear hA' h1
        subst h17
        go_enter Tryz.func26, Tryz.ntmps26
        go_wp2_with (first | (go_at_call 38; refine (HB.out _).mono ?_; rintro e w1 ⟨rfl, hb1⟩; have hM1 := hM.out.call hb1; clear hM hb1 p0 p1 p2 p3 p4 p5 p6 p7 pf; obtain ⟨⟨p0, p1, p2, p3, p4, p5, p6, p7⟩, pf⟩ := c8 hM1.bk; have hM : Hid _ := hM1; clear hM1) | (go_at_call 37; refine (HA.out _).mono ?_; rintro e w' ⟨rfl, rfl⟩) | (go_at_call 40; refine (HW.out _ _ (by first | assumption | decide)).mono ?_; rintro e w' ⟨rfl, rfl⟩))
        all_goals
          go_ret
          refine ⟨g_bool ?_, hM.out.bl⟩
          rw [HH.out] <;> first | (simp [*]; done) | (simp [*]; omega)
      · clear hA'
        go_enter Tryz.func26, Tryz.ntmps26
        go_wp2_with (first | (go_at_call 38; refine (HB.out _).mono ?_; rintro e w1 ⟨rfl, hb1⟩; have hM1 := hM.out.call hb1; clear hM hb1 p0 p1 p2 p3 p4 p5 p6 p7 pf; obtain ⟨⟨p0, p1, p2, p3, p4, p5, p6, p7⟩, pf⟩ := c8 hM1.bk; have hM : Hid _ := hM1; clear hM1) | (go_at_call 37; refine (HA.out _).mono ?_; rintro e w' ⟨rfl, rfl⟩) | (go_at_call 40; refine (HW.out _ _ (by first | assumption | decide)).mono ?_; rintro e w' ⟨rfl, rfl⟩))
        all_goals
          go_ret
          refine ⟨g_bool ?_, hM.out.bl⟩
          rw [HH.out] <;> first | (simp [*]; done) | (simp [*]; omega)
end Go.Proofs.YtfkjobiapjhacabGreat
