/- Cut: what becomes of the pieces. Own work. -/
import Derived.Test.YtfkjobiapjhacabGreatCa
import Derived.Test.YtfkjobiapjhacabGreatQf
namespace Go.Proofs.YtfkjobiapjhacabGreat
open Go.RowKit

theorem take_one (p : KP) (ps gl tm : Int) (hw : wholeB [p] = false) (he : endI p ≤ 65535) (h1 : costK p ≤ ps) (h2 : costK p ≤ gl) : takeP [] 0 p ps gl tm = ⟨1, [], [dOf p false (tm + 6) [p]]⟩ := by
  have e : faultP [] (foundP [] 0 p) p ps gl = 0 := by
    unfold faultP
    have ef : foundP [] 0 p = pd0 := rfl
    rw [ef]
    have em : muchB [] p ps gl = false := by
      unfold muchB heldOf heldAll
      simp
      omega
    rw [if_neg (by simp [pd0]), if_neg (by simp [pd0, hasP]), if_neg (by simp [pd0, clashB]), if_neg (by simp [pd0]), em, if_neg (by decide), if_neg (by simp), if_neg (by omega)]
  have ew : wholeB (withP (foundP [] 0 p).held p) = false := hw
  unfold takeP
  rw [e, ew]
  rfl
theorem take_copy {p q : KP} (h : kin p q) (dl : Int) (held : List KP) (ps gl tm : Int) (hh : hasP held p = true) : takeP [dOf q false dl held] 0 p ps gl tm = ⟨10, [], [dOf q false dl held]⟩ := by
  have e : faultP [dOf q false dl held] (dOf q false dl held) p ps gl = 10 := by
    unfold faultP
    have e1 : (dOf q false dl held).held = held := rfl
    rw [e1, hh, if_neg (by simp [dOf]), if_pos rfl]
  unfold takeP
  rw [(found_kin h false dl held).1, e, if_neg (by decide), if_pos (by decide)]
theorem beq_ba (x : ByteArray) : (x == x) = true := by
  show (x.data == x.data) = true
  simp
theorem sorted_len (S : List Nat) : ∀ c d, S.Pairwise (· < ·) → (∀ x ∈ S, c ≤ x ∧ x < d) → c ≤ d → S.length + c ≤ d := by
  induction S with
  | nil => intro c d _ _ h; simpa using h
  | cons x t ih =>
    intro c d hs hm _
    obtain ⟨h1, h2⟩ := List.pairwise_cons.1 hs
    have hx := hm x (by simp)
    have := ih (x + 1) d h2 (fun y hy => ⟨h1 y hy, (hm y (by simp [hy])).2⟩) (by omega)
    rw [List.length_cons]
    omega
theorem sorted_full (S : List Nat) : ∀ a, S.Pairwise (· < ·) → (∀ x ∈ S, a ≤ x ∧ x < a + S.length) → S = List.range' a S.length := by
  induction S with
  | nil => intro a _ _; rfl
  | cons x t ih =>
    intro a hs hm
    obtain ⟨h1, h2⟩ := List.pairwise_cons.1 hs
    have hx := hm x (by simp)
    have hl := sorted_len t (x + 1) (a + (x :: t).length) h2 (fun y hy => ⟨h1 y hy, (hm y (by simp [hy])).2⟩) (by omega)
    rw [List.length_cons] at hl hm ⊢
    obtain rfl : x = a := by omega
    rw [List.range'_succ, ← ih (x + 1) h2 (fun y hy => ⟨h1 y hy, by have := (hm y (by simp [hy])).2; omega⟩)]

def befC (h f : Int) (M : ByteArray) (q N a b : Nat) : Bool := befK (cK h f M q N a) (cK h f M q N b)
def dC (h f : Int) (M : ByteArray) (q N : Nat) (S : List Nat) : PD := dOf (cK h f M q N 0) false 6 (S.map (cK h f M q N))
/-- The pieces that are held. -/
structure SOk (N : Nat) (S : List Nat) : Prop where
  ne : S ≠ []
  so : S.Pairwise (· < ·)
  lt : ∀ x ∈ S, x < N
section
variable {h f : Int} {M : ByteArray} {q N : Nat}
theorem CZ.bef (z : CZ h f M q N) {a b : Nat} (ha : a < N) (hb : b < N) : befC h f M q N a b = decide (a < b) := by
  unfold befC befK
  rw [z.place ha, z.place hb]
  by_cases e : a < b
  · have := z.grow (Nat.le_of_lt e) (Nat.le_of_lt hb)
    simp [e]
    omega
  · have := z.grow (show b ≤ a by omega) (Nat.le_of_lt ha)
    simp [e]
    omega
theorem cK_withs (S : List Nat) (k : Nat) : withP (S.map (cK h f M q N)) (cK h f M q N k) = (insR (befC h f M q N) k S).map (cK h f M q N) := by
  unfold withP
  rw [← layL_ins, layL_map (cK h f M q N) (befC h f M q N) befK (fun _ _ => rfl)]
theorem SOk.ins (z : CZ h f M q N) {S : List Nat} (hS : SOk N S) {k : Nat} (hk : k < N) (hn : k ∉ S) : SOk N (insR (befC h f M q N) k S) ∧ (insR (befC h f M q N) k S).length = S.length + 1 := by
  have hp := insR_perm (befC h f M q N) k S
  refine ⟨⟨fun e => ?_, insR_sorted hS.so (fun d hd => z.bef hk (hS.lt d hd)) hn, fun x hx => ?_⟩, by rw [hp.length_eq]; rfl⟩
  · rw [e] at hp
    exact absurd hp.length_eq (by simp)
  · rcases insR_mem hx with e | e
    · omega
    · exact hS.lt x e
theorem SOk.one {k : Nat} (hk : k < N) : SOk N [k] := ⟨by simp, by simp, by simp [hk]⟩
theorem SOk.len {S : List Nat} (hS : SOk N S) : S.length ≤ N := by
  have := sorted_len S 0 N hS.so (fun x hx => ⟨Nat.zero_le _, hS.lt x hx⟩) (Nat.zero_le _)
  omega
theorem SOk.full {S : List Nat} (hS : SOk N S) (hl : S.length = N) : S = List.range N := by
  have := sorted_full S 0 hS.so (fun x hx => ⟨Nat.zero_le _, by have := hS.lt x hx; omega⟩)
  rw [hl] at this
  rw [this, List.range_eq_range']
theorem CZ.end16 (z : CZ h f M q N) {k : Nat} (hk : k < N) : endI (cK h f M q N k) ≤ 65535 := by
  have h1 := z.le (show k + 1 ≤ N from hk) (Nat.le_refl N)
  rw [z.pN] at h1
  have := z.big
  rw [z.ends hk]
  omega
theorem CZ.first (b : Nat) (z : CZ h f M q N) {k : Nat} (hk : k < N) (cs : List Int) (hg : Good (stV 0 cs [])) : RecvAt b (stV 0 cs []) 0 (rawP (cP h f M q N k)) 1 none (stV 0 (bump cs 1) [dC h f M q N [k]]) ∧ Good (stV 0 (bump cs 1) [dC h f M q N [k]]) := by
  have hn := z.n0
  obtain ⟨-, hh⟩ := z.hand hk 0 cs []
  have hc := z.cost hk
  have hw := z.part (S := [k]) (by simp) (by simp [hk]) (by simp; omega)
  rw [take_one (cK h f M q N k) 400 700 0 hw (z.end16 hk) (by omega) (by omega), tookH_no _ _ _ _ (by decide), dOf_kin (z.kin hk (show 0 < N by omega))] at hh
  exact recv_no b _ hg 0 _ 1 _ _ hh
theorem CZ.taken (z : CZ h f M q N) {S : List Nat} (hS : SOk N S) {k : Nat} (hk : k < N) (hn : k ∉ S) : takeP [dC h f M q N S] 0 (cK h f M q N k) 400 700 0 = if wholeB ((insR (befC h f M q N) k S).map (cK h f M q N)) = true then ⟨0, (insR (befC h f M q N) k S).map (cK h f M q N), []⟩ else ⟨1, [], [dC h f M q N (insR (befC h f M q N) k S)]⟩ := by
  have h6 := z.n1
  have hl := (SOk.ins z hS hk hn).2
  have hl2 := (SOk.ins z hS hk hn).1.len
  have hc := z.cost hk
  have hd := z.costs hS.lt
  have e := take_next (z.kin hk (show 0 < N by omega)) 6 (S.map (cK h f M q N)) 400 700 0 (by simpa using hS.ne) (by simp; omega) (z.has hS.lt hk hn) (z.clash hS.lt hk hn) (z.end16 hk) (by omega) (by omega)
  rw [cK_withs] at e
  exact e
theorem CZ.next (b : Nat) (z : CZ h f M q N) {S : List Nat} (hS : SOk N S) {k : Nat} (hk : k < N) (hn : k ∉ S) (hl : S.length + 1 < N) (cs : List Int) (hg : Good (stV 0 cs [dC h f M q N S])) :
    RecvAt b (stV 0 cs [dC h f M q N S]) 0 (rawP (cP h f M q N k)) 1 none (stV 0 (bump cs 1) [dC h f M q N (insR (befC h f M q N) k S)]) ∧ Good (stV 0 (bump cs 1) [dC h f M q N (insR (befC h f M q N) k S)]) := by
  obtain ⟨-, hh⟩ := z.hand hk 0 cs [dC h f M q N S]
  obtain ⟨hi, hil⟩ := SOk.ins z hS hk hn
  rw [z.taken hS hk hn, z.part hi.so hi.lt (by omega), if_neg (by decide), tookH_no _ _ _ _ (by decide)] at hh
  exact recv_no b _ hg 0 _ 1 _ _ hh
theorem CZ.copy (b : Nat) (z : CZ h f M q N) {S : List Nat} (hS : SOk N S) {k : Nat} (hk : k ∈ S) (cs : List Int) (hg : Good (stV 0 cs [dC h f M q N S])) :
    RecvAt b (stV 0 cs [dC h f M q N S]) 0 (rawP (cP h f M q N k)) 10 none (stV 0 (bump cs 10) [dC h f M q N S]) ∧ Good (stV 0 (bump cs 10) [dC h f M q N S]) := by
  have hkN := hS.lt k hk
  obtain ⟨-, hh⟩ := z.hand hkN 0 cs [dC h f M q N S]
  have hy : hasP (S.map (cK h f M q N)) (cK h f M q N k) = true := List.any_eq_true.2 ⟨cK h f M q N k, List.mem_map.2 ⟨k, hk, rfl⟩, by unfold likeB; rw [beq_ba]; simp⟩
  rw [show takeP [dC h f M q N S] 0 (cK h f M q N k) 400 700 0 = _ from take_copy (z.kin hkN (show 0 < N by omega)) 6 (S.map (cK h f M q N)) 400 700 0 hy, tookH_no _ _ _ _ (by decide)] at hh
  exact recv_no b _ hg 0 _ 10 _ _ hh
/-- What goes out for each piece. -/
def cR (h f : Int) (M : ByteArray) (q N : Nat) (m : ByteArray) (k : Nat) : ByteArray := onHead (cK h f M q N k).h 3405803781 f ++ m.extract (pp M q k) (pp M q (k + 1))
theorem CZ.frames (z : CZ h f M q N) (m : ByteArray) (hm : m.size = M.size) (n : Nat) : ∀ a, a + n = N → onRec 3405803781 f (m.extract (pp M q a) m.size) ((List.range' a n).map (cK h f M q N)) = (List.range' a n).map (cR h f M q N m) := by
  induction n with
  | zero => intro a _; rfl
  | succ n ih =>
    intro a ha
    have haN : a < N := by omega
    have h1 := (z.sz haN).1
    have h2 := z.le (show a + 1 ≤ N from haN) (Nat.le_refl N)
    rw [z.pN] at h2
    rw [List.range'_succ, List.map_cons, List.map_cons]
    unfold onRec
    have e0 : (cK h f M q N a).b.size = (cB M q a).size := rfl
    have e1 : min (cK h f M q N a).b.size (m.extract (pp M q a) m.size).size = (cB M q a).size := by rw [e0, ByteArray.size_extract]; omega
    rw [e1]
    have e2 : (m.extract (pp M q a) m.size).extract 0 (cB M q a).size = m.extract (pp M q a) (pp M q (a + 1)) := by
      have e : min (pp M q a + (cB M q a).size) m.size = pp M q (a + 1) := by omega
      rw [ByteArray.extract_extract, e, Nat.add_zero]
    have e3 : (m.extract (pp M q a) m.size).extract (cB M q a).size (m.extract (pp M q a) m.size).size = m.extract (pp M q (a + 1)) m.size := by
      have e : min (pp M q a + (min m.size m.size - pp M q a)) m.size = m.size := by omega
      have e' : pp M q a + (cB M q a).size = pp M q (a + 1) := by omega
      rw [ByteArray.extract_extract, ByteArray.size_extract, e, e']
    rw [e2, e3, ih (a + 1) (by omega)]
    rfl
theorem btw_size {h i f j : Int} {data : ByteArray} (hr : URange h i f j data) : (btwM 17 (udpB h i f j data) 3405803781 5000 f j).size = (udpB h i f j data).size := by
  obtain ⟨s0, s1, d0, d1, f0, f1, t0, t1, sz⟩ := hr
  have hb := bl_udpB h i f j data
  have hc := ckU_bd (US h i f j (bl data))
  have hl : (bl data).length ≤ 1000 := by rw [bl_length]; omega
  have := bl_btwU hl hb hc.1 hc.2 3405803781 5000 f j (by decide) (by decide) d0 d1
  rw [← bl_length, this, UMS_length, bl_length, udpB_size]
set_option maxHeartbeats 1000000 in
theorem CZ.last (b : Nat) (z : CZ h f M q N) {S : List Nat} (hS : SOk N S) {k : Nat} (hk : k < N) (hn : k ∉ S) (hl : S.length + 1 = N) (cs : List Int) (hg : Good (stV 0 cs [dC h f M q N S])) {i j : Int} {data : ByteArray} (hM : M = udpB h i f j data) (hr : URange h i f j data) :
    ∃ s', s'.wl = [] ∧ Good s' ∧ ∀ W v, BoxAt W b v (stV 0 cs [dC h f M q N S]) → Calls Tryz.prog 21 #[.pointer (some ⟨b, 0, none⟩), .int .i64 0, .string (rawP (cP h f M q N k))] W fun e w' => ∃ fv, e = .returned (.tuple #[.int .i64 0, fv]) ∧ FrsAt w' fv ((List.range N).map (fun k => (1, cR h f M q N (btwM 17 M 3405803781 5000 f j) k))) ∧ ∃ v', BoxAt w' b v' s' ∧ Chg b v W w' v' := by
  obtain ⟨-, hh⟩ := z.hand hk 0 cs [dC h f M q N S]
  obtain ⟨hi, hil⟩ := SOk.ins z hS hk hn
  have hf1 := z.f1
  have hn0 := z.n0
  rw [z.taken hS hk hn, hi.full (by omega), z.whole, if_pos rfl] at hh
  have ew2 : wOf ((List.range N).map (cK h f M q N)) = ⟨17, h, f, udpB h i f j data⟩ := by
    obtain ⟨n', rfl⟩ : ∃ n', N = n' + 1 := ⟨N - 1, by omega⟩
    rw [z.wof n' (by omega), z.pN, ByteArray.extract_zero_size, hM]
  obtain ⟨p1, p2⟩ := pass_udp (stV 0 cs []) _ ew2 hr
  have hif := ins_fresh (stV 0 cs []) rfl h i f j (udpB h i f j data) (by show ¬ f = 3405803781; omega) (by show ¬ (5000 : Int) = 0; decide) (by show (5000 : Int) ≤ 5001; decide)
  have o1 : (stV 0 cs []).ou = 3405803781 := rfl
  have o2 : (stV 0 cs []).lo = 5000 := rfl
  rw [hif.1, o1, o2] at p1
  clear hif
  have hph : tookH (stV 0 cs [dC h f M q N S]) 0 ⟨0, (List.range N).map (cK h f M q N), []⟩ = passH (stV 0 cs []) 0 ((List.range N).map (cK h f M q N)) := by unfold tookH; rw [if_pos rfl]; rfl
  rw [hph] at hh
  have hon : onAll 3405803781 f (btwM 17 M 3405803781 5000 f j) ((List.range N).map (cK h f M q N)) = (List.range N).map (cR h f M q N (btwM 17 M 3405803781 5000 f j)) := by
    have hms : (btwM 17 M 3405803781 5000 f j).size = M.size := by rw [hM]; exact btw_size hr
    rw [onAll_rec]
    have := z.frames _ hms N 0 (by omega)
    have e0 : pp M q 0 = 0 := by unfold pp; simp
    rw [e0, ByteArray.extract_zero_size] at this
    rw [List.range_eq_range', this]
  have hp : passH (stV 0 cs []) 0 ((List.range N).map (cK h f M q N)) = ⟨0, (List.range N).map (fun k => (1, cR h f M q N (btwM 17 M 3405803781 5000 f j) k)), passL' (stV 0 cs []) 0 ((List.range N).map (cK h f M q N)), []⟩ := by
    have hW : ∀ (X : WYD) (mm : ByteArray), X = ⟨0, 1, 17, 3405803781, 5000, f, j, mm⟩ → X.what = 0 ∧ X.side = 1 ∧ X.xa = 3405803781 ∧ X.ya = f ∧ X.m = mm := by
      intro X mm e
      rw [e]
      exact ⟨rfl, rfl, rfl, rfl, rfl⟩
    obtain ⟨a1, a2, a3, a4, a5⟩ := hW _ _ p1
    have hwl : (stV 0 cs []).wl = [] := rfl
    unfold passH
    rw [if_pos a1, a2, a3, a4, a5, hwl, ← hM, hon, List.map_map]
    simp only [Function.comp_def]
  rw [hp] at hh
  refine ⟨recvG (stV 0 cs [dC h f M q N S]) (handG (stV 0 cs [dC h f M q N S]) 0 (rawP (cP h f M q N k))), by rw [hh]; rfl, hg.recv 0 _, fun W v hW => ?_⟩
  have hrc := Receive_good hW hg 0 (rawP (cP h f M q N k))
  rw [hh] at hrc ⊢
  exact hrc
/-- What each of them says. -/
theorem CZ.par (z : CZ h f M q N) {k : Nat} (hk : k < N) (m : ByteArray) (hm : m.size = M.size) :
    (∀ W, Calls Tryz.prog 25 #[.string (cR h f M q N m k)] W fun e w' => e = .returned (.tuple #[(⟨7, cF N k, 8 * ((q * k : Nat) : Int), 2 + (k : Int), 17, 3405803781, f, m.extract (pp M q k) (pp M q (k + 1))⟩ : PK).val, .bool true]) ∧ Below W.heap.size W w') := by
  intro W
  obtain ⟨s1, s2, s3, -⟩ := z.sz hk
  have h2 := z.le (show k + 1 ≤ N from hk) (Nat.le_refl N)
  rw [z.pN] at h2
  have hbg := z.big
  have hf0 := z.f0
  have hf1 := z.f1
  have hn1 := z.n1
  have hq1 := z.q1
  have hlt := z.lt hk
  obtain ⟨hd, -, -, c3, c4, -, -, -, -⟩ := piece_raw (z.ok hk)
  have e4 : (cK h f M q N k).h = hd := c4.symm
  have hz : (m.extract (pp M q k) (pp M q (k + 1))).size = (cB M q k).size := by rw [ByteArray.size_extract]; omega
  have c0 : cF N k = 0 ∨ cF N k = 1 := by unfold cF; split <;> simp
  have hbl : bl (cR h f M q N m k) = HDS (20 + ((cB M q k).size : Int)) 7 (cF N k * 8192 + ((q * k : Nat) : Int)) (3 + (k : Int) - 1) 17 3405803781 f ++ bl (m.extract (pp M q k) (pp M q (k + 1))) := by
    unfold cR
    rw [bl_app, e4, bl_onHead _ _ _ _ _ _ _ _ _ _ _ c3]
  have hsz := whole_size hbl
  rw [bl_length, hz] at hsz
  obtain ⟨k0, k1, k2, -, -, -, -, -, -, -⟩ := HD_word _ _ _ _ _ _ _ _ _ _ hbl
  have hp := whole_par hbl rfl
  have := parsed_yes (cR h f M q N m k) W (by omega) (by omega) (by rw [k2, hsz]; omega) k0 k1 (whole_sum hbl)
  rw [hp] at this
  have e : (⟨7 % 65536, (cF N k * 8192 + ((q * k : Nat) : Int)) % 65536 / 8192, (cF N k * 8192 + ((q * k : Nat) : Int)) % 65536 % 8192 * 8, (3 + (k : Int) - 1) % 256, 17 % 256, 3405803781 % 4294967296, f % 4294967296, m.extract (pp M q k) (pp M q (k + 1))⟩ : PK) = ⟨7, cF N k, 8 * ((q * k : Nat) : Int), 2 + (k : Int), 17, 3405803781, f, m.extract (pp M q k) (pp M q (k + 1))⟩ := by
    have g1 : (cF N k * 8192 + ((q * k : Nat) : Int)) % 65536 / 8192 = cF N k := by omega
    have g2 : (cF N k * 8192 + ((q * k : Nat) : Int)) % 65536 % 8192 * 8 = 8 * ((q * k : Nat) : Int) := by omega
    have g3 : (3 + (k : Int) - 1) % 256 = 2 + (k : Int) := by omega
    have g4 : f % 4294967296 = f := by omega
    rw [g1, g2, g3, g4]
    rfl
  rw [e] at this
  exact this
theorem CZ.joined (z : CZ h f M q N) (m : ByteArray) {k : Nat} (hk : k < N) : m.extract 0 (pp M q k) ++ m.extract (pp M q k) (pp M q (k + 1)) = m.extract 0 (pp M q (k + 1)) := by
  have h1 := z.le (show k ≤ k + 1 by omega) (show k + 1 ≤ N from hk)
  apply bl_inj
  rw [bl_app, bl_ex, bl_ex, bl_ex]
  simp only [List.drop_zero, Nat.sub_zero]
  have e : pp M q k + (pp M q (k + 1) - pp M q k) = pp M q (k + 1) := by omega
  rw [← List.take_add, e]
end
end Go.Proofs.YtfkjobiapjhacabGreat
