/- Pure facts of packets: bytes, sums, what a packet becomes between other ends. Own work. -/
import Derived.Test.YtfkjobiapjhacabGreatK2
import Derived.Test.YtfkjobiapjhacabGreatGwD
import Derived.Test.YtfkjobiapjhacabGreatA3
namespace Go.Proofs.YtfkjobiapjhacabGreat
open Go.RowKit

theorem byteOf_int (v : Int) : ((byteOf v).toNat : Int) = v % 256 := by
  unfold byteOf
  have h0 := Int.emod_nonneg v (b := 256) (by decide)
  have h1 := Int.emod_lt_of_pos v (b := 256) (by decide)
  rw [UInt8.toNat_ofNat']
  omega
theorem byteAt_bl (s : ByteArray) (k : Nat) : byteAt s k = (((bl s).getD k 0).toNat : Int) := by
  unfold byteAt bl
  rw [if_pos (by omega)]
  simp
/-- The sum of the words of a list of bytes. -/
def sumL : List UInt8 → Int
  | [] => 0
  | [a] => (a.toNat : Int) * 256
  | a :: b :: t => (a.toNat : Int) * 256 + (b.toNat : Int) + sumL t
def sumLTo (l : List UInt8) : Nat → Int
  | 0 => 0
  | k + 1 => sumLTo l k + (((l.getD (2 * k) 0).toNat : Int) * 256 + ((l.getD (2 * k + 1) 0).toNat : Int))
theorem sumLTo_cons (a b : UInt8) (t : List UInt8) (k : Nat) : sumLTo (a :: b :: t) (k + 1) = (a.toNat : Int) * 256 + (b.toNat : Int) + sumLTo t k := by
  induction k with
  | zero => simp [sumLTo]
  | succ k ih =>
    rw [sumLTo, ih]
    have e : 2 * (k + 1) = 2 * k + 1 + 1 := by omega
    rw [e]
    simp only [List.getD_cons_succ, sumLTo]
    omega
theorem sumLTo_all : (l : List UInt8) → sumLTo l ((l.length + 1) / 2) = sumL l
  | [] => rfl
  | [a] => by simp [sumLTo, sumL]
  | a :: b :: t => by
    have e : ((a :: b :: t).length + 1) / 2 = (t.length + 1) / 2 + 1 := by simp; omega
    rw [e, sumLTo_cons, sumLTo_all t]; rfl
theorem sumTo_L (s : ByteArray) (k : Nat) : sumTo s k = sumLTo (bl s) k := by
  induction k with
  | zero => rfl
  | succ k ih =>
    have e1 : (2 : Int) * (k : Int) = ((2 * k : Nat) : Int) := by omega
    have e2 : (2 : Int) * (k : Int) + 1 = ((2 * k + 1 : Nat) : Int) := by omega
    unfold sumTo sumLTo wordAt
    rw [ih, e2, e1, byteAt_bl, byteAt_bl]
theorem sumI_bl (s : ByteArray) : sumI s = foldI (sumL (bl s)) := by
  unfold sumI
  rw [sumTo_L, ← bl_length, sumLTo_all]
theorem sumL_nonneg : (l : List UInt8) → 0 ≤ sumL l
  | [] => Int.le_refl _
  | [a] => by unfold sumL; omega
  | a :: b :: t => by have := sumL_nonneg t; unfold sumL; omega
theorem foldI_pos (a : Int) (h : 0 < a) : 0 < foldI a := by
  unfold foldI
  rw [if_neg (by omega)]
  have := Int.emod_nonneg (a - 1) (b := 65535) (by decide); omega
theorem foldI_mod (a : Int) : (a - foldI a) % 65535 = 0 := by
  unfold foldI
  split <;> omega
/-- A sum that is sealed is all ones. -/
theorem fold_seal (a : Int) (h : 0 ≤ a) : foldI (a + (65535 - foldI a)) = 65535 := by
  have h1 := foldI_mod a
  have h2 := foldI_bd a
  have h3 : a = 0 → foldI a = 0 := fun e => by rw [e]; rfl
  generalize foldI a = f at h1 h2 h3
  unfold foldI
  rw [if_neg (by omega)]
  omega
theorem bl_mk (l : List UInt8) : bl ⟨l.toArray⟩ = l := rfl
theorem bl_app (a b : ByteArray) : bl (a ++ b) = bl a ++ bl b := by simp [bl]
theorem bl_wide1 (v : Int) : bl (wideI v 1) = [byteOf v] := by
  show wbytes v 1 = _; simp [wbytes]
theorem bl_wide2 (v : Int) : bl (wideI v 2) = [byteOf (v / 256), byteOf v] := by
  show wbytes v 2 = _; simp [wbytes]
theorem bl_wide4 (v : Int) : bl (wideI v 4) = [byteOf (v / 16777216), byteOf (v / 65536), byteOf (v / 256), byteOf v] := by
  show wbytes v 4 = _; simp [wbytes]
theorem byteOf_mod (v : Int) (n : Nat) : byteOf (v + 256 * n) = byteOf v := by
  unfold byteOf; congr 2; omega

/-- A header's bytes. -/
def HD (n id fw ttl pr ck src dst : Int) : List UInt8 :=
  [69, 0, byteOf (n / 256), byteOf n, byteOf (id / 256), byteOf id, byteOf (fw / 256), byteOf fw, byteOf ttl, byteOf pr, byteOf (ck / 256), byteOf ck,
   byteOf (src / 16777216), byteOf (src / 65536), byteOf (src / 256), byteOf src, byteOf (dst / 16777216), byteOf (dst / 65536), byteOf (dst / 256), byteOf dst]
/-- The sum of a header's words but its checksum. -/
def HS (n id fw ttl pr src dst : Int) : Int := 17664 + n % 65536 + id % 65536 + fw % 65536 + (ttl % 256 * 256 + pr % 256) + (src / 65536 % 65536 + src % 65536) + (dst / 65536 % 65536 + dst % 65536)
theorem HS_nonneg (n id fw ttl pr src dst : Int) : 17664 ≤ HS n id fw ttl pr src dst := by unfold HS; omega
theorem HD_sum (n id fw ttl pr ck src dst : Int) : sumL (HD n id fw ttl pr ck src dst) = HS n id fw ttl pr src dst + ck % 65536 := by
  unfold HD HS
  simp only [sumL, byteOf_int]
  have e1 : ((69 : UInt8).toNat : Int) = 69 := rfl
  have e2 : ((0 : UInt8).toNat : Int) = 0 := rfl
  rw [e1, e2]
  omega
/-- A sealed header. -/
def HDS (n id fw ttl pr src dst : Int) : List UInt8 := HD n id fw ttl pr (65535 - foldI (HS n id fw ttl pr src dst)) src dst
theorem HDS_sum (n id fw ttl pr src dst : Int) : foldI (sumL (HDS n id fw ttl pr src dst)) = 65535 := by
  unfold HDS
  rw [HD_sum]
  have h := HS_nonneg n id fw ttl pr src dst
  have hb := foldI_bd (HS n id fw ttl pr src dst)
  have e : (65535 - foldI (HS n id fw ttl pr src dst)) % 65536 = 65535 - foldI (HS n id fw ttl pr src dst) := Int.emod_eq_of_lt (by omega) (by omega)
  rw [e]
  exact fold_seal _ (by omega)
theorem HD_length (n id fw ttl pr ck src dst : Int) : (HD n id fw ttl pr ck src dst).length = 20 := rfl
theorem bl_hdr0 (p : PK) : bl (hdr0 p) = HD (20 + (p.body.size : Int)) p.id (flagW p.fl p.off) p.ttl p.pr 0 p.src p.dst := by
  unfold hdr0 HD
  simp only [bl_app, bl_wide1, bl_wide2, bl_wide4]
  rfl
theorem HD_put10 (n id fw ttl pr ck src dst v : Int) : (HD n id fw ttl pr ck src dst).take 10 ++ [byteOf (v / 256), byteOf v] ++ (HD n id fw ttl pr ck src dst).drop (10 + 2) = HD n id fw ttl pr v src dst := rfl
theorem bl_kseal (p : PK) : bl (kseal (hdr0 p) 10 ⟨#[]⟩) = HDS (20 + (p.body.size : Int)) p.id (flagW p.fl p.off) p.ttl p.pr p.src p.dst := by
  have e1 : bl (putWord (hdr0 p) 10 0) = HD (20 + (p.body.size : Int)) p.id (flagW p.fl p.off) p.ttl p.pr 0 p.src p.dst := by rw [bl_put, bl_hdr0, HD_put10]
  have e2 : ksealT (hdr0 p) 10 ⟨#[]⟩ = foldI (HS (20 + (p.body.size : Int)) p.id (flagW p.fl p.off) p.ttl p.pr p.src p.dst) := by
    unfold ksealT
    rw [sumI_bl, e1, HD_sum, sumI_nil]
    have h := HS_nonneg (20 + (p.body.size : Int)) p.id (flagW p.fl p.off) p.ttl p.pr p.src p.dst
    generalize HS (20 + (p.body.size : Int)) p.id (flagW p.fl p.off) p.ttl p.pr p.src p.dst = a at h ⊢
    have := fold_fold 0 a (by decide) (by omega)
    simpa using this
  unfold kseal
  rw [bl_put, bl_hdr0, HD_put10, e2]
  rfl
theorem bl_rawP (p : PK) : bl (rawP p) = HDS (20 + (p.body.size : Int)) p.id (flagW p.fl p.off) p.ttl p.pr p.src p.dst ++ bl p.body := by
  unfold rawP; rw [bl_app, bl_kseal]

theorem wordAt_bl (s : ByteArray) (k : Nat) : wordAt s k = (((bl s).getD k 0).toNat : Int) * 256 + (((bl s).getD (k + 1) 0).toNat : Int) := by
  unfold wordAt
  have e : (k : Int) + 1 = ((k + 1 : Nat) : Int) := by omega
  rw [e, byteAt_bl, byteAt_bl]
theorem two_bytes (v : Int) : ((byteOf (v / 256)).toNat : Int) * 256 + ((byteOf v).toNat : Int) = v % 65536 := by
  rw [byteOf_int, byteOf_int]; omega
theorem byteOf_congr {a b : Int} (h : a % 256 = b % 256) : byteOf a = byteOf b := by unfold byteOf; rw [h]

theorem HD_addr12 (n id fw ttl pr ck src dst v : Int) (s : ByteArray) (h : bl s = HD n id fw ttl pr ck src dst) : bl (putAddr s 12 v) = HD n id fw ttl pr ck v dst := by
  unfold putAddr
  rw [bl_put, bl_put, h]
  have e : byteOf (v / 65536 / 256) = byteOf (v / 16777216) := by apply byteOf_congr; omega
  rw [e]
  rfl
theorem HD_addr16 (n id fw ttl pr ck src dst v : Int) (s : ByteArray) (h : bl s = HD n id fw ttl pr ck src dst) : bl (putAddr s 16 v) = HD n id fw ttl pr ck src v := by
  unfold putAddr
  rw [bl_put, bl_put, h]
  have e : byteOf (v / 65536 / 256) = byteOf (v / 16777216) := by apply byteOf_congr; omega
  rw [e]
  rfl
theorem HD_word (n id fw ttl pr ck src dst : Int) (s : ByteArray) (b : List UInt8) (h : bl s = HD n id fw ttl pr ck src dst ++ b) :
    byteAt s 0 = 69 ∧ byteAt s 1 = 0 ∧ wordAt s 2 = n % 65536 ∧ wordAt s 4 = id % 65536 ∧ wordAt s 6 = fw % 65536 ∧ byteAt s 8 = ttl % 256 ∧ byteAt s 9 = pr % 256 ∧ wordAt s 8 = ttl % 256 * 256 + pr % 256 ∧ addrAt s 12 = src % 4294967296 ∧ addrAt s 16 = dst % 4294967296 := by
  have b0 := byteAt_bl s 0
  have b1 := byteAt_bl s 1
  have w2 := wordAt_bl s 2
  have w4 := wordAt_bl s 4
  have w6 := wordAt_bl s 6
  have w8 := wordAt_bl s 8
  have b8 := byteAt_bl s 8
  have b9 := byteAt_bl s 9
  have w12 := wordAt_bl s 12
  have w14 := wordAt_bl s 14
  have w16 := wordAt_bl s 16
  have w18 := wordAt_bl s 18
  rw [h] at b0 b1 w2 w4 w6 w8 b8 b9 w12 w14 w16 w18
  have g0 : (HD n id fw ttl pr ck src dst ++ b).getD 0 0 = 69 := rfl
  have g1 : (HD n id fw ttl pr ck src dst ++ b).getD 1 0 = 0 := rfl
  have g2 : (HD n id fw ttl pr ck src dst ++ b).getD 2 0 = byteOf (n / 256) := rfl
  have g3 : (HD n id fw ttl pr ck src dst ++ b).getD (2 + 1) 0 = byteOf n := rfl
  have g4 : (HD n id fw ttl pr ck src dst ++ b).getD 4 0 = byteOf (id / 256) := rfl
  have g5 : (HD n id fw ttl pr ck src dst ++ b).getD (4 + 1) 0 = byteOf id := rfl
  have g6 : (HD n id fw ttl pr ck src dst ++ b).getD 6 0 = byteOf (fw / 256) := rfl
  have g7 : (HD n id fw ttl pr ck src dst ++ b).getD (6 + 1) 0 = byteOf fw := rfl
  have g8 : (HD n id fw ttl pr ck src dst ++ b).getD 8 0 = byteOf ttl := rfl
  have g9 : (HD n id fw ttl pr ck src dst ++ b).getD 9 0 = byteOf pr := rfl
  have g9' : (HD n id fw ttl pr ck src dst ++ b).getD (8 + 1) 0 = byteOf pr := rfl
  have g12 : (HD n id fw ttl pr ck src dst ++ b).getD 12 0 = byteOf (src / 16777216) := rfl
  have g13 : (HD n id fw ttl pr ck src dst ++ b).getD (12 + 1) 0 = byteOf (src / 65536) := rfl
  have g14 : (HD n id fw ttl pr ck src dst ++ b).getD 14 0 = byteOf (src / 256) := rfl
  have g15 : (HD n id fw ttl pr ck src dst ++ b).getD (14 + 1) 0 = byteOf src := rfl
  have g16 : (HD n id fw ttl pr ck src dst ++ b).getD 16 0 = byteOf (dst / 16777216) := rfl
  have g17 : (HD n id fw ttl pr ck src dst ++ b).getD (16 + 1) 0 = byteOf (dst / 65536) := rfl
  have g18 : (HD n id fw ttl pr ck src dst ++ b).getD 18 0 = byteOf (dst / 256) := rfl
  have g19 : (HD n id fw ttl pr ck src dst ++ b).getD (18 + 1) 0 = byteOf dst := rfl
  rw [g0] at b0
  rw [g1] at b1
  rw [g2, g3, byteOf_int, byteOf_int] at w2
  rw [g4, g5, byteOf_int, byteOf_int] at w4
  rw [g6, g7, byteOf_int, byteOf_int] at w6
  rw [g8, g9', byteOf_int, byteOf_int] at w8
  rw [g8, byteOf_int] at b8
  rw [g9, byteOf_int] at b9
  rw [g12, g13, byteOf_int, byteOf_int] at w12
  rw [g14, g15, byteOf_int, byteOf_int] at w14
  rw [g16, g17, byteOf_int, byteOf_int] at w16
  rw [g18, g19, byteOf_int, byteOf_int] at w18
  refine ⟨b0, b1, ?_, ?_, ?_, b8, b9, w8, ?_, ?_⟩
  · exact w2.trans (by omega)
  · exact w4.trans (by omega)
  · exact w6.trans (by omega)
  · unfold addrAt; have e1 : wordAt s 12 = _ := w12; have e2 : wordAt s (12 + 2) = _ := w14; rw [e1, e2]; omega
  · unfold addrAt; have e1 : wordAt s 16 = _ := w16; have e2 : wordAt s (16 + 2) = _ := w18; rw [e1, e2]; omega
theorem bl_addrHead (n id fw ttl pr ck s d src dst : Int) (h : ByteArray) (hh : bl h = HD n id fw ttl pr ck s d) : bl (addrHead h src dst) = HDS n id fw ttl pr src dst := by
  have h2 : bl (putAddr (putAddr h 12 src) 16 dst) = HD n id fw ttl pr ck src dst := HD_addr16 _ _ _ _ _ _ _ _ _ _ (HD_addr12 _ _ _ _ _ _ _ _ _ _ hh)
  have h4 : bl (putWord (putAddr (putAddr h 12 src) 16 dst) 10 0) = HD n id fw ttl pr 0 src dst := by rw [bl_put, h2, HD_put10]
  have h5 : sumI (putWord (putAddr (putAddr h 12 src) 16 dst) 10 0) = foldI (HS n id fw ttl pr src dst) := by
    rw [sumI_bl, h4, HD_sum]; simp
  show bl (putWord _ 10 (65535 - sumI _)) = _
  rw [h5, bl_put, h4, HD_put10]
  rfl
theorem bl_onHead (n id fw ttl pr ck s d src dst : Int) (h : ByteArray) (hh : bl h = HD n id fw ttl pr ck s d) : bl (onHead h src dst) = HDS n id fw (ttl - 1) pr src dst := by
  have hw : wordAt h 8 = ttl % 256 * 256 + pr % 256 := (HD_word _ _ _ _ _ _ _ _ _ [] (by rw [List.append_nil]; exact hh)).2.2.2.2.2.2.2.1
  have h4 : bl (putWord h 8 (wordAt h 8 - 256)) = HD n id fw (ttl - 1) pr ck s d := by
    rw [bl_put, hh, hw]
    have e1 : byteOf ((ttl % 256 * 256 + pr % 256 - 256) / 256) = byteOf (ttl - 1) := by apply byteOf_congr; omega
    have e2 : byteOf (ttl % 256 * 256 + pr % 256 - 256) = byteOf pr := by apply byteOf_congr; omega
    rw [e1, e2]
    rfl
  exact bl_addrHead _ _ _ _ _ _ _ _ _ _ _ h4

theorem bl_ex (s : ByteArray) (a b : Nat) : bl (s.extract a b) = ((bl s).drop a).take (b - a) := by
  simp [bl, ByteArray.data_extract]
theorem HDS_length (n id fw ttl pr src dst : Int) : (HDS n id fw ttl pr src dst).length = 20 := rfl
theorem whole_size {raw : ByteArray} {n id fw ttl pr src dst : Int} {b : List UInt8} (h : bl raw = HDS n id fw ttl pr src dst ++ b) : raw.size = 20 + b.length := by
  rw [← bl_length, h, List.length_append, HDS_length]
theorem whole_head {raw : ByteArray} {n id fw ttl pr src dst : Int} {b : List UInt8} (h : bl raw = HDS n id fw ttl pr src dst ++ b) : bl (raw.extract 0 20) = HDS n id fw ttl pr src dst := by
  rw [bl_ex, h]; exact List.take_left' rfl
theorem whole_body {raw : ByteArray} {n id fw ttl pr src dst : Int} {b : List UInt8} (h : bl raw = HDS n id fw ttl pr src dst ++ b) : bl (raw.extract 20 raw.size) = b := by
  rw [bl_ex, whole_size h, h]
  have e : (HDS n id fw ttl pr src dst ++ b).drop 20 = b := List.drop_left' rfl
  rw [e, List.take_of_length_le (by omega)]
theorem whole_sum {raw : ByteArray} {n id fw ttl pr src dst : Int} {b : List UInt8} (h : bl raw = HDS n id fw ttl pr src dst ++ b) : sumI (raw.extract 0 20) = 65535 := by
  rw [sumI_bl, whole_head h, HDS_sum]
theorem whole_par {raw : ByteArray} {n id fw ttl pr src dst : Int} {b : List UInt8} (h : bl raw = HDS n id fw ttl pr src dst ++ b) {B : ByteArray} (hB : bl B = b) :
    parP raw = ⟨id % 65536, fw % 65536 / 8192, fw % 65536 % 8192 * 8, ttl % 256, pr % 256, src % 4294967296, dst % 4294967296, B⟩ := by
  obtain ⟨-, -, -, h4, h6, h8, h9, -, h12, h16⟩ := HD_word _ _ _ _ _ _ _ _ _ _ h
  unfold parP
  rw [h4, h6, h8, h9, h12, h16]
  have e : raw.extract 20 raw.size = B := bl_inj (by rw [whole_body h, hB])
  rw [e]
theorem whole_fault {raw : ByteArray} {n id fw ttl pr src dst : Int} {b : List UInt8} (h : bl raw = HDS n id fw ttl pr src dst ++ b) (hn : n = 20 + (b.length : Int)) (hz : b.length ≤ 140) (h1 : 1 ≤ b.length)
    (hf : fw = 0) (ht0 : 2 ≤ ttl) (ht1 : ttl ≤ 255) : rFault raw = 0 := by
  have hs := whole_size h
  unfold rFault
  rw [if_neg (by omega)]
  obtain ⟨h0, -, h2, -, h6, h8, -, -, -, -⟩ := HD_word _ _ _ _ _ _ _ _ (raw.extract 0 20) [] (by rw [List.append_nil]; exact whole_head h)
  have hb : (raw.extract 20 raw.size).size = b.length := by rw [← bl_length, whole_body h]
  unfold pFault
  rw [h0, h2, h6, h8, hb, whole_sum h, hf]
  have e1 : n % 65536 = 20 + (b.length : Int) := by omega
  have e2 : ttl % 256 = ttl := by omega
  rw [e1, e2]
  have e3 : bits .and .i64 (0 % 65536) 32768 = 0 := by decide
  have e4 : bits .and .i64 (0 % 65536) 8192 = 0 := by decide
  rw [e3, e4]
  simp
  omega
theorem whole_piece {raw : ByteArray} {n id fw ttl pr src dst : Int} {b : List UInt8} (h : bl raw = HDS n id fw ttl pr src dst ++ b) (hf : fw = 0) : pieceB (raw.extract 0 20) = false := by
  obtain ⟨-, -, -, -, h6, -, -, -, -, -⟩ := HD_word _ _ _ _ _ _ _ _ (raw.extract 0 20) [] (by rw [List.append_nil]; exact whole_head h)
  unfold pieceB moreB placeI
  rw [h6, hf]
  decide

/-- A UDP message's bytes. -/
def UM (fr to' ln ck : Int) (d : List UInt8) : List UInt8 := [byteOf (fr / 256), byteOf fr, byteOf (to' / 256), byteOf to', byteOf (ln / 256), byteOf ln, byteOf (ck / 256), byteOf ck] ++ d
def addrW (a : Int) : Int := a / 65536 % 65536 + a % 65536
theorem UM_sum (fr to' ln ck : Int) (d : List UInt8) : sumL (UM fr to' ln ck d) = fr % 65536 + to' % 65536 + ln % 65536 + ck % 65536 + sumL d := by
  unfold UM
  simp only [List.cons_append, List.nil_append, sumL, byteOf_int]
  omega
theorem UM_put0 (fr to' ln ck : Int) (d : List UInt8) (v : Int) : (UM fr to' ln ck d).take 0 ++ [byteOf (v / 256), byteOf v] ++ (UM fr to' ln ck d).drop (0 + 2) = UM v to' ln ck d := rfl
theorem UM_put2 (fr to' ln ck : Int) (d : List UInt8) (v : Int) : (UM fr to' ln ck d).take 2 ++ [byteOf (v / 256), byteOf v] ++ (UM fr to' ln ck d).drop (2 + 2) = UM fr v ln ck d := rfl
theorem UM_put6 (fr to' ln ck : Int) (d : List UInt8) (v : Int) : (UM fr to' ln ck d).take 6 ++ [byteOf (v / 256), byteOf v] ++ (UM fr to' ln ck d).drop (6 + 2) = UM fr to' ln v d := rfl
theorem UM_length (fr to' ln ck : Int) (d : List UInt8) : (UM fr to' ln ck d).length = 8 + d.length := by unfold UM; rw [List.length_append]; rfl
theorem UM_words {s : ByteArray} {fr to' ln ck : Int} {d : List UInt8} (h : bl s = UM fr to' ln ck d) : wordAt s 0 = fr % 65536 ∧ wordAt s 2 = to' % 65536 ∧ wordAt s 4 = ln % 65536 ∧ wordAt s 6 = ck % 65536 := by
  have w0 := wordAt_bl s 0
  have w2 := wordAt_bl s 2
  have w4 := wordAt_bl s 4
  have w6 := wordAt_bl s 6
  rw [h] at w0 w2 w4 w6
  exact ⟨w0.trans (two_bytes fr), w2.trans (two_bytes to'), w4.trans (two_bytes ln), w6.trans (two_bytes ck)⟩
theorem bef_sum (pr src dst n : Int) : sumL (bl (befM pr src dst n)) = addrW src + addrW dst + pr % 65536 + n % 65536 := by
  unfold befM addrW
  simp only [bl_app, bl_wide2, bl_wide4, List.cons_append, List.nil_append, sumL, byteOf_int]
  omega
/-- The sum of a UDP message but its checksum, with what is summed besides. -/
def US (src fr dst to' : Int) (d : List UInt8) : Int := fr % 65536 + to' % 65536 + (8 + (d.length : Int)) % 65536 + sumL d + (addrW src + addrW dst + 17 + (8 + (d.length : Int)) % 65536)
def ckU (S : Int) : Int := if 65535 - foldI S = 0 then 65535 else 65535 - foldI S
def UMS (src fr dst to' : Int) (d : List UInt8) : List UInt8 := UM fr to' (8 + (d.length : Int)) (ckU (US src fr dst to' d)) d
theorem US_pos (src fr dst to' : Int) (d : List UInt8) : 17 ≤ US src fr dst to' d := by
  have := sumL_nonneg d
  unfold US addrW; omega
theorem ckU_bd (S : Int) : 1 ≤ ckU S ∧ ckU S ≤ 65535 := by
  have := foldI_bd S
  unfold ckU; split <;> omega
theorem fold_ckU (S : Int) (h : 0 < S) : foldI (S + ckU S) = 65535 := by
  have hs := fold_seal S (by omega)
  unfold ckU
  split
  · rename_i e
    have e1 : foldI S = 65535 := by omega
    have hm := foldI_mod S
    rw [e1] at hm
    unfold foldI
    rw [if_neg (by omega)]
    omega
  · exact hs
theorem bl_udp0 (fr to' : Int) (data : ByteArray) : bl (udp0 fr to' data) = UM fr to' (8 + (data.size : Int)) 0 (bl data) := by
  unfold udp0 UM
  simp only [bl_app, bl_wide2, List.append_assoc]
  rfl
theorem fold_two (a b : Int) (ha : 0 ≤ a) (hb : 0 ≤ b) : foldI (foldI a + foldI b) = foldI (a + b) := by
  rw [fold_fold _ _ (foldI_bd a).1 hb, Int.add_comm, fold_fold _ _ hb ha, Int.add_comm]
theorem bl_udp1 (src fr dst to' : Int) (data : ByteArray) : bl (udp1 src fr dst to' data) = UM fr to' (8 + (data.size : Int)) (65535 - foldI (US src fr dst to' (bl data))) (bl data) := by
  have e1 : bl (putWord (udp0 fr to' data) 6 0) = UM fr to' (8 + (data.size : Int)) 0 (bl data) := by rw [bl_put, bl_udp0, UM_put6]
  have e2 : ksealT (udp0 fr to' data) 6 (befM 17 src dst (udp0 fr to' data).size) = foldI (US src fr dst to' (bl data)) := by
    unfold ksealT
    rw [sumI_bl, sumI_bl, e1, fold_two _ _ (sumL_nonneg _) (sumL_nonneg _), UM_sum, bef_sum, udp0_size]
    unfold US
    rw [bl_length]
    refine congrArg foldI ?_
    omega
  unfold udp1 kseal
  rw [bl_put, bl_udp0, UM_put6, e2]
theorem bl_udpB (src fr dst to' : Int) (data : ByteArray) : bl (udpB src fr dst to' data) = UMS src fr dst to' (bl data) := by
  have h := bl_udp1 src fr dst to' data
  have hw := (UM_words h).2.2.2
  have hb := foldI_bd (US src fr dst to' (bl data))
  have e : (65535 - foldI (US src fr dst to' (bl data))) % 65536 = 65535 - foldI (US src fr dst to' (bl data)) := by omega
  rw [e] at hw
  unfold udpB UMS ckU
  rw [hw, bl_length]
  split
  · rw [bl_put, h, UM_put6]
  · rw [h]
/-- What a UDP message that is right becomes between other ends. -/
theorem bl_btwU {s : ByteArray} {fr to' ck : Int} {d : List UInt8} (hd : d.length ≤ 1000) (h : bl s = UM fr to' (8 + (d.length : Int)) ck d) (hc0 : 1 ≤ ck) (hc1 : ck ≤ 65535) (xa xp ya yp : Int) (hx0 : 0 ≤ xa) (hx1 : xa ≤ 4294967295) (hy0 : 0 ≤ ya) (hy1 : ya ≤ 4294967295) : bl (btwM 17 s xa xp ya yp) = UMS xa xp ya yp d := by
  have h1 : bl (putWord (putWord s 0 xp) 2 yp) = UM xp yp (8 + (d.length : Int)) ck d := by rw [bl_put, bl_put, h, UM_put0, UM_put2]
  have hw := (UM_words h1).2.2.2
  have hw' : ck % 65536 = ck := by omega
  have hs : hasSumB 17 (putWord (putWord s 0 xp) 2 yp) = true := by
    unfold hasSumB
    rw [if_pos rfl, hw, hw']
    simp; omega
  have h2 : bl (putWord (putWord (putWord s 0 xp) 2 yp) 6 0) = UM xp yp (8 + (d.length : Int)) 0 d := by rw [bl_put, h1, UM_put6]
  have hz : (putWord (putWord (putWord s 0 xp) 2 yp) 6 0).size = 8 + d.length := by rw [← bl_length, h2, UM_length]
  have h3 : dSum 17 xa ya (putWord (putWord (putWord s 0 xp) 2 yp) 6 0) = foldI (US xa xp ya yp d) := by
    unfold dSum
    rw [if_neg (by decide), sumI_bl, h2, UM_sum, hz]
    have hd0 := sumL_nonneg d
    have e : ∀ a b : Int, 0 ≤ a → 0 ≤ b → foldI (foldI a + b) = foldI (a + b) := fun a b ha hb => by rw [Int.add_comm, fold_fold _ _ hb ha, Int.add_comm]
    rw [Int.add_assoc, Int.add_assoc, e _ _ (by omega) (by omega)]
    have e1 : xa / 65536 % 65536 = xa / 65536 := by omega
    have e2 : ya / 65536 % 65536 = ya / 65536 := by omega
    unfold US addrW
    rw [e1, e2]
    generalize sumL d = sd
    generalize xa / 65536 + xa % 65536 = ax
    generalize ya / 65536 = ay1
    generalize ya % 65536 = ay2
    refine congrArg foldI ?_
    omega
  have eP : portM 17 s xp yp = putWord (putWord s 0 xp) 2 yp := if_neg (by decide)
  unfold btwM
  rw [eP]
  unfold sealM
  rw [if_neg (by rw [hs]; decide)]
  have e6 : sumAtI 17 = 6 := rfl
  rw [e6, bl_put, h2, UM_put6]
  unfold sealSum
  rw [h3]
  unfold UMS ckU ckI
  simp
theorem udp_right {s : ByteArray} {src fr dst to' : Int} {d : List UInt8} (hd : d.length ≤ 1000) (h : bl s = UMS src fr dst to' d) (hx0 : 0 ≤ src) (hx1 : src ≤ 4294967295) (hy0 : 0 ≤ dst) (hy1 : dst ≤ 4294967295) : dSum 17 src dst s = 65535 := by
  have hb := ckU_bd (US src fr dst to' d)
  have hp := US_pos src fr dst to' d
  have hz : s.size = 8 + d.length := by rw [← bl_length, h]; unfold UMS; rw [UM_length]
  have hf := fold_ckU (US src fr dst to' d) (by omega)
  have hd0 := sumL_nonneg d
  unfold dSum
  rw [if_neg (by decide), sumI_bl, h]
  unfold UMS
  rw [UM_sum, hz]
  have e : ∀ a b : Int, 0 ≤ a → 0 ≤ b → foldI (foldI a + b) = foldI (a + b) := fun a b ha hb => by rw [Int.add_comm, fold_fold _ _ hb ha, Int.add_comm]
  rw [Int.add_assoc, Int.add_assoc, e _ _ (by omega) (by omega)]
  rw [← hf]
  refine congrArg foldI ?_
  have ec : ckU (US src fr dst to' d) % 65536 = ckU (US src fr dst to' d) := by omega
  rw [ec]
  have e1 : src / 65536 % 65536 = src / 65536 := by omega
  have e2 : dst / 65536 % 65536 = dst / 65536 := by omega
  have e3 : US src fr dst to' d = fr % 65536 + to' % 65536 + (8 + (d.length : Int)) % 65536 + sumL d + (addrW src + addrW dst + 17 + (8 + (d.length : Int)) % 65536) := rfl
  generalize ckU (US src fr dst to' d) = c
  rw [e3]
  unfold addrW
  rw [e1, e2]
  omega
theorem udp_fault {s : ByteArray} {src fr dst to' : Int} {d : List UInt8} (hd : d.length ≤ 1000) (h : bl s = UMS src fr dst to' d) (hx0 : 0 ≤ src) (hx1 : src ≤ 4294967295) (hy0 : 0 ≤ dst) (hy1 : dst ≤ 4294967295) (hf0 : 1 ≤ fr) (hf1 : fr ≤ 65535) (ht0 : 1 ≤ to') (ht1 : to' ≤ 65535) : dFault 17 src (wordAt s 0) dst (wordAt s 2) s = 0 := by
  obtain ⟨w0, w2, w4, w6⟩ := UM_words h
  have hz : s.size = 8 + d.length := by rw [← bl_length, h]; unfold UMS; rw [UM_length]
  have e0 : fr % 65536 = fr := by omega
  have e2 : to' % 65536 = to' := by omega
  have e4 : (8 + (d.length : Int)) % 65536 = 8 + (d.length : Int) := by omega
  have hfm : formedB 17 (wordAt s 0) (wordAt s 2) s = true := by
    unfold formedB
    rw [w0, w2, w4, e0, e2, e4, hz, if_neg (by decide), if_neg (by omega), if_pos rfl]
    simp
  unfold dFault
  rw [hfm, udp_right hd h hx0 hx1 hy0 hy1]
  simp
theorem udp_hon {s : ByteArray} {src fr dst to' : Int} {d : List UInt8} (h : bl s = UMS src fr dst to' d) (p : PK) (hp : p.pr = 17) (hs : p.src = src) (hds : p.dst = dst) (hB : p.body = s) : honB p = true := by
  obtain ⟨-, -, -, w6⟩ := UM_words h
  have hb := ckU_bd (US src fr dst to' d)
  have hpos := US_pos src fr dst to' d
  have hf := fold_ckU (US src fr dst to' d) (by omega)
  have hz : s.size = 8 + d.length := by rw [← bl_length, h]; unfold UMS; rw [UM_length]
  have hd0 := sumL_nonneg d
  have hsum : foldI (sumI s + sumI (befM 17 src dst s.size)) = 65535 := by
    rw [sumI_bl, sumI_bl, fold_two _ _ (sumL_nonneg _) (sumL_nonneg _), bef_sum, h]
    unfold UMS
    rw [UM_sum, hz, ← hf]
    refine congrArg foldI ?_
    have ec : ckU (US src fr dst to' d) % 65536 = ckU (US src fr dst to' d) := by omega
    rw [ec]
    have e3 : US src fr dst to' d = fr % 65536 + to' % 65536 + (8 + (d.length : Int)) % 65536 + sumL d + (addrW src + addrW dst + 17 + (8 + (d.length : Int)) % 65536) := rfl
    generalize ckU (US src fr dst to' d) = c
    rw [e3]
    omega
  have b1 := sumI_bd s
  have b2 := sumI_bd (befM 17 src dst s.size)
  unfold honB
  rw [hp, hs, hds, hB]
  have ec : ckU (US src fr dst to' d) % 65536 = ckU (US src fr dst to' d) := by omega
  rw [if_neg (by rw [w6, ec]; omega), if_neg (by decide)]
  have ht : 0 ≤ sumI s + sumI (befM 17 src dst s.size) ∧ sumI s + sumI (befM 17 src dst s.size) ≤ 131070 := by omega
  generalize sumI s + sumI (befM 17 src dst s.size) = t at hsum ht
  have : t = 65535 ∨ t = 131070 := by
    unfold foldI at hsum
    split at hsum <;> omega
  rcases this with h | h <;> simp [h]

/-- A TCP message's bytes. -/
def TM (fr to' fg ck : Int) (d : List UInt8) : List UInt8 := [byteOf (fr / 256), byteOf fr, byteOf (to' / 256), byteOf to', 0, 0, 0, 5, 0, 0, 0, 6, 80, byteOf fg, 17, 17, byteOf (ck / 256), byteOf ck, 0, 0] ++ d
theorem TM_sum (fr to' fg ck : Int) (d : List UInt8) : sumL (TM fr to' fg ck d) = fr % 65536 + to' % 65536 + (24860 + fg % 256) + ck % 65536 + sumL d := by
  unfold TM
  simp only [List.cons_append, List.nil_append, sumL, byteOf_int]
  have e0 : ((0 : UInt8).toNat : Int) = 0 := rfl
  have e5 : ((5 : UInt8).toNat : Int) = 5 := rfl
  have e6 : ((6 : UInt8).toNat : Int) = 6 := rfl
  have e80 : ((80 : UInt8).toNat : Int) = 80 := rfl
  have e17 : ((17 : UInt8).toNat : Int) = 17 := rfl
  rw [e0, e5, e6, e80, e17]
  omega
theorem TM_put0 (fr to' fg ck : Int) (d : List UInt8) (v : Int) : (TM fr to' fg ck d).take 0 ++ [byteOf (v / 256), byteOf v] ++ (TM fr to' fg ck d).drop (0 + 2) = TM v to' fg ck d := rfl
theorem TM_put2 (fr to' fg ck : Int) (d : List UInt8) (v : Int) : (TM fr to' fg ck d).take 2 ++ [byteOf (v / 256), byteOf v] ++ (TM fr to' fg ck d).drop (2 + 2) = TM fr v fg ck d := rfl
theorem TM_put16 (fr to' fg ck : Int) (d : List UInt8) (v : Int) : (TM fr to' fg ck d).take 16 ++ [byteOf (v / 256), byteOf v] ++ (TM fr to' fg ck d).drop (16 + 2) = TM fr to' fg v d := rfl
theorem TM_length (fr to' fg ck : Int) (d : List UInt8) : (TM fr to' fg ck d).length = 20 + d.length := by unfold TM; rw [List.length_append]; rfl
theorem TM_words {s : ByteArray} {fr to' fg ck : Int} {d : List UInt8} (h : bl s = TM fr to' fg ck d) : wordAt s 0 = fr % 65536 ∧ wordAt s 2 = to' % 65536 ∧ byteAt s 12 = 80 ∧ byteAt s 13 = fg % 256 := by
  have w0 := wordAt_bl s 0
  have w2 := wordAt_bl s 2
  have w12 := byteAt_bl s 12
  have w13 := byteAt_bl s 13
  rw [h] at w0 w2 w12 w13
  exact ⟨w0.trans (two_bytes fr), w2.trans (two_bytes to'), w12, w13.trans (byteOf_int fg)⟩
/-- The sum of a TCP message but its checksum, with what is summed besides. -/
def TS (src fr dst to' fg : Int) (d : List UInt8) : Int := fr % 65536 + to' % 65536 + (24860 + fg % 256) + sumL d + (addrW src + addrW dst + 6 + (20 + (d.length : Int)) % 65536)
def TMS (src fr dst to' fg : Int) (d : List UInt8) : List UInt8 := TM fr to' fg (65535 - foldI (TS src fr dst to' fg d)) d
theorem TS_pos (src fr dst to' fg : Int) (d : List UInt8) : 24860 ≤ TS src fr dst to' fg d := by
  have := sumL_nonneg d
  unfold TS addrW; omega
theorem bl_tcp0 (fr to' fg : Int) (data : ByteArray) : bl (tcp0 fr to' fg data) = TM fr to' fg 0 (bl data) := by
  unfold tcp0 TM
  simp only [bl_app, bl_wide2, bl_wide1, List.append_assoc]
  rfl
theorem bl_tcpB (src fr dst to' fg : Int) (data : ByteArray) : bl (tcpB src fr dst to' fg data) = TMS src fr dst to' fg (bl data) := by
  have e1 : bl (putWord (tcp0 fr to' fg data) 16 0) = TM fr to' fg 0 (bl data) := by rw [bl_put, bl_tcp0, TM_put16]
  have e2 : ksealT (tcp0 fr to' fg data) 16 (befM 6 src dst (tcp0 fr to' fg data).size) = foldI (TS src fr dst to' fg (bl data)) := by
    unfold ksealT
    rw [sumI_bl, sumI_bl, e1, fold_two _ _ (sumL_nonneg _) (sumL_nonneg _), TM_sum, bef_sum, tcp0_size]
    unfold TS
    rw [bl_length]
    refine congrArg foldI ?_
    omega
  unfold tcpB kseal
  rw [bl_put, bl_tcp0, TM_put16, e2]
  rfl
theorem bl_btwT {s : ByteArray} {fr to' fg ck : Int} {d : List UInt8} (hd : d.length ≤ 1000) (h : bl s = TM fr to' fg ck d) (xa xp ya yp : Int) (hx0 : 0 ≤ xa) (hx1 : xa ≤ 4294967295) (hy0 : 0 ≤ ya) (hy1 : ya ≤ 4294967295) : bl (btwM 6 s xa xp ya yp) = TMS xa xp ya yp fg d := by
  have h1 : bl (putWord (putWord s 0 xp) 2 yp) = TM xp yp fg ck d := by rw [bl_put, bl_put, h, TM_put0, TM_put2]
  have hs : hasSumB 6 (putWord (putWord s 0 xp) 2 yp) = true := rfl
  have h2 : bl (putWord (putWord (putWord s 0 xp) 2 yp) 16 0) = TM xp yp fg 0 d := by rw [bl_put, h1, TM_put16]
  have hz : (putWord (putWord (putWord s 0 xp) 2 yp) 16 0).size = 20 + d.length := by rw [← bl_length, h2, TM_length]
  have h3 : dSum 6 xa ya (putWord (putWord (putWord s 0 xp) 2 yp) 16 0) = foldI (TS xa xp ya yp fg d) := by
    unfold dSum
    rw [if_neg (by decide), sumI_bl, h2, TM_sum, hz]
    have hd0 := sumL_nonneg d
    have e : ∀ a b : Int, 0 ≤ a → 0 ≤ b → foldI (foldI a + b) = foldI (a + b) := fun a b ha hb => by rw [Int.add_comm, fold_fold _ _ hb ha, Int.add_comm]
    rw [Int.add_assoc, Int.add_assoc, e _ _ (by omega) (by omega)]
    have e1 : xa / 65536 % 65536 = xa / 65536 := by omega
    have e2 : ya / 65536 % 65536 = ya / 65536 := by omega
    unfold TS addrW
    rw [e1, e2]
    generalize sumL d = sd
    generalize xa / 65536 + xa % 65536 = ax
    generalize ya / 65536 = ay1
    generalize ya % 65536 = ay2
    refine congrArg foldI ?_
    omega
  have eP : portM 6 s xp yp = putWord (putWord s 0 xp) 2 yp := if_neg (by decide)
  unfold btwM
  rw [eP]
  unfold sealM
  rw [if_neg (by rw [hs]; decide)]
  have e6 : sumAtI 6 = 16 := rfl
  rw [e6, bl_put, h2, TM_put16]
  unfold sealSum
  rw [h3]
  unfold ckI
  rw [if_neg (by omega)]
  rfl
theorem tcp_right {s : ByteArray} {src fr dst to' fg : Int} {d : List UInt8} (hd : d.length ≤ 1000) (h : bl s = TMS src fr dst to' fg d) (hx0 : 0 ≤ src) (hx1 : src ≤ 4294967295) (hy0 : 0 ≤ dst) (hy1 : dst ≤ 4294967295) : dSum 6 src dst s = 65535 := by
  have hb := foldI_bd (TS src fr dst to' fg d)
  have hp := TS_pos src fr dst to' fg d
  have hz : s.size = 20 + d.length := by rw [← bl_length, h]; unfold TMS; rw [TM_length]
  have hf := fold_seal (TS src fr dst to' fg d) (by omega)
  have hd0 := sumL_nonneg d
  unfold dSum
  rw [if_neg (by decide), sumI_bl, h]
  unfold TMS
  rw [TM_sum, hz]
  have e : ∀ a b : Int, 0 ≤ a → 0 ≤ b → foldI (foldI a + b) = foldI (a + b) := fun a b ha hb => by rw [Int.add_comm, fold_fold _ _ hb ha, Int.add_comm]
  rw [Int.add_assoc, Int.add_assoc, e _ _ (by omega) (by omega)]
  refine Eq.trans (congrArg foldI ?_) hf
  have ec : (65535 - foldI (TS src fr dst to' fg d)) % 65536 = 65535 - foldI (TS src fr dst to' fg d) := by omega
  rw [ec]
  have e1 : src / 65536 % 65536 = src / 65536 := by omega
  have e2 : dst / 65536 % 65536 = dst / 65536 := by omega
  have e3 : TS src fr dst to' fg d = fr % 65536 + to' % 65536 + (24860 + fg % 256) + sumL d + (addrW src + addrW dst + 6 + (20 + (d.length : Int)) % 65536) := rfl
  generalize foldI (TS src fr dst to' fg d) = c
  rw [e3]
  unfold addrW
  rw [e1, e2]
  omega
theorem tcp_fault {s : ByteArray} {src fr dst to' fg : Int} {d : List UInt8} (hd : d.length ≤ 1000) (h : bl s = TMS src fr dst to' fg d) (hx0 : 0 ≤ src) (hx1 : src ≤ 4294967295) (hy0 : 0 ≤ dst) (hy1 : dst ≤ 4294967295) (hf0 : 1 ≤ fr) (hf1 : fr ≤ 65535) (ht0 : 1 ≤ to') (ht1 : to' ≤ 65535) : dFault 6 src (wordAt s 0) dst (wordAt s 2) s = 0 := by
  obtain ⟨w0, w2, w12, -⟩ := TM_words h
  have hz : s.size = 20 + d.length := by rw [← bl_length, h]; unfold TMS; rw [TM_length]
  have e0 : fr % 65536 = fr := by omega
  have e2 : to' % 65536 = to' := by omega
  have hfm : formedB 6 (wordAt s 0) (wordAt s 2) s = true := by
    unfold formedB
    rw [w0, w2, w12, e0, e2, hz, if_neg (by decide), if_neg (by omega), if_neg (by decide)]
    have : (80 : Int) / 16 * 4 = 20 := by decide
    rw [this]
    simp
    omega
  unfold dFault
  rw [hfm, tcp_right hd h hx0 hx1 hy0 hy1]
  simp
theorem tcp_hon {s : ByteArray} {src fr dst to' fg : Int} {d : List UInt8} (h : bl s = TMS src fr dst to' fg d) (p : PK) (hp : p.pr = 6) (hs : p.src = src) (hds : p.dst = dst) (hB : p.body = s) : honB p = true := by
  have hb := foldI_bd (TS src fr dst to' fg d)
  have hpos := TS_pos src fr dst to' fg d
  have hf := fold_seal (TS src fr dst to' fg d) (by omega)
  have hz : s.size = 20 + d.length := by rw [← bl_length, h]; unfold TMS; rw [TM_length]
  have hd0 := sumL_nonneg d
  have hsum : foldI (sumI s + sumI (befM 6 src dst s.size)) = 65535 := by
    rw [sumI_bl, sumI_bl, fold_two _ _ (sumL_nonneg _) (sumL_nonneg _), bef_sum, h]
    unfold TMS
    rw [TM_sum, hz]
    refine Eq.trans (congrArg foldI ?_) hf
    have ec : (65535 - foldI (TS src fr dst to' fg d)) % 65536 = 65535 - foldI (TS src fr dst to' fg d) := by omega
    rw [ec]
    have e3 : TS src fr dst to' fg d = fr % 65536 + to' % 65536 + (24860 + fg % 256) + sumL d + (addrW src + addrW dst + 6 + (20 + (d.length : Int)) % 65536) := rfl
    generalize foldI (TS src fr dst to' fg d) = c
    rw [e3]
    omega
  have b1 := sumI_bd s
  have b2 := sumI_bd (befM 6 src dst s.size)
  unfold honB
  rw [hp, hs, hds, hB]
  rw [if_neg (by omega), if_neg (by decide)]
  have ht : 0 ≤ sumI s + sumI (befM 6 src dst s.size) ∧ sumI s + sumI (befM 6 src dst s.size) ≤ 131070 := by omega
  generalize sumI s + sumI (befM 6 src dst s.size) = t at hsum ht
  have : t = 65535 ∨ t = 131070 := by
    unfold foldI at hsum
    split at hsum <;> omega
  rcases this with h | h <;> simp [h]

end Go.Proofs.YtfkjobiapjhacabGreat
