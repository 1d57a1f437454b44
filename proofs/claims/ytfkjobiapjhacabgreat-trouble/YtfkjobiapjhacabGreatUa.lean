/- Errors about packets, purely. Own work. -/
import Derived.Test.YtfkjobiapjhacabGreatKpZ
import Derived.Test.YtfkjobiapjhacabGreatTg
namespace Go.Proofs.YtfkjobiapjhacabGreat
open Go.RowKit

theorem fold_congr (a b : Int) (ha : 0 < a) (hb : 0 < b) (h : (a - b) % 65535 = 0) : foldI a = foldI b := by
  unfold foldI
  rw [if_neg (by omega), if_neg (by omega)]
  omega
/-- An error's bytes: kind, code 1, checksum, four of 0, and the packet. -/
def XM (kd ck : Int) (d : List UInt8) : List UInt8 := [byteOf kd, 1, byteOf (ck / 256), byteOf ck, 0, 0, 0, 0] ++ d
theorem XM_sum (kd ck : Int) (d : List UInt8) : sumL (XM kd ck d) = kd % 256 * 256 + 1 + ck % 65536 + sumL d := by
  unfold XM
  simp only [List.cons_append, List.nil_append, sumL, byteOf_int]
  have e0 : ((0 : UInt8).toNat : Int) = 0 := rfl
  have e1 : ((1 : UInt8).toNat : Int) = 1 := rfl
  rw [e0, e1]
  omega
theorem XM_put2 (kd ck : Int) (d : List UInt8) (v : Int) : (XM kd ck d).take 2 ++ [byteOf (v / 256), byteOf v] ++ (XM kd ck d).drop (2 + 2) = XM kd v d := rfl
theorem XM_length (kd ck : Int) (d : List UInt8) : (XM kd ck d).length = 8 + d.length := by unfold XM; rw [List.length_append]; rfl
def XS (kd : Int) (d : List UInt8) : Int := kd % 256 * 256 + 1 + sumL d
def XMS (kd : Int) (d : List UInt8) : List UInt8 := XM kd (65535 - foldI (XS kd d)) d
theorem XMS_length (kd : Int) (d : List UInt8) : (XMS kd d).length = 8 + d.length := by unfold XMS; rw [XM_length]
theorem XMS_sum (kd : Int) (d : List UInt8) : foldI (sumL (XMS kd d)) = 65535 := by
  have hd := sumL_nonneg d
  have hb := foldI_bd (XS kd d)
  have hf := fold_seal (XS kd d) (by unfold XS; omega)
  unfold XMS
  rw [XM_sum]
  refine Eq.trans (congrArg foldI ?_) hf
  have ec : (65535 - foldI (XS kd d)) % 65536 = 65535 - foldI (XS kd d) := by omega
  rw [ec]
  have e3 : XS kd d = kd % 256 * 256 + 1 + sumL d := rfl
  generalize foldI (XS kd d) = c
  rw [e3]
  omega
def err0 (kd : Int) (raw : ByteArray) : ByteArray := wideI kd 1 ++ ⟨#[1, 0, 0, 0, 0, 0, 0]⟩ ++ raw
def errB' (kd : Int) (raw : ByteArray) : ByteArray := kseal (err0 kd raw) 2 ⟨#[]⟩
theorem bl_err0 (kd : Int) (raw : ByteArray) : bl (err0 kd raw) = XM kd 0 (bl raw) := by
  unfold err0 XM
  simp only [bl_app, bl_wide1, List.append_assoc]
  rfl
theorem bl_kseal2 {s : ByteArray} {kd ck : Int} {d : List UInt8} (h : bl s = XM kd ck d) : bl (kseal s 2 ⟨#[]⟩) = XMS kd d := by
  have e1 : bl (putWord s 2 0) = XM kd 0 d := by rw [bl_put, h, XM_put2]
  have hd := sumL_nonneg d
  have e2 : ksealT s 2 ⟨#[]⟩ = foldI (XS kd d) := by
    unfold ksealT
    rw [sumI_bl, e1, XM_sum, sumI_nil]
    have := fold_fold 0 (kd % 256 * 256 + 1 + 0 % 65536 + sumL d) (by decide) (by omega)
    rw [Int.zero_add, Int.zero_add] at this
    rw [Int.add_zero, this]
    unfold XS
    refine congrArg foldI ?_
    omega
  unfold kseal
  rw [bl_put, h, XM_put2, e2]
  rfl
theorem bl_errB (kd : Int) (raw : ByteArray) : bl (errB' kd raw) = XMS kd (bl raw) := bl_kseal2 (bl_err0 kd raw)
theorem errB_size (kd : Int) (raw : ByteArray) : (errB' kd raw).size = 8 + raw.size := by rw [← bl_length, bl_errB, XMS_length, bl_length]
theorem bl_seal1 {s : ByteArray} {kd ck : Int} {d : List UInt8} (h : bl s = XM kd ck d) (x y : Int) : bl (sealM 1 x y s) = XMS kd d := by
  have h2 : bl (putWord s 2 0) = XM kd 0 d := by rw [bl_put, h, XM_put2]
  have hs : hasSumB 1 s = true := rfl
  have h3 : dSum 1 x y (putWord s 2 0) = foldI (XS kd d) := by
    show sumI _ = _
    rw [sumI_bl, h2, XM_sum]
    unfold XS
    refine congrArg foldI ?_
    omega
  unfold sealM
  rw [if_neg (by rw [hs]; decide)]
  have e2 : sumAtI 1 = 2 := rfl
  rw [e2, bl_put, h2, XM_put2]
  unfold sealSum
  rw [h3]
  unfold ckI
  rw [if_neg (fun h => absurd h.2 (by decide))]
  rfl
/-- What an error says of itself. -/
theorem X_kind {M : ByteArray} {kd ck : Int} {d : List UInt8} (h : bl M = XM kd ck d) (hk : kd = 3 ∨ kd = 11 ∨ kd = 12) : errB 1 M = true ∧ portsOf 1 M = (0, 0) := by
  have b0 : byteAt M 0 = kd := by
    have := byteAt_bl M 0
    rw [h] at this
    exact (this.trans (byteOf_int kd)).trans (by omega)
  constructor
  · unfold errB
    rw [b0]
    rcases hk with rfl | rfl | rfl <;> rfl
  · rw [portsOf_icmp]
    unfold numb
    rw [b0]
    rcases hk with rfl | rfl | rfl <;> rfl
theorem X_fault {M : ByteArray} {kd : Int} {d : List UInt8} (h : bl M = XMS kd d) (src dst fp tp : Int) : dFault 1 src fp dst tp M = 0 := by
  have hz : M.size = 8 + d.length := by rw [← bl_length, h, XMS_length]
  have hs : dSum 1 src dst M = 65535 := by
    show sumI M = 65535
    rw [sumI_bl, h, XMS_sum]
  have hf : formedB 1 fp tp M = true := by
    show decide (8 ≤ M.size) = true
    exact decide_eq_true (by omega)
  unfold dFault
  rw [hf, hs]
  simp
/-- The packet that an error is about. -/
theorem X_about {M B : ByteArray} {kd ck n id ttl pr s d : Int} (h : bl M = XM kd ck (HDS n id 0 ttl pr s d ++ bl B)) (h8 : 8 ≤ B.size) (hp : pr = 1 ∨ pr = 6 ∨ pr = 17) (s0 : 0 ≤ s) (s1 : s ≤ 4294967295) (d0 : 0 ≤ d) (d1 : d ≤ 4294967295) :
    abOK M = true ∧ bl (abH M) = HDS n id 0 ttl pr s d ∧ abB M = B ∧ byteAt (abR M) 9 = pr ∧ addrAt (abR M) 12 = s ∧ addrAt (abR M) 16 = d ∧ bl (M.extract 0 8) = XM kd ck [] := by
  have hz : M.size = 28 + B.size := by rw [← bl_length, h, XM_length, List.length_append, HDS_length, bl_length]; omega
  have hR : bl (abR M) = HDS n id 0 ttl pr s d ++ bl B := by
    unfold abR
    rw [bl_ex, h, hz]
    have e : (XM kd ck (HDS n id 0 ttl pr s d ++ bl B)).drop 8 = HDS n id 0 ttl pr s d ++ bl B := rfl
    rw [e, List.take_of_length_le (by rw [List.length_append, HDS_length, bl_length]; omega)]
  have hH : bl (abH M) = HDS n id 0 ttl pr s d := whole_head hR
  have hB : abB M = B := bl_inj (whole_body hR)
  obtain ⟨-, -, -, -, -, -, h9, -, h12, h16⟩ := HD_word _ _ _ _ _ _ _ _ _ _ hR
  obtain ⟨g0, -, -, -, g6, -, -, -, -, -⟩ := HD_word _ _ _ _ _ _ _ _ (abH M) [] (by rw [List.append_nil]; exact hH)
  have e9 : byteAt (abR M) 9 = pr := h9.trans (by omega)
  have hs : sumI (abH M) = 65535 := by rw [sumI_bl, hH, HDS_sum]
  refine ⟨?_, hH, hB, e9, h12.trans (by omega), h16.trans (by omega), ?_⟩
  · unfold abOK
    rw [g0, hs, e9, g6, decide_eq_true (show 36 ≤ M.size by omega)]
    have e6 : bits .and .i64 (0 % 65536) 8191 = 0 := by decide
    rw [e6]
    rcases hp with rfl | rfl | rfl <;> rfl
  · rw [bl_ex, h]
    rfl
/-- What becomes of an error's message. -/
theorem X_ret {M B B' : ByteArray} {kd ck n id ttl pr s d : Int} (h : bl M = XM kd ck (HDS n id 0 ttl pr s d ++ bl B)) (h8 : 8 ≤ B.size) (hp : pr = 1 ∨ pr = 6 ∨ pr = 17) (s0 : 0 ≤ s) (s1 : s ≤ 4294967295) (d0 : 0 ≤ d) (d1 : d ≤ 4294967295)
    (src dst xa xp ya yp : Int) (hs : shiftM pr s (portsOf pr B).1 d (portsOf pr B).2 B xa xp ya yp = B') : bl (retM M src dst xa xp ya yp) = XMS kd (HDS n id 0 ttl pr xa ya ++ bl B') := by
  obtain ⟨-, hH, hB, h9, h12, h16, h08⟩ := X_about h h8 hp s0 s1 d0 d1
  unfold retM
  rw [h9, h12, h16, hB, hs]
  apply bl_seal1 (ck := ck)
  rw [bl_app, bl_app, h08, bl_addrHead _ _ _ _ _ _ _ _ _ _ _ hH]
  unfold XM
  simp only [List.append_nil, List.nil_append, List.cons_append]
theorem err_np (g o : Int) (M : ByteArray) : pieceB ((rawP ⟨3, 0, 0, 40, 1, g, o, M⟩).extract 0 20) = false := by
  refine whole_piece (n := 20 + (M.size : Int)) (id := 3) (fw := 0) (ttl := 40) (pr := 1) (src := g) (dst := o) (b := bl M) ?_ rfl
  have e0 : flagW 0 0 = 0 := by decide
  rw [bl_rawP]
  simp only [e0]
theorem err_hand (s : BX) (g : Int) (M : ByteArray) (kd : Int) (d : List UInt8) (h : bl M = XMS kd d) (hk : kd = 3 ∨ kd = 11 ∨ kd = 12) (hd : d.length ≤ 120) (g0 : 0 ≤ g) (g1 : g ≤ 4294967295) (o0 : 0 ≤ s.ou) (o1 : s.ou ≤ 4294967295) (hmay : mayB s 1 g s.ou = true) :
    handM s 1 (rawP ⟨3, 0, 0, 40, 1, g, s.ou, M⟩) = wayH (rawP ⟨3, 0, 0, 40, 1, g, s.ou, M⟩) (trW s 1 1 g 0 s.ou 0 M) s.l ∧ (∀ src dst, bl (onHead ((rawP ⟨3, 0, 0, 40, 1, g, s.ou, M⟩).extract 0 20) src dst) = HDS (20 + (M.size : Int)) 3 0 39 1 src dst) := by
  have hz : M.size = 8 + d.length := by rw [← bl_length, h, XMS_length]
  have hbl : bl (rawP ⟨3, 0, 0, 40, 1, g, s.ou, M⟩) = HDS (20 + (M.size : Int)) 3 0 40 1 g s.ou ++ bl M := by
    have e0 : flagW 0 0 = 0 := by decide
    rw [bl_rawP]
    simp only [e0]
  have hbz : (bl M).length = M.size := bl_length M
  have hft : rFault (rawP ⟨3, 0, 0, 40, 1, g, s.ou, M⟩) = 0 := whole_fault hbl (by rw [hbz]) (by rw [hbz]; omega) (by rw [hbz]; omega) rfl (by decide) (by decide)
  have hpc : pieceB ((rawP ⟨3, 0, 0, 40, 1, g, s.ou, M⟩).extract 0 20) = false := whole_piece hbl rfl
  obtain ⟨-, -, -, -, -, -, h9, -, h12, h16⟩ := HD_word _ _ _ _ _ _ _ _ _ _ hbl
  have e9 : byteAt (rawP ⟨3, 0, 0, 40, 1, g, s.ou, M⟩) 9 = 1 := h9
  have e12 : addrAt (rawP ⟨3, 0, 0, 40, 1, g, s.ou, M⟩) 12 = g := h12.trans (by omega)
  have e16 : addrAt (rawP ⟨3, 0, 0, 40, 1, g, s.ou, M⟩) 16 = s.ou := h16.trans (by omega)
  have eb : (rawP ⟨3, 0, 0, 40, 1, g, s.ou, M⟩).extract 20 (rawP ⟨3, 0, 0, 40, 1, g, s.ou, M⟩).size = M := bl_inj (whole_body hbl)
  obtain ⟨k1, k4⟩ := X_kind h hk
  have hdf := X_fault h g s.ou 0 0
  have hon : ∀ src dst, bl (onHead ((rawP ⟨3, 0, 0, 40, 1, g, s.ou, M⟩).extract 0 20) src dst) = HDS (20 + (M.size : Int)) 3 0 39 1 src dst := fun src dst => bl_onHead _ _ _ _ _ _ _ _ _ _ _ (whole_head hbl)
  refine ⟨?_, hon⟩
  clear hon hbl
  generalize rawP ⟨3, 0, 0, 40, 1, g, s.ou, M⟩ = R at *
  unfold handM
  rw [if_neg (by omega), if_neg (by simp [hft]), e12, e16, if_neg (by simp [hmay]), e9, if_neg (by decide), if_neg (by simp [hpc])]
  unfold wholeW wholeL
  rw [e9, e12, e16, eb, k4]
  simp only
  unfold routeW routeL
  have e1 : ¬ ¬ dFault 1 g 0 s.ou 0 M = 0 := by rw [hdf]; simp
  rw [if_neg e1, if_neg e1, if_pos k1, if_pos k1]
end Go.Proofs.YtfkjobiapjhacabGreat
