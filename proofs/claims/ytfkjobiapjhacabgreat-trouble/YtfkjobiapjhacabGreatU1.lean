/- Own work. -/
import Derived.Test.YtfkjobiapjhacabGreatKpZ
import Derived.Test.YtfkjobiapjhacabGreatTg
/- Errors about packets, purely. Own work. -/
namespace Go.Proofs.YtfkjobiapjhacabGreat
open Go.RowKit

theorem fold_congr (a b : Int) (ha : 0 < a) (hb : 0 < b) (h : (a - b) % 65535 = 0) : foldI a = foldI b := by
  unfold foldI
  rw [if_neg (by omega), if_neg (by omega)]
  omega
/-- An error's bytes: kind, code 1, checksum, four of 0, and the packet. -/
def XM (kd ck : Int) (d : List UInt8) : List UInt8 := [byteOf kd, 1, byteOf (ck / 256), byteOf ck, 0, 0, 0, 0] ++ d
theorem XM_sum (kd ck : Int) (d : List UInt8) : sumL (XM kd ck d) = kd % 256 * 256 + 1 + ck % 65536 + sumL d := by
  unfold XM
  simp only [List.cons_append, List.nil_append, sumL, byteOf_int]
  have e0 : ((0 : UInt8).toNat : Int) = 0 := rfl
  have e1 : ((1 : UInt8).toNat : Int) = 1 := rfl
  rw [e0, e1]
  omega
theorem XM_put2 (kd ck : Int) (d : List UInt8) (v : Int) : (XM kd ck d).take 2 ++ [byteOf (v / 256), byteOf v] ++ (XM kd ck d).drop (2 + 2) = XM kd v d := rfl
theorem XM_length (kd ck : Int) (d : List UInt8) : (XM kd ck d).length = 8 + d.length := by unfold XM; rw [List.length_append]; rfl
def XS (kd : Int) (d : List UInt8) : Int := kd % 256 * 256 + 1 + sumL d
def XMS (kd : Int) (d : List UInt8) : List UInt8 := XM kd (65535 - foldI (XS kd d)) d
theorem XMS_length (kd : Int) (d : List UInt8) : (XMS kd d).length = 8 + d.length := by unfold XMS; rw [XM_length]
theorem XMS_sum (kd : Int) (d : List UInt8) : foldI (sumL (XMS kd d)) = 65535 := by
  have hd := sumL_nonneg d
  have hb := foldI_bd (XS kd d)
  have hf := fold_seal (XS kd d) (by unfold XS; omega)
  unfold XMS
  rw [XM_sum]
  refine Eq.trans (congrArg foldI ?_) hf
  have ec : (65535 - foldI (XS kd d)) % 65536 = 65535 - foldI (XS kd d) := by omega
  rw [ec]
  have e3 : XS kd d = kd % 256 * 256 + 1 + sumL d := rfl
  generalize foldI (XS kd d) = c
  rw [e3]
  omega
def err0 (kd : Int) (raw : ByteArray) : ByteArray := wideI kd 1 ++ ⟨#[1, 0, 0, 0, 0, 0, 0]⟩ ++ raw
def errB' (kd : Int) (raw : ByteArray) : ByteArray := kseal (err0 kd raw) 2 ⟨#[]⟩
theorem bl_err0 (kd : Int) (raw : ByteArray) : bl (err0 kd raw) = XM kd 0 (bl raw) := by
  unfold err0 XM
  simp only [bl_app, bl_wide1, List.append_assoc]
  rfl
theorem bl_kseal2 {s : ByteArray} {kd ck : Int} {d : List UInt8} (h : bl s = XM kd ck d) : bl (kseal s 2 ⟨#[]⟩) = XMS kd d := by
  have e1 : bl (putWord s 2 0) = XM kd 0 d := by rw [bl_put, h, XM_put2]
  have hd := sumL_nonneg d
  have e2 : ksealT s 2 ⟨#[]⟩ = foldI (XS kd d) := by
    unfold ksealT
    rw [sumI_bl, e1, XM_sum, sumI_nil]
    have := fold_fold 0 (kd % 256 * 256 + 1 + 0 % 65536 + sumL d) (by decide) (by omega)
    rw [Int.zero_add, Int.zero_add] at this
    rw [Int.add_zero, this]
    unfold XS
    refine congrArg foldI ?_
    omega
  unfold kseal
  rw [bl_put, h, XM_put2, e2]
  rfl
theorem bl_errB (kd : Int) (raw : ByteArray) : bl (errB' kd raw) = XMS kd (bl raw) := bl_kseal2 (bl_err0 kd raw)
theorem errB_size (kd : Int) (raw : ByteArray) : (errB' kd raw).size = 8 + raw.size := by rw [← bl_length, bl_errB, XMS_length, bl_length]
theorem bl_seal1 {s : ByteArray} {kd ck : Int} {d : List UInt8} (h : bl s = XM kd ck d) (x y : Int) : bl (sealM 1 x y s) = XMS kd d := by
  have h2 : bl (putWord s 2 0) = XM kd 0 d := by rw [bl_put, h, XM_put2]
  have hs : hasSumB 1 s = true := rfl
  have h3 : dSum 1 x y (putWord s 2 0) = foldI (XS kd d) := by
    show sumI _ = _
    rw [sumI_bl, h2, XM_sum]
    unfold XS
    refine congrArg foldI ?_
    omega
  unfold sealM
  rw [if_neg (by rw [hs]; decide)]
  have e2 : sumAtI 1 = 2 := rfl
  rw [e2, bl_put, h2, XM_put2]
  unfold sealSum
  rw [h3]
  unfold ckI
  rw [if_neg (fun h => absurd h.2 (by decide))]
  rfl
/-- What an error says of itself. -/
theorem X_kind {M : ByteArray} {kd ck : Int} {d : List UInt8} (h : bl M = XM kd ck d) (hk : kd = 3 ∨ kd = 11 ∨ kd = 12) : errB 1 M = true ∧ portsOf 1 M = (0, 0) := by
  have b0 : byteAt M 0 = kd := by
    have := byteAt_bl M 0
    rw [h] at this
    exact (this.trans (byteOf_int kd)).trans (by omega)
  constructor
  · unfold errB
    rw [b0]
    rcases hk with rfl | rfl | rfl <;> rfl
  · rw [portsOf_icmp]
    unfold numb
    rw [b0]
    rcases hk with rfl | rfl | rfl <;> rfl
theorem X_fault {M : ByteArray} {kd : Int} {d : List UInt8} (h : bl M = XMS kd d) (src dst fp tp : Int) : dFault 1 src fp dst tp M = 0 := by
  have hz : M.size = 8 + d.length := by rw [← bl_length, h, XMS_length]
  have hs : dSum 1 src dst M = 65535 := by
    show sumI M = 65535
    rw [sumI_bl, h, XMS_sum]
  have hf : formedB 1 fp tp M = true := by
    show decide (8 ≤ M.size) = true
    exact decide_eq_true (by omega)
  unfold dFault
  rw [hf, hs]
  simp
/-- The packet that an error is about. -/
theorem X_about {M B : ByteArray} {kd ck n id ttl pr s d : Int} (h : bl M = XM kd ck (HDS n id 0 ttl pr s d ++ bl B)) (h8 : 8 ≤ B.size) (hp : pr = 1 ∨ pr = 6 ∨ pr = 17) (s0 : 0 ≤ s) (s1 : s ≤ 4294967295) (d0 : 0 ≤ d) (d1 : d ≤ 4294967295) :
    abOK M = true ∧ bl (abH M) = HDS n id 0 ttl pr s d ∧ abB M = B ∧ byteAt (abR M) 9 = pr ∧ addrAt (abR M) 12 = s ∧ addrAt (abR M) 16 = d ∧ bl (M.extract 0 8) = XM kd ck [] := by
  have hz : M.size = 28 + B.size := by rw [← bl_length, h, XM_length, List.length_append, HDS_length, bl_length]; omega
  have hR : bl (abR M) = HDS n id 0 ttl pr s d ++ bl B := by
    unfold abR
    rw [bl_ex, h, hz]
    have e : (XM kd ck (HDS n id 0 ttl pr s d ++ bl B)).drop 8 = HDS n id 0 ttl pr s d ++ bl B := rfl
    rw [e, List.take_of_length_le (by rw [List.length_append, HDS_length, bl_length]; omega)]
  have hH : bl (abH M) = HDS n id 0 ttl pr s d := whole_head hR
  have hB : abB M = B := bl_inj (whole_body hR)
  obtain ⟨-, -, -, -, -, -, h9, -, h12, h16⟩ := HD_word _ _ _ _ _ _ _ _ _ _ hR
  obtain ⟨g0, -, -, -, g6, -, -, -, -, -⟩ := HD_word _ _ _ _ _ _ _ _ (abH M) [] (by rw [List.append_nil]; exact hH)
  have e9 : byteAt (abR M) 9 = pr := h9.trans (by omega)
  have hs : sumI (abH M) = 65535 := by rw [sumI_bl, hH, HDS_sum]
  refine ⟨?_, hH, hB, e9, h12.trans (by omega), h16.trans (by omega), ?_⟩
  · unfold abOK
    rw [g0, hs, e9, g6, decide_eq_true (show 36 ≤ M.size by omega)]
    have e6 : bits .and .i64 (0 % 65536) 8191 = 0 := by decide
    rw [e6]
    rcases hp with rfl | rfl | rfl <;> rfl
  · rw [bl_ex, h]
    rfl
/-- What becomes of an error's message. -/
theorem X_ret {M B B' : ByteArray} {kd ck n id ttl pr s d : Int} (h : bl M = XM kd ck (HDS n id 0 ttl pr s d ++ bl B)) (h8 : 8 ≤ B.size) (hp : pr = 1 ∨ pr = 6 ∨ pr = 17) (s0 : 0 ≤ s) (s1 : s ≤ 4294967295) (d0 : 0 ≤ d) (d1 : d ≤ 4294967295)
    (src dst xa xp ya yp : Int) (hs : shiftM pr s (portsOf pr B).1 d (portsOf pr B).2 B xa xp ya yp = B') : bl (retM M src dst xa xp ya yp) = XMS kd (HDS n id 0 ttl pr xa ya ++ bl B') := by
  obtain ⟨-, hH, hB, h9, h12, h16, h08⟩ := X_about h h8 hp s0 s1 d0 d1
  unfold retM
  rw [h9, h12, h16, hB, hs]
  apply bl_seal1 (ck := ck)
  rw [bl_app, bl_app, h08, bl_addrHead _ _ _ _ _ _ _ _ _ _ _ hH]
  unfold XM
  simp only [List.append_nil, List.nil_append, List.cons_append]
theorem err_np (g o : Int) (M : ByteArray) : pieceB ((rawP ⟨3, 0, 0, 40, 1, g, o, M⟩).extract 0 20) = false := by
  refine whole_piece (n := 20 + (M.size : Int)) (id := 3) (fw := 0) (ttl := 40) (pr := 1) (src := g) (dst := o) (b := bl M) ?_ rfl
  have e0 : flagW 0 0 = 0 := by decide
  rw [bl_rawP]
  simp only [e0]
theorem err_hand (s : BX) (g : Int) (M : ByteArray) (kd : Int) (d : List UInt8) (h : bl M = XMS kd d) (hk : kd = 3 ∨ kd = 11 ∨ kd = 12) (hd : d.length ≤ 120) (g0 : 0 ≤ g) (g1 : g ≤ 4294967295) (o0 : 0 ≤ s.ou) (o1 : s.ou ≤ 4294967295) (hmay : mayB s 1 g s.ou = true) :
    handM s 1 (rawP ⟨3, 0, 0, 40, 1, g, s.ou, M⟩) = wayH (rawP ⟨3, 0, 0, 40, 1, g, s.ou, M⟩) (trW s 1 1 g 0 s.ou 0 M) s.l ∧ (∀ src dst, bl (onHead ((rawP ⟨3, 0, 0, 40, 1, g, s.ou, M⟩).extract 0 20) src dst) = HDS (20 + (M.size : Int)) 3 0 39 1 src dst) := by
  have hz : M.size = 8 + d.length := by rw [← bl_length, h, XMS_length]
  have hbl : bl (rawP ⟨3, 0, 0, 40, 1, g, s.ou, M⟩) = HDS (20 + (M.size : Int)) 3 0 40 1 g s.ou ++ bl M := by
    have e0 : flagW 0 0 = 0 := by decide
    rw [bl_rawP]
    simp only [e0]
  have hbz : (bl M).length = M.size := bl_length M
  have hft : rFault (rawP ⟨3, 0, 0, 40, 1, g, s.ou, M⟩) = 0 := whole_fault hbl (by rw [hbz]) (by rw [hbz]; omega) (by rw [hbz]; omega) rfl (by decide) (by decide)
  have hpc : pieceB ((rawP ⟨3, 0, 0, 40, 1, g, s.ou, M⟩).extract 0 20) = false := whole_piece hbl rfl
  obtain ⟨-, -, -, -, -, -, h9, -, h12, h16⟩ := HD_word _ _ _ _ _ _ _ _ _ _ hbl
  have e9 : byteAt (rawP ⟨3, 0, 0, 40, 1, g, s.ou, M⟩) 9 = 1 := h9
  have e12 : addrAt (rawP ⟨3, 0, 0, 40, 1, g, s.ou, M⟩) 12 = g := h12.trans (by omega)
  have e16 : addrAt (rawP ⟨3, 0, 0, 40, 1, g, s.ou, M⟩) 16 = s.ou := h16.trans (by omega)
  have eb : (rawP ⟨3, 0, 0, 40, 1, g, s.ou, M⟩).extract 20 (rawP ⟨3, 0, 0, 40, 1, g, s.ou, M⟩).size = M := bl_inj (whole_body hbl)
  obtain ⟨k1, k4⟩ := X_kind h hk
  have hdf := X_fault h g s.ou 0 0
  have hon : ∀ src dst, bl (onHead ((rawP ⟨3, 0, 0, 40, 1, g, s.ou, M⟩).extract 0 20) src dst) = HDS (20 + (M.size : Int)) 3 0 39 1 src dst := fun src dst => bl_onHead _ _ _ _ _ _ _ _ _ _ _ (whole_head hbl)
  refine ⟨?_, hon⟩
  clear hon hbl
  generalize rawP ⟨3, 0, 0, 40, 1, g, s.ou, M⟩ = R at *
  unfold handM
  rw [if_neg (by omega), if_neg (by simp [hft]), e12, e16, if_neg (by simp [hmay]), e9, if_neg (by decide), if_neg (by simp [hpc])]
  unfold wholeW wholeL
  rw [e9, e12, e16, eb, k4]
  simp only
  unfold routeW routeL
  have e1 : ¬ ¬ dFault 1 g 0 s.ou 0 M = 0 := by rw [hdf]; simp
  rw [if_neg e1, if_neg e1, if_pos k1, if_pos k1]
end Go.Proofs.YtfkjobiapjhacabGreat
/- Errors about what an inner end has sent, purely. Own work. -/
namespace Go.Proofs.YtfkjobiapjhacabGreat
open Go.RowKit

theorem shift_udp (fa fp ta tp xa xp ya yp : Int) (data : ByteArray) (hz : data.size ≤ 120) (f0 : 0 ≤ fa) (f1 : fa ≤ 4294967295) (p0 : 1 ≤ fp) (p1 : fp ≤ 65535) (t0 : 0 ≤ ta) (t1 : ta ≤ 4294967295) (u0 : 1 ≤ tp) (u1 : tp ≤ 65535)
    (a0 : 0 ≤ xa) (a1 : xa ≤ 4294967295) (q0 : 1 ≤ xp) (q1 : xp ≤ 65535) (b0 : 0 ≤ ya) (b1 : ya ≤ 4294967295) (r0 : 1 ≤ yp) (r1 : yp ≤ 65535) :
    shiftM 17 fa fp ta tp (udpB fa fp ta tp data) xa xp ya yp = udpB xa xp ya yp data := by
  have hB : bl (udpB fa fp ta tp data) = UM fp tp (8 + ((bl data).length : Int)) (ckU (US fa fp ta tp (bl data))) (bl data) := bl_udpB fa fp ta tp data
  have hBs : (udpB fa fp ta tp data).size = 8 + data.size := udpB_size fa fp ta tp data
  have hcb := ckU_bd (US fa fp ta tp (bl data))
  generalize udpB fa fp ta tp data = B at hB hBs
  apply bl_inj
  rw [bl_udpB]
  have hw6 : wordAt B 6 = ckU (US fa fp ta tp (bl data)) := ((UM_words hB).2.2.2).trans (by omega)
  have hs : hasSumB 17 B = true := by
    unfold hasSumB
    rw [if_pos rfl, hw6]
    simp; omega
  have eP : portM 17 B xp yp = putWord (putWord B 0 xp) 2 yp := if_neg (by decide)
  have h1 : bl (putWord (putWord B 0 xp) 2 yp) = UM xp yp (8 + ((bl data).length : Int)) (ckU (US fa fp ta tp (bl data))) (bl data) := by rw [bl_put, bl_put, hB, UM_put0, UM_put2]
  have h1s : (putWord (putWord B 0 xp) 2 yp).size = 8 + data.size := by rw [← bl_length, h1, UM_length, bl_length]
  have e6 : sumAtI 17 = 6 := rfl
  have eC : chgI 17 fa fp ta tp B (putWord (putWord B 0 xp) 2 yp) xa xp ya yp = endChg fa fp xa xp + endChg ta tp ya yp := if_neg (by decide)
  have hT : foldI (65535 - ckU (US fa fp ta tp (bl data)) + (endChg fa fp xa xp + endChg ta tp ya yp)) = foldI (US xa xp ya yp (bl data)) := by
    have hm := foldI_mod (US fa fp ta tp (bl data))
    have hp := US_pos fa fp ta tp (bl data)
    have hp2 := US_pos xa xp ya yp (bl data)
    have hc : (65535 - ckU (US fa fp ta tp (bl data)) - foldI (US fa fp ta tp (bl data))) % 65535 = 0 := by
      have := foldI_bd (US fa fp ta tp (bl data))
      unfold ckU; split <;> omega
    have hu : US fa fp ta tp (bl data) - fp - tp - (fa / 65536 + fa % 65536) - (ta / 65536 + ta % 65536) = US xa xp ya yp (bl data) - xp - yp - (xa / 65536 + xa % 65536) - (ya / 65536 + ya % 65536) := by
      unfold US addrW
      have x1 : fa / 65536 % 65536 = fa / 65536 := by omega
      have x2 : ta / 65536 % 65536 = ta / 65536 := by omega
      have x3 : xa / 65536 % 65536 = xa / 65536 := by omega
      have x4 : ya / 65536 % 65536 = ya / 65536 := by omega
      have y1 : fp % 65536 = fp := by omega
      have y2 : tp % 65536 = tp := by omega
      have y3 : xp % 65536 = xp := by omega
      have y4 : yp % 65536 = yp := by omega
      rw [x1, x2, x3, x4, y1, y2, y3, y4]
      omega
    have z1 : 0 ≤ fa / 65536 + fa % 65536 ∧ fa / 65536 + fa % 65536 ≤ 131070 := by omega
    have z2 : 0 ≤ ta / 65536 + ta % 65536 ∧ ta / 65536 + ta % 65536 ≤ 131070 := by omega
    have z3 : 0 ≤ xa / 65536 + xa % 65536 := by omega
    have z4 : 0 ≤ ya / 65536 + ya % 65536 := by omega
    unfold endChg
    generalize fa / 65536 + fa % 65536 = A1 at *
    generalize ta / 65536 + ta % 65536 = A2 at *
    generalize xa / 65536 + xa % 65536 = A3 at *
    generalize ya / 65536 + ya % 65536 = A4 at *
    generalize US fa fp ta tp (bl data) = S1 at *
    generalize US xa xp ya yp (bl data) = S2 at *
    generalize ckU S1 = C at *
    generalize foldI S1 = F1 at *
    refine fold_congr _ _ (by omega) (by omega) (by omega)
  have hv : ckI 17 (foldI (65535 - ckU (US fa fp ta tp (bl data)) + (endChg fa fp xa xp + endChg ta tp ya yp))) = ckU (US xa xp ya yp (bl data)) := by
    rw [hT]
    unfold ckI ckU
    simp
  unfold shiftM
  rw [if_neg (by rw [hs]; decide), eP, e6]
  have hw6' : wordAt B ((6 : Nat) : Int) = ckU (US fa fp ta tp (bl data)) := hw6
  rw [eC, hw6', hv]
  unfold putW
  rw [if_pos (by omega), bl_put, h1, UM_put6]
  rfl
theorem EM_word2 {s : ByteArray} {kind id ck : Int} {d : List UInt8} (h : bl s = EM kind id ck d) : wordAt s 2 = ck % 65536 := by
  have w2 := wordAt_bl s 2
  rw [h] at w2
  exact w2.trans (two_bytes ck)
theorem shift_echo (fa fp ta tp xa xp ya yp id : Int) (data : ByteArray) (i0 : 0 ≤ id) (i1 : id ≤ 65535) (q0 : 0 ≤ xp) (q1 : xp ≤ 65535) :
    shiftM 1 fa fp ta tp (eBody 8 id data) xa xp ya yp = eBody 8 xp data := by
  have hB : bl (eBody 8 id data) = EM 8 id (65535 - foldI (ES 8 id (bl data))) (bl data) := bl_echoB 8 id data
  have hBs := eBody_size 8 id data
  generalize eBody 8 id data = B at hB hBs
  have hcb := foldI_bd (ES 8 id (bl data))
  apply bl_inj
  rw [bl_echoB]
  obtain ⟨b0, -, w4⟩ := EM_words hB
  have w2 : wordAt B 2 = 65535 - foldI (ES 8 id (bl data)) := (EM_word2 hB).trans (by omega)
  have w4' : wordAt B 4 = id := w4.trans (by omega)
  have eN : numI B xp yp = xp := by
    unfold numI
    rw [b0]
    rfl
  have eP : portM 1 B xp yp = putWord B 4 xp := (if_pos rfl).trans (by rw [eN])
  have h1 : bl (putWord B 4 xp) = EM 8 xp (65535 - foldI (ES 8 id (bl data))) (bl data) := by rw [bl_put, hB, EM_put4]
  have h1s : (putWord B 4 xp).size = 8 + data.size := by rw [← bl_length, h1, EM_length, bl_length]
  have o4 : wordAt (putWord B 4 xp) 4 = xp := ((EM_words h1).2.2).trans (by omega)
  have hs : hasSumB 1 B = true := rfl
  have e2 : sumAtI 1 = 2 := rfl
  have eC : chgI 1 fa fp ta tp B (putWord B 4 xp) xa xp ya yp = 65535 - id + xp := (if_pos rfl).trans (by rw [w4', o4])
  have hT : foldI (65535 - (65535 - foldI (ES 8 id (bl data))) + (65535 - id + xp)) = foldI (ES 8 xp (bl data)) := by
    have hm := foldI_mod (ES 8 id (bl data))
    have hd := sumL_nonneg (bl data)
    have hp := foldI_pos (ES 8 id (bl data)) (by unfold ES; omega)
    have e1 : ES 8 id (bl data) = 8 % 256 * 256 + id % 65536 + 1 + sumL (bl data) := rfl
    have e3 : ES 8 xp (bl data) = 8 % 256 * 256 + xp % 65536 + 1 + sumL (bl data) := rfl
    generalize foldI (ES 8 id (bl data)) = F at *
    rw [e1] at hm
    rw [e3]
    refine fold_congr _ _ (by omega) (by omega) (by omega)
  unfold shiftM
  rw [if_neg (by rw [hs]; decide), eP, e2]
  have w2' : wordAt B ((2 : Nat) : Int) = 65535 - foldI (ES 8 id (bl data)) := w2
  rw [eC, w2', hT]
  unfold putW
  rw [if_pos (by omega), bl_put, h1, EM_put2]
  unfold ckI
  rw [if_neg (fun h => absurd h.2 (by decide))]
  rfl
/-- A packet that an inner end has sent, and what it was outside. -/
structure TI (pid q h i f fp : Int) (BO BI : ByteArray) (x : SD) : Prop where
  hq : q = 17 ∨ q = 1
  po : portsOf q BO = (5000, fp)
  kd : q = 1 → byteAt BO 0 = 8
  inn : innerI q 5000 [x] = some x
  xia : x.ia = h
  xip : x.ip = i
  has : hasS q h i f fp [x] = true
  hasnt : hasS q h i (f + 201) fp [x] = false
  sh : shiftM q 3405803781 5000 f fp BO h i f fp = BI
  so : BO.size = 17
  si : BI.size = 17
  hon : ∀ p : PK, p.pr = q → p.src = h → p.dst = f → p.body = BI → honB p = true
  okb : OKB (stN 2 0 [] [x])
  okt : OKT (stN 2 0 [] [x])
  h0 : 167772161 ≤ h
  h1 : h ≤ 167773000
  f0 : 134744064 ≤ f
  f1 : f ≤ 134744300
theorem okb_cs {x : SD} (h : OKB (stN 2 0 [] [x])) (cs : List Int) : OKB (stN 2 0 cs [x]) := ⟨h.n0, h.n1, h.o0, h.o1, h.l0, h.l1, h.l2, h.t0, h.t1, h.len, h.ia⟩
theorem err_tr {pid q h i f fp : Int} {BO BI : ByteArray} {x : SD} (t : TI pid q h i f fp BO BI x) (cs : List Int) (g : Int) (M : ByteArray) (n kd ck ba : Int) (hM : bl M = XM kd ck (HDS n pid 0 8 q 3405803781 ba ++ bl BO)) (d0 : 0 ≤ ba) (d1 : ba ≤ 4294967295) :
    trW (stN 2 0 cs [x]) 1 1 g 0 3405803781 0 M = if hasS q h i ba fp [x] = false then noW 16 else ⟨0, 0, 1, g, 0, h, 0, retM M g h h i ba fp⟩ := by
  obtain ⟨hok, -, hB, h9, h12, h16, -⟩ := X_about hM (by rw [t.so]; decide) (by rcases t.hq with e | e; exact Or.inr (Or.inr e); exact Or.inl e) (by decide) (by decide) d0 d1
  unfold trW
  rw [if_neg (by rw [hok]; decide), if_neg (by decide), h9, h12, h16, hB, t.po]
  unfold trOut
  rw [hB, if_neg (fun e => e.2 (t.kd e.1))]
  have hi : innerI q 5000 (stN 2 0 cs [x]).l = some x := t.inn
  simp only [hi]
  rw [t.xia, t.xip]
  have hl : (stN 2 0 cs [x]).l = [x] := rfl
  have hou : (stN 2 0 cs [x]).ou = 3405803781 := rfl
  rw [hl, hou]
  by_cases c : hasS q h i ba fp [x] = false
  · rw [if_pos c, if_pos (Or.inr c)]
  · rw [if_neg c, if_neg (fun e => e.elim (fun e => e rfl) c)]
end Go.Proofs.YtfkjobiapjhacabGreat
/- Errors about what an inner end has sent: through a box. Own work. -/
namespace Go.Proofs.YtfkjobiapjhacabGreat
open Go.RowKit

theorem bl_raw0 (i ttl pr s d : Int) (B : ByteArray) : bl (rawP ⟨i, 0, 0, ttl, pr, s, d, B⟩) = HDS (20 + (B.size : Int)) i 0 ttl pr s d ++ bl B := by
  have e0 : flagW 0 0 = 0 := by decide
  rw [bl_rawP]
  simp only [e0]
theorem par_raw0 (i ttl pr s d : Int) (B : ByteArray) (i0 : 0 ≤ i) (i1 : i ≤ 65535) (t0 : 0 ≤ ttl) (t1 : ttl ≤ 255) (p0 : 0 ≤ pr) (p1 : pr ≤ 255) (s0 : 0 ≤ s) (s1 : s ≤ 4294967295) (d0 : 0 ≤ d) (d1 : d ≤ 4294967295) : parP (rawP ⟨i, 0, 0, ttl, pr, s, d, B⟩) = ⟨i, 0, 0, ttl, pr, s, d, B⟩ := by
  rw [whole_par (bl_raw0 i ttl pr s d B) rfl]
  have e1 : s % 4294967296 = s := by omega
  have e2 : d % 4294967296 = d := by omega
  have q1 : i % 65536 = i := by omega
  have q2 : (0 : Int) % 65536 / 8192 = 0 := by decide
  have q3 : (0 : Int) % 65536 % 8192 * 8 = 0 := by decide
  have q4 : ttl % 256 = ttl := by omega
  have q5 : pr % 256 = pr := by omega
  rw [e1, e2, q1, q2, q3, q4, q5]
theorem size_raw0 (i ttl pr s d : Int) (B : ByteArray) : (rawP ⟨i, 0, 0, ttl, pr, s, d, B⟩).size = 20 + B.size := by
  rw [← bl_length, bl_raw0, List.length_append, HDS_length, bl_length]
theorem err_one {pid q h i f fp : Int} {BO BI : ByteArray} {x : SD} (t : TI pid q h i f fp BO BI x) (b : Nat) (cs : List Int) (g kd : Int) (hk : kd = 3 ∨ kd = 11 ∨ kd = 12) (g0 : 134744064 ≤ g) (g1 : g ≤ 134744300) :
    OneOK b (stN 2 0 cs [x]) 1 ⟨3, 0, 0, 40, 1, g, 3405803781, errB' kd (rawP ⟨pid, 0, 0, 8, q, 3405803781, f, BO⟩)⟩ 0 ⟨3, 0, 0, 39, 1, g, h, errB' kd (rawP ⟨pid, 0, 0, 8, q, h, f, BI⟩)⟩ (stN 2 0 (bump cs 0) [x]) := by
  have hso := size_raw0 pid 8 q 3405803781 f BO
  have hsi := size_raw0 pid 8 q h f BI
  have hM := bl_errB kd (rawP ⟨pid, 0, 0, 8, q, 3405803781, f, BO⟩)
  have hM' := bl_errB kd (rawP ⟨pid, 0, 0, 8, q, h, f, BI⟩)
  have hzM := errB_size kd (rawP ⟨pid, 0, 0, 8, q, 3405803781, f, BO⟩)
  have hzM' := errB_size kd (rawP ⟨pid, 0, 0, 8, q, h, f, BI⟩)
  rw [hso, t.so] at hzM
  rw [hsi, t.si] at hzM'
  have hlen : (bl (rawP ⟨pid, 0, 0, 8, q, 3405803781, f, BO⟩)).length ≤ 120 := by rw [bl_length, hso, t.so]; decide
  have hbo := bl_raw0 pid 8 q 3405803781 f BO
  have hbi := bl_raw0 pid 8 q h f BI
  rw [t.so] at hbo
  rw [t.si] at hbi
  generalize (rawP ⟨pid, 0, 0, 8, q, 3405803781, f, BO⟩) = OUT at *
  generalize (rawP ⟨pid, 0, 0, 8, q, h, f, BI⟩) = IN at *
  generalize errB' kd OUT = M at *
  generalize errB' kd IN = M' at *
  have hf0 := t.f0
  have hf1 := t.f1
  have hh0 := t.h0
  have hh1 := t.h1
  have hok := okb_cs t.okb cs
  obtain ⟨hH, hon⟩ := err_hand (stN 2 0 cs [x]) g M kd (bl OUT) hM hk hlen (by omega) (by omega) (show (0 : Int) ≤ 3405803781 by decide) (show (3405803781 : Int) ≤ 4294967295 by decide) (may_out _ rfl rfl g (by omega) (show ¬ g = 3405803781 by omega))
  have hMx : bl M = XM kd (65535 - foldI (XS kd (bl OUT))) (HDS (20 + (17 : Nat)) pid 0 8 q 3405803781 f ++ bl BO) := by rw [hM, hbo]; rfl
  have hT := err_tr t cs g M (20 + (17 : Nat)) kd _ f hMx (by omega) (by omega)
  rw [if_neg (by rw [t.has]; decide)] at hT
  have hret := X_ret hMx (by rw [t.so]; decide) (by rcases t.hq with e | e; exact Or.inr (Or.inr e); exact Or.inl e) (by decide) (by decide) (by omega) (by omega) g h h i f fp (B' := BI) (by rw [t.po]; exact t.sh)
  have hraw : onHead ((rawP ⟨3, 0, 0, 40, 1, g, 3405803781, M⟩).extract 0 20) g h ++ retM M g h h i f fp = rawP ⟨3, 0, 0, 39, 1, g, h, M'⟩ := by
    apply bl_inj
    rw [bl_app, bl_raw0, hret, hM', hbi]
    have := hon g h
    rw [show (stN 2 0 cs [x]).ou = 3405803781 from rfl] at this
    rw [this, hzM, hzM']
  have hR : RecvAt b (stN 2 0 cs [x]) 1 (rawP ⟨3, 0, 0, 40, 1, g, 3405803781, M⟩) 0 (some (0, rawP ⟨3, 0, 0, 39, 1, g, h, M'⟩)) (stN 2 0 (bump cs 0) [x]) := fun W v hbx => by
    have hr := Receive_any hbx hok 1 (rawP ⟨3, 0, 0, 40, 1, g, 3405803781, M⟩) (Or.inr (TrOK_all b _ hok t.okt)) (err_np g 3405803781 M)
    have hH2 : handM (stN 2 0 cs [x]) 1 (rawP ⟨3, 0, 0, 40, 1, g, 3405803781, M⟩) = ⟨0, some (0, rawP ⟨3, 0, 0, 39, 1, g, h, M'⟩), [x]⟩ := by
      refine hH.trans ?_
      have e : trW (stN 2 0 cs [x]) 1 1 g 0 (stN 2 0 cs [x]).ou 0 M = ⟨0, 0, 1, g, 0, h, 0, retM M g h h i f fp⟩ := hT
      rw [e]
      unfold wayH
      rw [if_pos rfl]
      show (⟨0, some (0, onHead ((rawP ⟨3, 0, 0, 40, 1, g, 3405803781, M⟩).extract 0 20) g h ++ retM M g h h i f fp), [x]⟩ : HR) = _
      rw [hraw]
    rw [hH2] at hr
    exact hr
  have hpar := par_raw0 3 39 1 g h M' (by decide) (by decide) (by decide) (by decide) (by decide) (by decide) (by omega) (by omega) (by omega) (by omega)
  have hbl := bl_raw0 3 39 1 g h M'
  have hz := size_raw0 3 39 1 g h M'
  obtain ⟨k0, k1, k2, -, -, -, -, -, -, -⟩ := HD_word _ _ _ _ _ _ _ _ _ _ hbl
  have hsum : sumI M' = 65535 := by rw [sumI_bl, hM', XMS_sum]
  refine ⟨fun w v hbx => ?_⟩
  have ho := one_yes hbx 1 0 ⟨3, 0, 0, 40, 1, g, 3405803781, M⟩ ⟨by show M.size ≤ 1000; omega, (by decide : (0 : Int) ≤ 0), (by decide : (0 : Int) ≤ 7), (by decide : (0 : Int) ≤ 0), (by decide : (0 : Int) ≤ 65535)⟩ (rawP ⟨3, 0, 0, 39, 1, g, h, M'⟩) hR (by omega) (by omega) (k2.trans (by rw [hz]; omega)) k0 k1 (whole_sum hbl)
    (by rw [hpar]; show honB ⟨3, 0, 0, 39, 1, g, h, M'⟩ = true; unfold honB; rw [if_neg (fun e => absurd e.1 (show ¬ (1 : Int) = 17 by decide)), if_pos rfl]; show (sumI M' == 65535) = true; rw [hsum]; rfl) (by rw [hpar]) (by rw [hpar]) (by rw [hpar]) (by rw [hpar]) (by rw [hpar]; rfl) (by show (-1000 : Int) ≤ 40; decide) (by show (40 : Int) ≤ 1000; decide)
  rw [hpar] at ho
  exact ho
theorem err_none {pid q h i f fp : Int} {BO BI : ByteArray} {x : SD} (t : TI pid q h i f fp BO BI x) (b : Nat) (cs : List Int) (g kd : Int) (M : ByteArray) (n : Int) (hM : bl M = XMS kd (HDS n pid 0 8 q 3405803781 (f + 201) ++ bl BO)) (hk : kd = 3 ∨ kd = 11 ∨ kd = 12) (g0 : 134744064 ≤ g) (g1 : g ≤ 134744300) :
    NoneOK b (stN 2 0 cs [x]) 1 ⟨3, 0, 0, 40, 1, g, 3405803781, M⟩ 16 (stN 2 0 (bump cs 16) [x]) := by
  have hf0 := t.f0
  have hf1 := t.f1
  have hlen : (HDS n pid 0 8 q 3405803781 (f + 201) ++ bl BO).length = 37 := by rw [List.length_append, HDS_length, bl_length, t.so]
  have hzM : M.size = 45 := by rw [← bl_length, hM, XMS_length, hlen]
  have hok := okb_cs t.okb cs
  obtain ⟨hH, -⟩ := err_hand (stN 2 0 cs [x]) g M kd _ hM hk (by rw [hlen]; decide) (by omega) (by omega) (show (0 : Int) ≤ 3405803781 by decide) (show (3405803781 : Int) ≤ 4294967295 by decide) (may_out _ rfl rfl g (by omega) (show ¬ g = 3405803781 by omega))
  have hT := err_tr t cs g M n kd _ (f + 201) hM (by omega) (by omega)
  rw [if_pos t.hasnt] at hT
  have hR : RecvAt b (stN 2 0 cs [x]) 1 (rawP ⟨3, 0, 0, 40, 1, g, 3405803781, M⟩) 16 none (stN 2 0 (bump cs 16) [x]) := fun W v hbx => by
    have hr := Receive_any hbx hok 1 (rawP ⟨3, 0, 0, 40, 1, g, 3405803781, M⟩) (Or.inr (TrOK_all b _ hok t.okt)) (err_np g 3405803781 M)
    have hH2 : handM (stN 2 0 cs [x]) 1 (rawP ⟨3, 0, 0, 40, 1, g, 3405803781, M⟩) = ⟨16, none, [x]⟩ := by
      refine hH.trans ?_
      have e : trW (stN 2 0 cs [x]) 1 1 g 0 (stN 2 0 cs [x]).ou 0 M = noW 16 := hT
      rw [e]
      unfold wayH
      rw [if_neg (by decide)]
      rfl
    rw [hH2] at hr
    exact hr
  exact fun w v hbx => none_yes hbx 1 16 ⟨3, 0, 0, 40, 1, g, 3405803781, M⟩ ⟨by show M.size ≤ 1000; omega, (by decide : (0 : Int) ≤ 0), (by decide : (0 : Int) ≤ 7), (by decide : (0 : Int) ≤ 0), (by decide : (0 : Int) ≤ 65535)⟩ hR
theorem TI_udp (h i f j : Int) (hr : RQ h i f j) : TI 7 17 h i f j (udpB 3405803781 5000 f j ⟨#[115, 111, 109, 101, 32, 100, 97, 116, 97]⟩) (udpB h i f j ⟨#[115, 111, 109, 101, 32, 100, 97, 116, 97]⟩) (S1 h i f j 5000 (0 + 30)) := by
  obtain ⟨h0, h1, p0, p1, f0, f1, q0, q1⟩ := hr
  have hz : (⟨#[115, 111, 109, 101, 32, 100, 97, 116, 97]⟩ : ByteArray).size = 9 := rfl
  refine ⟨Or.inl rfl, ?_, fun e => absurd e (by decide), by rw [innerI_one, if_pos rfl], rfl, rfl, by rw [hasS_one]; exact decide_eq_true ⟨rfl, rfl, rfl, rfl⟩, by rw [hasS_one]; exact decide_eq_false (fun e => by have := e.2.2.1; omega), ?_, by rw [udpB_size, hz], by rw [udpB_size, hz], fun p k1 k2 k3 k4 => udp_hon (bl_udpB h i f j ⟨#[115, 111, 109, 101, 32, 100, 97, 116, 97]⟩) p k1 k2 k3 k4, stN_one 2 0 [] h i f j 5000 (0 + 30) (by decide) (by decide) (by decide) (by decide) (by omega) (by omega), ?_, h0, h1, f0, f1⟩
  · obtain ⟨w0, w2, -, -⟩ := UM_words (bl_udpB 3405803781 5000 f j ⟨#[115, 111, 109, 101, 32, 100, 97, 116, 97]⟩)
    unfold portsOf
    rw [if_pos (by decide), w0, w2]
    have e1 : (5000 : Int) % 65536 = 5000 := by decide
    have e2 : j % 65536 = j := by omega
    rw [e1, e2]
  · exact shift_udp 3405803781 5000 f j h i f j ⟨#[115, 111, 109, 101, 32, 100, 97, 116, 97]⟩ (by decide) (by decide) (by decide) (by decide) (by decide) (by omega) (by omega) q0 q1 (by omega) (by omega) p0 p1 (by omega) (by omega) q0 q1
  · intro y hy
    have hy' : y ∈ [S1 h i f j 5000 (0 + 30)] := hy
    rw [List.mem_singleton] at hy'
    subst hy'
    exact ⟨⟨show 0 ≤ i by omega, show i ≤ 65535 by omega⟩, (by decide : (0 : Int) ≤ 5000 ∧ (5000 : Int) ≤ 65535)⟩
theorem TI_echo (h f j : Int) (hr : RE h j f) : TI 9 1 h j f 0 (eBody 8 5000 ⟨#[115, 111, 109, 101, 32, 100, 97, 116, 97]⟩) (eBody 8 j ⟨#[115, 111, 109, 101, 32, 100, 97, 116, 97]⟩) (E1 h j f 5000 (0 + 10)) := by
  obtain ⟨h0, h1, i0, i1, f0, f1⟩ := hr
  have hz : (⟨#[115, 111, 109, 101, 32, 100, 97, 116, 97]⟩ : ByteArray).size = 9 := rfl
  refine ⟨Or.inr rfl, ?_, fun _ => ?_, by rw [innerE_one, if_pos rfl], rfl, rfl, by rw [hasE_one]; exact decide_eq_true ⟨rfl, rfl, rfl, rfl⟩, by rw [hasE_one]; exact decide_eq_false (fun e => by have := e.2.2.1; omega), ?_, by rw [eBody_size, hz], by rw [eBody_size, hz], fun p k1 _ _ k4 => echo_hon (bl_echoB 8 j ⟨#[115, 111, 109, 101, 32, 100, 97, 116, 97]⟩) p k1 k4, stE_one 2 0 [] h j f 5000 (0 + 10) (by decide) (by decide) (by decide) (by decide) (by omega) (by omega), ?_, h0, h1, f0, f1⟩
  · exact ((eBody_is 8 5000 ⟨#[115, 111, 109, 101, 32, 100, 97, 116, 97]⟩ (Or.inl rfl) (by decide) (by decide)).2.2.2).trans (if_pos rfl)
  · exact ((EM_words (bl_echoB 8 5000 ⟨#[115, 111, 109, 101, 32, 100, 97, 116, 97]⟩)).1).trans (by decide)
  · exact shift_echo 3405803781 5000 f 0 h j f 0 5000 ⟨#[115, 111, 109, 101, 32, 100, 97, 116, 97]⟩ (by decide) (by decide) i0 i1
  · intro y hy
    have hy' : y ∈ [E1 h j f 5000 (0 + 10)] := hy
    rw [List.mem_singleton] at hy'
    subst hy'
    exact ⟨⟨show 0 ≤ j by omega, show j ≤ 65535 by omega⟩, (by decide : (0 : Int) ≤ 5000 ∧ (5000 : Int) ≤ 65535)⟩
end Go.Proofs.YtfkjobiapjhacabGreat
/- An error about a packet that nobody has sent; what is received first. Own work. -/
namespace Go.Proofs.YtfkjobiapjhacabGreat
open Go.RowKit
attribute [local go_sem ↓] Go.wp_at_zero Go.wp_at_succ

def els1 (M T : ByteArray) : ByteArray := M.extract 0 24 ++ T ++ M.extract 28 M.size
def els2 (b : ByteArray) : ByteArray := b.extract 0 8 ++ kseal (b.extract 8 28) 10 ⟨#[]⟩ ++ b.extract 28 b.size
def elsM (M : ByteArray) (t : Int) : ByteArray := kseal (els2 (els1 M (wideI t 4))) 2 ⟨#[]⟩
theorem kseal_size (s : ByteArray) (p : Nat) (m : ByteArray) (h : p + 2 ≤ s.size) : (kseal s p m).size = s.size := size_put _ _ _ h
theorem els1_size (M T : ByteArray) (h : 28 ≤ M.size) (hT : T.size = 4) : (els1 M T).size = M.size := by
  unfold els1
  rw [ByteArray.size_append, ByteArray.size_append, ByteArray.size_extract, ByteArray.size_extract, hT]
  omega
theorem els2_size (b : ByteArray) (h : 28 ≤ b.size) : (els2 b).size = b.size := by
  unfold els2
  rw [ByteArray.size_append, ByteArray.size_append, kseal_size _ _ _ (by rw [ByteArray.size_extract]; omega), ByteArray.size_extract, ByteArray.size_extract, ByteArray.size_extract]
  omega
theorem HD_kseal {s : ByteArray} {n id fw ttl pr ck src dst : Int} (h : bl s = HD n id fw ttl pr ck src dst) : bl (kseal s 10 ⟨#[]⟩) = HDS n id fw ttl pr src dst := by
  have e1 : bl (putWord s 10 0) = HD n id fw ttl pr 0 src dst := by rw [bl_put, h, HD_put10]
  have e2 : ksealT s 10 ⟨#[]⟩ = foldI (HS n id fw ttl pr src dst) := by
    unfold ksealT
    rw [sumI_bl, e1, HD_sum, sumI_nil]
    have h := HS_nonneg n id fw ttl pr src dst
    generalize HS n id fw ttl pr src dst = a at h ⊢
    have := fold_fold 0 a (by decide) (by omega)
    simpa using this
  unfold kseal
  rw [bl_put, h, HD_put10, e2]
  rfl
theorem bl_elsM {M : ByteArray} {kd ck n id ttl pr s d : Int} {b : List UInt8} (h : bl M = XM kd ck (HDS n id 0 ttl pr s d ++ b)) (t : Int) : bl (elsM M t) = XMS kd (HDS n id 0 ttl pr s t ++ b) := by
  have hz : M.size = 28 + b.length := by rw [← bl_length, h, XM_length, List.length_append, HDS_length]; omega
  have h1 : bl (els1 M (wideI t 4)) = XM kd ck (HD n id 0 ttl pr (65535 - foldI (HS n id 0 ttl pr s d)) s t ++ b) := by
    unfold els1
    rw [bl_app, bl_app, bl_ex, bl_ex, h, bl_wide4, hz]
    have e : (XM kd ck (HDS n id 0 ttl pr s d ++ b)).drop 28 = b := rfl
    rw [e, List.take_of_length_le (l := b) (by omega)]
    rfl
  have hz1 : (els1 M (wideI t 4)).size = 28 + b.length := by rw [els1_size M _ (by omega) (wideI_size t 4), hz]
  unfold elsM
  generalize els1 M (wideI t 4) = E at h1 hz1 ⊢
  have h2 : bl (E.extract 8 28) = HD n id 0 ttl pr (65535 - foldI (HS n id 0 ttl pr s d)) s t := by
    rw [bl_ex, h1]
    rfl
  have h3 : bl (els2 E) = XM kd ck (HDS n id 0 ttl pr s t ++ b) := by
    unfold els2
    rw [bl_app, bl_app, HD_kseal h2, bl_ex, bl_ex, h1, hz1]
    have e : (XM kd ck (HD n id 0 ttl pr (65535 - foldI (HS n id 0 ttl pr s d)) s t ++ b)).drop 28 = b := rfl
    rw [e, List.take_of_length_le (l := b) (by omega)]
    rfl
  exact bl_kseal2 h3
set_option maxRecDepth 100000 in
set_option maxHeartbeats 1000000 in
theorem elsewhere_any (p : PK) (M : ByteArray) (f : Int) (w : World) (h28 : 28 ≤ M.size) (hs : M.size ≤ 1000) (f0 : 0 ≤ f) (f1 : f ≤ 4294967295) :
    Calls Tryz.prog 27 #[.agg #[.int .i64 p.id, .int .i64 p.fl, .int .i64 p.off, .int .i64 p.ttl, .int .i64 p.pr, .int .i64 p.src, .int .i64 p.dst, .string M], .int .i64 f] w fun e w' => e = .returned (.agg #[.int .i64 p.id, .int .i64 p.fl, .int .i64 p.off, .int .i64 p.ttl, .int .i64 p.pr, .int .i64 p.src, .int .i64 p.dst, .string (elsM M (f + 201))]) ∧ Below w.heap.size w w' := by
  have HW : Hid (∀ W, Calls Tryz.prog 22 #[.int .i64 (f + 201), .int .i64 4] W fun e w' => e = .returned (.string (wideI (f + 201) 4)) ∧ Below W.heap.size W w') := fun W => wideI_any _ _ W (by decide) (by decide)
  have hT := wideI_size (f + 201) 4
  have hT4 : (wideI (f + 201) 4).size = 4 := hT
  clear hT
  obtain ⟨R, hR⟩ : ∃ R, R = elsM M (f + 201) := ⟨_, rfl⟩
  rw [← hR]
  unfold elsM at hR
  generalize wideI (f + 201) 4 = T at HW hT4 hR
  have hz1 := els1_size M T h28 hT4
  obtain ⟨E, hE⟩ : ∃ E, E = els1 M T := ⟨_, rfl⟩
  rw [← hE] at hR hz1
  have hz2 := els2_size E (by omega)
  have hkz := kseal_size (E.extract 8 28) 10 ⟨#[]⟩ (by rw [ByteArray.size_extract]; omega)
  rw [ByteArray.size_extract] at hkz
  have HK : Hid (∀ W, Calls Tryz.prog 23 #[.string (E.extract 8 28), .int .i64 10, .string ⟨#[]⟩] W fun e w' => e = .returned (.string (kseal (E.extract 8 28) 10 ⟨#[]⟩)) ∧ Below W.heap.size W w') := fun W => ksealed_any (E.extract 8 28) 10 _ W (by rw [ByteArray.size_extract]; omega) (by rw [ByteArray.size_extract]; omega) (by decide)
  obtain ⟨E2, hE2⟩ : ∃ E2, E2 = els2 E := ⟨_, rfl⟩
  rw [← hE2] at hR hz2
  have HS2 : Hid (∀ W, Calls Tryz.prog 23 #[.string E2, .int .i64 2, .string ⟨#[]⟩] W fun e w' => e = .returned (.string R) ∧ Below W.heap.size W w') := fun W => by
    rw [hR]
    exact ksealed_any E2 2 _ W (by omega) (by omega) (by decide)
  unfold els1 at hE
  unfold els2 at hE2
  generalize kseal (E.extract 8 28) 10 ⟨#[]⟩ = K at HK hE2 hkz
  have HE : Hid (M.extract 0 24 ++ T ++ M.extract 28 M.size = E) := hE.symm
  rw [hz1] at hE2
  have HE2 : Hid (E.extract 0 8 ++ K ++ E.extract 28 M.size = E2) := hE2.symm
  have w1 : wrap64 (f + 201) = f + 201 := g_wrap64 _ (by omega) (by omega)
  have m1 : (24 : Int) ≤ (M.size : Int) := by omega
  have m2 : (28 : Int) ≤ (M.size : Int) := by omega
  have m3 : ¬ 9223372036854775807 < min 24 M.size + T.size := by omega
  have m4 : ¬ 9223372036854775807 < min 24 M.size + T.size + (M.size - 28) := by omega
  have n1 : (28 : Int) ≤ (E.size : Int) := by omega
  have n2 : (8 : Int) ≤ (E.size : Int) := by omega
  have n3 : ¬ 9223372036854775807 < min 8 E.size + K.size := by omega
  have n4 : ¬ 9223372036854775807 < min 8 E.size + K.size + (E.size - 28) := by omega
  clear hE hE2 hR
  have hM1 : LMid w ((w.alloc (.cells #[.int .i64 p.id, .int .i64 p.fl, .int .i64 p.off, .int .i64 p.ttl, .int .i64 p.pr, .int .i64 p.src, .int .i64 p.dst, .string M] 37)).alloc (.cells #[.int .i64 0, .int .i64 0, .int .i64 0, .int .i64 0, .int .i64 0, .int .i64 0, .int .i64 0, .string ⟨#[]⟩] 37)) [(w.heap.size + 1, #[.int .i64 0, .int .i64 0, .int .i64 0, .int .i64 0, .int .i64 0, .int .i64 0, .int .i64 0, .string ⟨#[]⟩], 37), (w.heap.size, #[.int .i64 p.id, .int .i64 p.fl, .int .i64 p.off, .int .i64 p.ttl, .int .i64 p.pr, .int .i64 p.src, .int .i64 p.dst, .string M], 37)] := ((LMid.start w).alloc' _ _ _ rfl).alloc' _ _ _ (by simp)
  have hM : Hid _ := hM1
  clear hM1
  go_enter Tryz.func27, Tryz.ntmps27
  go_wp2_with fail
  refine (HW.out _).mono ?_
  rintro e wa ⟨rfl, hb1⟩
  have hM1 := hM.out.call hb1
  clear hM hb1
  obtain ⟨⟨p0, p1, p2, p3, p4, p5, p6, p7⟩, pf⟩ := c8 hM1.at1
  have hM : Hid _ := hM1.drew
  clear hM1
  go_wp2_with fail
  go_region
  rw [HE.out]
  go_wp2_with fail
  refine (HK.out _).mono ?_
  rintro e wb ⟨rfl, hb1⟩
  have hM1 := hM.out.call hb1
  clear hM hb1 p0 p1 p2 p3 p4 p5 p6 p7 pf
  have hM : Hid _ := hM1.drew
  clear hM1
  go_wp2_with fail
  go_region
  rw [HE2.out]
  go_wp2_with fail
  refine (HS2.out _).mono ?_
  rintro e wd ⟨rfl, hb1⟩
  have hM1 := hM.out.call hb1
  clear hM hb1
  obtain ⟨⟨p0, p1, p2, p3, p4, p5, p6, p7⟩, pf⟩ := c8 hM1.at1
  obtain ⟨⟨r0, r1, r2, r3, r4, r5, r6, r7⟩, rf⟩ := c8 hM1.at0
  have hM : Hid _ := hM1
  clear hM1
  go_wp2_with fail
  refine bodyPost_ret (v := .agg #[.int .i64 p.id, .int .i64 p.fl, .int .i64 p.off, .int .i64 p.ttl, .int .i64 p.pr, .int .i64 p.src, .int .i64 p.dst, .string R]) (by simp [results, Tryz.results27, go_sem, r0, r1, r2, r3, r4, r5, r6, r7]) rfl ⟨rfl, ?_⟩
  have hE := hM.out.bl
  exact ((((((((hE.setCell (by simp) _).setCell (by simp) _).setCell (by simp) _).setCell (by simp) _).setCell (by simp) _).setCell (by simp) _).setCell (by simp) _).setCell (by simp) _).setCell (by simp) _
/-! What an inner end sends first. -/
theorem recv_udp (b : Nat) (cs : List Int) (h p f q : Int) (data : ByteArray) (hr : RQ h p f q) (hd : data.size ≤ 120) :
    RecvAt b (stN 2 0 cs []) 0 (rawP ⟨7, 0, 0, 9, 17, h, f, udpB h p f q data⟩) 0 (some (1, rawP ⟨7, 0, 0, 8, 17, 3405803781, f, udpB 3405803781 5000 f q data⟩)) (stN 2 0 (bump cs 0) [S1 h p f q 5000 (0 + 30)]) := by
  obtain ⟨a0, a1, b0, b1, c0, c1, q0, q1⟩ := hr
  have hu : URange h p f q data := ⟨by omega, by omega, by omega, by omega, b0, b1, q0, q1, hd⟩
  obtain ⟨e1, e2⟩ := ins_fresh (stN 2 0 cs []) rfl h p f q (udpB h p f q data) (show ¬ f = 3405803781 by omega) (show ¬ (5000 : Int) = 0 by decide) (show (5000 : Int) ≤ 4999 + 2 by decide)
  have hH := udp_hand (stN 2 0 cs []) 0 h p f q data hu (Or.inl rfl) (may_in _ rfl rfl h f (by omega) (by omega) (by omega))
  have hW : uW (stN 2 0 cs []) 0 h p f q data = ⟨0, 1, 17, 3405803781, 5000, f, q, btwM 17 (udpB h p f q data) 3405803781 5000 f q⟩ := (if_pos rfl).trans e1
  have hL : uL (stN 2 0 cs []) 0 h p f q data = [S1 h p f q 5000 (0 + 30)] := (if_pos rfl).trans e2
  rw [hW, hL] at hH
  unfold wayH at hH
  simp only [if_pos] at hH
  rw [udp_onward h p f q 3405803781 5000 f q data hu (by decide) (by decide) (by omega) (by omega)] at hH
  intro W v hbx
  have hh := Receive_any hbx (stN_nil 2 0 cs (by decide) (by decide) (by decide) (by decide)) 0 (rawP (udpP h p f q data)) (Or.inl (udp_noerr h p f q data)) (udp_np h p f q data)
  rw [hH] at hh
  exact hh
theorem recv_echo (b : Nat) (cs : List Int) (h id f : Int) (data : ByteArray) (hr : RE h id f) (hd : data.size ≤ 120) :
    RecvAt b (stN 2 0 cs []) 0 (rawP ⟨9, 0, 0, 9, 1, h, f, eBody 8 id data⟩) 0 (some (1, rawP ⟨9, 0, 0, 8, 1, 3405803781, f, eBody 8 5000 data⟩)) (stN 2 0 (bump cs 0) [E1 h id f 5000 (0 + 10)]) := by
  obtain ⟨a0, a1, b0, b1, c0, c1⟩ := hr
  have hu : ERange 8 h f id data := ⟨Or.inl rfl, by omega, by omega, by omega, by omega, b0, b1, hd⟩
  obtain ⟨e1, e2⟩ := insE_fresh (stN 2 0 cs []) rfl h id f (eBody 8 id data) (show ¬ f = 3405803781 by omega) (show ¬ (5000 : Int) = 0 by decide) (show (5000 : Int) ≤ 4999 + 2 by decide)
  have e0 : ¬ ¬ eFault (stN 2 0 cs []).ou 0 1 f (eBody 8 id data) = 0 := by
    show ¬ ¬ eFault 3405803781 0 1 f (eBody 8 id data) = 0
    rw [eF_out f id data b0 b1 (by omega)]; decide
  have hW : eW (stN 2 0 cs []) 0 8 h f id data = ⟨0, 1, 1, 3405803781, 5000, f, 0, btwM 1 (eBody 8 id data) 3405803781 5000 f 0⟩ := by
    unfold eW
    rw [if_neg e0, if_pos rfl]
    exact e1
  have hL : eL (stN 2 0 cs []) 0 8 h f id data = [E1 h id f 5000 (0 + 10)] := by
    unfold eL
    rw [if_neg e0, if_pos rfl]
    exact e2
  have hH := echo_hand (stN 2 0 cs []) 0 8 h f id data hu (Or.inl rfl) (may_in _ rfl rfl h f (by omega) (by omega) (by omega))
  rw [hW, hL] at hH
  unfold wayH at hH
  simp only [if_pos] at hH
  rw [echo_onward 8 h f id 3405803781 5000 f 0 data hu] at hH
  rw [if_pos rfl] at hH
  intro W v hbx
  have hh := Receive_any hbx (stN_nil 2 0 cs (by decide) (by decide) (by decide) (by decide)) 0 (rawP (echoP 8 h f id data)) (Or.inl (echo_noerr 8 h f id data hu)) (echo_np 8 h f id data)
  rw [hH] at hh
  exact hh
end Go.Proofs.YtfkjobiapjhacabGreat
