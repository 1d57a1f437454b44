/- Errors about what an inner end has sent, purely. Own work. -/
import Derived.Test.YtfkjobiapjhacabGreatUa
namespace Go.Proofs.YtfkjobiapjhacabGreat
open Go.RowKit

theorem shift_udp (fa fp ta tp xa xp ya yp : Int) (data : ByteArray) (hz : data.size ≤ 120) (f0 : 0 ≤ fa) (f1 : fa ≤ 4294967295) (p0 : 1 ≤ fp) (p1 : fp ≤ 65535) (t0 : 0 ≤ ta) (t1 : ta ≤ 4294967295) (u0 : 1 ≤ tp) (u1 : tp ≤ 65535)
    (a0 : 0 ≤ xa) (a1 : xa ≤ 4294967295) (q0 : 1 ≤ xp) (q1 : xp ≤ 65535) (b0 : 0 ≤ ya) (b1 : ya ≤ 4294967295) (r0 : 1 ≤ yp) (r1 : yp ≤ 65535) :
    shiftM 17 fa fp ta tp (udpB fa fp ta tp data) xa xp ya yp = udpB xa xp ya yp data := by
  have hB : bl (udpB fa fp ta tp data) = UM fp tp (8 + ((bl data).length : Int)) (ckU (US fa fp ta tp (bl data))) (bl data) := bl_udpB fa fp ta tp data
  have hBs : (udpB fa fp ta tp data).size = 8 + data.size := udpB_size fa fp ta tp data
  have hcb := ckU_bd (US fa fp ta tp (bl data))
  generalize udpB fa fp ta tp data = B at hB hBs
  apply bl_inj
  rw [bl_udpB]
  have hw6 : wordAt B 6 = ckU (US fa fp ta tp (bl data)) := ((UM_words hB).2.2.2).trans (by omega)
  have hs : hasSumB 17 B = true := by
    unfold hasSumB
    rw [if_pos rfl, hw6]
    simp; omega
  have eP : portM 17 B xp yp = putWord (putWord B 0 xp) 2 yp := if_neg (by decide)
  have h1 : bl (putWord (putWord B 0 xp) 2 yp) = UM xp yp (8 + ((bl data).length : Int)) (ckU (US fa fp ta tp (bl data))) (bl data) := by rw [bl_put, bl_put, hB, UM_put0, UM_put2]
  have h1s : (putWord (putWord B 0 xp) 2 yp).size = 8 + data.size := by rw [← bl_length, h1, UM_length, bl_length]
  have e6 : sumAtI 17 = 6 := rfl
  have eC : chgI 17 fa fp ta tp B (putWord (putWord B 0 xp) 2 yp) xa xp ya yp = endChg fa fp xa xp + endChg ta tp ya yp := if_neg (by decide)
  have hT : foldI (65535 - ckU (US fa fp ta tp (bl data)) + (endChg fa fp xa xp + endChg ta tp ya yp)) = foldI (US xa xp ya yp (bl data)) := by
    have hm := foldI_mod (US fa fp ta tp (bl data))
    have hp := US_pos fa fp ta tp (bl data)
    have hp2 := US_pos xa xp ya yp (bl data)
    have hc : (65535 - ckU (US fa fp ta tp (bl data)) - foldI (US fa fp ta tp (bl data))) % 65535 = 0 := by
      have := foldI_bd (US fa fp ta tp (bl data))
      unfold ckU; split <;> omega
    have hu : US fa fp ta tp (bl data) - fp - tp - (fa / 65536 + fa % 65536) - (ta / 65536 + ta % 65536) = US xa xp ya yp (bl data) - xp - yp - (xa / 65536 + xa % 65536) - (ya / 65536 + ya % 65536) := by
      unfold US addrW
      have x1 : fa / 65536 % 65536 = fa / 65536 := by omega
      have x2 : ta / 65536 % 65536 = ta / 65536 := by omega
      have x3 : xa / 65536 % 65536 = xa / 65536 := by omega
      have x4 : ya / 65536 % 65536 = ya / 65536 := by omega
      have y1 : fp % 65536 = fp := by omega
      have y2 : tp % 65536 = tp := by omega
      have y3 : xp % 65536 = xp := by omega
      have y4 : yp % 65536 = yp := by omega
      rw [x1, x2, x3, x4, y1, y2, y3, y4]
      omega
    have z1 : 0 ≤ fa / 65536 + fa % 65536 ∧ fa / 65536 + fa % 65536 ≤ 131070 := by omega
    have z2 : 0 ≤ ta / 65536 + ta % 65536 ∧ ta / 65536 + ta % 65536 ≤ 131070 := by omega
    have z3 : 0 ≤ xa / 65536 + xa % 65536 := by omega
    have z4 : 0 ≤ ya / 65536 + ya % 65536 := by omega
    unfold endChg
    generalize fa / 65536 + fa % 65536 = A1 at *
    generalize ta / 65536 + ta % 65536 = A2 at *
    generalize xa / 65536 + xa % 65536 = A3 at *
    generalize ya / 65536 + ya % 65536 = A4 at *
    generalize US fa fp ta tp (bl data) = S1 at *
    generalize US xa xp ya yp (bl data) = S2 at *
    generalize ckU S1 = C at *
    generalize foldI S1 = F1 at *
    refine fold_congr _ _ (by omega) (by omega) (by omega)
  have hv : ckI 17 (foldI (65535 - ckU (US fa fp ta tp (bl data)) + (endChg fa fp xa xp + endChg ta tp ya yp))) = ckU (US xa xp ya yp (bl data)) := by
    rw [hT]
    unfold ckI ckU
    simp
  unfold shiftM
  rw [if_neg (by rw [hs]; decide), eP, e6]
  have hw6' : wordAt B ((6 : Nat) : Int) = ckU (US fa fp ta tp (bl data)) := hw6
  rw [eC, hw6', hv]
  unfold putW
  rw [if_pos (by omega), bl_put, h1, UM_put6]
  rfl
theorem EM_word2 {s : ByteArray} {kind id ck : Int} {d : List UInt8} (h : bl s = EM kind id ck d) : wordAt s 2 = ck % 65536 := by
  have w2 := wordAt_bl s 2
  rw [h] at w2
  exact w2.trans (two_bytes ck)
theorem shift_echo (fa fp ta tp xa xp ya yp id : Int) (data : ByteArray) (i0 : 0 ≤ id) (i1 : id ≤ 65535) (q0 : 0 ≤ xp) (q1 : xp ≤ 65535) :
    shiftM 1 fa fp ta tp (eBody 8 id data) xa xp ya yp = eBody 8 xp data := by
  have hB : bl (eBody 8 id data) = EM 8 id (65535 - foldI (ES 8 id (bl data))) (bl data) := bl_echoB 8 id data
  have hBs := eBody_size 8 id data
  generalize eBody 8 id data = B at hB hBs
  have hcb := foldI_bd (ES 8 id (bl data))
  apply bl_inj
  rw [bl_echoB]
  obtain ⟨b0, -, w4⟩ := EM_words hB
  have w2 : wordAt B 2 = 65535 - foldI (ES 8 id (bl data)) := (EM_word2 hB).trans (by omega)
  have w4' : wordAt B 4 = id := w4.trans (by omega)
  have eN : numI B xp yp = xp := by
    unfold numI
    rw [b0]
    rfl
  have eP : portM 1 B xp yp = putWord B 4 xp := (if_pos rfl).trans (by rw [eN])
  have h1 : bl (putWord B 4 xp) = EM 8 xp (65535 - foldI (ES 8 id (bl data))) (bl data) := by rw [bl_put, hB, EM_put4]
  have h1s : (putWord B 4 xp).size = 8 + data.size := by rw [← bl_length, h1, EM_length, bl_length]
  have o4 : wordAt (putWord B 4 xp) 4 = xp := ((EM_words h1).2.2).trans (by omega)
  have hs : hasSumB 1 B = true := rfl
  have e2 : sumAtI 1 = 2 := rfl
  have eC : chgI 1 fa fp ta tp B (putWord B 4 xp) xa xp ya yp = 65535 - id + xp := (if_pos rfl).trans (by rw [w4', o4])
  have hT : foldI (65535 - (65535 - foldI (ES 8 id (bl data))) + (65535 - id + xp)) = foldI (ES 8 xp (bl data)) := by
    have hm := foldI_mod (ES 8 id (bl data))
    have hd := sumL_nonneg (bl data)
    have hp := foldI_pos (ES 8 id (bl data)) (by unfold ES; omega)
    have e1 : ES 8 id (bl data) = 8 % 256 * 256 + id % 65536 + 1 + sumL (bl data) := rfl
    have e3 : ES 8 xp (bl data) = 8 % 256 * 256 + xp % 65536 + 1 + sumL (bl data) := rfl
    generalize foldI (ES 8 id (bl data)) = F at *
    rw [e1] at hm
    rw [e3]
    refine fold_congr _ _ (by omega) (by omega) (by omega)
  unfold shiftM
  rw [if_neg (by rw [hs]; decide), eP, e2]
  have w2' : wordAt B ((2 : Nat) : Int) = 65535 - foldI (ES 8 id (bl data)) := w2
  rw [eC, w2', hT]
  unfold putW
  rw [if_pos (by omega), bl_put, h1, EM_put2]
  unfold ckI
  rw [if_neg (fun h => absurd h.2 (by decide))]
  rfl
/-- A packet that an inner end has sent, and what it was outside. -/
structure TI (pid q h i f fp : Int) (BO BI : ByteArray) (x : SD) : Prop where
  hq : q = 17 ∨ q = 1
  po : portsOf q BO = (5000, fp)
  kd : q = 1 → byteAt BO 0 = 8
  inn : innerI q 5000 [x] = some x
  xia : x.ia = h
  xip : x.ip = i
  has : hasS q h i f fp [x] = true
  hasnt : hasS q h i (f + 201) fp [x] = false
  sh : shiftM q 3405803781 5000 f fp BO h i f fp = BI
  so : BO.size = 17
  si : BI.size = 17
  hon : ∀ p : PK, p.pr = q → p.src = h → p.dst = f → p.body = BI → honB p = true
  okb : OKB (stN 2 0 [] [x])
  okt : OKT (stN 2 0 [] [x])
  h0 : 167772161 ≤ h
  h1 : h ≤ 167773000
  f0 : 134744064 ≤ f
  f1 : f ≤ 134744300
theorem okb_cs {x : SD} (h : OKB (stN 2 0 [] [x])) (cs : List Int) : OKB (stN 2 0 cs [x]) := ⟨h.n0, h.n1, h.o0, h.o1, h.l0, h.l1, h.l2, h.t0, h.t1, h.len, h.ia⟩
theorem err_tr {pid q h i f fp : Int} {BO BI : ByteArray} {x : SD} (t : TI pid q h i f fp BO BI x) (cs : List Int) (g : Int) (M : ByteArray) (n kd ck ba : Int) (hM : bl M = XM kd ck (HDS n pid 0 8 q 3405803781 ba ++ bl BO)) (d0 : 0 ≤ ba) (d1 : ba ≤ 4294967295) :
    trW (stN 2 0 cs [x]) 1 1 g 0 3405803781 0 M = if hasS q h i ba fp [x] = false then noW 16 else ⟨0, 0, 1, g, 0, h, 0, retM M g h h i ba fp⟩ := by
  obtain ⟨hok, -, hB, h9, h12, h16, -⟩ := X_about hM (by rw [t.so]; decide) (by rcases t.hq with e | e; exact Or.inr (Or.inr e); exact Or.inl e) (by decide) (by decide) d0 d1
  unfold trW
  rw [if_neg (by rw [hok]; decide), if_neg (by decide), h9, h12, h16, hB, t.po]
  unfold trOut
  rw [hB, if_neg (fun e => e.2 (t.kd e.1))]
  have hi : innerI q 5000 (stN 2 0 cs [x]).l = some x := t.inn
  simp only [hi]
  rw [t.xia, t.xip]
  have hl : (stN 2 0 cs [x]).l = [x] := rfl
  have hou : (stN 2 0 cs [x]).ou = 3405803781 := rfl
  rw [hl, hou]
  by_cases c : hasS q h i ba fp [x] = false
  · rw [if_pos c, if_pos (Or.inr c)]
  · rw [if_neg c, if_neg (fun e => e.elim (fun e => e rfl) c)]
end Go.Proofs.YtfkjobiapjhacabGreat
