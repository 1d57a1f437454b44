/- What a box does with UDP messages, purely. Own work. -/
import Derived.Test.YtfkjobiapjhacabGreatKpF
namespace Go.Proofs.YtfkjobiapjhacabGreat
open Go.RowKit

theorem bl_rawU (src fr dst to' ttl : Int) (data : ByteArray) (i : Int) : bl (rawP ⟨i, 0, 0, ttl, 17, src, dst, udpB src fr dst to' data⟩) = HDS (28 + (data.size : Int)) i 0 ttl 17 src dst ++ UMS src fr dst to' (bl data) := by
  have e0 : flagW 0 0 = 0 := by decide
  have hz : (udpB src fr dst to' data).size = 8 + data.size := by rw [← bl_length, bl_udpB]; unfold UMS; rw [UM_length, bl_length]
  rw [bl_rawP]
  simp only [e0, hz, bl_udpB]
  have e1 : (20 : Int) + ((8 + data.size : Nat) : Int) = 28 + (data.size : Int) := by omega
  rw [e1]
/-- A packet of UDP that is in form. -/
structure URange (src fr dst to' : Int) (data : ByteArray) : Prop where
  s0 : 0 ≤ src
  s1 : src ≤ 4294967295
  d0 : 0 ≤ dst
  d1 : dst ≤ 4294967295
  f0 : 1 ≤ fr
  f1 : fr ≤ 65535
  t0 : 1 ≤ to'
  t1 : to' ≤ 65535
  sz : data.size ≤ 120
def uW (s : BX) (side src fr dst to' : Int) (data : ByteArray) : WYD := if side = 0 then insW s 17 (udpB src fr dst to' data) src fr dst to' else outsW s 17 (udpB src fr dst to' data) src fr to'
def uL (s : BX) (side src fr dst to' : Int) (data : ByteArray) : List SD := if side = 0 then insF s 17 (udpB src fr dst to' data) src fr dst to' else outsL s 17 (udpB src fr dst to' data) src fr to'
theorem UMS_length (src fr dst to' : Int) (d : List UInt8) : (UMS src fr dst to' d).length = 8 + d.length := by unfold UMS; rw [UM_length]
theorem noerr17 (m : ByteArray) : errB 17 m = false := rfl
theorem udp_np (src fr dst to' : Int) (data : ByteArray) : pieceB ((rawP (udpP src fr dst to' data)).extract 0 20) = false :=
  whole_piece (show bl (rawP (udpP src fr dst to' data)) = HDS (28 + (data.size : Int)) 7 0 9 17 src dst ++ UMS src fr dst to' (bl data) from bl_rawU src fr dst to' 9 data 7) rfl
theorem udp_hand (s : BX) (side src fr dst to' : Int) (data : ByteArray) (hr : URange src fr dst to' data) (hside : side = 0 ∨ side = 1) (hmay : mayB s side src dst = true) :
    handM s side (rawP (udpP src fr dst to' data)) = wayH (rawP (udpP src fr dst to' data)) (uW s side src fr dst to' data) (uL s side src fr dst to' data) := by
  obtain ⟨s0, s1, d0, d1, f0, f1, t0, t1, sz⟩ := hr
  have hbl : bl (rawP (udpP src fr dst to' data)) = HDS (28 + (data.size : Int)) 7 0 9 17 src dst ++ UMS src fr dst to' (bl data) := bl_rawU src fr dst to' 9 data 7
  have hlen : (UMS src fr dst to' (bl data)).length = 8 + data.size := by rw [UMS_length, bl_length]
  have hft : rFault (rawP (udpP src fr dst to' data)) = 0 := whole_fault hbl (by rw [hlen]; omega) (by rw [hlen]; omega) (by rw [hlen]; omega) rfl (by decide) (by decide)
  have hpc : pieceB ((rawP (udpP src fr dst to' data)).extract 0 20) = false := whole_piece hbl rfl
  obtain ⟨-, -, -, -, -, -, h9, -, h12, h16⟩ := HD_word _ _ _ _ _ _ _ _ _ _ hbl
  have e9 : byteAt (rawP (udpP src fr dst to' data)) 9 = 17 := h9
  have e12 : addrAt (rawP (udpP src fr dst to' data)) 12 = src := h12.trans (by omega)
  have e16 : addrAt (rawP (udpP src fr dst to' data)) 16 = dst := h16.trans (by omega)
  have eb : (rawP (udpP src fr dst to' data)).extract 20 (rawP (udpP src fr dst to' data)).size = udpB src fr dst to' data := bl_inj (by rw [whole_body hbl, bl_udpB])
  have hbB := bl_udpB src fr dst to' data
  obtain ⟨w0, w2, -, -⟩ := UM_words hbB
  have ew0 : wordAt (udpB src fr dst to' data) 0 = fr := w0.trans (by omega)
  have ew2 : wordAt (udpB src fr dst to' data) 2 = to' := w2.trans (by omega)
  have hdf := udp_fault (d := bl data) (by rw [bl_length]; omega) hbB s0 s1 d0 d1 f0 f1 t0 t1
  rw [ew0, ew2] at hdf
  have hpo : portsOf 17 (udpB src fr dst to' data) = (fr, to') := by
    unfold portsOf
    rw [if_pos (by decide), ew0, ew2]
  unfold handM
  rw [if_neg (by omega), if_neg (by simp [hft]), e12, e16, if_neg (by simp [hmay]), e9, if_neg (by decide), if_neg (by simp [hpc])]
  unfold wholeW wholeL
  rw [e9, e12, e16, eb, hpo]
  simp only
  unfold routeW routeL uW uL
  have e1 : ¬ ¬ dFault 17 src fr dst to' (udpB src fr dst to' data) = 0 := by simp [hdf]
  have e2 : ¬ ((17 : Int) = 1 ∧ ¬ eFault s.ou side 17 dst (udpB src fr dst to' data) = 0) := fun h => absurd h.1 (by decide)
  have e3 : ¬ errB 17 (udpB src fr dst to' data) = true := by rw [noerr17]; decide
  rw [if_neg e1, if_neg e1, if_neg e3, if_neg e3, if_neg e2, if_neg e2]
theorem udp_noerr (src fr dst to' : Int) (data : ByteArray) : errB (byteAt (rawP (udpP src fr dst to' data)) 9) ((rawP (udpP src fr dst to' data)).extract 20 (rawP (udpP src fr dst to' data)).size) = false := by
  have hbl : bl (rawP (udpP src fr dst to' data)) = HDS (28 + (data.size : Int)) 7 0 9 17 src dst ++ UMS src fr dst to' (bl data) := bl_rawU src fr dst to' 9 data 7
  obtain ⟨-, -, -, -, -, -, h9, -, -, -⟩ := HD_word _ _ _ _ _ _ _ _ _ _ hbl
  have e9 : byteAt (rawP (udpP src fr dst to' data)) 9 = 17 := h9
  rw [e9]
  exact noerr17 _
theorem udp_onward (src fr dst to' xa xp ya yp : Int) (data : ByteArray) (hr : URange src fr dst to' data) (hx0 : 0 ≤ xa) (hx1 : xa ≤ 4294967295) (hy0 : 0 ≤ ya) (hy1 : ya ≤ 4294967295) :
    onHead ((rawP (udpP src fr dst to' data)).extract 0 20) xa ya ++ btwM 17 (udpB src fr dst to' data) xa xp ya yp = rawP ⟨7, 0, 0, 8, 17, xa, ya, udpB xa xp ya yp data⟩ := by
  apply bl_inj
  have hbl : bl (rawP (udpP src fr dst to' data)) = HDS (28 + (data.size : Int)) 7 0 9 17 src dst ++ UMS src fr dst to' (bl data) := bl_rawU src fr dst to' 9 data 7
  have hck := ckU_bd (US src fr dst to' (bl data))
  rw [bl_app, bl_rawU, bl_onHead _ _ _ _ _ _ _ _ _ _ _ (whole_head hbl), bl_btwU (d := bl data) (by rw [bl_length]; have := hr.sz; omega) (bl_udpB src fr dst to' data) hck.1 hck.2 xa xp ya yp hx0 hx1 hy0 hy1]
  have e8 : (9 : Int) - 1 = 8 := by decide
  rw [e8]
theorem udpP_ok (src fr dst to' : Int) (data : ByteArray) (hr : URange src fr dst to' data) : PKOK (udpP src fr dst to' data) := by
  have hz : (udpB src fr dst to' data).size ≤ 1000 := by
    rw [← bl_length, bl_udpB, UMS_length, bl_length]
    have := hr.sz
    omega
  unfold udpP
  generalize udpB src fr dst to' data = B at hz
  exact ⟨hz, (by decide : (0 : Int) ≤ 0), (by decide : (0 : Int) ≤ 7), (by decide : (0 : Int) ≤ 0), (by decide : (0 : Int) ≤ 65535)⟩
/-- A packet of UDP that is let through comes out as it should. -/
theorem udp_one (b : Nat) (s : BX) (hk : OKB s) (side src fr dst to' : Int) (data : ByteArray) (hr : URange src fr dst to' data) (hside : side = 0 ∨ side = 1) (hmay : mayB s side src dst = true) (out xa xp ya yp : Int) (l' : List SD)
    (hW : uW s side src fr dst to' data = ⟨0, out, 17, xa, xp, ya, yp, btwM 17 (udpB src fr dst to' data) xa xp ya yp⟩) (hL : uL s side src fr dst to' data = l') (hx0 : 0 ≤ xa) (hx1 : xa ≤ 4294967295) (hy0 : 0 ≤ ya) (hy1 : ya ≤ 4294967295) :
    OneOK b s side (udpP src fr dst to' data) out ⟨7, 0, 0, 8, 17, xa, ya, udpB xa xp ya yp data⟩ { s with l := l', cs := bump s.cs 0 } := by
  have hH := udp_hand s side src fr dst to' data hr hside hmay
  rw [hW, hL] at hH
  unfold wayH at hH
  simp only [if_pos] at hH
  rw [udp_onward src fr dst to' xa xp ya yp data hr hx0 hx1 hy0 hy1] at hH
  have hbl := bl_rawU xa xp ya yp 8 data 7
  have hlen : (UMS xa xp ya yp (bl data)).length = 8 + data.size := by rw [UMS_length, bl_length]
  have hsz := hr.sz
  have hz := whole_size hbl
  rw [hlen] at hz
  have hR : RecvAt b s side (rawP (udpP src fr dst to' data)) 0 (some (out, rawP ⟨7, 0, 0, 8, 17, xa, ya, udpB xa xp ya yp data⟩)) { s with l := l', cs := bump s.cs 0 } := fun W v hbx => by
    have h := Receive_any hbx hk side (rawP (udpP src fr dst to' data)) (Or.inl (udp_noerr src fr dst to' data)) (udp_np src fr dst to' data)
    rw [hH] at h
    exact h
  obtain ⟨h0, h1, h2, -, -, -, -, -, -, -⟩ := HD_word _ _ _ _ _ _ _ _ _ _ hbl
  have hpar : parP (rawP ⟨7, 0, 0, 8, 17, xa, ya, udpB xa xp ya yp data⟩) = ⟨7, 0, 0, 8, 17, xa, ya, udpB xa xp ya yp data⟩ := by
    rw [whole_par hbl (bl_udpB xa xp ya yp data)]
    have e1 : xa % 4294967296 = xa := by omega
    have e2 : ya % 4294967296 = ya := by omega
    rw [e1, e2]
    have q1 : (7 : Int) % 65536 = 7 := by decide
    have q2 : (0 : Int) % 65536 / 8192 = 0 := by decide
    have q3 : (0 : Int) % 65536 % 8192 * 8 = 0 := by decide
    have q4 : (8 : Int) % 256 = 8 := by decide
    have q5 : (17 : Int) % 256 = 17 := by decide
    rw [q1, q2, q3, q4, q5]
  have hon : honB ⟨7, 0, 0, 8, 17, xa, ya, udpB xa xp ya yp data⟩ = true := by
    have hB := bl_udpB xa xp ya yp data
    generalize udpB xa xp ya yp data = B at hB
    exact udp_hon hB _ rfl rfl rfl rfl
  have hp1 : (udpP src fr dst to' data).id = 7 ∧ (udpP src fr dst to' data).fl = 0 ∧ (udpP src fr dst to' data).off = 0 ∧ (udpP src fr dst to' data).pr = 17 ∧ (udpP src fr dst to' data).ttl = 9 := by
    unfold udpP
    generalize udpB src fr dst to' data = B
    exact ⟨rfl, rfl, rfl, rfl, rfl⟩
  have hp2 := udpP_ok src fr dst to' data hr
  obtain ⟨q1, q2, q3, q4, q5⟩ := hp1
  generalize udpP src fr dst to' data = P at hR hp2 q1 q2 q3 q4 q5 ⊢
  generalize udpB xa xp ya yp data = B at hR hpar hon hz h0 h1 h2 hbl ⊢
  refine ⟨fun w v hbx => ?_⟩
  have h := one_yes hbx side out P hp2 (rawP ⟨7, 0, 0, 8, 17, xa, ya, B⟩) hR (by omega) (by omega) (h2.trans (by rw [hz]; omega)) h0 h1 (whole_sum hbl)
    (by rw [hpar]; exact hon) (by rw [hpar, q1]) (by rw [hpar, q2]) (by rw [hpar, q3]) (by rw [hpar, q4]) (by rw [hpar, q5]; rfl) (by rw [q5]; decide) (by rw [q5]; decide)
  rw [hpar] at h
  exact h
theorem udp_none (b : Nat) (s : BX) (hk : OKB s) (side src fr dst to' : Int) (data : ByteArray) (hr : URange src fr dst to' data) (hside : side = 0 ∨ side = 1) (hmay : mayB s side src dst = true) (what : Int) (l' : List SD)
    (hW : (uW s side src fr dst to' data).what = what) (hne : ¬ what = 0) (hL : uL s side src fr dst to' data = l') :
    NoneOK b s side (udpP src fr dst to' data) what { s with l := l', cs := bump s.cs what.toNat } := by
  have hH := udp_hand s side src fr dst to' data hr hside hmay
  unfold wayH at hH
  rw [hW, hL, if_neg hne] at hH
  have hR : RecvAt b s side (rawP (udpP src fr dst to' data)) what none { s with l := l', cs := bump s.cs what.toNat } := fun W v hbx => by
    have h := Receive_any hbx hk side (rawP (udpP src fr dst to' data)) (Or.inl (udp_noerr src fr dst to' data)) (udp_np src fr dst to' data)
    rw [hH] at h
    exact h
  have hp2 := udpP_ok src fr dst to' data hr
  generalize udpP src fr dst to' data = P at hR hp2 ⊢
  exact fun w v hbx => none_yes hbx side what P hp2 hR
end Go.Proofs.YtfkjobiapjhacabGreat
