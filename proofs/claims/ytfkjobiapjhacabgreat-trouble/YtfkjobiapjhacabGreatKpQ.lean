/- Contracts of package gatewaykeep: TCP messages that come in. Own work. -/
import Derived.Test.YtfkjobiapjhacabGreatKpJ
namespace Go.Proofs.YtfkjobiapjhacabGreat
open Go.RowKit
attribute [local go_sem ↓] Go.wp_at_zero Go.wp_at_succ

theorem bl_rawT (src fr dst to' fg ttl : Int) (data : ByteArray) (i : Int) : bl (rawP ⟨i, 0, 0, ttl, 6, src, dst, tcpB src fr dst to' fg data⟩) = HDS (40 + (data.size : Int)) i 0 ttl 6 src dst ++ TMS src fr dst to' fg (bl data) := by
  have e0 : flagW 0 0 = 0 := by decide
  have hz : (tcpB src fr dst to' fg data).size = 20 + data.size := by rw [← bl_length, bl_tcpB]; unfold TMS; rw [TM_length, bl_length]
  rw [bl_rawP]
  simp only [e0, hz, bl_tcpB]
  have e1 : (20 : Int) + ((20 + data.size : Nat) : Int) = 40 + (data.size : Int) := by omega
  rw [e1]
def tW (s : BX) (side src fr dst to' fg : Int) (data : ByteArray) : WYD := if side = 0 then insW s 6 (tcpB src fr dst to' fg data) src fr dst to' else outsW s 6 (tcpB src fr dst to' fg data) src fr to'
def tL (s : BX) (side src fr dst to' fg : Int) (data : ByteArray) : List SD := if side = 0 then insF s 6 (tcpB src fr dst to' fg data) src fr dst to' else outsL s 6 (tcpB src fr dst to' fg data) src fr to'
theorem TMS_length (src fr dst to' fg : Int) (d : List UInt8) : (TMS src fr dst to' fg d).length = 20 + d.length := by unfold TMS; rw [TM_length]
theorem noerr6 (m : ByteArray) : errB 6 m = false := rfl
theorem tcp_np (src fr dst to' fg : Int) (data : ByteArray) : pieceB ((rawP (tcpP src fr dst to' fg data)).extract 0 20) = false :=
  whole_piece (show bl (rawP (tcpP src fr dst to' fg data)) = HDS (40 + (data.size : Int)) 8 0 9 6 src dst ++ TMS src fr dst to' fg (bl data) from bl_rawT src fr dst to' fg 9 data 8) rfl
theorem tcp_hand (s : BX) (side src fr dst to' fg : Int) (data : ByteArray) (hr : URange src fr dst to' data) (hside : side = 0 ∨ side = 1) (hmay : mayB s side src dst = true) :
    handM s side (rawP (tcpP src fr dst to' fg data)) = wayH (rawP (tcpP src fr dst to' fg data)) (tW s side src fr dst to' fg data) (tL s side src fr dst to' fg data) := by
  obtain ⟨s0, s1, d0, d1, f0, f1, t0, t1, sz⟩ := hr
  have hbl : bl (rawP (tcpP src fr dst to' fg data)) = HDS (40 + (data.size : Int)) 8 0 9 6 src dst ++ TMS src fr dst to' fg (bl data) := bl_rawT src fr dst to' fg 9 data 8
  have hlen : (TMS src fr dst to' fg (bl data)).length = 20 + data.size := by rw [TMS_length, bl_length]
  have hft : rFault (rawP (tcpP src fr dst to' fg data)) = 0 := whole_fault hbl (by rw [hlen]; omega) (by rw [hlen]; omega) (by rw [hlen]; omega) rfl (by decide) (by decide)
  have hpc : pieceB ((rawP (tcpP src fr dst to' fg data)).extract 0 20) = false := whole_piece hbl rfl
  obtain ⟨-, -, -, -, -, -, h9, -, h12, h16⟩ := HD_word _ _ _ _ _ _ _ _ _ _ hbl
  have e9 : byteAt (rawP (tcpP src fr dst to' fg data)) 9 = 6 := h9
  have e12 : addrAt (rawP (tcpP src fr dst to' fg data)) 12 = src := h12.trans (by omega)
  have e16 : addrAt (rawP (tcpP src fr dst to' fg data)) 16 = dst := h16.trans (by omega)
  have eb : (rawP (tcpP src fr dst to' fg data)).extract 20 (rawP (tcpP src fr dst to' fg data)).size = tcpB src fr dst to' fg data := bl_inj (by rw [whole_body hbl, bl_tcpB])
  have hbB := bl_tcpB src fr dst to' fg data
  obtain ⟨w0, w2, -, -⟩ := TM_words hbB
  have ew0 : wordAt (tcpB src fr dst to' fg data) 0 = fr := w0.trans (by omega)
  have ew2 : wordAt (tcpB src fr dst to' fg data) 2 = to' := w2.trans (by omega)
  have hdf := tcp_fault (d := bl data) (by rw [bl_length]; omega) hbB s0 s1 d0 d1 f0 f1 t0 t1
  rw [ew0, ew2] at hdf
  have hpo : portsOf 6 (tcpB src fr dst to' fg data) = (fr, to') := by
    unfold portsOf
    rw [if_pos (by decide), ew0, ew2]
  unfold handM
  rw [if_neg (by omega), if_neg (by simp [hft]), e12, e16, if_neg (by simp [hmay]), e9, if_neg (by decide), if_neg (by simp [hpc])]
  unfold wholeW wholeL
  rw [e9, e12, e16, eb, hpo]
  simp only
  unfold routeW routeL tW tL
  have e1 : ¬ ¬ dFault 6 src fr dst to' (tcpB src fr dst to' fg data) = 0 := by simp [hdf]
  have e2 : ¬ ((6 : Int) = 1 ∧ ¬ eFault s.ou side 6 dst (tcpB src fr dst to' fg data) = 0) := fun h => absurd h.1 (by decide)
  have e3 : ¬ errB 6 (tcpB src fr dst to' fg data) = true := by rw [noerr6]; decide
  rw [if_neg e1, if_neg e1, if_neg e3, if_neg e3, if_neg e2, if_neg e2]
theorem tcp_noerr (src fr dst to' fg : Int) (data : ByteArray) : errB (byteAt (rawP (tcpP src fr dst to' fg data)) 9) ((rawP (tcpP src fr dst to' fg data)).extract 20 (rawP (tcpP src fr dst to' fg data)).size) = false := by
  have hbl : bl (rawP (tcpP src fr dst to' fg data)) = HDS (40 + (data.size : Int)) 8 0 9 6 src dst ++ TMS src fr dst to' fg (bl data) := bl_rawT src fr dst to' fg 9 data 8
  obtain ⟨-, -, -, -, -, -, h9, -, -, -⟩ := HD_word _ _ _ _ _ _ _ _ _ _ hbl
  have e9 : byteAt (rawP (tcpP src fr dst to' fg data)) 9 = 6 := h9
  rw [e9]
  exact noerr6 _
theorem tcp_onward (src fr dst to' fg xa xp ya yp : Int) (data : ByteArray) (hr : URange src fr dst to' data) (hx0 : 0 ≤ xa) (hx1 : xa ≤ 4294967295) (hy0 : 0 ≤ ya) (hy1 : ya ≤ 4294967295) :
    onHead ((rawP (tcpP src fr dst to' fg data)).extract 0 20) xa ya ++ btwM 6 (tcpB src fr dst to' fg data) xa xp ya yp = rawP ⟨8, 0, 0, 8, 6, xa, ya, tcpB xa xp ya yp fg data⟩ := by
  apply bl_inj
  have hbl : bl (rawP (tcpP src fr dst to' fg data)) = HDS (40 + (data.size : Int)) 8 0 9 6 src dst ++ TMS src fr dst to' fg (bl data) := bl_rawT src fr dst to' fg 9 data 8
  rw [bl_app, bl_rawT, bl_onHead _ _ _ _ _ _ _ _ _ _ _ (whole_head hbl), bl_btwT (d := bl data) (by rw [bl_length]; have := hr.sz; omega) (bl_tcpB src fr dst to' fg data) xa xp ya yp hx0 hx1 hy0 hy1]
  have e8 : (9 : Int) - 1 = 8 := by decide
  rw [e8]
theorem tcpP_ok (src fr dst to' fg : Int) (data : ByteArray) (hr : URange src fr dst to' data) : PKOK (tcpP src fr dst to' fg data) := by
  have hz : (tcpB src fr dst to' fg data).size ≤ 1000 := by
    rw [← bl_length, bl_tcpB, TMS_length, bl_length]
    have := hr.sz
    omega
  unfold tcpP
  generalize tcpB src fr dst to' fg data = B at hz
  exact ⟨hz, (by decide : (0 : Int) ≤ 0), (by decide : (0 : Int) ≤ 7), (by decide : (0 : Int) ≤ 0), (by decide : (0 : Int) ≤ 65535)⟩
/-- A packet of UDP that is let through comes out as it should. -/
theorem tcp_one (b : Nat) (s : BX) (hk : OKB s) (side src fr dst to' fg : Int) (data : ByteArray) (hr : URange src fr dst to' data) (hside : side = 0 ∨ side = 1) (hmay : mayB s side src dst = true) (out xa xp ya yp : Int) (l' : List SD)
    (hW : tW s side src fr dst to' fg data = ⟨0, out, 6, xa, xp, ya, yp, btwM 6 (tcpB src fr dst to' fg data) xa xp ya yp⟩) (hL : tL s side src fr dst to' fg data = l') (hx0 : 0 ≤ xa) (hx1 : xa ≤ 4294967295) (hy0 : 0 ≤ ya) (hy1 : ya ≤ 4294967295) :
    OneOK b s side (tcpP src fr dst to' fg data) out ⟨8, 0, 0, 8, 6, xa, ya, tcpB xa xp ya yp fg data⟩ { s with l := l', cs := bump s.cs 0 } := by
  have hH := tcp_hand s side src fr dst to' fg data hr hside hmay
  rw [hW, hL] at hH
  unfold wayH at hH
  simp only [if_pos] at hH
  rw [tcp_onward src fr dst to' fg xa xp ya yp data hr hx0 hx1 hy0 hy1] at hH
  have hbl := bl_rawT xa xp ya yp fg 8 data 8
  have hlen : (TMS xa xp ya yp fg (bl data)).length = 20 + data.size := by rw [TMS_length, bl_length]
  have hsz := hr.sz
  have hz := whole_size hbl
  rw [hlen] at hz
  have hR : RecvAt b s side (rawP (tcpP src fr dst to' fg data)) 0 (some (out, rawP ⟨8, 0, 0, 8, 6, xa, ya, tcpB xa xp ya yp fg data⟩)) { s with l := l', cs := bump s.cs 0 } := fun W v hbx => by
    have h := Receive_any hbx hk side (rawP (tcpP src fr dst to' fg data)) (Or.inl (tcp_noerr src fr dst to' fg data)) (tcp_np src fr dst to' fg data)
    rw [hH] at h
    exact h
  obtain ⟨h0, h1, h2, -, -, -, -, -, -, -⟩ := HD_word _ _ _ _ _ _ _ _ _ _ hbl
  have hpar : parP (rawP ⟨8, 0, 0, 8, 6, xa, ya, tcpB xa xp ya yp fg data⟩) = ⟨8, 0, 0, 8, 6, xa, ya, tcpB xa xp ya yp fg data⟩ := by
    rw [whole_par hbl (bl_tcpB xa xp ya yp fg data)]
    have e1 : xa % 4294967296 = xa := by omega
    have e2 : ya % 4294967296 = ya := by omega
    rw [e1, e2]
    have q1 : (8 : Int) % 65536 = 8 := by decide
    have q2 : (0 : Int) % 65536 / 8192 = 0 := by decide
    have q3 : (0 : Int) % 65536 % 8192 * 8 = 0 := by decide
    have q4 : (8 : Int) % 256 = 8 := by decide
    have q5 : (6 : Int) % 256 = 6 := by decide
    rw [q1, q2, q3, q4, q5]
  have hon : honB ⟨8, 0, 0, 8, 6, xa, ya, tcpB xa xp ya yp fg data⟩ = true := by
    have hB := bl_tcpB xa xp ya yp fg data
    generalize tcpB xa xp ya yp fg data = B at hB
    exact tcp_hon hB _ rfl rfl rfl rfl
  have hp1 : (tcpP src fr dst to' fg data).id = 8 ∧ (tcpP src fr dst to' fg data).fl = 0 ∧ (tcpP src fr dst to' fg data).off = 0 ∧ (tcpP src fr dst to' fg data).pr = 6 ∧ (tcpP src fr dst to' fg data).ttl = 9 := by
    unfold tcpP
    generalize tcpB src fr dst to' fg data = B
    exact ⟨rfl, rfl, rfl, rfl, rfl⟩
  have hp2 := tcpP_ok src fr dst to' fg data hr
  obtain ⟨q1, q2, q3, q4, q5⟩ := hp1
  generalize tcpP src fr dst to' fg data = P at hR hp2 q1 q2 q3 q4 q5 ⊢
  generalize tcpB xa xp ya yp fg data = B at hR hpar hon hz h0 h1 h2 hbl ⊢
  refine ⟨fun w v hbx => ?_⟩
  have h := one_yes hbx side out P hp2 (rawP ⟨8, 0, 0, 8, 6, xa, ya, B⟩) hR (by omega) (by omega) (h2.trans (by rw [hz]; omega)) h0 h1 (whole_sum hbl)
    (by rw [hpar]; exact hon) (by rw [hpar, q1]) (by rw [hpar, q2]) (by rw [hpar, q3]) (by rw [hpar, q4]) (by rw [hpar, q5]; rfl) (by rw [q5]; decide) (by rw [q5]; decide)
  rw [hpar] at h
  exact h
theorem tcp_none (b : Nat) (s : BX) (hk : OKB s) (side src fr dst to' fg : Int) (data : ByteArray) (hr : URange src fr dst to' data) (hside : side = 0 ∨ side = 1) (hmay : mayB s side src dst = true) (what : Int) (l' : List SD)
    (hW : (tW s side src fr dst to' fg data).what = what) (hne : ¬ what = 0) (hL : tL s side src fr dst to' fg data = l') :
    NoneOK b s side (tcpP src fr dst to' fg data) what { s with l := l', cs := bump s.cs what.toNat } := by
  have hH := tcp_hand s side src fr dst to' fg data hr hside hmay
  unfold wayH at hH
  rw [hW, hL, if_neg hne] at hH
  have hR : RecvAt b s side (rawP (tcpP src fr dst to' fg data)) what none { s with l := l', cs := bump s.cs what.toNat } := fun W v hbx => by
    have h := Receive_any hbx hk side (rawP (tcpP src fr dst to' fg data)) (Or.inl (tcp_noerr src fr dst to' fg data)) (tcp_np src fr dst to' fg data)
    rw [hH] at h
    exact h
  have hp2 := tcpP_ok src fr dst to' fg data hr
  generalize tcpP src fr dst to' fg data = P at hR hp2 ⊢
  exact fun w v hbx => none_yes hbx side what P hp2 hR
end Go.Proofs.YtfkjobiapjhacabGreat
