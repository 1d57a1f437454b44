/- Own work. -/
import Derived.Test.YtfkjobiapjhacabGreatK4
/- Contracts of package gatewaykeep: TCP messages that come in. Own work. -/
namespace Go.Proofs.YtfkjobiapjhacabGreat
open Go.RowKit
attribute [local go_sem ↓] Go.wp_at_zero Go.wp_at_succ

theorem bl_rawT (src fr dst to' fg ttl : Int) (data : ByteArray) (i : Int) : bl (rawP ⟨i, 0, 0, ttl, 6, src, dst, tcpB src fr dst to' fg data⟩) = HDS (40 + (data.size : Int)) i 0 ttl 6 src dst ++ TMS src fr dst to' fg (bl data) := by
  have e0 : flagW 0 0 = 0 := by decide
  have hz : (tcpB src fr dst to' fg data).size = 20 + data.size := by rw [← bl_length, bl_tcpB]; unfold TMS; rw [TM_length, bl_length]
  rw [bl_rawP]
  simp only [e0, hz, bl_tcpB]
  have e1 : (20 : Int) + ((20 + data.size : Nat) : Int) = 40 + (data.size : Int) := by omega
  rw [e1]
def tW (s : BX) (side src fr dst to' fg : Int) (data : ByteArray) : WYD := if side = 0 then insW s 6 (tcpB src fr dst to' fg data) src fr dst to' else outsW s 6 (tcpB src fr dst to' fg data) src fr to'
def tL (s : BX) (side src fr dst to' fg : Int) (data : ByteArray) : List SD := if side = 0 then insF s 6 (tcpB src fr dst to' fg data) src fr dst to' else outsL s 6 (tcpB src fr dst to' fg data) src fr to'
theorem TMS_length (src fr dst to' fg : Int) (d : List UInt8) : (TMS src fr dst to' fg d).length = 20 + d.length := by unfold TMS; rw [TM_length]
theorem noerr6 (m : ByteArray) : errB 6 m = false := rfl
theorem tcp_np (src fr dst to' fg : Int) (data : ByteArray) : pieceB ((rawP (tcpP src fr dst to' fg data)).extract 0 20) = false :=
  whole_piece (show bl (rawP (tcpP src fr dst to' fg data)) = HDS (40 + (data.size : Int)) 8 0 9 6 src dst ++ TMS src fr dst to' fg (bl data) from bl_rawT src fr dst to' fg 9 data 8) rfl
theorem tcp_hand (s : BX) (side src fr dst to' fg : Int) (data : ByteArray) (hr : URange src fr dst to' data) (hside : side = 0 ∨ side = 1) (hmay : mayB s side src dst = true) :
    handM s side (rawP (tcpP src fr dst to' fg data)) = wayH (rawP (tcpP src fr dst to' fg data)) (tW s side src fr dst to' fg data) (tL s side src fr dst to' fg data) := by
  obtain ⟨s0, s1, d0, d1, f0, f1, t0, t1, sz⟩ := hr
  have hbl : bl (rawP (tcpP src fr dst to' fg data)) = HDS (40 + (data.size : Int)) 8 0 9 6 src dst ++ TMS src fr dst to' fg (bl data) := bl_rawT src fr dst to' fg 9 data 8
  have hlen : (TMS src fr dst to' fg (bl data)).length = 20 + data.size := by rw [TMS_length, bl_length]
  have hft : rFault (rawP (tcpP src fr dst to' fg data)) = 0 := whole_fault hbl (by rw [hlen]; omega) (by rw [hlen]; omega) (by rw [hlen]; omega) rfl (by decide) (by decide)
  have hpc : pieceB ((rawP (tcpP src fr dst to' fg data)).extract 0 20) = false := whole_piece hbl rfl
  obtain ⟨-, -, -, -, -, -, h9, -, h12, h16⟩ := HD_word _ _ _ _ _ _ _ _ _ _ hbl
  have e9 : byteAt (rawP (tcpP src fr dst to' fg data)) 9 = 6 := h9
  have e12 : addrAt (rawP (tcpP src fr dst to' fg data)) 12 = src := h12.trans (by omega)
  have e16 : addrAt (rawP (tcpP src fr dst to' fg data)) 16 = dst := h16.trans (by omega)
  have eb : (rawP (tcpP src fr dst to' fg data)).extract 20 (rawP (tcpP src fr dst to' fg data)).size = tcpB src fr dst to' fg data := bl_inj (by rw [whole_body hbl, bl_tcpB])
  have hbB := bl_tcpB src fr dst to' fg data
  obtain ⟨w0, w2, -, -⟩ := TM_words hbB
  have ew0 : wordAt (tcpB src fr dst to' fg data) 0 = fr := w0.trans (by omega)
  have ew2 : wordAt (tcpB src fr dst to' fg data) 2 = to' := w2.trans (by omega)
  have hdf := tcp_fault (d := bl data) (by rw [bl_length]; omega) hbB s0 s1 d0 d1 f0 f1 t0 t1
  rw [ew0, ew2] at hdf
  have hpo : portsOf 6 (tcpB src fr dst to' fg data) = (fr, to') := by
    unfold portsOf
    rw [if_pos (by decide), ew0, ew2]
  unfold handM
  rw [if_neg (by omega), if_neg (by simp [hft]), e12, e16, if_neg (by simp [hmay]), e9, if_neg (by decide), if_neg (by simp [hpc])]
  unfold wholeW wholeL
  rw [e9, e12, e16, eb, hpo]
  simp only
  unfold routeW routeL tW tL
  have e1 : ¬ ¬ dFault 6 src fr dst to' (tcpB src fr dst to' fg data) = 0 := by simp [hdf]
  have e2 : ¬ ((6 : Int) = 1 ∧ ¬ eFault s.ou side 6 dst (tcpB src fr dst to' fg data) = 0) := fun h => absurd h.1 (by decide)
  have e3 : ¬ errB 6 (tcpB src fr dst to' fg data) = true := by rw [noerr6]; decide
  rw [if_neg e1, if_neg e1, if_neg e3, if_neg e3, if_neg e2, if_neg e2]
theorem tcp_noerr (src fr dst to' fg : Int) (data : ByteArray) : errB (byteAt (rawP (tcpP src fr dst to' fg data)) 9) ((rawP (tcpP src fr dst to' fg data)).extract 20 (rawP (tcpP src fr dst to' fg data)).size) = false := by
  have hbl : bl (rawP (tcpP src fr dst to' fg data)) = HDS (40 + (data.size : Int)) 8 0 9 6 src dst ++ TMS src fr dst to' fg (bl data) := bl_rawT src fr dst to' fg 9 data 8
  obtain ⟨-, -, -, -, -, -, h9, -, -, -⟩ := HD_word _ _ _ _ _ _ _ _ _ _ hbl
  have e9 : byteAt (rawP (tcpP src fr dst to' fg data)) 9 = 6 := h9
  rw [e9]
  exact noerr6 _
theorem tcp_onward (src fr dst to' fg xa xp ya yp : Int) (data : ByteArray) (hr : URange src fr dst to' data) (hx0 : 0 ≤ xa) (hx1 : xa ≤ 4294967295) (hy0 : 0 ≤ ya) (hy1 : ya ≤ 4294967295) :
    onHead ((rawP (tcpP src fr dst to' fg data)).extract 0 20) xa ya ++ btwM 6 (tcpB src fr dst to' fg data) xa xp ya yp = rawP ⟨8, 0, 0, 8, 6, xa, ya, tcpB xa xp ya yp fg data⟩ := by
  apply bl_inj
  have hbl : bl (rawP (tcpP src fr dst to' fg data)) = HDS (40 + (data.size : Int)) 8 0 9 6 src dst ++ TMS src fr dst to' fg (bl data) := bl_rawT src fr dst to' fg 9 data 8
  rw [bl_app, bl_rawT, bl_onHead _ _ _ _ _ _ _ _ _ _ _ (whole_head hbl), bl_btwT (d := bl data) (by rw [bl_length]; have := hr.sz; omega) (bl_tcpB src fr dst to' fg data) xa xp ya yp hx0 hx1 hy0 hy1]
  have e8 : (9 : Int) - 1 = 8 := by decide
  rw [e8]
theorem tcpP_ok (src fr dst to' fg : Int) (data : ByteArray) (hr : URange src fr dst to' data) : PKOK (tcpP src fr dst to' fg data) := by
  have hz : (tcpB src fr dst to' fg data).size ≤ 1000 := by
    rw [← bl_length, bl_tcpB, TMS_length, bl_length]
    have := hr.sz
    omega
  unfold tcpP
  generalize tcpB src fr dst to' fg data = B at hz
  exact ⟨hz, (by decide : (0 : Int) ≤ 0), (by decide : (0 : Int) ≤ 7), (by decide : (0 : Int) ≤ 0), (by decide : (0 : Int) ≤ 65535)⟩
/-- A packet of UDP that is let through comes out as it should. -/
theorem tcp_one (b : Nat) (s : BX) (hk : OKB s) (side src fr dst to' fg : Int) (data : ByteArray) (hr : URange src fr dst to' data) (hside : side = 0 ∨ side = 1) (hmay : mayB s side src dst = true) (out xa xp ya yp : Int) (l' : List SD)
    (hW : tW s side src fr dst to' fg data = ⟨0, out, 6, xa, xp, ya, yp, btwM 6 (tcpB src fr dst to' fg data) xa xp ya yp⟩) (hL : tL s side src fr dst to' fg data = l') (hx0 : 0 ≤ xa) (hx1 : xa ≤ 4294967295) (hy0 : 0 ≤ ya) (hy1 : ya ≤ 4294967295) :
    OneOK b s side (tcpP src fr dst to' fg data) out ⟨8, 0, 0, 8, 6, xa, ya, tcpB xa xp ya yp fg data⟩ { s with l := l', cs := bump s.cs 0 } := by
  have hH := tcp_hand s side src fr dst to' fg data hr hside hmay
  rw [hW, hL] at hH
  unfold wayH at hH
  simp only [if_pos] at hH
  rw [tcp_onward src fr dst to' fg xa xp ya yp data hr hx0 hx1 hy0 hy1] at hH
  have hbl := bl_rawT xa xp ya yp fg 8 data 8
  have hlen : (TMS xa xp ya yp fg (bl data)).length = 20 + data.size := by rw [TMS_length, bl_length]
  have hsz := hr.sz
  have hz := whole_size hbl
  rw [hlen] at hz
  have hR : RecvAt b s side (rawP (tcpP src fr dst to' fg data)) 0 (some (out, rawP ⟨8, 0, 0, 8, 6, xa, ya, tcpB xa xp ya yp fg data⟩)) { s with l := l', cs := bump s.cs 0 } := fun W v hbx => by
    have h := Receive_any hbx hk side (rawP (tcpP src fr dst to' fg data)) (Or.inl (tcp_noerr src fr dst to' fg data)) (tcp_np src fr dst to' fg data)
    rw [hH] at h
    exact h
  obtain ⟨h0, h1, h2, -, -, -, -, -, -, -⟩ := HD_word _ _ _ _ _ _ _ _ _ _ hbl
  have hpar : parP (rawP ⟨8, 0, 0, 8, 6, xa, ya, tcpB xa xp ya yp fg data⟩) = ⟨8, 0, 0, 8, 6, xa, ya, tcpB xa xp ya yp fg data⟩ := by
    rw [whole_par hbl (bl_tcpB xa xp ya yp fg data)]
    have e1 : xa % 4294967296 = xa := by omega
    have e2 : ya % 4294967296 = ya := by omega
    rw [e1, e2]
    have q1 : (8 : Int) % 65536 = 8 := by decide
    have q2 : (0 : Int) % 65536 / 8192 = 0 := by decide
    have q3 : (0 : Int) % 65536 % 8192 * 8 = 0 := by decide
    have q4 : (8 : Int) % 256 = 8 := by decide
    have q5 : (6 : Int) % 256 = 6 := by decide
    rw [q1, q2, q3, q4, q5]
  have hon : honB ⟨8, 0, 0, 8, 6, xa, ya, tcpB xa xp ya yp fg data⟩ = true := by
    have hB := bl_tcpB xa xp ya yp fg data
    generalize tcpB xa xp ya yp fg data = B at hB
    exact tcp_hon hB _ rfl rfl rfl rfl
  have hp1 : (tcpP src fr dst to' fg data).id = 8 ∧ (tcpP src fr dst to' fg data).fl = 0 ∧ (tcpP src fr dst to' fg data).off = 0 ∧ (tcpP src fr dst to' fg data).pr = 6 ∧ (tcpP src fr dst to' fg data).ttl = 9 := by
    unfold tcpP
    generalize tcpB src fr dst to' fg data = B
    exact ⟨rfl, rfl, rfl, rfl, rfl⟩
  have hp2 := tcpP_ok src fr dst to' fg data hr
  obtain ⟨q1, q2, q3, q4, q5⟩ := hp1
  generalize tcpP src fr dst to' fg data = P at hR hp2 q1 q2 q3 q4 q5 ⊢
  generalize tcpB xa xp ya yp fg data = B at hR hpar hon hz h0 h1 h2 hbl ⊢
  refine ⟨fun w v hbx => ?_⟩
  have h := one_yes hbx side out P hp2 (rawP ⟨8, 0, 0, 8, 6, xa, ya, B⟩) hR (by omega) (by omega) (h2.trans (by rw [hz]; omega)) h0 h1 (whole_sum hbl)
    (by rw [hpar]; exact hon) (by rw [hpar, q1]) (by rw [hpar, q2]) (by rw [hpar, q3]) (by rw [hpar, q4]) (by rw [hpar, q5]; rfl) (by rw [q5]; decide) (by rw [q5]; decide)
  rw [hpar] at h
  exact h
theorem tcp_none (b : Nat) (s : BX) (hk : OKB s) (side src fr dst to' fg : Int) (data : ByteArray) (hr : URange src fr dst to' data) (hside : side = 0 ∨ side = 1) (hmay : mayB s side src dst = true) (what : Int) (l' : List SD)
    (hW : (tW s side src fr dst to' fg data).what = what) (hne : ¬ what = 0) (hL : tL s side src fr dst to' fg data = l') :
    NoneOK b s side (tcpP src fr dst to' fg data) what { s with l := l', cs := bump s.cs what.toNat } := by
  have hH := tcp_hand s side src fr dst to' fg data hr hside hmay
  unfold wayH at hH
  rw [hW, hL, if_neg hne] at hH
  have hR : RecvAt b s side (rawP (tcpP src fr dst to' fg data)) what none { s with l := l', cs := bump s.cs what.toNat } := fun W v hbx => by
    have h := Receive_any hbx hk side (rawP (tcpP src fr dst to' fg data)) (Or.inl (tcp_noerr src fr dst to' fg data)) (tcp_np src fr dst to' fg data)
    rw [hH] at h
    exact h
  have hp2 := tcpP_ok src fr dst to' fg data hr
  generalize tcpP src fr dst to' fg data = P at hR hp2 ⊢
  exact fun w v hbx => none_yes hbx side what P hp2 hR
end Go.Proofs.YtfkjobiapjhacabGreat
/- What a box does with one session of TCP, purely. Own work. -/
namespace Go.Proofs.YtfkjobiapjhacabGreat
open Go.RowKit

/-- A session of TCP. -/
def T1 (h p f q port dl : Int) (t : TK) : SD := ⟨6, h, p, f, q, port, dl, t.st, t.an, t.inf, t.outf⟩
theorem fresh6 (h p f q port : Int) : freshS 6 h p f q port = T1 h p f q port 0 ⟨1, false, false, false⟩ := rfl
theorem pass6 (side fg now h p f q port dl : Int) (t : TK) : passS 6 side fg now (T1 h p f q port dl t) = T1 h p f q port (now + ticksI 6 (tkBehind t side fg).st) (tkBehind t side fg) := rfl
theorem isS_T1 (a b c d h p f q port dl : Int) (t : TK) : isS 6 a b c d (T1 h p f q port dl t) = decide (h = a ∧ p = b ∧ f = c ∧ q = d) := by
  unfold isS T1
  by_cases e1 : h = a <;> by_cases e2 : p = b <;> by_cases e3 : f = c <;> by_cases e4 : q = d <;> simp [e1, e2, e3, e4]
theorem hasT_one (a b c d h p f q port dl : Int) (t : TK) : hasS 6 a b c d [T1 h p f q port dl t] = decide (h = a ∧ p = b ∧ f = c ∧ q = d) := by
  unfold hasS findI
  by_cases e : h = a ∧ p = b ∧ f = c ∧ q = d
  · have e1 : [T1 h p f q port dl t].findIdx? (isS 6 a b c d) = some 0 := by simp [isS_T1, e]
    rw [e1, decide_eq_true e]; rfl
  · have e1 : [T1 h p f q port dl t].findIdx? (isS 6 a b c d) = none := by simp [isS_T1, e]
    rw [e1, decide_eq_false e]; rfl
theorem passT_one (side fg now h p f q port dl : Int) (t : TK) : passL 6 h p f q side fg now [T1 h p f q port dl t] = [T1 h p f q port (now + ticksI 6 (tkBehind t side fg).st) (tkBehind t side fg)] := by
  unfold passL
  have e1 : [T1 h p f q port dl t].findIdx? (isS 6 h p f q) = some 0 := by simp [isS_T1]
  rw [e1]
  simp [pass6]
theorem outerT_one (h p f q port dl : Int) (t : TK) : outerI 6 h p [T1 h p f q port dl t] = port := by
  unfold outerI T1
  simp
theorem innerT_one (pt h p f q port dl : Int) (t : TK) : innerI 6 pt [T1 h p f q port dl t] = if port = pt then some (T1 h p f q port dl t) else none := by
  unfold innerI
  by_cases e1 : port = pt <;> simp [T1, e1]
/-- A first message from inside: SYN. -/
theorem insT_fresh (s : BX) (hl : s.l = []) (h p f q : Int) (m : ByteArray) (hf : ¬ f = s.ou) (hlo : ¬ s.lo = 0) (hhi : s.lo ≤ s.hi) (hs : fl (byteAt m 13) 23 = 2) :
    insW s 6 m h p f q = ⟨0, 1, 6, s.ou, s.lo, f, q, btwM 6 m s.ou s.lo f q⟩ ∧ insF s 6 m h p f q = [T1 h p f q s.lo (s.tm + ticksI 6 (tkBehind ⟨1, false, false, false⟩ 0 (byteAt m 13)).st) (tkBehind ⟨1, false, false, false⟩ 0 (byteAt m 13))] := by
  obtain ⟨n, hn⟩ : ∃ n, (s.hi - s.lo + 1).toNat = n + 1 := ⟨(s.hi - s.lo).toNat, by omega⟩
  have hH : hasS 6 h p f q [] = false := rfl
  have hP : askP s 6 h p = s.lo := by
    unfold askP
    rw [hl, hn]
    rfl
  have hW : askW s 6 h p f q (byteAt m 13) = 0 := by
    unfold askW
    rw [hP, hl, hH]
    simp [hlo, hs]
  have hL : askL s 6 h p f q (byteAt m 13) = [T1 h p f q s.lo 0 ⟨1, false, false, false⟩] := by
    unfold askL
    rw [hW, hP, hl, hH]
    simp only [fresh6]
    rfl
  have hI : insL s 6 m h p f q = [T1 h p f q s.lo (s.tm + ticksI 6 (tkBehind ⟨1, false, false, false⟩ 0 (byteAt m 13)).st) (tkBehind ⟨1, false, false, false⟩ 0 (byteAt m 13))] := by
    unfold insL
    rw [hL, passT_one]
  have hO : insP s 6 m h p f q = s.lo := by
    unfold insP
    rw [hI, outerT_one]
  constructor
  · unfold insW
    rw [if_neg (fun h => hf h.1), hW, if_neg (by simp), if_neg hf, hO]
  · unfold insF
    rw [if_neg (fun h => hf h.1), hW, if_neg (by simp), if_neg hf, hI]
theorem insT_unasked (s : BX) (hl : s.l = []) (h p f q : Int) (m : ByteArray) (hf : ¬ f = s.ou) (hs : ¬ fl (byteAt m 13) 23 = 2) : (insW s 6 m h p f q).what = 16 ∧ insF s 6 m h p f q = [] := by
  have hH : hasS 6 h p f q [] = false := rfl
  have hW : askW s 6 h p f q (byteAt m 13) = 16 := by
    unfold askW
    rw [hl, hH]
    simp [hs]
  have hL : askL s 6 h p f q (byteAt m 13) = [] := by
    unfold askL
    rw [hW, hl, hH]
    simp
  constructor
  · unfold insW
    rw [if_neg (fun h => hf h.1), hW, if_pos (by decide)]
  · unfold insF
    rw [if_neg (fun h => hf h.1), hW, if_pos (by decide), hL]
theorem insT_again (s : BX) (h p f q port dl : Int) (t : TK) (m : ByteArray) (hl : s.l = [T1 h p f q port dl t]) (hf : ¬ f = s.ou) :
    insW s 6 m h p f q = ⟨0, 1, 6, s.ou, port, f, q, btwM 6 m s.ou port f q⟩ ∧ insF s 6 m h p f q = [T1 h p f q port (s.tm + ticksI 6 (tkBehind t 0 (byteAt m 13)).st) (tkBehind t 0 (byteAt m 13))] := by
  have hH : hasS 6 h p f q s.l = true := by rw [hl, hasT_one]; exact decide_eq_true ⟨rfl, rfl, rfl, rfl⟩
  have hW : askW s 6 h p f q (byteAt m 13) = 0 := by unfold askW; rw [if_pos hH]
  have hL : askL s 6 h p f q (byteAt m 13) = s.l := by unfold askL; rw [if_pos hH]
  have hI : insL s 6 m h p f q = [T1 h p f q port (s.tm + ticksI 6 (tkBehind t 0 (byteAt m 13)).st) (tkBehind t 0 (byteAt m 13))] := by
    unfold insL
    rw [hL, hl, passT_one]
  have hO : insP s 6 m h p f q = port := by
    unfold insP
    rw [hI, outerT_one]
  constructor
  · unfold insW
    rw [if_neg (fun h => hf h.1), hW, if_neg (by simp), if_neg hf, hO]
  · unfold insF
    rw [if_neg (fun h => hf h.1), hW, if_neg (by simp), if_neg hf, hI]
theorem outsT_one (s : BX) (h p f q port dl : Int) (t : TK) (m : ByteArray) (hl : s.l = [T1 h p f q port dl t]) :
    outsW s 6 m f q port = ⟨0, 0, 6, f, q, h, p, btwM 6 m f q h p⟩ ∧ outsL s 6 m f q port = [T1 h p f q port (s.tm + ticksI 6 (tkBehind t 1 (byteAt m 13)).st) (tkBehind t 1 (byteAt m 13))] := by
  have hI : innerI 6 port s.l = some (T1 h p f q port dl t) := by rw [hl, innerT_one, if_pos rfl]
  have hH : hasS 6 (T1 h p f q port dl t).ia (T1 h p f q port dl t).ip f q s.l = true := by rw [hl, hasT_one]; exact decide_eq_true ⟨rfl, rfl, rfl, rfl⟩
  constructor
  · unfold outsW
    rw [hI]
    simp only [hH]
    rfl
  · unfold outsL
    rw [hI]
    simp only [hH]
    rw [if_pos trivial, hl]
    exact passT_one 1 (byteAt m 13) s.tm h p f q port dl t
theorem outsT_nil (s : BX) (f q port : Int) (m : ByteArray) (hl : s.l = []) : (outsW s 6 m f q port).what = 16 ∧ outsL s 6 m f q port = [] := by
  constructor
  · unfold outsW; rw [hl]; rfl
  · unfold outsL; rw [hl]; rfl
theorem tcpB_flags (src fr dst to' fg : Int) (data : ByteArray) (h0 : 0 ≤ fg) (h1 : fg ≤ 255) : byteAt (tcpB src fr dst to' fg data) 13 = fg := ((TM_words (bl_tcpB src fr dst to' fg data)).2.2.2).trans (by omega)
theorem stT_one (n tm : Int) (cs : List Int) (h p f q port dl : Int) (t : TK) (n0 : 1 ≤ n) (n1 : n ≤ 12) (h0 : 0 ≤ tm) (h1 : tm ≤ 1000000) (hh0 : 0 ≤ h) (hh1 : h ≤ 4294967295) : OKB (stN n tm cs [T1 h p f q port dl t]) :=
  stN_ok n tm cs _ n0 n1 h0 h1 (by simp) (fun x hx => by
    rw [List.mem_singleton] at hx
    subst hx
    exact ⟨hh0, hh1⟩)
theorem c_new (b : Nat) (n tm : Int) (cs : List Int) (h p f q fg : Int) (data : ByteArray) (n0 : 1 ≤ n) (n1 : n ≤ 12) (hr : RQ h p f q) (hd : data.size ≤ 120) (h0 : 0 ≤ tm) (h1 : tm ≤ 1000000) (g0 : 0 ≤ fg) (g1 : fg ≤ 255) (hs : fl fg 23 = 2) :
    OneOK b (stN n tm cs []) 0 (tcpP h p f q fg data) 1 ⟨8, 0, 0, 8, 6, 3405803781, f, tcpB 3405803781 5000 f q fg data⟩ (stN n tm (bump cs 0) [T1 h p f q 5000 (tm + ticksI 6 (tkBehind ⟨1, false, false, false⟩ 0 fg).st) (tkBehind ⟨1, false, false, false⟩ 0 fg)]) := by
  obtain ⟨a0, a1, b0, b1, c0, c1, d0, d1⟩ := hr
  have hfg := tcpB_flags h p f q fg data g0 g1
  obtain ⟨e1, e2⟩ := insT_fresh (stN n tm cs []) rfl h p f q (tcpB h p f q fg data) (show ¬ f = 3405803781 by omega) (show ¬ (5000 : Int) = 0 by decide) (show (5000 : Int) ≤ 4999 + n by omega) (by rw [hfg]; exact hs)
  rw [hfg] at e2
  exact tcp_one b (stN n tm cs []) (stN_nil n tm cs n0 n1 h0 h1) 0 h p f q fg data ⟨by omega, by omega, by omega, by omega, b0, b1, d0, d1, hd⟩ (Or.inl rfl) (may_in _ rfl rfl h f (by omega) (by omega) (by omega)) 1 3405803781 5000 f q _
    ((if_pos rfl).trans e1) ((if_pos rfl).trans e2) (by decide) (by decide) (by omega) (by omega)
theorem c_again (b : Nat) (n tm : Int) (cs : List Int) (h p f q fg dl : Int) (t : TK) (data : ByteArray) (n0 : 1 ≤ n) (n1 : n ≤ 12) (hr : RQ h p f q) (hd : data.size ≤ 120) (h0 : 0 ≤ tm) (h1 : tm ≤ 1000000) (g0 : 0 ≤ fg) (g1 : fg ≤ 255) :
    OneOK b (stN n tm cs [T1 h p f q 5000 dl t]) 0 (tcpP h p f q fg data) 1 ⟨8, 0, 0, 8, 6, 3405803781, f, tcpB 3405803781 5000 f q fg data⟩ (stN n tm (bump cs 0) [T1 h p f q 5000 (tm + ticksI 6 (tkBehind t 0 fg).st) (tkBehind t 0 fg)]) := by
  obtain ⟨a0, a1, b0, b1, c0, c1, d0, d1⟩ := hr
  have hfg := tcpB_flags h p f q fg data g0 g1
  obtain ⟨e1, e2⟩ := insT_again (stN n tm cs [T1 h p f q 5000 dl t]) h p f q 5000 dl t (tcpB h p f q fg data) rfl (show ¬ f = 3405803781 by omega)
  rw [hfg] at e2
  exact tcp_one b (stN n tm cs [T1 h p f q 5000 dl t]) (stT_one n tm cs h p f q 5000 dl t n0 n1 h0 h1 (by omega) (by omega)) 0 h p f q fg data ⟨by omega, by omega, by omega, by omega, b0, b1, d0, d1, hd⟩ (Or.inl rfl) (may_in _ rfl rfl h f (by omega) (by omega) (by omega)) 1 3405803781 5000 f q _
    ((if_pos rfl).trans e1) ((if_pos rfl).trans e2) (by decide) (by decide) (by omega) (by omega)
theorem c_in (b : Nat) (n tm : Int) (cs : List Int) (h p f q fg dl : Int) (t : TK) (data : ByteArray) (n0 : 1 ≤ n) (n1 : n ≤ 12) (hr : RQ h p f q) (hd : data.size ≤ 120) (h0 : 0 ≤ tm) (h1 : tm ≤ 1000000) (g0 : 0 ≤ fg) (g1 : fg ≤ 255) :
    OneOK b (stN n tm cs [T1 h p f q 5000 dl t]) 1 (tcpP f q 3405803781 5000 fg data) 0 ⟨8, 0, 0, 8, 6, f, h, tcpB f q h p fg data⟩ (stN n tm (bump cs 0) [T1 h p f q 5000 (tm + ticksI 6 (tkBehind t 1 fg).st) (tkBehind t 1 fg)]) := by
  obtain ⟨a0, a1, b0, b1, c0, c1, d0, d1⟩ := hr
  have hfg := tcpB_flags f q 3405803781 5000 fg data g0 g1
  obtain ⟨e1, e2⟩ := outsT_one (stN n tm cs [T1 h p f q 5000 dl t]) h p f q 5000 dl t (tcpB f q 3405803781 5000 fg data) rfl
  rw [hfg] at e2
  exact tcp_one b (stN n tm cs [T1 h p f q 5000 dl t]) (stT_one n tm cs h p f q 5000 dl t n0 n1 h0 h1 (by omega) (by omega)) 1 f q 3405803781 5000 fg data ⟨by omega, by omega, by decide, by decide, d0, d1, by decide, by decide, hd⟩ (Or.inr rfl) (may_out _ rfl rfl f (by omega) (show ¬ f = 3405803781 by omega)) 0 f q h p _
    ((if_neg (by decide)).trans e1) ((if_neg (by decide)).trans e2) (by omega) (by omega) (by omega) (by omega)
theorem c_unasked (b : Nat) (n tm : Int) (cs : List Int) (h p f q fg : Int) (data : ByteArray) (n0 : 1 ≤ n) (n1 : n ≤ 12) (hr : RQ h p f q) (hd : data.size ≤ 120) (h0 : 0 ≤ tm) (h1 : tm ≤ 1000000) (g0 : 0 ≤ fg) (g1 : fg ≤ 255) (hs : ¬ fl fg 23 = 2) :
    NoneOK b (stN n tm cs []) 0 (tcpP h p f q fg data) 16 (stN n tm (bump cs 16) []) := by
  obtain ⟨a0, a1, b0, b1, c0, c1, d0, d1⟩ := hr
  have hfg := tcpB_flags h p f q fg data g0 g1
  obtain ⟨e1, e2⟩ := insT_unasked (stN n tm cs []) rfl h p f q (tcpB h p f q fg data) (show ¬ f = 3405803781 by omega) (by rw [hfg]; exact hs)
  exact tcp_none b (stN n tm cs []) (stN_nil n tm cs n0 n1 h0 h1) 0 h p f q fg data ⟨by omega, by omega, by omega, by omega, b0, b1, d0, d1, hd⟩ (Or.inl rfl) (may_in _ rfl rfl h f (by omega) (by omega) (by omega)) 16 _
    ((congrArg WYD.what (if_pos rfl)).trans e1) (by decide) ((if_pos rfl).trans e2)
theorem c_gone (b : Nat) (n tm : Int) (cs : List Int) (f q fg : Int) (data : ByteArray) (n0 : 1 ≤ n) (n1 : n ≤ 12) (c0 : 134744064 ≤ f) (c1 : f ≤ 134744300) (d0 : 1 ≤ q) (d1 : q ≤ 65535) (hd : data.size ≤ 120) (h0 : 0 ≤ tm) (h1 : tm ≤ 1000000) :
    NoneOK b (stN n tm cs []) 1 (tcpP f q 3405803781 5000 fg data) 16 (stN n tm (bump cs 16) []) := by
  obtain ⟨e1, e2⟩ := outsT_nil (stN n tm cs []) f q 5000 (tcpB f q 3405803781 5000 fg data) rfl
  exact tcp_none b (stN n tm cs []) (stN_nil n tm cs n0 n1 h0 h1) 1 f q 3405803781 5000 fg data ⟨by omega, by omega, by decide, by decide, d0, d1, by decide, by decide, hd⟩ (Or.inr rfl) (may_out _ rfl rfl f (by omega) (show ¬ f = 3405803781 by omega)) 16 _
    ((congrArg WYD.what (if_neg (by decide))).trans e1) (by decide) ((if_neg (by decide)).trans e2)
theorem tcpB_size (src fr dst to' fg : Int) (data : ByteArray) : (tcpB src fr dst to' fg data).size = 20 + data.size := by rw [← bl_length, bl_tcpB, TMS_length, bl_length]
theorem tcpB_data (src fr dst to' fg : Int) (data : ByteArray) : (tcpB src fr dst to' fg data).extract 20 (tcpB src fr dst to' fg data).size = data := by
  apply bl_inj
  rw [bl_ex, tcpB_size, bl_tcpB]
  unfold TMS TM
  show List.take (20 + data.size - 20) (bl data) = bl data
  rw [List.take_of_length_le (by rw [bl_length]; omega)]
theorem tcpB_btw (i1 i2 i3 i4 i5 src fr dst to' fg : Int) (data : ByteArray) (f0 : 0 ≤ fr) (f1 : fr ≤ 65535) (t0 : 0 ≤ to') (t1 : to' ≤ 65535) : btwB ⟨i1, i2, i3, i4, i5, src, dst, tcpB src fr dst to' fg data⟩ src fr dst to' = true := by
  obtain ⟨w0, w2, -, -⟩ := TM_words (bl_tcpB src fr dst to' fg data)
  have e0 : wordAt (tcpB src fr dst to' fg data) 0 = fr := w0.trans (by omega)
  have e2 : wordAt (tcpB src fr dst to' fg data) 2 = to' := w2.trans (by omega)
  unfold btwB
  simp only
  rw [e0, e2]
  simp
theorem tickT_stay (n tm : Int) (cs : List Int) (h p f q port dl k : Int) (t : TK) (hlt : tm + k < dl) : tickS (stN n tm cs [T1 h p f q port dl t]) k = stN n (tm + k) cs [T1 h p f q port dl t] := by
  have hf : [T1 h p f q port dl t].filter (fun x => decide (tm + k < x.dl)) = [T1 h p f q port dl t] := by
    rw [List.filter_cons_of_pos (by exact decide_eq_true hlt)]; rfl
  show (⟨_, _, _, _, _, _, _, _, _, [T1 h p f q port dl t].filter (fun x => decide (tm + k < x.dl)), []⟩ : BX) = _
  rw [hf]
  rfl
theorem tickT_gone (n tm : Int) (cs : List Int) (h p f q port dl k : Int) (t : TK) (hlt : ¬ tm + k < dl) : tickS (stN n tm cs [T1 h p f q port dl t]) k = stN n (tm + k) cs [] := by
  have hf : [T1 h p f q port dl t].filter (fun x => decide (tm + k < x.dl)) = [] := by
    rw [List.filter_cons_of_neg (by intro e; exact hlt (of_decide_eq_true e))]; rfl
  show (⟨_, _, _, _, _, _, _, _, _, [T1 h p f q port dl t].filter (fun x => decide (tm + k < x.dl)), []⟩ : BX) = _
  rw [hf]
  rfl
/-- How a TCP talk goes: what each flag makes of it. -/
theorem tk_steps : fl 2 23 = 2 ∧ ¬ fl 16 23 = 2 ∧ tkBehind ⟨1, false, false, false⟩ 0 2 = ⟨1, false, false, false⟩ ∧ tkBehind ⟨1, false, false, false⟩ 1 18 = ⟨1, true, false, false⟩ ∧ tkBehind ⟨1, true, false, false⟩ 0 16 = ⟨2, true, false, false⟩ ∧ tkBehind ⟨2, true, false, false⟩ 1 16 = ⟨2, true, false, false⟩ ∧ tkBehind ⟨2, true, false, false⟩ 0 16 = ⟨2, true, false, false⟩ ∧ tkBehind ⟨2, true, false, false⟩ 0 17 = ⟨2, true, true, false⟩ ∧ tkBehind ⟨2, true, true, false⟩ 1 16 = ⟨2, true, true, false⟩ ∧ tkBehind ⟨2, true, true, false⟩ 0 16 = ⟨2, true, true, false⟩ ∧ tkBehind ⟨2, true, true, false⟩ 1 17 = ⟨3, false, false, false⟩ ∧ tkBehind ⟨2, true, true, false⟩ 1 4 = ⟨3, false, false, false⟩ ∧ tkBehind ⟨3, false, false, false⟩ 1 16 = ⟨3, false, false, false⟩ := by
  refine ⟨by decide, by decide, by rfl, by rfl, by rfl, by rfl, by rfl, by rfl, by rfl, by rfl, by rfl, by rfl, by rfl⟩
end Go.Proofs.YtfkjobiapjhacabGreat
