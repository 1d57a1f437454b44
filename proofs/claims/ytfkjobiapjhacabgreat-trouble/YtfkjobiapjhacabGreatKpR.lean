/- What a box does with one session of TCP, purely. Own work. -/
import Derived.Test.YtfkjobiapjhacabGreatKpQ
namespace Go.Proofs.YtfkjobiapjhacabGreat
open Go.RowKit

/-- A session of TCP. -/
def T1 (h p f q port dl : Int) (t : TK) : SD := ⟨6, h, p, f, q, port, dl, t.st, t.an, t.inf, t.outf⟩
theorem fresh6 (h p f q port : Int) : freshS 6 h p f q port = T1 h p f q port 0 ⟨1, false, false, false⟩ := rfl
theorem pass6 (side fg now h p f q port dl : Int) (t : TK) : passS 6 side fg now (T1 h p f q port dl t) = T1 h p f q port (now + ticksI 6 (tkBehind t side fg).st) (tkBehind t side fg) := rfl
theorem isS_T1 (a b c d h p f q port dl : Int) (t : TK) : isS 6 a b c d (T1 h p f q port dl t) = decide (h = a ∧ p = b ∧ f = c ∧ q = d) := by
  unfold isS T1
  by_cases e1 : h = a <;> by_cases e2 : p = b <;> by_cases e3 : f = c <;> by_cases e4 : q = d <;> simp [e1, e2, e3, e4]
theorem hasT_one (a b c d h p f q port dl : Int) (t : TK) : hasS 6 a b c d [T1 h p f q port dl t] = decide (h = a ∧ p = b ∧ f = c ∧ q = d) := by
  unfold hasS findI
  by_cases e : h = a ∧ p = b ∧ f = c ∧ q = d
  · have e1 : [T1 h p f q port dl t].findIdx? (isS 6 a b c d) = some 0 := by simp [isS_T1, e]
    rw [e1, decide_eq_true e]; rfl
  · have e1 : [T1 h p f q port dl t].findIdx? (isS 6 a b c d) = none := by simp [isS_T1, e]
    rw [e1, decide_eq_false e]; rfl
theorem passT_one (side fg now h p f q port dl : Int) (t : TK) : passL 6 h p f q side fg now [T1 h p f q port dl t] = [T1 h p f q port (now + ticksI 6 (tkBehind t side fg).st) (tkBehind t side fg)] := by
  unfold passL
  have e1 : [T1 h p f q port dl t].findIdx? (isS 6 h p f q) = some 0 := by simp [isS_T1]
  rw [e1]
  simp [pass6]
theorem outerT_one (h p f q port dl : Int) (t : TK) : outerI 6 h p [T1 h p f q port dl t] = port := by
  unfold outerI T1
  simp
theorem innerT_one (pt h p f q port dl : Int) (t : TK) : innerI 6 pt [T1 h p f q port dl t] = if port = pt then some (T1 h p f q port dl t) else none := by
  unfold innerI
  by_cases e1 : port = pt <;> simp [T1, e1]
/-- A first message from inside: SYN. -/
theorem insT_fresh (s : BX) (hl : s.l = []) (h p f q : Int) (m : ByteArray) (hf : ¬ f = s.ou) (hlo : ¬ s.lo = 0) (hhi : s.lo ≤ s.hi) (hs : fl (byteAt m 13) 23 = 2) :
    insW s 6 m h p f q = ⟨0, 1, 6, s.ou, s.lo, f, q, btwM 6 m s.ou s.lo f q⟩ ∧ insF s 6 m h p f q = [T1 h p f q s.lo (s.tm + ticksI 6 (tkBehind ⟨1, false, false, false⟩ 0 (byteAt m 13)).st) (tkBehind ⟨1, false, false, false⟩ 0 (byteAt m 13))] := by
  obtain ⟨n, hn⟩ : ∃ n, (s.hi - s.lo + 1).toNat = n + 1 := ⟨(s.hi - s.lo).toNat, by omega⟩
  have hH : hasS 6 h p f q [] = false := rfl
  have hP : askP s 6 h p = s.lo := by
    unfold askP
    rw [hl, hn]
    rfl
  have hW : askW s 6 h p f q (byteAt m 13) = 0 := by
    unfold askW
    rw [hP, hl, hH]
    simp [hlo, hs]
  have hL : askL s 6 h p f q (byteAt m 13) = [T1 h p f q s.lo 0 ⟨1, false, false, false⟩] := by
    unfold askL
    rw [hW, hP, hl, hH]
    simp only [fresh6]
    rfl
  have hI : insL s 6 m h p f q = [T1 h p f q s.lo (s.tm + ticksI 6 (tkBehind ⟨1, false, false, false⟩ 0 (byteAt m 13)).st) (tkBehind ⟨1, false, false, false⟩ 0 (byteAt m 13))] := by
    unfold insL
    rw [hL, passT_one]
  have hO : insP s 6 m h p f q = s.lo := by
    unfold insP
    rw [hI, outerT_one]
  constructor
  · unfold insW
    rw [if_neg (fun h => hf h.1), hW, if_neg (by simp), if_neg hf, hO]
  · unfold insF
    rw [if_neg (fun h => hf h.1), hW, if_neg (by simp), if_neg hf, hI]
theorem insT_unasked (s : BX) (hl : s.l = []) (h p f q : Int) (m : ByteArray) (hf : ¬ f = s.ou) (hs : ¬ fl (byteAt m 13) 23 = 2) : (insW s 6 m h p f q).what = 16 ∧ insF s 6 m h p f q = [] := by
  have hH : hasS 6 h p f q [] = false := rfl
  have hW : askW s 6 h p f q (byteAt m 13) = 16 := by
    unfold askW
    rw [hl, hH]
    simp [hs]
  have hL : askL s 6 h p f q (byteAt m 13) = [] := by
    unfold askL
    rw [hW, hl, hH]
    simp
  constructor
  · unfold insW
    rw [if_neg (fun h => hf h.1), hW, if_pos (by decide)]
  · unfold insF
    rw [if_neg (fun h => hf h.1), hW, if_pos (by decide), hL]
theorem insT_again (s : BX) (h p f q port dl : Int) (t : TK) (m : ByteArray) (hl : s.l = [T1 h p f q port dl t]) (hf : ¬ f = s.ou) :
    insW s 6 m h p f q = ⟨0, 1, 6, s.ou, port, f, q, btwM 6 m s.ou port f q⟩ ∧ insF s 6 m h p f q = [T1 h p f q port (s.tm + ticksI 6 (tkBehind t 0 (byteAt m 13)).st) (tkBehind t 0 (byteAt m 13))] := by
  have hH : hasS 6 h p f q s.l = true := by rw [hl, hasT_one]; exact decide_eq_true ⟨rfl, rfl, rfl, rfl⟩
  have hW : askW s 6 h p f q (byteAt m 13) = 0 := by unfold askW; rw [if_pos hH]
  have hL : askL s 6 h p f q (byteAt m 13) = s.l := by unfold askL; rw [if_pos hH]
  have hI : insL s 6 m h p f q = [T1 h p f q port (s.tm + ticksI 6 (tkBehind t 0 (byteAt m 13)).st) (tkBehind t 0 (byteAt m 13))] := by
    unfold insL
    rw [hL, hl, passT_one]
  have hO : insP s 6 m h p f q = port := by
    unfold insP
    rw [hI, outerT_one]
  constructor
  · unfold insW
    rw [if_neg (fun h => hf h.1), hW, if_neg (by simp), if_neg hf, hO]
  · unfold insF
    rw [if_neg (fun h => hf h.1), hW, if_neg (by simp), if_neg hf, hI]
theorem outsT_one (s : BX) (h p f q port dl : Int) (t : TK) (m : ByteArray) (hl : s.l = [T1 h p f q port dl t]) :
    outsW s 6 m f q port = ⟨0, 0, 6, f, q, h, p, btwM 6 m f q h p⟩ ∧ outsL s 6 m f q port = [T1 h p f q port (s.tm + ticksI 6 (tkBehind t 1 (byteAt m 13)).st) (tkBehind t 1 (byteAt m 13))] := by
  have hI : innerI 6 port s.l = some (T1 h p f q port dl t) := by rw [hl, innerT_one, if_pos rfl]
  have hH : hasS 6 (T1 h p f q port dl t).ia (T1 h p f q port dl t).ip f q s.l = true := by rw [hl, hasT_one]; exact decide_eq_true ⟨rfl, rfl, rfl, rfl⟩
  constructor
  · unfold outsW
    rw [hI]
    simp only [hH]
    rfl
  · unfold outsL
    rw [hI]
    simp only [hH]
    rw [if_pos trivial, hl]
    exact passT_one 1 (byteAt m 13) s.tm h p f q port dl t
theorem outsT_nil (s : BX) (f q port : Int) (m : ByteArray) (hl : s.l = []) : (outsW s 6 m f q port).what = 16 ∧ outsL s 6 m f q port = [] := by
  constructor
  · unfold outsW; rw [hl]; rfl
  · unfold outsL; rw [hl]; rfl
theorem tcpB_flags (src fr dst to' fg : Int) (data : ByteArray) (h0 : 0 ≤ fg) (h1 : fg ≤ 255) : byteAt (tcpB src fr dst to' fg data) 13 = fg := ((TM_words (bl_tcpB src fr dst to' fg data)).2.2.2).trans (by omega)
theorem stT_one (n tm : Int) (cs : List Int) (h p f q port dl : Int) (t : TK) (n0 : 1 ≤ n) (n1 : n ≤ 12) (h0 : 0 ≤ tm) (h1 : tm ≤ 1000000) (hh0 : 0 ≤ h) (hh1 : h ≤ 4294967295) : OKB (stN n tm cs [T1 h p f q port dl t]) :=
  stN_ok n tm cs _ n0 n1 h0 h1 (by simp) (fun x hx => by
    rw [List.mem_singleton] at hx
    subst hx
    exact ⟨hh0, hh1⟩)
theorem c_new (b : Nat) (n tm : Int) (cs : List Int) (h p f q fg : Int) (data : ByteArray) (n0 : 1 ≤ n) (n1 : n ≤ 12) (hr : RQ h p f q) (hd : data.size ≤ 120) (h0 : 0 ≤ tm) (h1 : tm ≤ 1000000) (g0 : 0 ≤ fg) (g1 : fg ≤ 255) (hs : fl fg 23 = 2) :
    OneOK b (stN n tm cs []) 0 (tcpP h p f q fg data) 1 ⟨8, 0, 0, 8, 6, 3405803781, f, tcpB 3405803781 5000 f q fg data⟩ (stN n tm (bump cs 0) [T1 h p f q 5000 (tm + ticksI 6 (tkBehind ⟨1, false, false, false⟩ 0 fg).st) (tkBehind ⟨1, false, false, false⟩ 0 fg)]) := by
  obtain ⟨a0, a1, b0, b1, c0, c1, d0, d1⟩ := hr
  have hfg := tcpB_flags h p f q fg data g0 g1
  obtain ⟨e1, e2⟩ := insT_fresh (stN n tm cs []) rfl h p f q (tcpB h p f q fg data) (show ¬ f = 3405803781 by omega) (show ¬ (5000 : Int) = 0 by decide) (show (5000 : Int) ≤ 4999 + n by omega) (by rw [hfg]; exact hs)
  rw [hfg] at e2
  exact tcp_one b (stN n tm cs []) (stN_nil n tm cs n0 n1 h0 h1) 0 h p f q fg data ⟨by omega, by omega, by omega, by omega, b0, b1, d0, d1, hd⟩ (Or.inl rfl) (may_in _ rfl rfl h f (by omega) (by omega) (by omega)) 1 3405803781 5000 f q _
    ((if_pos rfl).trans e1) ((if_pos rfl).trans e2) (by decide) (by decide) (by omega) (by omega)
theorem c_again (b : Nat) (n tm : Int) (cs : List Int) (h p f q fg dl : Int) (t : TK) (data : ByteArray) (n0 : 1 ≤ n) (n1 : n ≤ 12) (hr : RQ h p f q) (hd : data.size ≤ 120) (h0 : 0 ≤ tm) (h1 : tm ≤ 1000000) (g0 : 0 ≤ fg) (g1 : fg ≤ 255) :
    OneOK b (stN n tm cs [T1 h p f q 5000 dl t]) 0 (tcpP h p f q fg data) 1 ⟨8, 0, 0, 8, 6, 3405803781, f, tcpB 3405803781 5000 f q fg data⟩ (stN n tm (bump cs 0) [T1 h p f q 5000 (tm + ticksI 6 (tkBehind t 0 fg).st) (tkBehind t 0 fg)]) := by
  obtain ⟨a0, a1, b0, b1, c0, c1, d0, d1⟩ := hr
  have hfg := tcpB_flags h p f q fg data g0 g1
  obtain ⟨e1, e2⟩ := insT_again (stN n tm cs [T1 h p f q 5000 dl t]) h p f q 5000 dl t (tcpB h p f q fg data) rfl (show ¬ f = 3405803781 by omega)
  rw [hfg] at e2
  exact tcp_one b (stN n tm cs [T1 h p f q 5000 dl t]) (stT_one n tm cs h p f q 5000 dl t n0 n1 h0 h1 (by omega) (by omega)) 0 h p f q fg data ⟨by omega, by omega, by omega, by omega, b0, b1, d0, d1, hd⟩ (Or.inl rfl) (may_in _ rfl rfl h f (by omega) (by omega) (by omega)) 1 3405803781 5000 f q _
    ((if_pos rfl).trans e1) ((if_pos rfl).trans e2) (by decide) (by decide) (by omega) (by omega)
theorem c_in (b : Nat) (n tm : Int) (cs : List Int) (h p f q fg dl : Int) (t : TK) (data : ByteArray) (n0 : 1 ≤ n) (n1 : n ≤ 12) (hr : RQ h p f q) (hd : data.size ≤ 120) (h0 : 0 ≤ tm) (h1 : tm ≤ 1000000) (g0 : 0 ≤ fg) (g1 : fg ≤ 255) :
    OneOK b (stN n tm cs [T1 h p f q 5000 dl t]) 1 (tcpP f q 3405803781 5000 fg data) 0 ⟨8, 0, 0, 8, 6, f, h, tcpB f q h p fg data⟩ (stN n tm (bump cs 0) [T1 h p f q 5000 (tm + ticksI 6 (tkBehind t 1 fg).st) (tkBehind t 1 fg)]) := by
  obtain ⟨a0, a1, b0, b1, c0, c1, d0, d1⟩ := hr
  have hfg := tcpB_flags f q 3405803781 5000 fg data g0 g1
  obtain ⟨e1, e2⟩ := outsT_one (stN n tm cs [T1 h p f q 5000 dl t]) h p f q 5000 dl t (tcpB f q 3405803781 5000 fg data) rfl
  rw [hfg] at e2
  exact tcp_one b (stN n tm cs [T1 h p f q 5000 dl t]) (stT_one n tm cs h p f q 5000 dl t n0 n1 h0 h1 (by omega) (by omega)) 1 f q 3405803781 5000 fg data ⟨by omega, by omega, by decide, by decide, d0, d1, by decide, by decide, hd⟩ (Or.inr rfl) (may_out _ rfl rfl f (by omega) (show ¬ f = 3405803781 by omega)) 0 f q h p _
    ((if_neg (by decide)).trans e1) ((if_neg (by decide)).trans e2) (by omega) (by omega) (by omega) (by omega)
theorem c_unasked (b : Nat) (n tm : Int) (cs : List Int) (h p f q fg : Int) (data : ByteArray) (n0 : 1 ≤ n) (n1 : n ≤ 12) (hr : RQ h p f q) (hd : data.size ≤ 120) (h0 : 0 ≤ tm) (h1 : tm ≤ 1000000) (g0 : 0 ≤ fg) (g1 : fg ≤ 255) (hs : ¬ fl fg 23 = 2) :
    NoneOK b (stN n tm cs []) 0 (tcpP h p f q fg data) 16 (stN n tm (bump cs 16) []) := by
  obtain ⟨a0, a1, b0, b1, c0, c1, d0, d1⟩ := hr
  have hfg := tcpB_flags h p f q fg data g0 g1
  obtain ⟨e1, e2⟩ := insT_unasked (stN n tm cs []) rfl h p f q (tcpB h p f q fg data) (show ¬ f = 3405803781 by omega) (by rw [hfg]; exact hs)
  exact tcp_none b (stN n tm cs []) (stN_nil n tm cs n0 n1 h0 h1) 0 h p f q fg data ⟨by omega, by omega, by omega, by omega, b0, b1, d0, d1, hd⟩ (Or.inl rfl) (may_in _ rfl rfl h f (by omega) (by omega) (by omega)) 16 _
    ((congrArg WYD.what (if_pos rfl)).trans e1) (by decide) ((if_pos rfl).trans e2)
theorem c_gone (b : Nat) (n tm : Int) (cs : List Int) (f q fg : Int) (data : ByteArray) (n0 : 1 ≤ n) (n1 : n ≤ 12) (c0 : 134744064 ≤ f) (c1 : f ≤ 134744300) (d0 : 1 ≤ q) (d1 : q ≤ 65535) (hd : data.size ≤ 120) (h0 : 0 ≤ tm) (h1 : tm ≤ 1000000) :
    NoneOK b (stN n tm cs []) 1 (tcpP f q 3405803781 5000 fg data) 16 (stN n tm (bump cs 16) []) := by
  obtain ⟨e1, e2⟩ := outsT_nil (stN n tm cs []) f q 5000 (tcpB f q 3405803781 5000 fg data) rfl
  exact tcp_none b (stN n tm cs []) (stN_nil n tm cs n0 n1 h0 h1) 1 f q 3405803781 5000 fg data ⟨by omega, by omega, by decide, by decide, d0, d1, by decide, by decide, hd⟩ (Or.inr rfl) (may_out _ rfl rfl f (by omega) (show ¬ f = 3405803781 by omega)) 16 _
    ((congrArg WYD.what (if_neg (by decide))).trans e1) (by decide) ((if_neg (by decide)).trans e2)
theorem tcpB_size (src fr dst to' fg : Int) (data : ByteArray) : (tcpB src fr dst to' fg data).size = 20 + data.size := by rw [← bl_length, bl_tcpB, TMS_length, bl_length]
theorem tcpB_data (src fr dst to' fg : Int) (data : ByteArray) : (tcpB src fr dst to' fg data).extract 20 (tcpB src fr dst to' fg data).size = data := by
  apply bl_inj
  rw [bl_ex, tcpB_size, bl_tcpB]
  unfold TMS TM
  show List.take (20 + data.size - 20) (bl data) = bl data
  rw [List.take_of_length_le (by rw [bl_length]; omega)]
theorem tcpB_btw (i1 i2 i3 i4 i5 src fr dst to' fg : Int) (data : ByteArray) (f0 : 0 ≤ fr) (f1 : fr ≤ 65535) (t0 : 0 ≤ to') (t1 : to' ≤ 65535) : btwB ⟨i1, i2, i3, i4, i5, src, dst, tcpB src fr dst to' fg data⟩ src fr dst to' = true := by
  obtain ⟨w0, w2, -, -⟩ := TM_words (bl_tcpB src fr dst to' fg data)
  have e0 : wordAt (tcpB src fr dst to' fg data) 0 = fr := w0.trans (by omega)
  have e2 : wordAt (tcpB src fr dst to' fg data) 2 = to' := w2.trans (by omega)
  unfold btwB
  simp only
  rw [e0, e2]
  simp
theorem tickT_stay (n tm : Int) (cs : List Int) (h p f q port dl k : Int) (t : TK) (hlt : tm + k < dl) : tickS (stN n tm cs [T1 h p f q port dl t]) k = stN n (tm + k) cs [T1 h p f q port dl t] := by
  have hf : [T1 h p f q port dl t].filter (fun x => decide (tm + k < x.dl)) = [T1 h p f q port dl t] := by
    rw [List.filter_cons_of_pos (by exact decide_eq_true hlt)]; rfl
  show (⟨_, _, _, _, _, _, _, _, _, [T1 h p f q port dl t].filter (fun x => decide (tm + k < x.dl)), []⟩ : BX) = _
  rw [hf]
  rfl
theorem tickT_gone (n tm : Int) (cs : List Int) (h p f q port dl k : Int) (t : TK) (hlt : ¬ tm + k < dl) : tickS (stN n tm cs [T1 h p f q port dl t]) k = stN n (tm + k) cs [] := by
  have hf : [T1 h p f q port dl t].filter (fun x => decide (tm + k < x.dl)) = [] := by
    rw [List.filter_cons_of_neg (by intro e; exact hlt (of_decide_eq_true e))]; rfl
  show (⟨_, _, _, _, _, _, _, _, _, [T1 h p f q port dl t].filter (fun x => decide (tm + k < x.dl)), []⟩ : BX) = _
  rw [hf]
  rfl
/-- How a TCP talk goes: what each flag makes of it. -/
theorem tk_steps : fl 2 23 = 2 ∧ ¬ fl 16 23 = 2 ∧ tkBehind ⟨1, false, false, false⟩ 0 2 = ⟨1, false, false, false⟩ ∧ tkBehind ⟨1, false, false, false⟩ 1 18 = ⟨1, true, false, false⟩ ∧ tkBehind ⟨1, true, false, false⟩ 0 16 = ⟨2, true, false, false⟩ ∧ tkBehind ⟨2, true, false, false⟩ 1 16 = ⟨2, true, false, false⟩ ∧ tkBehind ⟨2, true, false, false⟩ 0 16 = ⟨2, true, false, false⟩ ∧ tkBehind ⟨2, true, false, false⟩ 0 17 = ⟨2, true, true, false⟩ ∧ tkBehind ⟨2, true, true, false⟩ 1 16 = ⟨2, true, true, false⟩ ∧ tkBehind ⟨2, true, true, false⟩ 0 16 = ⟨2, true, true, false⟩ ∧ tkBehind ⟨2, true, true, false⟩ 1 17 = ⟨3, false, false, false⟩ ∧ tkBehind ⟨2, true, true, false⟩ 1 4 = ⟨3, false, false, false⟩ ∧ tkBehind ⟨3, false, false, false⟩ 1 16 = ⟨3, false, false, false⟩ := by
  refine ⟨by decide, by decide, by rfl, by rfl, by rfl, by rfl, by rfl, by rfl, by rfl, by rfl, by rfl, by rfl, by rfl⟩
end Go.Proofs.YtfkjobiapjhacabGreat
