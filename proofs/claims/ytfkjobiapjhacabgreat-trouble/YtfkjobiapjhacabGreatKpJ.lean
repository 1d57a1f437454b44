/- What a box does with one session of UDP, purely; Back. Own work. -/
import Derived.Test.YtfkjobiapjhacabGreatKpI
namespace Go.Proofs.YtfkjobiapjhacabGreat
open Go.RowKit

/-- A box of n outer ports. -/
def stN (n tm : Int) (cs : List Int) (l : List SD) : BX := ⟨3405803781, 167772160, 8, 5000, 4999 + n, 400, 700, tm, cs, l, []⟩
theorem stN_ok (n tm : Int) (cs : List Int) (l : List SD) (n0 : 1 ≤ n) (n1 : n ≤ 12) (h0 : 0 ≤ tm) (h1 : tm ≤ 1000000) (hl : l.length ≤ 100) (hi : ∀ x ∈ l, 0 ≤ x.ia ∧ x.ia ≤ 4294967295) : OKB (stN n tm cs l) :=
  ⟨(by decide : (0 : Int) ≤ 167772160), (by decide : (167772160 : Int) ≤ 4294967296), (by decide : (0 : Int) ≤ 3405803781), (by decide : (3405803781 : Int) ≤ 4294967295), (by decide : (0 : Int) ≤ 5000), (by show (5000 : Int) ≤ 4999 + n; omega), (by show 4999 + n ≤ 100000; omega), h0, (by show tm ≤ 1000000000000000; omega), hl, hi⟩
theorem stN_nil (n tm : Int) (cs : List Int) (n0 : 1 ≤ n) (n1 : n ≤ 12) (h0 : 0 ≤ tm) (h1 : tm ≤ 1000000) : OKB (stN n tm cs []) := stN_ok n tm cs [] n0 n1 h0 h1 (by decide) (fun x hx => absurd hx (by simp))
theorem stN_one (n tm : Int) (cs : List Int) (h p f q port dl : Int) (n0 : 1 ≤ n) (n1 : n ≤ 12) (h0 : 0 ≤ tm) (h1 : tm ≤ 1000000) (hh0 : 0 ≤ h) (hh1 : h ≤ 4294967295) : OKB (stN n tm cs [S1 h p f q port dl]) :=
  stN_ok n tm cs _ n0 n1 h0 h1 (by simp) (fun x hx => by
    rw [List.mem_singleton] at hx
    subst hx
    exact ⟨hh0, hh1⟩)
/-- The law's own numbers. -/
structure RQ (h p f q : Int) : Prop where
  h0 : 167772161 ≤ h
  h1 : h ≤ 167773000
  p0 : 1 ≤ p
  p1 : p ≤ 65535
  f0 : 134744064 ≤ f
  f1 : f ≤ 134744300
  q0 : 1 ≤ q
  q1 : q ≤ 65535
theorem ins_again (s : BX) (h p f q port dl : Int) (m : ByteArray) (hl : s.l = [S1 h p f q port dl]) (hf : ¬ f = s.ou) :
    insW s 17 m h p f q = ⟨0, 1, 17, s.ou, port, f, q, btwM 17 m s.ou port f q⟩ ∧ insF s 17 m h p f q = [S1 h p f q port (s.tm + 30)] := by
  have hH : hasS 17 h p f q s.l = true := by rw [hl, hasS_one]; exact decide_eq_true ⟨rfl, rfl, rfl, rfl⟩
  have hW : askW s 17 h p f q (byteAt m 13) = 0 := by unfold askW; rw [if_pos hH]
  have hL : askL s 17 h p f q (byteAt m 13) = s.l := by unfold askL; rw [if_pos hH]
  have hI : insL s 17 m h p f q = [S1 h p f q port (s.tm + 30)] := by
    unfold insL
    rw [hL, hl, passL_one]
  have hO : insP s 17 m h p f q = port := by
    unfold insP
    rw [hI, outerI_one, if_pos ⟨rfl, rfl⟩]
  constructor
  · unfold insW
    rw [if_neg (fun h => hf h.1), hW, if_neg (by simp), if_neg hf, hO]
  · unfold insF
    rw [if_neg (fun h => hf h.1), hW, if_neg (by simp), if_neg hf, hI]
theorem n_out (b : Nat) (n tm : Int) (cs : List Int) (h p f q : Int) (data : ByteArray) (n0 : 1 ≤ n) (n1 : n ≤ 12) (hr : RQ h p f q) (hd : data.size ≤ 120) (h0 : 0 ≤ tm) (h1 : tm ≤ 1000000) :
    OneOK b (stN n tm cs []) 0 (udpP h p f q data) 1 ⟨7, 0, 0, 8, 17, 3405803781, f, udpB 3405803781 5000 f q data⟩ (stN n tm (bump cs 0) [S1 h p f q 5000 (tm + 30)]) := by
  obtain ⟨a0, a1, b0, b1, c0, c1, d0, d1⟩ := hr
  obtain ⟨e1, e2⟩ := ins_fresh (stN n tm cs []) rfl h p f q (udpB h p f q data) (show ¬ f = 3405803781 by omega) (show ¬ (5000 : Int) = 0 by decide) (show (5000 : Int) ≤ 4999 + n by omega)
  exact udp_one b (stN n tm cs []) (stN_nil n tm cs n0 n1 h0 h1) 0 h p f q data ⟨by omega, by omega, by omega, by omega, b0, b1, d0, d1, hd⟩ (Or.inl rfl) (may_in _ rfl rfl h f (by omega) (by omega) (by omega)) 1 3405803781 5000 f q _
    ((if_pos rfl).trans e1) ((if_pos rfl).trans e2) (by decide) (by decide) (by omega) (by omega)
theorem n_again (b : Nat) (n tm : Int) (cs : List Int) (h p f q dl : Int) (data : ByteArray) (n0 : 1 ≤ n) (n1 : n ≤ 12) (hr : RQ h p f q) (hd : data.size ≤ 120) (h0 : 0 ≤ tm) (h1 : tm ≤ 1000000) :
    OneOK b (stN n tm cs [S1 h p f q 5000 dl]) 0 (udpP h p f q data) 1 ⟨7, 0, 0, 8, 17, 3405803781, f, udpB 3405803781 5000 f q data⟩ (stN n tm (bump cs 0) [S1 h p f q 5000 (tm + 30)]) := by
  obtain ⟨a0, a1, b0, b1, c0, c1, d0, d1⟩ := hr
  obtain ⟨e1, e2⟩ := ins_again (stN n tm cs [S1 h p f q 5000 dl]) h p f q 5000 dl (udpB h p f q data) rfl (show ¬ f = 3405803781 by omega)
  exact udp_one b (stN n tm cs [S1 h p f q 5000 dl]) (stN_one n tm cs h p f q 5000 dl n0 n1 h0 h1 (by omega) (by omega)) 0 h p f q data ⟨by omega, by omega, by omega, by omega, b0, b1, d0, d1, hd⟩ (Or.inl rfl) (may_in _ rfl rfl h f (by omega) (by omega) (by omega)) 1 3405803781 5000 f q _
    ((if_pos rfl).trans e1) ((if_pos rfl).trans e2) (by decide) (by decide) (by omega) (by omega)
theorem n_in (b : Nat) (n tm : Int) (cs : List Int) (h p f q dl : Int) (data : ByteArray) (n0 : 1 ≤ n) (n1 : n ≤ 12) (hr : RQ h p f q) (hd : data.size ≤ 120) (h0 : 0 ≤ tm) (h1 : tm ≤ 1000000) :
    OneOK b (stN n tm cs [S1 h p f q 5000 dl]) 1 (udpP f q 3405803781 5000 data) 0 ⟨7, 0, 0, 8, 17, f, h, udpB f q h p data⟩ (stN n tm (bump cs 0) [S1 h p f q 5000 (tm + 30)]) := by
  obtain ⟨a0, a1, b0, b1, c0, c1, d0, d1⟩ := hr
  obtain ⟨e1, e2⟩ := outs_one (stN n tm cs [S1 h p f q 5000 dl]) h p f q 5000 dl (udpB f q 3405803781 5000 data) rfl
  exact udp_one b (stN n tm cs [S1 h p f q 5000 dl]) (stN_one n tm cs h p f q 5000 dl n0 n1 h0 h1 (by omega) (by omega)) 1 f q 3405803781 5000 data ⟨by omega, by omega, by decide, by decide, d0, d1, by decide, by decide, hd⟩ (Or.inr rfl) (may_out _ rfl rfl f (by omega) (show ¬ f = 3405803781 by omega)) 0 f q h p _
    ((if_neg (by decide)).trans e1) ((if_neg (by decide)).trans e2) (by omega) (by omega) (by omega) (by omega)
theorem udpB_size (src fr dst to' : Int) (data : ByteArray) : (udpB src fr dst to' data).size = 8 + data.size := by rw [← bl_length, bl_udpB, UMS_length, bl_length]
theorem udpB_data (src fr dst to' : Int) (data : ByteArray) : (udpB src fr dst to' data).extract 8 (udpB src fr dst to' data).size = data := by
  apply bl_inj
  rw [bl_ex, udpB_size, bl_udpB]
  unfold UMS UM
  show List.take (8 + data.size - 8) (bl data) = bl data
  rw [List.take_of_length_le (by rw [bl_length]; omega)]
theorem udpB_btw (i1 i2 i3 i4 i5 src fr dst to' : Int) (data : ByteArray) (f0 : 0 ≤ fr) (f1 : fr ≤ 65535) (t0 : 0 ≤ to') (t1 : to' ≤ 65535) : btwB ⟨i1, i2, i3, i4, i5, src, dst, udpB src fr dst to' data⟩ src fr dst to' = true := by
  obtain ⟨w0, w2, -, -⟩ := UM_words (bl_udpB src fr dst to' data)
  have e0 : wordAt (udpB src fr dst to' data) 0 = fr := w0.trans (by omega)
  have e2 : wordAt (udpB src fr dst to' data) 2 = to' := w2.trans (by omega)
  unfold btwB
  simp only
  rw [e0, e2]
  simp
end Go.Proofs.YtfkjobiapjhacabGreat
