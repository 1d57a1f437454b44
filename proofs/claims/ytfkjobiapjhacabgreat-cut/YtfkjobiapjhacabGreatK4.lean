/- Own work. -/
import Derived.Test.YtfkjobiapjhacabGreatK3
/- Rest: the walk. Own work. -/
namespace Go.Proofs.YtfkjobiapjhacabGreat
open Go.RowKit
attribute [local go_sem ↓] Go.wp_at_zero Go.wp_at_succ

/-- A session of UDP. -/
def S1 (h p f q port dl : Int) : SD := (⟨17, h, p, f, q, port, dl, 0, false, false, false⟩ : SD)
theorem fresh17 (h p f q port : Int) : freshS 17 h p f q port = S1 h p f q port 0 := rfl
theorem pass17 (side fg now h p f q port dl : Int) : passS 17 side fg now (S1 h p f q port dl) = S1 h p f q port (now + 30) := rfl
theorem isS_S1 (a b c d h p f q port dl : Int) : isS 17 a b c d (S1 h p f q port dl) = decide (h = a ∧ p = b ∧ f = c ∧ q = d) := by
  unfold isS S1
  by_cases e1 : h = a <;> by_cases e2 : p = b <;> by_cases e3 : f = c <;> by_cases e4 : q = d <;> simp [e1, e2, e3, e4]
theorem inn8 (a : Int) : innerB 167772160 8 a = decide (167772160 ≤ a ∧ a < 184549376) := by
  have e : netSizeI 8 = 16777216 := by decide
  unfold innerB
  rw [e]
  exact decide_eq_decide.mpr (by omega)
theorem may_in (s : BX) (hn : s.ne = 167772160) (hb : s.bi = 8) (src dst : Int) (h0 : 167772160 ≤ src) (h1 : src < 184549376) (h2 : ¬ (167772160 ≤ dst ∧ dst < 184549376)) : mayB s 0 src dst = true := by
  unfold mayB
  rw [if_pos rfl, hn, hb, inn8, inn8, decide_eq_true ⟨h0, h1⟩, decide_eq_false h2]
  rfl
theorem may_out (s : BX) (hn : s.ne = 167772160) (hb : s.bi = 8) (src : Int) (h2 : ¬ (167772160 ≤ src ∧ src < 184549376)) (h3 : ¬ src = s.ou) : mayB s 1 src s.ou = true := by
  unfold mayB
  rw [if_neg (by decide), hn, hb, inn8, decide_eq_false h2]
  simp [h3]
theorem hasS_nil (a b c d : Int) : hasS 17 a b c d [] = false := rfl
theorem hasS_one (a b c d h p f q port dl : Int) : hasS 17 a b c d [S1 h p f q port dl] = decide (h = a ∧ p = b ∧ f = c ∧ q = d) := by
  unfold hasS findI
  by_cases e : h = a ∧ p = b ∧ f = c ∧ q = d
  · have e1 : [S1 h p f q port dl].findIdx? (isS 17 a b c d) = some 0 := by simp [isS_S1, e]
    rw [e1, decide_eq_true e]; rfl
  · have e1 : [S1 h p f q port dl].findIdx? (isS 17 a b c d) = none := by simp [isS_S1, e]
    rw [e1, decide_eq_false e]; rfl
theorem passL_one (side fg now h p f q port dl : Int) : passL 17 h p f q side fg now [S1 h p f q port dl] = [S1 h p f q port (now + 30)] := by
  unfold passL
  have e1 : [S1 h p f q port dl].findIdx? (isS 17 h p f q) = some 0 := by simp [isS_S1]
  rw [e1]
  simp [pass17]
theorem outerI_one (a b h p f q port dl : Int) : outerI 17 a b [S1 h p f q port dl] = if h = a ∧ p = b then port else 0 := by
  unfold outerI S1
  by_cases e1 : h = a <;> by_cases e2 : p = b <;> simp [e1, e2]
theorem innerI_one (pt h p f q port dl : Int) : innerI 17 pt [S1 h p f q port dl] = if port = pt then some (S1 h p f q port dl) else none := by
  unfold innerI
  by_cases e1 : port = pt <;> simp [S1, e1]
/-- A first datagram from inside. -/
theorem ins_fresh (s : BX) (hl : s.l = []) (h p f q : Int) (m : ByteArray) (hf : ¬ f = s.ou) (hlo : ¬ s.lo = 0) (hhi : s.lo ≤ s.hi) :
    insW s 17 m h p f q = ⟨0, 1, 17, s.ou, s.lo, f, q, btwM 17 m s.ou s.lo f q⟩ ∧ insF s 17 m h p f q = [S1 h p f q s.lo (s.tm + 30)] := by
  obtain ⟨n, hn⟩ : ∃ n, (s.hi - s.lo + 1).toNat = n + 1 := ⟨(s.hi - s.lo).toNat, by omega⟩
  have hP : askP s 17 h p = s.lo := by
    unfold askP
    rw [hl, hn]
    rfl
  have hW : askW s 17 h p f q (byteAt m 13) = 0 := by
    unfold askW
    rw [hP, hl, hasS_nil]
    simp [hlo]
  have hL : askL s 17 h p f q (byteAt m 13) = [S1 h p f q s.lo 0] := by
    unfold askL
    rw [hW, hP, hl, hasS_nil]
    simp only [fresh17]
    rfl
  have hI : insL s 17 m h p f q = [S1 h p f q s.lo (s.tm + 30)] := by
    unfold insL
    rw [hL, passL_one]
  have hO : insP s 17 m h p f q = s.lo := by
    unfold insP
    rw [hI, outerI_one, if_pos ⟨rfl, rfl⟩]
  constructor
  · unfold insW
    rw [if_neg (fun h => hf h.1), hW, if_neg (by simp), if_neg hf, hO]
  · unfold insF
    rw [if_neg (fun h => hf h.1), hW, if_neg (by simp), if_neg hf, hI]
theorem ins_noport (s : BX) (h p f q port dl a b c d : Int) (m : ByteArray) (hl : s.l = [S1 h p f q port dl]) (hf : ¬ c = s.ou) (hlo : s.lo = port) (hhi : s.hi = port) (hne : ¬ h = a) :
    (insW s 17 m a b c d).what = 15 ∧ insF s 17 m a b c d = s.l := by
  have hP : askP s 17 a b = 0 := by
    unfold askP
    have e0 : outerI 17 a b [S1 h p f q port dl] = 0 := by rw [outerI_one, if_neg (fun e => hne e.1)]
    rw [hl, hlo, hhi, e0, if_pos rfl]
    have e : (port - port + 1).toNat = 1 := by omega
    rw [e]
    unfold freeI
    rw [innerI_one, if_pos rfl]
    rfl
  have hW : askW s 17 a b c d (byteAt m 13) = 15 := by
    unfold askW
    rw [hP, hl, hasS_one, decide_eq_false (fun h => hne h.1)]
    simp
  have hL : askL s 17 a b c d (byteAt m 13) = s.l := by
    unfold askL
    rw [hW, hl, hasS_one, decide_eq_false (fun h => hne h.1)]
    simp
  constructor
  · unfold insW
    rw [if_neg (fun h => hf h.1), hW, if_pos (by decide)]
  · unfold insF
    rw [if_neg (fun h => hf h.1), hW, if_pos (by decide), hL]
theorem outs_one (s : BX) (h p f q port dl : Int) (m : ByteArray) (hl : s.l = [S1 h p f q port dl]) :
    outsW s 17 m f q port = ⟨0, 0, 17, f, q, h, p, btwM 17 m f q h p⟩ ∧ outsL s 17 m f q port = [S1 h p f q port (s.tm + 30)] := by
  have hI : innerI 17 port s.l = some (S1 h p f q port dl) := by rw [hl, innerI_one, if_pos rfl]
  have hH : hasS 17 (S1 h p f q port dl).ia (S1 h p f q port dl).ip f q s.l = true := by rw [hl, hasS_one]; exact decide_eq_true ⟨rfl, rfl, rfl, rfl⟩
  constructor
  · unfold outsW
    rw [hI]
    simp only [hH]
    rfl
  · unfold outsL
    rw [hI]
    simp only [hH]
    rw [if_pos trivial, hl]
    exact passL_one 1 (byteAt m 13) s.tm h p f q port dl
theorem outs_nil (s : BX) (f q port : Int) (m : ByteArray) (hl : s.l = []) : (outsW s 17 m f q port).what = 16 ∧ outsL s 17 m f q port = [] := by
  constructor
  · unfold outsW; rw [hl]; rfl
  · unfold outsL; rw [hl]; rfl

/-- A box of one outer port, as Rest has it. -/
def stR (tm : Int) (cs : List Int) (l : List SD) : BX := ⟨3405803781, 167772160, 8, 5000, 5000, 400, 700, tm, cs, l, []⟩
theorem stR_ok (tm : Int) (cs : List Int) (l : List SD) (h0 : 0 ≤ tm) (h1 : tm ≤ 1000000) (hl : l.length ≤ 100) (hi : ∀ x ∈ l, 0 ≤ x.ia ∧ x.ia ≤ 4294967295) : OKB (stR tm cs l) :=
  ⟨(by decide : (0 : Int) ≤ 167772160), (by decide : (167772160 : Int) ≤ 4294967296), (by decide : (0 : Int) ≤ 3405803781), (by decide : (3405803781 : Int) ≤ 4294967295), (by decide : (0 : Int) ≤ 5000), (by decide : (5000 : Int) ≤ 5000), (by decide : (5000 : Int) ≤ 100000), h0, (by show tm ≤ 1000000000000000; omega), hl, hi⟩
theorem stR_nil (tm : Int) (cs : List Int) (h0 : 0 ≤ tm) (h1 : tm ≤ 1000000) : OKB (stR tm cs []) := stR_ok tm cs [] h0 h1 (by decide) (fun x hx => absurd hx (by simp))
theorem stR_one (tm : Int) (cs : List Int) (h p f q port dl : Int) (h0 : 0 ≤ tm) (h1 : tm ≤ 1000000) (hh0 : 0 ≤ h) (hh1 : h ≤ 4294967295) : OKB (stR tm cs [S1 h p f q port dl]) :=
  stR_ok tm cs _ h0 h1 (by simp) (fun x hx => by
    rw [List.mem_singleton] at hx
    subst hx
    exact ⟨hh0, hh1⟩)
/-- The law's own numbers. -/
structure RR (h p f : Int) : Prop where
  h0 : 167772161 ≤ h
  h1 : h ≤ 167773000
  p0 : 1 ≤ p
  p1 : p ≤ 65535
  f0 : 134744064 ≤ f
  f1 : f ≤ 134744300
theorem r_out (b : Nat) (tm : Int) (cs : List Int) (h p f : Int) (data : ByteArray) (hr : RR h p f) (hd : data.size ≤ 120) (h0 : 0 ≤ tm) (h1 : tm ≤ 1000000) :
    OneOK b (stR tm cs []) 0 (udpP h p f 53 data) 1 ⟨7, 0, 0, 8, 17, 3405803781, f, udpB 3405803781 5000 f 53 data⟩ (stR tm (bump cs 0) [S1 h p f 53 5000 (tm + 30)]) := by
  obtain ⟨a0, a1, b0, b1, c0, c1⟩ := hr
  obtain ⟨e1, e2⟩ := ins_fresh (stR tm cs []) rfl h p f 53 (udpB h p f 53 data) (show ¬ f = 3405803781 by omega) (show ¬ (5000 : Int) = 0 by decide) (show (5000 : Int) ≤ 5000 by decide)
  exact udp_one b (stR tm cs []) (stR_nil tm cs h0 h1) 0 h p f 53 data ⟨by omega, by omega, by omega, by omega, b0, b1, by decide, by decide, hd⟩ (Or.inl rfl) (may_in _ rfl rfl h f (by omega) (by omega) (by omega)) 1 3405803781 5000 f 53 _
    ((if_pos rfl).trans e1) ((if_pos rfl).trans e2) (by decide) (by decide) (by omega) (by omega)
theorem r_in (b : Nat) (tm : Int) (cs : List Int) (h p f dl : Int) (data : ByteArray) (hr : RR h p f) (hd : data.size ≤ 120) (h0 : 0 ≤ tm) (h1 : tm ≤ 1000000) :
    OneOK b (stR tm cs [S1 h p f 53 5000 dl]) 1 (udpP f 53 3405803781 5000 data) 0 ⟨7, 0, 0, 8, 17, f, h, udpB f 53 h p data⟩ (stR tm (bump cs 0) [S1 h p f 53 5000 (tm + 30)]) := by
  obtain ⟨a0, a1, b0, b1, c0, c1⟩ := hr
  obtain ⟨e1, e2⟩ := outs_one (stR tm cs [S1 h p f 53 5000 dl]) h p f 53 5000 dl (udpB f 53 3405803781 5000 data) rfl
  exact udp_one b (stR tm cs [S1 h p f 53 5000 dl]) (stR_one tm cs h p f 53 5000 dl h0 h1 (by omega) (by omega)) 1 f 53 3405803781 5000 data ⟨by omega, by omega, by decide, by decide, by decide, by decide, by decide, by decide, hd⟩ (Or.inr rfl) (may_out _ rfl rfl f (by omega) (show ¬ f = 3405803781 by omega)) 0 f 53 h p _
    ((if_neg (by decide)).trans e1) ((if_neg (by decide)).trans e2) (by omega) (by omega) (by omega) (by omega)
theorem r_noport (b : Nat) (tm : Int) (cs : List Int) (h p f dl : Int) (data : ByteArray) (hr : RR h p f) (hd : data.size ≤ 120) (h0 : 0 ≤ tm) (h1 : tm ≤ 1000000) :
    NoneOK b (stR tm cs [S1 h p f 53 5000 dl]) 0 (udpP (h + 300) 9 f 53 data) 15 (stR tm (bump cs 15) [S1 h p f 53 5000 dl]) := by
  obtain ⟨a0, a1, b0, b1, c0, c1⟩ := hr
  obtain ⟨e1, e2⟩ := ins_noport (stR tm cs [S1 h p f 53 5000 dl]) h p f 53 5000 dl (h + 300) 9 f 53 (udpB (h + 300) 9 f 53 data) rfl (show ¬ f = 3405803781 by omega) rfl rfl (by omega)
  exact udp_none b (stR tm cs [S1 h p f 53 5000 dl]) (stR_one tm cs h p f 53 5000 dl h0 h1 (by omega) (by omega)) 0 (h + 300) 9 f 53 data ⟨by omega, by omega, by omega, by omega, by decide, by decide, by decide, by decide, hd⟩ (Or.inl rfl) (may_in _ rfl rfl (h + 300) f (by omega) (by omega) (by omega)) 15 _
    ((congrArg WYD.what (if_pos rfl)).trans e1) (by decide) ((if_pos rfl).trans e2)
theorem r_unasked (b : Nat) (tm : Int) (cs : List Int) (f : Int) (data : ByteArray) (c0 : 134744064 ≤ f) (c1 : f ≤ 134744300) (hd : data.size ≤ 120) (h0 : 0 ≤ tm) (h1 : tm ≤ 1000000) :
    NoneOK b (stR tm cs []) 1 (udpP f 53 3405803781 5000 data) 16 (stR tm (bump cs 16) []) := by
  obtain ⟨e1, e2⟩ := outs_nil (stR tm cs []) f 53 5000 (udpB f 53 3405803781 5000 data) rfl
  exact udp_none b (stR tm cs []) (stR_nil tm cs h0 h1) 1 f 53 3405803781 5000 data ⟨by omega, by omega, by decide, by decide, by decide, by decide, by decide, by decide, hd⟩ (Or.inr rfl) (may_out _ rfl rfl f (by omega) (show ¬ f = 3405803781 by omega)) 16 _
    ((congrArg WYD.what (if_neg (by decide))).trans e1) (by decide) ((if_neg (by decide)).trans e2)
theorem tickR_stay (tm : Int) (cs : List Int) (h p f q port dl n : Int) (hlt : tm + n < dl) : tickS (stR tm cs [S1 h p f q port dl]) n = stR (tm + n) cs [S1 h p f q port dl] := by
  have hf : [S1 h p f q port dl].filter (fun x => decide (tm + n < x.dl)) = [S1 h p f q port dl] := by
    rw [List.filter_cons_of_pos (by exact decide_eq_true hlt)]; rfl
  show (⟨_, _, _, _, _, _, _, _, _, [S1 h p f q port dl].filter (fun x => decide (tm + n < x.dl)), []⟩ : BX) = _
  rw [hf]
  rfl
theorem tickR_gone (tm : Int) (cs : List Int) (h p f q port dl n : Int) (hlt : ¬ tm + n < dl) : tickS (stR tm cs [S1 h p f q port dl]) n = stR (tm + n) cs [] := by
  have hf : [S1 h p f q port dl].filter (fun x => decide (tm + n < x.dl)) = [] := by
    rw [List.filter_cons_of_neg (by intro e; exact hlt (of_decide_eq_true e))]; rfl
  show (⟨_, _, _, _, _, _, _, _, _, [S1 h p f q port dl].filter (fun x => decide (tm + n < x.dl)), []⟩ : BX) = _
  rw [hf]
  rfl

/-- A box of this call's own. -/
structure RM (w W : World) (b : Nat) (v : Value) (s : BX) : Prop where
  box : BoxAt W b v s
  le : w.heap.size ≤ b
  own : ∀ k, v.ownBlock = some k → w.heap.size ≤ k
  bl : Below w.heap.size w W
theorem RM.change {w W W' : World} {b : Nat} {v v' : Value} {s s' : BX} (h : RM w W b v s) (hb : BoxAt W' b v' s') (hc : Chg b v W W' v') : RM w W' b v' s' := by
  obtain ⟨h1, h2⟩ := hc.low h.le h.own h.bl.size
  exact ⟨hb, h.le, h2, h.bl.trans h1⟩
theorem RM.alloc {w W : World} {b : Nat} {v : Value} {s : BX} (h : RM w W b v s) (o : Obj) : RM w (W.alloc o) b v s := ⟨h.box.call ((Below.refl _ _).alloc (Nat.le_refl _) _), h.le, h.own, h.bl.alloc h.bl.size _⟩
end Go.Proofs.YtfkjobiapjhacabGreat
/- Rest: the walk. Own work. -/
namespace Go.Proofs.YtfkjobiapjhacabGreat
open Go.RowKit
attribute [local go_sem ↓] Go.wp_at_zero Go.wp_at_succ

theorem val_mk (i1 i2 i3 i4 i5 i6 i7 : Int) (B : ByteArray) : (⟨i1, i2, i3, i4, i5, i6, i7, B⟩ : PK).val = .agg #[.int .i64 i1, .int .i64 i2, .int .i64 i3, .int .i64 i4, .int .i64 i5, .int .i64 i6, .int .i64 i7, .string B] := rfl
end Go.Proofs.YtfkjobiapjhacabGreat
/- What a box does with one session of UDP, purely; Back. Own work. -/
namespace Go.Proofs.YtfkjobiapjhacabGreat
open Go.RowKit

/-- A box of n outer ports. -/
def stN (n tm : Int) (cs : List Int) (l : List SD) : BX := ⟨3405803781, 167772160, 8, 5000, 4999 + n, 400, 700, tm, cs, l, []⟩
theorem stN_ok (n tm : Int) (cs : List Int) (l : List SD) (n0 : 1 ≤ n) (n1 : n ≤ 12) (h0 : 0 ≤ tm) (h1 : tm ≤ 1000000) (hl : l.length ≤ 100) (hi : ∀ x ∈ l, 0 ≤ x.ia ∧ x.ia ≤ 4294967295) : OKB (stN n tm cs l) :=
  ⟨(by decide : (0 : Int) ≤ 167772160), (by decide : (167772160 : Int) ≤ 4294967296), (by decide : (0 : Int) ≤ 3405803781), (by decide : (3405803781 : Int) ≤ 4294967295), (by decide : (0 : Int) ≤ 5000), (by show (5000 : Int) ≤ 4999 + n; omega), (by show 4999 + n ≤ 100000; omega), h0, (by show tm ≤ 1000000000000000; omega), hl, hi⟩
theorem stN_nil (n tm : Int) (cs : List Int) (n0 : 1 ≤ n) (n1 : n ≤ 12) (h0 : 0 ≤ tm) (h1 : tm ≤ 1000000) : OKB (stN n tm cs []) := stN_ok n tm cs [] n0 n1 h0 h1 (by decide) (fun x hx => absurd hx (by simp))
theorem stN_one (n tm : Int) (cs : List Int) (h p f q port dl : Int) (n0 : 1 ≤ n) (n1 : n ≤ 12) (h0 : 0 ≤ tm) (h1 : tm ≤ 1000000) (hh0 : 0 ≤ h) (hh1 : h ≤ 4294967295) : OKB (stN n tm cs [S1 h p f q port dl]) :=
  stN_ok n tm cs _ n0 n1 h0 h1 (by simp) (fun x hx => by
    rw [List.mem_singleton] at hx
    subst hx
    exact ⟨hh0, hh1⟩)
/-- The law's own numbers. -/
structure RQ (h p f q : Int) : Prop where
  h0 : 167772161 ≤ h
  h1 : h ≤ 167773000
  p0 : 1 ≤ p
  p1 : p ≤ 65535
  f0 : 134744064 ≤ f
  f1 : f ≤ 134744300
  q0 : 1 ≤ q
  q1 : q ≤ 65535
theorem ins_again (s : BX) (h p f q port dl : Int) (m : ByteArray) (hl : s.l = [S1 h p f q port dl]) (hf : ¬ f = s.ou) :
    insW s 17 m h p f q = ⟨0, 1, 17, s.ou, port, f, q, btwM 17 m s.ou port f q⟩ ∧ insF s 17 m h p f q = [S1 h p f q port (s.tm + 30)] := by
  have hH : hasS 17 h p f q s.l = true := by rw [hl, hasS_one]; exact decide_eq_true ⟨rfl, rfl, rfl, rfl⟩
  have hW : askW s 17 h p f q (byteAt m 13) = 0 := by unfold askW; rw [if_pos hH]
  have hL : askL s 17 h p f q (byteAt m 13) = s.l := by unfold askL; rw [if_pos hH]
  have hI : insL s 17 m h p f q = [S1 h p f q port (s.tm + 30)] := by
    unfold insL
    rw [hL, hl, passL_one]
  have hO : insP s 17 m h p f q = port := by
    unfold insP
    rw [hI, outerI_one, if_pos ⟨rfl, rfl⟩]
  constructor
  · unfold insW
    rw [if_neg (fun h => hf h.1), hW, if_neg (by simp), if_neg hf, hO]
  · unfold insF
    rw [if_neg (fun h => hf h.1), hW, if_neg (by simp), if_neg hf, hI]
theorem n_out (b : Nat) (n tm : Int) (cs : List Int) (h p f q : Int) (data : ByteArray) (n0 : 1 ≤ n) (n1 : n ≤ 12) (hr : RQ h p f q) (hd : data.size ≤ 120) (h0 : 0 ≤ tm) (h1 : tm ≤ 1000000) :
    OneOK b (stN n tm cs []) 0 (udpP h p f q data) 1 ⟨7, 0, 0, 8, 17, 3405803781, f, udpB 3405803781 5000 f q data⟩ (stN n tm (bump cs 0) [S1 h p f q 5000 (tm + 30)]) := by
  obtain ⟨a0, a1, b0, b1, c0, c1, d0, d1⟩ := hr
  obtain ⟨e1, e2⟩ := ins_fresh (stN n tm cs []) rfl h p f q (udpB h p f q data) (show ¬ f = 3405803781 by omega) (show ¬ (5000 : Int) = 0 by decide) (show (5000 : Int) ≤ 4999 + n by omega)
  exact udp_one b (stN n tm cs []) (stN_nil n tm cs n0 n1 h0 h1) 0 h p f q data ⟨by omega, by omega, by omega, by omega, b0, b1, d0, d1, hd⟩ (Or.inl rfl) (may_in _ rfl rfl h f (by omega) (by omega) (by omega)) 1 3405803781 5000 f q _
    ((if_pos rfl).trans e1) ((if_pos rfl).trans e2) (by decide) (by decide) (by omega) (by omega)
theorem n_again (b : Nat) (n tm : Int) (cs : List Int) (h p f q dl : Int) (data : ByteArray) (n0 : 1 ≤ n) (n1 : n ≤ 12) (hr : RQ h p f q) (hd : data.size ≤ 120) (h0 : 0 ≤ tm) (h1 : tm ≤ 1000000) :
    OneOK b (stN n tm cs [S1 h p f q 5000 dl]) 0 (udpP h p f q data) 1 ⟨7, 0, 0, 8, 17, 3405803781, f, udpB 3405803781 5000 f q data⟩ (stN n tm (bump cs 0) [S1 h p f q 5000 (tm + 30)]) := by
  obtain ⟨a0, a1, b0, b1, c0, c1, d0, d1⟩ := hr
  obtain ⟨e1, e2⟩ := ins_again (stN n tm cs [S1 h p f q 5000 dl]) h p f q 5000 dl (udpB h p f q data) rfl (show ¬ f = 3405803781 by omega)
  exact udp_one b (stN n tm cs [S1 h p f q 5000 dl]) (stN_one n tm cs h p f q 5000 dl n0 n1 h0 h1 (by omega) (by omega)) 0 h p f q data ⟨by omega, by omega, by omega, by omega, b0, b1, d0, d1, hd⟩ (Or.inl rfl) (may_in _ rfl rfl h f (by omega) (by omega) (by omega)) 1 3405803781 5000 f q _
    ((if_pos rfl).trans e1) ((if_pos rfl).trans e2) (by decide) (by decide) (by omega) (by omega)
theorem n_in (b : Nat) (n tm : Int) (cs : List Int) (h p f q dl : Int) (data : ByteArray) (n0 : 1 ≤ n) (n1 : n ≤ 12) (hr : RQ h p f q) (hd : data.size ≤ 120) (h0 : 0 ≤ tm) (h1 : tm ≤ 1000000) :
    OneOK b (stN n tm cs [S1 h p f q 5000 dl]) 1 (udpP f q 3405803781 5000 data) 0 ⟨7, 0, 0, 8, 17, f, h, udpB f q h p data⟩ (stN n tm (bump cs 0) [S1 h p f q 5000 (tm + 30)]) := by
  obtain ⟨a0, a1, b0, b1, c0, c1, d0, d1⟩ := hr
  obtain ⟨e1, e2⟩ := outs_one (stN n tm cs [S1 h p f q 5000 dl]) h p f q 5000 dl (udpB f q 3405803781 5000 data) rfl
  exact udp_one b (stN n tm cs [S1 h p f q 5000 dl]) (stN_one n tm cs h p f q 5000 dl n0 n1 h0 h1 (by omega) (by omega)) 1 f q 3405803781 5000 data ⟨by omega, by omega, by decide, by decide, d0, d1, by decide, by decide, hd⟩ (Or.inr rfl) (may_out _ rfl rfl f (by omega) (show ¬ f = 3405803781 by omega)) 0 f q h p _
    ((if_neg (by decide)).trans e1) ((if_neg (by decide)).trans e2) (by omega) (by omega) (by omega) (by omega)
theorem udpB_size (src fr dst to' : Int) (data : ByteArray) : (udpB src fr dst to' data).size = 8 + data.size := by rw [← bl_length, bl_udpB, UMS_length, bl_length]
theorem udpB_data (src fr dst to' : Int) (data : ByteArray) : (udpB src fr dst to' data).extract 8 (udpB src fr dst to' data).size = data := by
  apply bl_inj
  rw [bl_ex, udpB_size, bl_udpB]
  unfold UMS UM
  show List.take (8 + data.size - 8) (bl data) = bl data
  rw [List.take_of_length_le (by rw [bl_length]; omega)]
theorem udpB_btw (i1 i2 i3 i4 i5 src fr dst to' : Int) (data : ByteArray) (f0 : 0 ≤ fr) (f1 : fr ≤ 65535) (t0 : 0 ≤ to') (t1 : to' ≤ 65535) : btwB ⟨i1, i2, i3, i4, i5, src, dst, udpB src fr dst to' data⟩ src fr dst to' = true := by
  obtain ⟨w0, w2, -, -⟩ := UM_words (bl_udpB src fr dst to' data)
  have e0 : wordAt (udpB src fr dst to' data) 0 = fr := w0.trans (by omega)
  have e2 : wordAt (udpB src fr dst to' data) 2 = to' := w2.trans (by omega)
  unfold btwB
  simp only
  rw [e0, e2]
  simp
end Go.Proofs.YtfkjobiapjhacabGreat
