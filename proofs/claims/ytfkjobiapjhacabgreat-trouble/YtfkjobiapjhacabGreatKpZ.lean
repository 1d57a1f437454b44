/- Echo: the walk. Own work. -/
import Derived.Test.YtfkjobiapjhacabGreatKpX
namespace Go.Proofs.YtfkjobiapjhacabGreat
open Go.RowKit
attribute [local go_sem ↓] Go.wp_at_zero Go.wp_at_succ

/-- A session of an echo. -/
def E1 (h id f port dl : Int) : SD := ⟨1, h, id, f, 0, port, dl, 0, false, false, false⟩
theorem fresh1 (h id f port : Int) : freshS 1 h id f 0 port = E1 h id f port 0 := rfl
theorem pass1 (side fg now h id f port dl : Int) : passS 1 side fg now (E1 h id f port dl) = E1 h id f port (now + 10) := rfl
theorem isS_E1 (a b c d h id f port dl : Int) : isS 1 a b c d (E1 h id f port dl) = decide (h = a ∧ id = b ∧ f = c ∧ 0 = d) := by
  unfold isS E1
  by_cases e1 : h = a <;> by_cases e2 : id = b <;> by_cases e3 : f = c <;> by_cases e4 : 0 = d <;> simp [e1, e2, e3, e4]
theorem hasE_one (a b c d h id f port dl : Int) : hasS 1 a b c d [E1 h id f port dl] = decide (h = a ∧ id = b ∧ f = c ∧ 0 = d) := by
  unfold hasS findI
  by_cases e : h = a ∧ id = b ∧ f = c ∧ 0 = d
  · have e1 : [E1 h id f port dl].findIdx? (isS 1 a b c d) = some 0 := by
      rw [List.findIdx?_cons, isS_E1, decide_eq_true e]; rfl
    rw [e1, decide_eq_true e]; rfl
  · have e1 : [E1 h id f port dl].findIdx? (isS 1 a b c d) = none := by
      rw [List.findIdx?_cons, isS_E1, decide_eq_false e]; rfl
    rw [e1, decide_eq_false e]; rfl
theorem passE_one (side fg now h id f port dl : Int) : passL 1 h id f 0 side fg now [E1 h id f port dl] = [E1 h id f port (now + 10)] := by
  unfold passL
  have e1 : [E1 h id f port dl].findIdx? (isS 1 h id f 0) = some 0 := by
    rw [List.findIdx?_cons, isS_E1, decide_eq_true ⟨rfl, rfl, rfl, rfl⟩]; rfl
  rw [e1]
  simp [pass1]
theorem outerE_one (h id f port dl : Int) : outerI 1 h id [E1 h id f port dl] = port := by
  unfold outerI E1
  simp
theorem innerE_one (pt h id f port dl : Int) : innerI 1 pt [E1 h id f port dl] = if port = pt then some (E1 h id f port dl) else none := by
  unfold innerI
  by_cases e1 : port = pt <;> simp [E1, e1]
theorem insE_fresh (s : BX) (hl : s.l = []) (h id f : Int) (m : ByteArray) (hf : ¬ f = s.ou) (hlo : ¬ s.lo = 0) (hhi : s.lo ≤ s.hi) :
    insW s 1 m h id f 0 = ⟨0, 1, 1, s.ou, s.lo, f, 0, btwM 1 m s.ou s.lo f 0⟩ ∧ insF s 1 m h id f 0 = [E1 h id f s.lo (s.tm + 10)] := by
  obtain ⟨n, hn⟩ : ∃ n, (s.hi - s.lo + 1).toNat = n + 1 := ⟨(s.hi - s.lo).toNat, by omega⟩
  have hP : askP s 1 h id = s.lo := by
    unfold askP
    rw [hl, hn]
    rfl
  have h0 : hasS 1 h id f 0 [] = false := rfl
  have hW : askW s 1 h id f 0 (byteAt m 13) = 0 := by
    unfold askW
    rw [hP, hl, h0]
    simp [hlo]
  have hL : askL s 1 h id f 0 (byteAt m 13) = [E1 h id f s.lo 0] := by
    unfold askL
    rw [hW, hP, hl, h0]
    simp only [fresh1]
    rfl
  have hI : insL s 1 m h id f 0 = [E1 h id f s.lo (s.tm + 10)] := by
    unfold insL
    rw [hL, passE_one]
  have hO : insP s 1 m h id f 0 = s.lo := by
    unfold insP
    rw [hI, outerE_one]
  constructor
  · unfold insW
    rw [if_neg (fun h => hf h.1), hW, if_neg (by simp), if_neg hf, hO]
  · unfold insF
    rw [if_neg (fun h => hf h.1), hW, if_neg (by simp), if_neg hf, hI]
theorem outsE_one (s : BX) (h id f port dl : Int) (m : ByteArray) (hl : s.l = [E1 h id f port dl]) :
    outsW s 1 m f 0 port = ⟨0, 0, 1, f, 0, h, id, btwM 1 m f 0 h id⟩ ∧ outsL s 1 m f 0 port = [E1 h id f port (s.tm + 10)] := by
  have hI : innerI 1 port s.l = some (E1 h id f port dl) := by rw [hl, innerE_one, if_pos rfl]
  have hH : hasS 1 (E1 h id f port dl).ia (E1 h id f port dl).ip f 0 s.l = true := by rw [hl, hasE_one]; exact decide_eq_true ⟨rfl, rfl, rfl, rfl⟩
  constructor
  · unfold outsW
    rw [hI]
    simp only [hH]
    rfl
  · unfold outsL
    rw [hI]
    simp only [hH]
    rw [if_pos trivial, hl]
    exact passE_one 1 (byteAt m 13) s.tm h id f port dl
theorem outsE_other (s : BX) (h id f port dl fa : Int) (m : ByteArray) (hl : s.l = [E1 h id f port dl]) (hne : ¬ f = fa) : (outsW s 1 m fa 0 port).what = 16 ∧ outsL s 1 m fa 0 port = s.l := by
  have hI : innerI 1 port s.l = some (E1 h id f port dl) := by rw [hl, innerE_one, if_pos rfl]
  have hH : hasS 1 (E1 h id f port dl).ia (E1 h id f port dl).ip fa 0 s.l = false := by rw [hl, hasE_one]; exact decide_eq_false fun h => hne h.2.2.1
  constructor
  · unfold outsW
    rw [hI]
    simp only [hH]
    rfl
  · unfold outsL
    rw [hI]
    simp only [hH]
    rfl
theorem stE_one (n tm : Int) (cs : List Int) (h id f port dl : Int) (n0 : 1 ≤ n) (n1 : n ≤ 12) (h0 : 0 ≤ tm) (h1 : tm ≤ 1000000) (hh0 : 0 ≤ h) (hh1 : h ≤ 4294967295) : OKB (stN n tm cs [E1 h id f port dl]) :=
  stN_ok n tm cs _ n0 n1 h0 h1 (by simp) (fun x hx => by
    rw [List.mem_singleton] at hx
    subst hx
    exact ⟨hh0, hh1⟩)
structure RE (h id f : Int) : Prop where
  h0 : 167772161 ≤ h
  h1 : h ≤ 167773000
  i0 : 0 ≤ id
  i1 : id ≤ 65535
  f0 : 134744064 ≤ f
  f1 : f ≤ 134744300
theorem eF_out (dst id : Int) (data : ByteArray) (i0 : 0 ≤ id) (i1 : id ≤ 65535) (hd : ¬ dst = 3405803781) : eFault 3405803781 0 1 dst (eBody 8 id data) = 0 := by
  obtain ⟨-, k2, k3, -⟩ := eBody_is 8 id data (Or.inl rfl) i0 i1
  unfold eFault
  rw [k2, k3]
  simp [hd]
theorem eF_in (dst id : Int) (data : ByteArray) (i0 : 0 ≤ id) (i1 : id ≤ 65535) : eFault 3405803781 1 1 dst (eBody 0 id data) = 0 := by
  obtain ⟨-, k2, k3, -⟩ := eBody_is 0 id data (Or.inr rfl) i0 i1
  unfold eFault
  rw [k2, k3]
  rfl
theorem e_out (b : Nat) (n : Int) (cs : List Int) (h id f : Int) (data : ByteArray) (n0 : 1 ≤ n) (n1 : n ≤ 12) (hr : RE h id f) (hd : data.size ≤ 120) :
    OneOK b (stN n 0 cs []) 0 (echoP 8 h f id data) 1 ⟨9, 0, 0, 8, 1, 3405803781, f, eBody 8 5000 data⟩ (stN n 0 (bump cs 0) [E1 h id f 5000 (0 + 10)]) := by
  obtain ⟨a0, a1, b0, b1, c0, c1⟩ := hr
  obtain ⟨e1, e2⟩ := insE_fresh (stN n 0 cs []) rfl h id f (eBody 8 id data) (show ¬ f = 3405803781 by omega) (show ¬ (5000 : Int) = 0 by decide) (show (5000 : Int) ≤ 4999 + n by omega)
  have e0 : ¬ ¬ eFault (stN n 0 cs []).ou 0 1 f (eBody 8 id data) = 0 := by
    show ¬ ¬ eFault 3405803781 0 1 f (eBody 8 id data) = 0
    rw [eF_out f id data b0 b1 (by omega)]; decide
  have hW : eW (stN n 0 cs []) 0 8 h f id data = ⟨0, 1, 1, 3405803781, 5000, f, 0, btwM 1 (eBody 8 id data) 3405803781 5000 f 0⟩ := by
    unfold eW
    rw [if_neg e0, if_pos rfl]
    exact e1
  have hL : eL (stN n 0 cs []) 0 8 h f id data = [E1 h id f 5000 (0 + 10)] := by
    unfold eL
    rw [if_neg e0, if_pos rfl]
    exact e2
  have hx := echo_one b (stN n 0 cs []) (stN_nil n 0 cs n0 n1 (by decide) (by decide)) 0 8 h f id data ⟨Or.inl rfl, by omega, by omega, by omega, by omega, b0, b1, hd⟩ (Or.inl rfl) (may_in _ rfl rfl h f (by omega) (by omega) (by omega)) 1 3405803781 5000 f 0 _ hW hL (by decide) (by decide) (by omega) (by omega)
  rw [if_pos rfl] at hx
  exact hx
theorem e_in (b : Nat) (n : Int) (cs : List Int) (h id f dl : Int) (data : ByteArray) (n0 : 1 ≤ n) (n1 : n ≤ 12) (hr : RE h id f) (hd : data.size ≤ 120) :
    OneOK b (stN n 0 cs [E1 h id f 5000 dl]) 1 (echoP 0 f 3405803781 5000 data) 0 ⟨9, 0, 0, 8, 1, f, h, eBody 0 id data⟩ (stN n 0 (bump cs 0) [E1 h id f 5000 (0 + 10)]) := by
  obtain ⟨a0, a1, b0, b1, c0, c1⟩ := hr
  obtain ⟨e1, e2⟩ := outsE_one (stN n 0 cs [E1 h id f 5000 dl]) h id f 5000 dl (eBody 0 5000 data) rfl
  have e0 : ¬ ¬ eFault (stN n 0 cs [E1 h id f 5000 dl]).ou 1 1 3405803781 (eBody 0 5000 data) = 0 := by
    show ¬ ¬ eFault 3405803781 1 1 3405803781 (eBody 0 5000 data) = 0
    rw [eF_in 3405803781 5000 data (by decide) (by decide)]; decide
  have hW : eW (stN n 0 cs [E1 h id f 5000 dl]) 1 0 f 3405803781 5000 data = ⟨0, 0, 1, f, 0, h, id, btwM 1 (eBody 0 5000 data) f 0 h id⟩ := by
    unfold eW
    rw [if_neg e0, if_neg (by decide)]
    exact e1
  have hL : eL (stN n 0 cs [E1 h id f 5000 dl]) 1 0 f 3405803781 5000 data = [E1 h id f 5000 (0 + 10)] := by
    unfold eL
    rw [if_neg e0, if_neg (by decide)]
    exact e2
  have hx := echo_one b (stN n 0 cs [E1 h id f 5000 dl]) (stE_one n 0 cs h id f 5000 dl n0 n1 (by decide) (by decide) (by omega) (by omega)) 1 0 f 3405803781 5000 data ⟨Or.inr rfl, by omega, by omega, by decide, by decide, by decide, by decide, hd⟩ (Or.inr rfl) (may_out _ rfl rfl f (by omega) (show ¬ f = 3405803781 by omega)) 0 f 0 h id _ hW hL (by omega) (by omega) (by omega) (by omega)
  rw [if_neg (by decide)] at hx
  exact hx
theorem e_other (b : Nat) (n : Int) (cs : List Int) (h id f dl g : Int) (n0 : 1 ≤ n) (n1 : n ≤ 12) (hr : RE h id f) (g0 : 134744064 ≤ g) (g1 : g ≤ 134744300) (hne : ¬ f = g) :
    NoneOK b (stN n 0 cs [E1 h id f 5000 dl]) 1 (echoP 0 g 3405803781 5000 ⟨#[120]⟩) 16 (stN n 0 (bump cs 16) [E1 h id f 5000 dl]) := by
  obtain ⟨a0, a1, b0, b1, c0, c1⟩ := hr
  obtain ⟨e1, e2⟩ := outsE_other (stN n 0 cs [E1 h id f 5000 dl]) h id f 5000 dl g (eBody 0 5000 ⟨#[120]⟩) rfl hne
  have e0 : ¬ ¬ eFault (stN n 0 cs [E1 h id f 5000 dl]).ou 1 1 3405803781 (eBody 0 5000 ⟨#[120]⟩) = 0 := by
    show ¬ ¬ eFault 3405803781 1 1 3405803781 (eBody 0 5000 ⟨#[120]⟩) = 0
    rw [eF_in 3405803781 5000 ⟨#[120]⟩ (by decide) (by decide)]; decide
  refine echo_none b (stN n 0 cs [E1 h id f 5000 dl]) (stE_one n 0 cs h id f 5000 dl n0 n1 (by decide) (by decide) (by omega) (by omega)) 1 0 g 3405803781 5000 ⟨#[120]⟩ ⟨Or.inr rfl, by omega, by omega, by decide, by decide, by decide, by decide, by decide⟩ (Or.inr rfl) (may_out _ rfl rfl g (by omega) (show ¬ g = 3405803781 by omega)) 16 _ ?_ (by decide) ?_
  · unfold eW
    rw [if_neg e0, if_neg (by decide)]
    exact e1
  · unfold eL
    rw [if_neg e0, if_neg (by decide)]
    exact e2
theorem eBody_data (kind id : Int) (data : ByteArray) : (eBody kind id data).extract 8 (eBody kind id data).size = data := by
  apply bl_inj
  rw [bl_ex, bl_echoB, eBody_size]
  unfold EMS EM
  have e : ([byteOf kind, 0, byteOf ((65535 - foldI (ES kind id (bl data))) / 256), byteOf (65535 - foldI (ES kind id (bl data))), byteOf (id / 256), byteOf id, 0, 1] ++ bl data).drop 8 = bl data := List.drop_left' rfl
  rw [e, List.take_of_length_le (by rw [bl_length]; omega)]
theorem eBody_id (kind id : Int) (data : ByteArray) (i0 : 0 ≤ id) (i1 : id ≤ 65535) : atNI (eBody kind id data) 4 2 = id := by
  rw [atNI_two]
  exact ((EM_words (bl_echoB kind id data)).2.2).trans (by omega)
end Go.Proofs.YtfkjobiapjhacabGreat
