/- Echo: the walk. Own work. -/
import Derived.Test.YtfkjobiapjhacaaGreatKpX
namespace Go.Proofs.YtfkjobiapjhacaaGreat
open Go.RowKit
attribute [local go_sem ↓] Go.wp_at_zero Go.wp_at_succ

set_option maxRecDepth 100000 in
set_option maxHeartbeats 1000000 in
theorem echoOne_yes {w : World} {b : Nat} {v : Value} {s s' : BX} (h : BoxAt w b v s) (side kind src dst id : Int) (data : ByteArray) (out : Int) (q : PK) (hd : data.size ≤ 900) (hO : OneOK b s side (echoP kind src dst id data) out q s') :
    Calls Tryz.prog 30 #[.pointer (some ⟨b, 0, none⟩), .int .i64 side, .int .i64 kind, .int .i64 src, .int .i64 dst, .int .i64 id, .string data, .int .i64 out] w fun e w' => e = .returned (.tuple #[q.val, .bool true]) ∧ ∃ v', BoxAt w' b v' s' ∧ Chg b v w w' v' := by
  have hM1 : GMid w (w.alloc (.cells #[.int .i64 0, .int .i64 0, .int .i64 0, .int .i64 0, .int .i64 0, .int .i64 0, .int .i64 0, .string ⟨#[]⟩] 31)) b v v s [(w.heap.size, #[.int .i64 0, .int .i64 0, .int .i64 0, .int .i64 0, .int .i64 0, .int .i64 0, .int .i64 0, .string ⟨#[]⟩], 31)] := (GMid.start h).alloc' _ _ _ rfl
  have HU : Hid (∀ w, Calls Tryz.prog 39 #[.int .i64 kind, .int .i64 src, .int .i64 dst, .int .i64 id, .string data] w fun e w' => e = .returned (echoP kind src dst id data).val ∧ Below w.heap.size w w') := fun w => echo_any kind src dst id data w hd
  have HO : Hid (∀ w v, BoxAt w b v s → Calls Tryz.prog 34 #[.pointer (some ⟨b, 0, none⟩), .int .i64 side, (echoP kind src dst id data).val, .int .i64 out] w fun e w' => e = .returned (.tuple #[q.val, .bool true]) ∧ ∃ v', BoxAt w' b v' s' ∧ Chg b v w w' v') := hO.run
  generalize echoP kind src dst id data = p at HU HO
  have hpv : p.val = .agg #[.int .i64 p.id, .int .i64 p.fl, .int .i64 p.off, .int .i64 p.ttl, .int .i64 p.pr, .int .i64 p.src, .int .i64 p.dst, .string p.body] := rfl
  have hqv : q.val = .agg #[.int .i64 q.id, .int .i64 q.fl, .int .i64 q.off, .int .i64 q.ttl, .int .i64 q.pr, .int .i64 q.src, .int .i64 q.dst, .string q.body] := rfl
  rw [hpv] at HU HO
  rw [hqv] at HO ⊢
  clear hpv hqv hO h
  obtain ⟨⟨r0, r1, r2, r3, r4, r5, r6, r7⟩, rf⟩ := c8 hM1.at0
  have hM : Hid _ := hM1
  clear hM1
  go_enter Tryz.func30, Tryz.ntmps30
  go_wp2_with (go_at_call 39; refine (HU.out _).mono ?_; rintro e w1 ⟨rfl, hb1⟩; have hM1 := hM.out.call hb1; clear hM hb1; clear r0 r1 r2 r3 r4 r5 r6 r7 rf; have hM : Hid _ := hM1; clear hM1)
  refine (HO.out _ _ (hM.out.alloc' #[.int .i64 p.id, .int .i64 p.fl, .int .i64 p.off, .int .i64 p.ttl, .int .i64 p.pr, .int .i64 p.src, .int .i64 p.dst, .string p.body] 31 w1.heap.size rfl).box).mono ?_
  rintro e w2 ⟨rfl, v', hbx, hch⟩
  have hM1 := (hM.out.alloc' #[.int .i64 p.id, .int .i64 p.fl, .int .i64 p.off, .int .i64 p.ttl, .int .i64 p.pr, .int .i64 p.src, .int .i64 p.dst, .string p.body] 31 w1.heap.size rfl).change hbx hch
  clear hM hbx hch
  obtain ⟨⟨r0, r1, r2, r3, r4, r5, r6, r7⟩, rf⟩ := c8 hM1.at1
  have hM : Hid _ := hM1
  clear hM1
  go_wp2_with fail
  refine bodyPost_ret (v := .tuple #[.agg #[.int .i64 q.id, .int .i64 q.fl, .int .i64 q.off, .int .i64 q.ttl, .int .i64 q.pr, .int .i64 q.src, .int .i64 q.dst, .string q.body], .bool true]) (by simp [results, Tryz.results30, go_sem, r0, r1, r2, r3, r4, r5, r6, r7]) rfl ⟨rfl, v', ?_⟩
  have hE := (((((((hM.out.set1 0 (.int .i64 q.id)).set1 1 (.int .i64 q.fl)).set1 2 (.int .i64 q.off)).set1 3 (.int .i64 q.ttl)).set1 4 (.int .i64 q.pr)).set1 5 (.int .i64 q.src)).set1 6 (.int .i64 q.dst)).set1 7 (.string q.body)
  exact ⟨hE.box, hE.chg⟩

/-- A session of an echo. -/
def E1 (h id f port dl : Int) : SD := ⟨1, h, id, f, 0, port, dl, 0, false, false, false⟩
theorem fresh1 (h id f port : Int) : freshS 1 h id f 0 port = E1 h id f port 0 := rfl
theorem pass1 (side fg now h id f port dl : Int) : passS 1 side fg now (E1 h id f port dl) = E1 h id f port (now + 10) := rfl
theorem isS_E1 (a b c d h id f port dl : Int) : isS 1 a b c d (E1 h id f port dl) = decide (h = a ∧ id = b ∧ f = c ∧ 0 = d) := by
  unfold isS E1
  by_cases e1 : h = a <;> by_cases e2 : id = b <;> by_cases e3 : f = c <;> by_cases e4 : 0 = d <;> simp [e1, e2, e3, e4]
theorem hasE_one (a b c d h id f port dl : Int) : hasS 1 a b c d [E1 h id f port dl] = decide (h = a ∧ id = b ∧ f = c ∧ 0 = d) := by
  unfold hasS findI
  by_cases e : h = a ∧ id = b ∧ f = c ∧ 0 = d
  · have e1 : [E1 h id f port dl].findIdx? (isS 1 a b c d) = some 0 := by
      rw [List.findIdx?_cons, isS_E1, decide_eq_true e]; rfl
    rw [e1, decide_eq_true e]; rfl
  · have e1 : [E1 h id f port dl].findIdx? (isS 1 a b c d) = none := by
      rw [List.findIdx?_cons, isS_E1, decide_eq_false e]; rfl
    rw [e1, decide_eq_false e]; rfl
theorem passE_one (side fg now h id f port dl : Int) : passL 1 h id f 0 side fg now [E1 h id f port dl] = [E1 h id f port (now + 10)] := by
  unfold passL
  have e1 : [E1 h id f port dl].findIdx? (isS 1 h id f 0) = some 0 := by
    rw [List.findIdx?_cons, isS_E1, decide_eq_true ⟨rfl, rfl, rfl, rfl⟩]; rfl
  rw [e1]
  simp [pass1]
theorem outerE_one (h id f port dl : Int) : outerI 1 h id [E1 h id f port dl] = port := by
  unfold outerI E1
  simp
theorem innerE_one (pt h id f port dl : Int) : innerI 1 pt [E1 h id f port dl] = if port = pt then some (E1 h id f port dl) else none := by
  unfold innerI
  by_cases e1 : port = pt <;> simp [E1, e1]
theorem insE_fresh (s : BX) (hl : s.l = []) (h id f : Int) (m : ByteArray) (hf : ¬ f = s.ou) (hlo : ¬ s.lo = 0) (hhi : s.lo ≤ s.hi) :
    insW s 1 m h id f 0 = ⟨0, 1, 1, s.ou, s.lo, f, 0, btwM 1 m s.ou s.lo f 0⟩ ∧ insF s 1 m h id f 0 = [E1 h id f s.lo (s.tm + 10)] := by
  obtain ⟨n, hn⟩ : ∃ n, (s.hi - s.lo + 1).toNat = n + 1 := ⟨(s.hi - s.lo).toNat, by omega⟩
  have hP : askP s 1 h id = s.lo := by
    unfold askP
    rw [hl, hn]
    rfl
  have h0 : hasS 1 h id f 0 [] = false := rfl
  have hW : askW s 1 h id f 0 (byteAt m 13) = 0 := by
    unfold askW
    rw [hP, hl, h0]
    simp [hlo]
  have hL : askL s 1 h id f 0 (byteAt m 13) = [E1 h id f s.lo 0] := by
    unfold askL
    rw [hW, hP, hl, h0]
    simp only [fresh1]
    rfl
  have hI : insL s 1 m h id f 0 = [E1 h id f s.lo (s.tm + 10)] := by
    unfold insL
    rw [hL, passE_one]
  have hO : insP s 1 m h id f 0 = s.lo := by
    unfold insP
    rw [hI, outerE_one]
  constructor
  · unfold insW
    rw [if_neg (fun h => hf h.1), hW, if_neg (by simp), if_neg hf, hO]
  · unfold insF
    rw [if_neg (fun h => hf h.1), hW, if_neg (by simp), if_neg hf, hI]
theorem outsE_one (s : BX) (h id f port dl : Int) (m : ByteArray) (hl : s.l = [E1 h id f port dl]) :
    outsW s 1 m f 0 port = ⟨0, 0, 1, f, 0, h, id, btwM 1 m f 0 h id⟩ ∧ outsL s 1 m f 0 port = [E1 h id f port (s.tm + 10)] := by
  have hI : innerI 1 port s.l = some (E1 h id f port dl) := by rw [hl, innerE_one, if_pos rfl]
  have hH : hasS 1 (E1 h id f port dl).ia (E1 h id f port dl).ip f 0 s.l = true := by rw [hl, hasE_one]; exact decide_eq_true ⟨rfl, rfl, rfl, rfl⟩
  constructor
  · unfold outsW
    rw [hI]
    simp only [hH]
    rfl
  · unfold outsL
    rw [hI]
    simp only [hH]
    rw [if_pos trivial, hl]
    exact passE_one 1 (byteAt m 13) s.tm h id f port dl
theorem outsE_other (s : BX) (h id f port dl fa : Int) (m : ByteArray) (hl : s.l = [E1 h id f port dl]) (hne : ¬ f = fa) : (outsW s 1 m fa 0 port).what = 16 ∧ outsL s 1 m fa 0 port = s.l := by
  have hI : innerI 1 port s.l = some (E1 h id f port dl) := by rw [hl, innerE_one, if_pos rfl]
  have hH : hasS 1 (E1 h id f port dl).ia (E1 h id f port dl).ip fa 0 s.l = false := by rw [hl, hasE_one]; exact decide_eq_false fun h => hne h.2.2.1
  constructor
  · unfold outsW
    rw [hI]
    simp only [hH]
    rfl
  · unfold outsL
    rw [hI]
    simp only [hH]
    rfl
theorem stE_one (n tm : Int) (cs : List Int) (h id f port dl : Int) (n0 : 1 ≤ n) (n1 : n ≤ 12) (h0 : 0 ≤ tm) (h1 : tm ≤ 1000000) (hh0 : 0 ≤ h) (hh1 : h ≤ 4294967295) : OKB (stN n tm cs [E1 h id f port dl]) :=
  stN_ok n tm cs _ n0 n1 h0 h1 (by simp) (fun x hx => by
    rw [List.mem_singleton] at hx
    subst hx
    exact ⟨hh0, hh1⟩)
structure RE (h id f : Int) : Prop where
  h0 : 167772161 ≤ h
  h1 : h ≤ 167773000
  i0 : 0 ≤ id
  i1 : id ≤ 65535
  f0 : 134744064 ≤ f
  f1 : f ≤ 134744300
theorem eF_out (dst id : Int) (data : ByteArray) (i0 : 0 ≤ id) (i1 : id ≤ 65535) (hd : ¬ dst = 3405803781) : eFault 3405803781 0 1 dst (eBody 8 id data) = 0 := by
  obtain ⟨-, k2, k3, -⟩ := eBody_is 8 id data (Or.inl rfl) i0 i1
  unfold eFault
  rw [k2, k3]
  simp [hd]
theorem eF_in (dst id : Int) (data : ByteArray) (i0 : 0 ≤ id) (i1 : id ≤ 65535) : eFault 3405803781 1 1 dst (eBody 0 id data) = 0 := by
  obtain ⟨-, k2, k3, -⟩ := eBody_is 0 id data (Or.inr rfl) i0 i1
  unfold eFault
  rw [k2, k3]
  rfl
theorem e_out (b : Nat) (n : Int) (cs : List Int) (h id f : Int) (data : ByteArray) (n0 : 1 ≤ n) (n1 : n ≤ 12) (hr : RE h id f) (hd : data.size ≤ 120) :
    OneOK b (stN n 0 cs []) 0 (echoP 8 h f id data) 1 ⟨9, 0, 0, 8, 1, 3405803781, f, eBody 8 5000 data⟩ (stN n 0 (bump cs 0) [E1 h id f 5000 (0 + 10)]) := by
  obtain ⟨a0, a1, b0, b1, c0, c1⟩ := hr
  obtain ⟨e1, e2⟩ := insE_fresh (stN n 0 cs []) rfl h id f (eBody 8 id data) (show ¬ f = 3405803781 by omega) (show ¬ (5000 : Int) = 0 by decide) (show (5000 : Int) ≤ 4999 + n by omega)
  have e0 : ¬ ¬ eFault (stN n 0 cs []).ou 0 1 f (eBody 8 id data) = 0 := by
    show ¬ ¬ eFault 3405803781 0 1 f (eBody 8 id data) = 0
    rw [eF_out f id data b0 b1 (by omega)]; decide
  have hW : eW (stN n 0 cs []) 0 8 h f id data = ⟨0, 1, 1, 3405803781, 5000, f, 0, btwM 1 (eBody 8 id data) 3405803781 5000 f 0⟩ := by
    unfold eW
    rw [if_neg e0, if_pos rfl]
    exact e1
  have hL : eL (stN n 0 cs []) 0 8 h f id data = [E1 h id f 5000 (0 + 10)] := by
    unfold eL
    rw [if_neg e0, if_pos rfl]
    exact e2
  have hx := echo_one b (stN n 0 cs []) (stN_nil n 0 cs n0 n1 (by decide) (by decide)) 0 8 h f id data ⟨Or.inl rfl, by omega, by omega, by omega, by omega, b0, b1, hd⟩ (Or.inl rfl) (may_in _ rfl rfl h f (by omega) (by omega) (by omega)) 1 3405803781 5000 f 0 _ hW hL (by decide) (by decide) (by omega) (by omega)
  rw [if_pos rfl] at hx
  exact hx
theorem e_in (b : Nat) (n : Int) (cs : List Int) (h id f dl : Int) (data : ByteArray) (n0 : 1 ≤ n) (n1 : n ≤ 12) (hr : RE h id f) (hd : data.size ≤ 120) :
    OneOK b (stN n 0 cs [E1 h id f 5000 dl]) 1 (echoP 0 f 3405803781 5000 data) 0 ⟨9, 0, 0, 8, 1, f, h, eBody 0 id data⟩ (stN n 0 (bump cs 0) [E1 h id f 5000 (0 + 10)]) := by
  obtain ⟨a0, a1, b0, b1, c0, c1⟩ := hr
  obtain ⟨e1, e2⟩ := outsE_one (stN n 0 cs [E1 h id f 5000 dl]) h id f 5000 dl (eBody 0 5000 data) rfl
  have e0 : ¬ ¬ eFault (stN n 0 cs [E1 h id f 5000 dl]).ou 1 1 3405803781 (eBody 0 5000 data) = 0 := by
    show ¬ ¬ eFault 3405803781 1 1 3405803781 (eBody 0 5000 data) = 0
    rw [eF_in 3405803781 5000 data (by decide) (by decide)]; decide
  have hW : eW (stN n 0 cs [E1 h id f 5000 dl]) 1 0 f 3405803781 5000 data = ⟨0, 0, 1, f, 0, h, id, btwM 1 (eBody 0 5000 data) f 0 h id⟩ := by
    unfold eW
    rw [if_neg e0, if_neg (by decide)]
    exact e1
  have hL : eL (stN n 0 cs [E1 h id f 5000 dl]) 1 0 f 3405803781 5000 data = [E1 h id f 5000 (0 + 10)] := by
    unfold eL
    rw [if_neg e0, if_neg (by decide)]
    exact e2
  have hx := echo_one b (stN n 0 cs [E1 h id f 5000 dl]) (stE_one n 0 cs h id f 5000 dl n0 n1 (by decide) (by decide) (by omega) (by omega)) 1 0 f 3405803781 5000 data ⟨Or.inr rfl, by omega, by omega, by decide, by decide, by decide, by decide, hd⟩ (Or.inr rfl) (may_out _ rfl rfl f (by omega) (show ¬ f = 3405803781 by omega)) 0 f 0 h id _ hW hL (by omega) (by omega) (by omega) (by omega)
  rw [if_neg (by decide)] at hx
  exact hx
theorem e_other (b : Nat) (n : Int) (cs : List Int) (h id f dl g : Int) (n0 : 1 ≤ n) (n1 : n ≤ 12) (hr : RE h id f) (g0 : 134744064 ≤ g) (g1 : g ≤ 134744300) (hne : ¬ f = g) :
    NoneOK b (stN n 0 cs [E1 h id f 5000 dl]) 1 (echoP 0 g 3405803781 5000 ⟨#[120]⟩) 16 (stN n 0 (bump cs 16) [E1 h id f 5000 dl]) := by
  obtain ⟨a0, a1, b0, b1, c0, c1⟩ := hr
  obtain ⟨e1, e2⟩ := outsE_other (stN n 0 cs [E1 h id f 5000 dl]) h id f 5000 dl g (eBody 0 5000 ⟨#[120]⟩) rfl hne
  have e0 : ¬ ¬ eFault (stN n 0 cs [E1 h id f 5000 dl]).ou 1 1 3405803781 (eBody 0 5000 ⟨#[120]⟩) = 0 := by
    show ¬ ¬ eFault 3405803781 1 1 3405803781 (eBody 0 5000 ⟨#[120]⟩) = 0
    rw [eF_in 3405803781 5000 ⟨#[120]⟩ (by decide) (by decide)]; decide
  refine echo_none b (stN n 0 cs [E1 h id f 5000 dl]) (stE_one n 0 cs h id f 5000 dl n0 n1 (by decide) (by decide) (by omega) (by omega)) 1 0 g 3405803781 5000 ⟨#[120]⟩ ⟨Or.inr rfl, by omega, by omega, by decide, by decide, by decide, by decide, by decide⟩ (Or.inr rfl) (may_out _ rfl rfl g (by omega) (show ¬ g = 3405803781 by omega)) 16 _ ?_ (by decide) ?_
  · unfold eW
    rw [if_neg e0, if_neg (by decide)]
    exact e1
  · unfold eL
    rw [if_neg e0, if_neg (by decide)]
    exact e2
theorem eBody_data (kind id : Int) (data : ByteArray) : (eBody kind id data).extract 8 (eBody kind id data).size = data := by
  apply bl_inj
  rw [bl_ex, bl_echoB, eBody_size]
  unfold EMS EM
  have e : ([byteOf kind, 0, byteOf ((65535 - foldI (ES kind id (bl data))) / 256), byteOf (65535 - foldI (ES kind id (bl data))), byteOf (id / 256), byteOf id, 0, 1] ++ bl data).drop 8 = bl data := List.drop_left' rfl
  rw [e, List.take_of_length_le (by rw [bl_length]; omega)]
theorem eBody_id (kind id : Int) (data : ByteArray) (i0 : 0 ≤ id) (i1 : id ≤ 65535) : atNI (eBody kind id data) 4 2 = id := by
  rw [atNI_two]
  exact ((EM_words (bl_echoB kind id data)).2.2).trans (by omega)
set_option maxRecDepth 100000 in
set_option maxHeartbeats 4000000 in
theorem echoed_any (a c : Int) (dd : ByteArray) (w : World) (ha0 : -9223372036854775808 ≤ a) (ha1 : a ≤ 9223372036854775807) (hc0 : -9223372036854775808 ≤ c) (hc1 : c ≤ 9223372036854775807) :
    Calls Tryz.prog 16 #[.int .i64 a, .int .i64 c, .string dd] w fun e w' => e = .returned (.bool true) ∧ Below w.heap.size w w' := by
  have hk := pickI_bd a 200 (by decide)
  have hk3 := pickI_bd c 200 (by decide)
  have hk4 := pickI_bd c 65536 (by decide)
  have hk6 := pickI_bd (wrap64 (c + 1)) 200 (by decide)
  have hw : -9223372036854775808 ≤ wrap64 (c + 1) ∧ wrap64 (c + 1) ≤ 9223372036854775807 := by unfold wrap64; omega
  have HRR : Hid (RE (167772161 + pickI a 200) (pickI c 65536) (134744064 + pickI c 200)) := ⟨by omega, by omega, by omega, by omega, by omega, by omega⟩
  have HG : Hid (134744064 ≤ 134744064 + pickI (wrap64 (c + 1)) 200 ∧ 134744064 + pickI (wrap64 (c + 1)) 200 ≤ 134744300) := ⟨by omega, by omega⟩
  have HHO : Hid (∀ w, Calls Tryz.prog 18 #[.int .i64 a] w fun e w' => e = .returned (.int .i64 (167772161 + pickI a 200)) ∧ w' = w) := fun w => host_any a w ha0 ha1
  have HFA : Hid (∀ w, Calls Tryz.prog 20 #[.int .i64 c] w fun e w' => e = .returned (.int .i64 (134744064 + pickI c 200)) ∧ w' = w) := fun w => far_any c w hc0 hc1
  have HFG : Hid (∀ w, Calls Tryz.prog 20 #[.int .i64 (wrap64 (c + 1))] w fun e w' => e = .returned (.int .i64 (134744064 + pickI (wrap64 (c + 1)) 200)) ∧ w' = w) := fun w => far_any _ w hw.1 hw.2
  have HPK : Hid (∀ w, Calls Tryz.prog 24 #[.int .i64 c, .int .i64 65536] w fun e w' => e = .returned (.int .i64 (pickI c 65536)) ∧ w' = w) := fun w => pick_any c 65536 w hc0 hc1 (by decide) (by decide)
  have HCL : Hid (∀ w, Calls Tryz.prog 21 #[.string dd, .int .i64 100] w fun e w' => e = .returned (.string (clipB dd 100)) ∧ w' = w) := fun w => clipped_any dd 100 w (by decide)
  have hds := clipB_size dd 100
  generalize clipB dd 100 = data at HCL hds
  have hbx0 : box0 2 = stN 2 0 [0, 0, 0, 0, 0, 0, 0, 0, 0, 0, 0, 0, 0, 0, 0, 0, 0, 0] [] := rfl
  generalize 134744064 + pickI c 200 = f at HRR HFA
  generalize pickI c 65536 = id at HRR HPK
  generalize 167772161 + pickI a 200 = h at HRR HHO
  generalize 134744064 + pickI (wrap64 (c + 1)) 200 = g at HG HFG
  clear hk hk3 hk4 hk6 hw
  have HDS : Hid (data.size ≤ 100) := hds
  clear hds
  go_enter Tryz.func16, Tryz.ntmps16
  go_wp2_with fail
  refine (box_any 2 _ (by decide) (by decide)).mono ?_
  rintro e w1 ⟨b, rfl, hbx, hle, hbl⟩
  rw [hbx0] at hbx
  have HL : Hid (w.heap.size ≤ b ∧ Below w.heap.size w w1) := ⟨hle, hbl⟩
  have hM : Hid (GMid w1 w1 b (.slice none 0 0) (.slice none 0 0) (stN 2 0 [0, 0, 0, 0, 0, 0, 0, 0, 0, 0, 0, 0, 0, 0, 0, 0, 0, 0] []) []) := GMid.start hbx
  clear hbx hle hbl hbx0
  go_wp2_with fail
  refine (HHO.out _).mono ?_; rintro e w' ⟨rfl, rfl⟩
  go_wp2_with fail
  refine (HFA.out _).mono ?_; rintro e w' ⟨rfl, rfl⟩
  go_wp2_with fail
  refine (HFG.out _).mono ?_; rintro e w' ⟨rfl, rfl⟩
  go_wp2_with fail
  refine (HPK.out _).mono ?_; rintro e w' ⟨rfl, rfl⟩
  go_wp2_with fail
  refine (HCL.out _).mono ?_; rintro e w' ⟨rfl, rfl⟩
  go_wp2_with fail
  refine (echoOne_yes hM.out.box 0 8 h f id data 1 _ (by have := HDS.out; omega) (e_out b 2 _ h id f data (by decide) (by decide) HRR.out (by have := HDS.out; omega))).mono ?_
  rintro e w2 ⟨rfl, v2, hbx, hch⟩
  rw [val_mk]
  generalize bump _ 0 = C1 at hbx
  have hxd := eBody_data 8 5000 data
  have hxz := eBody_size 8 5000 data
  have hxi := eBody_id 8 5000 data (by decide) (by decide)
  generalize eBody 8 5000 data = X at hxd hxz hxi ⊢
  have hxs : X.size ≤ 1000000 := by have := HDS.out; omega
  have HXA : Hid (∀ w, Calls Tryz.prog 31 #[.string X, .int .i64 4, .int .i64 2] w fun e w' => e = .returned (.int .i64 5000) ∧ w' = w) := fun w => by
    have := atI_any X 4 2 w (by decide) (by decide) (by decide) (by decide) hxs
    rw [hxi] at this
    exact this
  have hz8 : (8 : Int) ≤ (X.size : Int) := by omega
  clear hxz hxi hxs
  have hM1 := (hM.out.change hbx hch).alloc' #[.int .i64 9, .int .i64 0, .int .i64 0, .int .i64 8, .int .i64 1, .int .i64 3405803781, .int .i64 f, .string X] 31 w2.heap.size rfl
  clear hM hbx hch
  have hM : Hid _ := hM1
  clear hM1
  go_upto_if 63 with (go_at_call 31; refine (HXA.out _).mono ?_; rintro e w' ⟨rfl, rfl⟩)
  go_cut [15] (fun s15 wx => s15 = .bool true ∧ ∃ v C, GMid w' wx b (.slice none 0 0) v (stN 2 0 C [E1 h id f 5000 (0 + 10)]) [(w2.heap.size, #[.int .i64 9, .int .i64 0, .int .i64 0, .int .i64 8, .int .i64 1, .int .i64 3405803781, .int .i64 f, .string X], 31)])
  case first =>
    by_cases hgf : g = f
    · have kg : (g == f) = true := by simp [hgf]
      clear hgf
      rw [kg]
      go_wp2_with fail
      go_meet
      exact ⟨rfl, _, _, hM.out⟩
    · have kg : (g == f) = false := by simp [hgf]
      have HGF : Hid (¬ f = g) := fun e => hgf e.symm
      clear hgf
      rw [kg]
      go_wp2_with fail
      refine (echoNone_yes hM.out.box 1 0 g 3405803781 5000 16 (e_other b 2 _ h id f (0 + 10) g (by decide) (by decide) HRR.out HG.out.1 HG.out.2 HGF.out)).mono ?_
      rintro e w3 ⟨rfl, v3, hbx, hch⟩
      have hM1 := hM.out.change hbx hch
      clear hM hbx hch
      have hM : Hid _ := hM1
      clear hM1
      go_wp2_with fail
      go_meet
      exact ⟨rfl, _, _, hM.out⟩
  case rest =>
  obtain ⟨rfl, v4, C4, hM1⟩ := hcut
  clear hM
  have hM : Hid _ := hM1
  clear hM1
  go_wp2_with fail
  refine (echoOne_yes hM.out.box 1 0 f 3405803781 5000 data 0 _ (by have := HDS.out; omega) (e_in b 2 _ h id f (0 + 10) data (by decide) (by decide) HRR.out (by have := HDS.out; omega))).mono ?_
  rintro e w5 ⟨rfl, v5, hbx, hch⟩
  rw [val_mk]
  have hyd := eBody_data 0 id data
  have hyz := eBody_size 0 id data
  have hyi := eBody_id 0 id data HRR.out.i0 HRR.out.i1
  generalize eBody 0 id data = Y at hyd hyz hyi ⊢
  have hys : Y.size ≤ 1000000 := by have := HDS.out; omega
  have HYA : Hid (∀ w, Calls Tryz.prog 31 #[.string Y, .int .i64 4, .int .i64 2] w fun e w' => e = .returned (.int .i64 id) ∧ w' = w) := fun w => by
    have := atI_any Y 4 2 w (by decide) (by decide) (by decide) (by decide) hys
    rw [hyi] at this
    exact this
  have hy8 : (8 : Int) ≤ (Y.size : Int) := by omega
  clear hyz hyi hys
  have hM1 := (hM.out.change hbx hch).alloc' #[.int .i64 9, .int .i64 0, .int .i64 0, .int .i64 8, .int .i64 1, .int .i64 f, .int .i64 h, .string Y] 31 w5.heap.size rfl
  clear hM hbx hch
  have hM : Hid _ := hM1
  clear hM1
  go_wp2_with (go_at_call 31; refine (HYA.out _).mono ?_; rintro e w'' ⟨rfl, rfl⟩)
  go_ret
  refine ⟨rfl, ?_⟩
  obtain ⟨q1, -⟩ := hM.out.chg.low HL.out.1 (fun k hk => absurd hk (by simp [Value.ownBlock])) HL.out.2.size
  exact HL.out.2.trans q1
theorem Echo_any (a c : Int) (dd : ByteArray) (w : World) (ha0 : -9223372036854775808 ≤ a) (ha1 : a ≤ 9223372036854775807) (hc0 : -9223372036854775808 ≤ c) (hc1 : c ≤ 9223372036854775807) :
    Calls Tryz.prog 9 #[.int .i64 a, .int .i64 c, .string dd] w fun e w' => e = .returned (.bool true) ∧ Below w.heap.size w w' := by
  have HR : Hid (∀ w, Calls Tryz.prog 16 #[.int .i64 a, .int .i64 c, .string dd] w fun e w' => e = .returned (.bool true) ∧ Below w.heap.size w w') := fun w => echoed_any a c dd w ha0 ha1 hc0 hc1
  go_enter Tryz.func9, Tryz.ntmps9
  go_wp2_with (go_at_call 16; refine (HR.out _).mono ?_; rintro e w1 ⟨rfl, hb1⟩)
  go_ret
  exact ⟨rfl, hb1⟩
end Go.Proofs.YtfkjobiapjhacaaGreat
