/- The frames that go out. Own work. -/
import Derived.Test.YtfkjobiapjhacabGreatXb
import Derived.Test.YtfkjobiapjhacabGreatQe
import Derived.Test.YtfkjobiapjhacabGreatKpP
namespace Go.Proofs.YtfkjobiapjhacabGreat
open Go.RowKit

/-- What a packet's header says of it. -/
structure HdrOK (p : KP) : Prop where
  b0 : byteAt p.h 0 = 69
  w2 : wordAt p.h 2 = 20 + (p.b.size : Int)
  tl : 2 ≤ byteAt p.h 8
  b9 : byteAt p.h 9 = p.pr
def Hdrs (wl : List PD) : Prop := ∀ d ∈ wl, ∀ q ∈ d.held, HdrOK q
theorem byteAt_ex (s : ByteArray) (n k : Nat) (hk : k < n) : byteAt (s.extract 0 n) (k : Int) = byteAt s (k : Int) := by
  rw [byteAt_list, byteAt_list, List.getD_eq_getElem?_getD, List.getD_eq_getElem?_getD, bl_ex, List.drop_zero, Nat.sub_zero, List.getElem?_take_of_lt hk]
theorem byteAt_app (a b : ByteArray) (k : Nat) (hk : k < a.size) : byteAt (a ++ b) (k : Int) = byteAt a (k : Int) := by
  have e : bl (a ++ b) = bl a ++ bl b := by simp [bl]
  rw [byteAt_list, byteAt_list, List.getD_eq_getElem?_getD, List.getD_eq_getElem?_getD, e, List.getElem?_append_left (by rw [bl_length]; exact hk)]
theorem wordAt_app (a b : ByteArray) (k : Nat) (hk : k + 1 < a.size) : wordAt (a ++ b) (k : Int) = wordAt a (k : Int) := by
  unfold wordAt
  rw [show (k : Int) + 1 = ((k + 1 : Nat) : Int) by omega, byteAt_app a b k (by omega), byteAt_app a b (k + 1) hk]
theorem addrAt_app (a b : ByteArray) (k : Nat) (hk : k + 3 < a.size) : addrAt (a ++ b) (k : Int) = addrAt a (k : Int) := by
  unfold addrAt
  rw [show (k : Int) + 2 = ((k + 2 : Nat) : Int) by omega, wordAt_app a b k (by omega), wordAt_app a b (k + 2) (by omega)]
theorem ex_app (a b : ByteArray) (n : Nat) (h : a.size = n) : (a ++ b).extract 0 n = a := by
  apply bl_inj
  have e : bl (a ++ b) = bl a ++ bl b := by simp [bl]
  rw [bl_ex, e, List.drop_zero, Nat.sub_zero]
  exact List.take_left' (by rw [bl_length]; exact h)
theorem ex_app2 (a b : ByteArray) (n : Nat) (h : a.size = n) : (a ++ b).extract n (a ++ b).size = b := by
  apply bl_inj
  have e : bl (a ++ b) = bl a ++ bl b := by simp [bl]
  rw [bl_ex, e, List.drop_left' (by rw [bl_length]; exact h)]
  exact List.take_of_length_le (by rw [bl_length, ByteArray.size_append]; omega)
theorem raw_hdr {raw : ByteArray} (h : rFault raw = 0) : HdrOK (pkOf raw) := by
  unfold rFault at h
  split at h
  · omega
  rename_i hz
  unfold pFault at h
  split at h
  · omega
  split at h
  · omega
  rename_i h0 h2
  split at h
  · omega
  split at h
  · omega
  split at h
  · omega
  split at h
  · omega
  rename_i h8
  refine ⟨?_, ?_, ?_, ?_⟩
  · show byteAt (raw.extract 0 20) 0 = 69
    simpa using h0
  · show wordAt (raw.extract 0 20) 2 = 20 + ((raw.extract 20 raw.size).size : Int)
    simpa using h2
  · show 2 ≤ byteAt (raw.extract 0 20) 8
    omega
  · exact byteAt_ex raw 20 9 (by decide)
/-- What is held behind a piece: of what was held, or it. -/
theorem take_held {wl : List PD} {side : Int} {p : KP} {ps gl tm : Int} {Q : KP → Prop} (h : ∀ d ∈ wl, ∀ q ∈ d.held, Q q) (hp : Q p) : (∀ d ∈ (takeP wl side p ps gl tm).wl, ∀ q ∈ d.held, Q q) ∧ ∀ q ∈ (takeP wl side p ps gl tm).pk, Q q := by
  have hF : ∀ q ∈ (foundP wl side p).held, Q q := fun q hq => by
    rw [foundP_eq] at hq
    rcases found_mem (freshD side p false 0) wl with e | ⟨e, -⟩
    · rw [e] at hq; exact absurd hq (by simp [pd0])
    · exact h _ e q hq
  have hW : ∀ q ∈ withP (foundP wl side p).held p, Q q := fun q hq => by
    rcases withP_mem _ _ _ hq with e | e
    · rw [e]; exact hp
    · exact hF q e
  have hD : ∀ d ∈ dropP wl side p, ∀ q ∈ d.held, Q q := fun d hd => h d (List.mem_filter.1 hd).1
  unfold takeP
  split
  · refine ⟨fun d hd q hq => ?_, fun q hq => absurd hq (by simp)⟩
    rcases layL_mem _ _ _ _ hd with e | e
    · rw [e] at hq; exact absurd hq (by simp [freshD])
    · exact hD d e q hq
  split
  · exact ⟨h, fun q hq => absurd hq (by simp)⟩
  split
  · exact ⟨hD, hW⟩
  · refine ⟨fun d hd q hq => ?_, fun q hq => absurd hq (by simp)⟩
    rcases layL_mem _ _ _ _ hd with e | e
    · rw [e] at hq; exact hW q hq
    · exact hD d e q hq
def szAll (l : List KP) : Nat := (l.map (fun p => p.b.size)).sum
theorem wfold_all (l : List KP) : ∀ acc : WD, (l.foldl wStep acc).m.size = acc.m.size + szAll l := by
  induction l with
  | nil => intro acc; simp [szAll]
  | cons p t ih =>
    intro acc
    rw [List.foldl_cons, ih]
    have h3 : (wStep acc p).m.size = acc.m.size + p.b.size := by unfold wStep; simp
    have e : szAll (p :: t) = p.b.size + szAll t := by simp [szAll]
    omega
theorem wOf_all (l : List KP) : (wOf l).m.size = szAll l := by
  have h := wfold_all l ⟨0, 0, 0, ⟨#[]⟩⟩
  have e0 : (⟨#[]⟩ : ByteArray).size = 0 := rfl
  simp only [e0] at h
  unfold wOf
  omega
/-- The parts of what goes out. -/
def onRec (fa ta : Int) : ByteArray → List KP → List ByteArray
  | _, [] => []
  | m, p :: t => (onHead p.h fa ta ++ m.extract 0 (min p.b.size m.size)) :: onRec fa ta (m.extract (min p.b.size m.size) m.size) t
theorem onRec_eq (fa ta : Int) (l : List KP) : ∀ a : ByteArray × List ByteArray, (l.foldl (onStep fa ta) a).2 = a.2 ++ onRec fa ta a.1 l := by
  induction l with
  | nil => intro a; simp [onRec]
  | cons p t ih =>
    intro a
    rw [List.foldl_cons, ih]
    unfold onStep
    simp [onRec]
theorem onAll_rec (fa ta : Int) (m : ByteArray) (l : List KP) : onAll fa ta m l = onRec fa ta m l := by
  unfold onAll
  rw [onRec_eq]
  simp
theorem onRec_mem (fa ta : Int) (l : List KP) : ∀ m : ByteArray, m.size = szAll l → ∀ r ∈ onRec fa ta m l, ∃ p ∈ l, ∃ part : ByteArray, r = onHead p.h fa ta ++ part ∧ part.size = p.b.size := by
  induction l with
  | nil => intro m _ r hr; exact absurd hr (by simp [onRec])
  | cons p t ih =>
    intro m hm r hr
    have e : szAll (p :: t) = p.b.size + szAll t := by simp [szAll]
    unfold onRec at hr
    rcases List.mem_cons.1 hr with h | h
    · exact ⟨p, by simp, _, h, by rw [ByteArray.size_extract]; omega⟩
    · obtain ⟨q, hq, part, h1, h2⟩ := ih _ (by rw [ByteArray.size_extract]; omega) r h
      exact ⟨q, by simp [hq], part, h1, h2⟩
/-- A frame that may go out. -/
structure FrOK (s : BX) (side sd : Int) (r : ByteArray) : Prop where
  z0 : 21 ≤ r.size
  z1 : r.size ≤ 160
  w2 : wordAt r 2 = (r.size : Int)
  b0 : byteAt r 0 = 69
  b8 : 1 ≤ byteAt r 8
  sum : sumI (r.extract 0 20) = 65535
  xo : innerB s.ne s.bi (addrAt r 12) = false
  yo : innerB s.ne s.bi (addrAt r 16) = decide (sd = 0)
  sd : sd = 0 ∨ sd = 1
  ou : side = 1 ∨ addrAt r 12 = s.ou
theorem frame_ok {s : BX} {side : Int} {t : WYD} {pr : Int} (hr : ROut s side pr t) {p : KP} (hp : PKok p) (hh : HdrOK p) (part : ByteArray) (hz : part.size = p.b.size) :
    FrOK s side t.side (onHead p.h t.xa t.ya ++ part) ∧ parP (onHead p.h t.xa t.ya ++ part) = ⟨wordAt p.h 4, wordAt p.h 6 / 8192, wordAt p.h 6 % 8192 * 8, byteAt p.h 8 - 1, p.pr, t.xa, t.ya, part⟩ ∧ byteAt (onHead p.h t.xa t.ya ++ part) 1 = byteAt p.h 1 := by
  have ho := onHead_out p.h t.xa t.ya hp.h20 (by have := hh.tl; omega) hr.x0 hr.x1 hr.y0 hr.y1
  generalize onHead p.h t.xa t.ya = H at ho
  have hs := ho.sz
  have b0 := hp.b0
  have b1 := hp.b1
  have rs : (H ++ part).size = 20 + p.b.size := by rw [ByteArray.size_append, hs, hz]
  have e12 : addrAt (H ++ part) 12 = t.xa := (addrAt_app H part 12 (by omega)).trans ho.s12
  have e16 : addrAt (H ++ part) 16 = t.ya := (addrAt_app H part 16 (by omega)).trans ho.d16
  have e2 : wordAt (H ++ part) 2 = wordAt p.h 2 := (wordAt_app H part 2 (by omega)).trans ho.w2
  have e4 : wordAt (H ++ part) 4 = wordAt p.h 4 := (wordAt_app H part 4 (by omega)).trans ho.w4
  have e6 : wordAt (H ++ part) 6 = wordAt p.h 6 := (wordAt_app H part 6 (by omega)).trans ho.w6
  have e8 : byteAt (H ++ part) 8 = byteAt p.h 8 - 1 := (byteAt_app H part 8 (by omega)).trans ho.b8
  have e9 : byteAt (H ++ part) 9 = byteAt p.h 9 := (byteAt_app H part 9 (by omega)).trans ho.b9
  have e0 : byteAt (H ++ part) 0 = byteAt p.h 0 := (byteAt_app H part 0 (by omega)).trans ho.b0
  have e1 : byteAt (H ++ part) 1 = byteAt p.h 1 := (byteAt_app H part 1 (by omega)).trans ho.b1
  refine ⟨⟨by omega, by omega, by rw [e2, hh.w2, rs]; omega, by rw [e0]; exact hh.b0, by rw [e8]; have := hh.tl; omega, by rw [ex_app H part 20 hs]; exact ho.sum, by rw [e12]; exact hr.xo, by rw [e16]; exact hr.yo, hr.sd, by rw [e12]; exact hr.ou⟩, ?_, e1⟩
  unfold parP
  rw [e4, e6, e8, e9, e12, e16, ex_app2 H part 20 hs, hh.b9]
/-- What an honest message is, for the law. -/
theorem hon_of {id fl off ttl pr xa ya : Int} {m : ByteArray} (h : MsgOK pr xa ya m) (x0 : 0 ≤ xa) (x1 : xa ≤ 4294967295) (y0 : 0 ≤ ya) (y1 : ya ≤ 4294967295) (hp : pr = 1 ∨ pr = 6 ∨ pr = 17) (hm : m.size ≤ 1000) : honB ⟨id, fl, off, ttl, pr, xa, ya, m⟩ = true := by
  unfold honB
  simp only
  by_cases h1 : pr = 17 ∧ wordAt m 6 = 0
  · rw [if_pos h1]
  · rw [if_neg h1]
    have hd : dSum pr xa ya m = 65535 := by
      rcases h with e | e
      · exact absurd e h1
      · exact e
    unfold dSum at hd
    by_cases h2 : pr = 1
    · rw [if_pos h2] at hd ⊢
      simp [hd]
    · rw [if_neg h2] at hd ⊢
      have hb : sumI (befM pr xa ya (m.size : Int)) = foldI ((xa / 65536 + xa % 65536 + ya / 65536 + ya % 65536) + pr + (m.size : Int)) := by
        rw [sumI_bl, bef_sum]
        congr 1
        unfold addrW
        omega
      rw [hb]
      have c0 : 0 ≤ (xa / 65536 + xa % 65536 + ya / 65536 + ya % 65536) + pr + (m.size : Int) := by omega
      have c1 : 0 < (xa / 65536 + xa % 65536 + ya / 65536 + ya % 65536) + pr + (m.size : Int) := by omega
      rw [show sumI m + (xa / 65536 + xa % 65536 + ya / 65536 + ya % 65536) + pr + (m.size : Int) = sumI m + ((xa / 65536 + xa % 65536 + ya / 65536 + ya % 65536) + pr + (m.size : Int)) by omega] at hd
      generalize (xa / 65536 + xa % 65536 + ya / 65536 + ya % 65536) + pr + (m.size : Int) = C at hd c0 c1
      have s0 := sumI_bd m
      have k0 := foldI_bd C
      have k1 := fold_mod C
      have k2 := (fold_full (sumI m + C) (by omega)).1 hd
      have : (sumI m + foldI C) % 65535 = 0 := by omega
      have hpos : 0 < foldI C := by
        rcases Int.lt_or_eq_of_le k0.1 with e | e
        · exact e
        · have := k1.2.1 e.symm; omega
      have : sumI m + foldI C = 65535 ∨ sumI m + foldI C = 131070 := by omega
      rcases this with e | e <;> simp [e]
theorem routeG_W {s : BX} {side pr fa fp ta tp : Int} {m : ByteArray} {iq : Bool} (h : (routeG s side pr fa fp ta tp m iq).what = 0) : routeG s side pr fa fp ta tp m iq = routeW s side pr fa fp ta tp m := by
  unfold routeG at h ⊢
  split at h
  · exact absurd (show (13 : Int) = 0 from h) (by decide)
  · rename_i hh
    rw [if_neg hh]
/-- What goes out for packets that may be passed on together. -/
theorem pass_frames {s : BX} (h : Good s) {side : Int} (hside : side = 0 ∨ side = 1) {l : List KP} (hne : l ≠ []) (hl : PLok l) (hk : ∀ q ∈ l, PKok q) (hh : ∀ q ∈ l, HdrOK q) (hm : mayB s side (wOf l).sr (wOf l).ds = true) :
    ((passH s side l).what = 0 → (passH s side l).frs.length = l.length ∧ (∀ f ∈ (passH s side l).frs, FrOK s side f.1 f.2) ∧ ∀ p, l = [p] → ∃ m, (passH s side l).frs = [((passW s side l).side, onHead p.h (passW s side l).xa (passW s side l).ya ++ m)] ∧ honB (parP (onHead p.h (passW s side l).xa (passW s side l).ya ++ m)) = true)
    ∧ (¬ (passH s side l).what = 0 → (passH s side l).frs = []) := by
  unfold passH
  by_cases hw : (passW s side l).what = 0
  · rw [if_pos hw]
    refine ⟨fun _ => ?_, fun e => absurd rfl e⟩
    have hpb := portsOf_bd (wOf l).pr (wOf l).m
    have hWG : passW s side l = routeW s side (wOf l).pr (wOf l).sr (portsOf (wOf l).pr (wOf l).m).1 (wOf l).ds (portsOf (wOf l).pr (wOf l).m).2 (wOf l).m := routeG_W hw
    have hw' : (routeW s side (wOf l).pr (wOf l).sr (portsOf (wOf l).pr (wOf l).m).1 (wOf l).ds (portsOf (wOf l).pr (wOf l).m).2 (wOf l).m).what = 0 := by rw [← hWG]; exact hw
    have hr := route_out h hside hm hl.pr hl.s0 hl.s1 hl.d0 hl.d1 hw'
    have hsz : (passW s side l).m.size = szAll l := by
      rw [hWG, ← wOf_all]
      exact routeW_what s side _ _ _ _ _ _ hl.pr (Or.inr (fun _ h0 => trW_same s side _ _ _ _ _ _ h0)) hw'
    rw [← hWG] at hr
    generalize passW s side l = t at hr hsz hw hWG ⊢
    refine ⟨by rw [List.length_map, onAll_len], fun f hf => ?_, fun p hp => ?_⟩
    · obtain ⟨r, hrm, rfl⟩ := List.mem_map.1 hf
      rw [onAll_rec] at hrm
      obtain ⟨p, hp, part, e1, e2⟩ := onRec_mem _ _ l t.m hsz r hrm
      have := (frame_ok hr (hk p hp) (hh p hp) part e2).1
      rw [← e1] at this
      exact this
    · subst hp
      have hz : t.m.size = p.b.size := by rw [hsz]; simp [szAll]
      have hex : t.m.extract 0 (min p.b.size t.m.size) = t.m := by
        apply bl_inj
        rw [bl_ex, List.drop_zero, Nat.sub_zero]
        exact List.take_of_length_le (by rw [bl_length]; omega)
      refine ⟨t.m, ?_, ?_⟩
      · rw [onAll_rec]
        simp [onRec, hex]
      · rw [(frame_ok hr (hk p (by simp)) (hh p (by simp)) t.m hz).2.1]
        have hpr : (wOf [p]).pr = p.pr := rfl
        rw [hpr] at hr
        have hb1 := (hk p (by simp)).b1
        exact hon_of hr.mo hr.x0 hr.x1 hr.y0 hr.y1 (hk p (by simp)).pr (by omega)
  · rw [if_neg hw]
    exact ⟨fun e => absurd e hw, fun _ => rfl⟩
end Go.Proofs.YtfkjobiapjhacabGreat
