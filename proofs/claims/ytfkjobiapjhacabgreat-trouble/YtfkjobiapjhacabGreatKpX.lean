/- What a box does with echoes, purely; what nobody asked for. Own work. -/
import Derived.Test.YtfkjobiapjhacabGreatK6
import Derived.Test.YtfkjobiapjhacabGreatK3
import Derived.Test.YtfkjobiapjhacabGreatK5
namespace Go.Proofs.YtfkjobiapjhacabGreat
open Go.RowKit
attribute [local go_sem ↓] Go.wp_at_zero Go.wp_at_succ

theorem EMS_length (kind id : Int) (d : List UInt8) : (EMS kind id d).length = 8 + d.length := by unfold EMS; rw [EM_length]
theorem eBody_size (kind id : Int) (data : ByteArray) : (eBody kind id data).size = 8 + data.size := by rw [← bl_length, bl_echoB, EMS_length, bl_length]
theorem bl_rawE (kind src dst id ttl : Int) (data : ByteArray) (i : Int) : bl (rawP ⟨i, 0, 0, ttl, 1, src, dst, eBody kind id data⟩) = HDS (28 + (data.size : Int)) i 0 ttl 1 src dst ++ EMS kind id (bl data) := by
  have e0 : flagW 0 0 = 0 := by decide
  have hz := eBody_size kind id data
  rw [bl_rawP]
  simp only [e0, hz, bl_echoB]
  have e1 : (20 : Int) + ((8 + data.size : Nat) : Int) = 28 + (data.size : Int) := by omega
  rw [e1]
theorem EM_words {s : ByteArray} {kind id ck : Int} {d : List UInt8} (h : bl s = EM kind id ck d) : byteAt s 0 = kind % 256 ∧ byteAt s 1 = 0 ∧ wordAt s 4 = id % 65536 := by
  have b0 := byteAt_bl s 0
  have b1 := byteAt_bl s 1
  have w4 := wordAt_bl s 4
  rw [h] at b0 b1 w4
  exact ⟨b0.trans (byteOf_int kind), b1.trans rfl, w4.trans (two_bytes id)⟩
/-- A packet of an echo or a reply that is in form. -/
structure ERange (kind src dst id : Int) (data : ByteArray) : Prop where
  k : kind = 8 ∨ kind = 0
  s0 : 0 ≤ src
  s1 : src ≤ 4294967295
  d0 : 0 ≤ dst
  d1 : dst ≤ 4294967295
  i0 : 0 ≤ id
  i1 : id ≤ 65535
  sz : data.size ≤ 120
theorem portsOf_icmp (m : ByteArray) : portsOf 1 m = numb m 0 0 := rfl
theorem eBody_is (kind id : Int) (data : ByteArray) (hk : kind = 8 ∨ kind = 0) (i0 : 0 ≤ id) (i1 : id ≤ 65535) :
    errB 1 (eBody kind id data) = false ∧ echoB 1 (eBody kind id data) = decide (kind = 8) ∧ replyB 1 (eBody kind id data) = decide (kind = 0) ∧ portsOf 1 (eBody kind id data) = (if kind = 8 then (id, 0) else (0, id)) := by
  obtain ⟨b0, b1, w4⟩ := EM_words (bl_echoB kind id data)
  have e4 : id % 65536 = id := by omega
  rw [e4] at w4
  rw [portsOf_icmp]
  unfold errB echoB replyB numb
  generalize eBody kind id data = B at b0 b1 w4
  rw [b0, b1, w4]
  rcases hk with rfl | rfl
  · exact ⟨rfl, rfl, rfl, rfl⟩
  · exact ⟨rfl, rfl, rfl, rfl⟩
theorem echo_fault {s : ByteArray} {kind id : Int} {d : List UInt8} (h : bl s = EMS kind id d) (src dst fp tp : Int) : dFault 1 src fp dst tp s = 0 := by
  have hz : s.size = 8 + d.length := by rw [← bl_length, h, EMS_length]
  have hs : dSum 1 src dst s = 65535 := by
    show sumI s = 65535
    rw [sumI_bl, h, echo_sum]
  have hf : formedB 1 fp tp s = true := by
    show decide (8 ≤ s.size) = true
    exact decide_eq_true (by omega)
  unfold dFault
  rw [hf, hs]
  simp
def eW (s : BX) (side kind src dst id : Int) (data : ByteArray) : WYD :=
  if ¬ eFault s.ou side 1 dst (eBody kind id data) = 0 then noW (eFault s.ou side 1 dst (eBody kind id data))
  else if side = 0 then insW s 1 (eBody kind id data) src (if kind = 8 then (id, 0) else (0, id)).1 dst (if kind = 8 then (id, 0) else (0, id)).2 else outsW s 1 (eBody kind id data) src (if kind = 8 then (id, 0) else (0, id)).1 (if kind = 8 then (id, 0) else (0, id)).2
def eL (s : BX) (side kind src dst id : Int) (data : ByteArray) : List SD :=
  if ¬ eFault s.ou side 1 dst (eBody kind id data) = 0 then s.l
  else if side = 0 then insF s 1 (eBody kind id data) src (if kind = 8 then (id, 0) else (0, id)).1 dst (if kind = 8 then (id, 0) else (0, id)).2 else outsL s 1 (eBody kind id data) src (if kind = 8 then (id, 0) else (0, id)).1 (if kind = 8 then (id, 0) else (0, id)).2
theorem echo_np (kind src dst id : Int) (data : ByteArray) : pieceB ((rawP (echoP kind src dst id data)).extract 0 20) = false :=
  whole_piece (show bl (rawP (echoP kind src dst id data)) = HDS (28 + (data.size : Int)) 9 0 9 1 src dst ++ EMS kind id (bl data) from bl_rawE kind src dst id 9 data 9) rfl
theorem echo_hand (s : BX) (side kind src dst id : Int) (data : ByteArray) (hr : ERange kind src dst id data) (hside : side = 0 ∨ side = 1) (hmay : mayB s side src dst = true) :
    handM s side (rawP (echoP kind src dst id data)) = wayH (rawP (echoP kind src dst id data)) (eW s side kind src dst id data) (eL s side kind src dst id data) := by
  obtain ⟨hk, s0, s1, d0, d1, i0, i1, sz⟩ := hr
  have hbl : bl (rawP (echoP kind src dst id data)) = HDS (28 + (data.size : Int)) 9 0 9 1 src dst ++ EMS kind id (bl data) := bl_rawE kind src dst id 9 data 9
  have hlen : (EMS kind id (bl data)).length = 8 + data.size := by rw [EMS_length, bl_length]
  have hft : rFault (rawP (echoP kind src dst id data)) = 0 := whole_fault hbl (by rw [hlen]; omega) (by rw [hlen]; omega) (by rw [hlen]; omega) rfl (by decide) (by decide)
  have hpc : pieceB ((rawP (echoP kind src dst id data)).extract 0 20) = false := whole_piece hbl rfl
  obtain ⟨-, -, -, -, -, -, h9, -, h12, h16⟩ := HD_word _ _ _ _ _ _ _ _ _ _ hbl
  have e9 : byteAt (rawP (echoP kind src dst id data)) 9 = 1 := h9
  have e12 : addrAt (rawP (echoP kind src dst id data)) 12 = src := h12.trans (by omega)
  have e16 : addrAt (rawP (echoP kind src dst id data)) 16 = dst := h16.trans (by omega)
  have eb : (rawP (echoP kind src dst id data)).extract 20 (rawP (echoP kind src dst id data)).size = eBody kind id data := bl_inj (by rw [whole_body hbl, bl_echoB])
  obtain ⟨k1, -, -, k4⟩ := eBody_is kind id data hk i0 i1
  have hdf := echo_fault (bl_echoB kind id data) src dst (if kind = 8 then (id, 0) else (0, id)).1 (if kind = 8 then (id, 0) else (0, id)).2
  have hE1 : eW s side kind src dst id data = if ¬ eFault s.ou side 1 dst (eBody kind id data) = 0 then noW (eFault s.ou side 1 dst (eBody kind id data))
    else if side = 0 then insW s 1 (eBody kind id data) src (if kind = 8 then (id, 0) else (0, id)).1 dst (if kind = 8 then (id, 0) else (0, id)).2 else outsW s 1 (eBody kind id data) src (if kind = 8 then (id, 0) else (0, id)).1 (if kind = 8 then (id, 0) else (0, id)).2 := by unfold eW; rfl
  have hE2 : eL s side kind src dst id data = if ¬ eFault s.ou side 1 dst (eBody kind id data) = 0 then s.l
    else if side = 0 then insF s 1 (eBody kind id data) src (if kind = 8 then (id, 0) else (0, id)).1 dst (if kind = 8 then (id, 0) else (0, id)).2 else outsL s 1 (eBody kind id data) src (if kind = 8 then (id, 0) else (0, id)).1 (if kind = 8 then (id, 0) else (0, id)).2 := by unfold eL; rfl
  rw [hE1, hE2]
  clear hE1 hE2 hbl h9 h12 h16 hlen
  generalize rawP (echoP kind src dst id data) = R at *
  generalize eBody kind id data = B at *
  generalize (if kind = 8 then (id, 0) else (0, id)) = P at *
  unfold handM
  rw [if_neg (by omega), if_neg (by simp [hft]), e12, e16, if_neg (by simp [hmay]), e9, if_neg (by decide), if_neg (by simp [hpc])]
  unfold wholeW wholeL
  rw [e9, e12, e16, eb, k4]
  unfold routeW routeL
  have e1 : ¬ ¬ dFault 1 src P.1 dst P.2 B = 0 := by rw [hdf]; simp
  have e2 : ¬ errB 1 B = true := by rw [k1]; decide
  rw [if_neg e1, if_neg e1, if_neg e2, if_neg e2]
  by_cases e4 : ¬ eFault s.ou side 1 dst B = 0
  · rw [if_pos ⟨rfl, e4⟩, if_pos ⟨rfl, e4⟩, if_pos e4, if_pos e4]
    rfl
  · have e5 : ¬ ((1 : Int) = 1 ∧ ¬ eFault s.ou side 1 dst B = 0) := fun h => e4 h.2
    rw [if_neg e5, if_neg e5, if_neg e4, if_neg e4]
theorem echo_noerr (kind src dst id : Int) (data : ByteArray) (hr : ERange kind src dst id data) : errB (byteAt (rawP (echoP kind src dst id data)) 9) ((rawP (echoP kind src dst id data)).extract 20 (rawP (echoP kind src dst id data)).size) = false := by
  have hbl : bl (rawP (echoP kind src dst id data)) = HDS (28 + (data.size : Int)) 9 0 9 1 src dst ++ EMS kind id (bl data) := bl_rawE kind src dst id 9 data 9
  obtain ⟨-, -, -, -, -, -, h9, -, -, -⟩ := HD_word _ _ _ _ _ _ _ _ _ _ hbl
  have e9 : byteAt (rawP (echoP kind src dst id data)) 9 = 1 := h9
  have eb : (rawP (echoP kind src dst id data)).extract 20 (rawP (echoP kind src dst id data)).size = eBody kind id data := bl_inj (by rw [whole_body hbl, bl_echoB])
  rw [e9, eb]
  exact (eBody_is kind id data hr.k hr.i0 hr.i1).1
theorem echoP_ok (kind src dst id : Int) (data : ByteArray) (hr : ERange kind src dst id data) : PKOK (echoP kind src dst id data) := by
  have hz : (eBody kind id data).size ≤ 1000 := by rw [eBody_size]; have := hr.sz; omega
  unfold echoP
  generalize eBody kind id data = B at hz
  exact ⟨hz, (by decide : (0 : Int) ≤ 0), (by decide : (0 : Int) ≤ 7), (by decide : (0 : Int) ≤ 0), (by decide : (0 : Int) ≤ 65535)⟩
theorem echo_none (b : Nat) (s : BX) (hk : OKB s) (side kind src dst id : Int) (data : ByteArray) (hr : ERange kind src dst id data) (hside : side = 0 ∨ side = 1) (hmay : mayB s side src dst = true) (what : Int) (l' : List SD)
    (hW : (eW s side kind src dst id data).what = what) (hne : ¬ what = 0) (hL : eL s side kind src dst id data = l') :
    NoneOK b s side (echoP kind src dst id data) what { s with l := l', cs := bump s.cs what.toNat } := by
  have hH := echo_hand s side kind src dst id data hr hside hmay
  unfold wayH at hH
  rw [hW, hL, if_neg hne] at hH
  have hR : RecvAt b s side (rawP (echoP kind src dst id data)) what none { s with l := l', cs := bump s.cs what.toNat } := fun W v hbx => by
    have h := Receive_any hbx hk side (rawP (echoP kind src dst id data)) (Or.inl (echo_noerr kind src dst id data hr)) (echo_np kind src dst id data)
    rw [hH] at h
    exact h
  have hp2 := echoP_ok kind src dst id data hr
  generalize echoP kind src dst id data = P at hR hp2 ⊢
  exact fun w v hbx => none_yes hbx side what P hp2 hR
theorem bl_btwE {s : ByteArray} {kind id ck : Int} {d : List UInt8} (h : bl s = EM kind id ck d) (hk : kind = 8 ∨ kind = 0) (xa xp ya yp : Int) : bl (btwM 1 s xa xp ya yp) = EMS kind (if kind = 8 then xp else yp) d := by
  have b0 : byteAt s 0 = kind := (EM_words h).1.trans (by omega)
  have eN : numI s xp yp = if kind = 8 then xp else yp := by
    unfold numI
    rw [b0]
    rcases hk with rfl | rfl <;> rfl
  have eP : portM 1 s xp yp = putWord s 4 (if kind = 8 then xp else yp) := (if_pos rfl).trans (by rw [eN])
  generalize (if kind = 8 then xp else yp) = n at eP ⊢
  have h1 : bl (putWord s 4 n) = EM kind n ck d := by rw [bl_put, h, EM_put4]
  have h2 : bl (putWord (putWord s 4 n) 2 0) = EM kind n 0 d := by rw [bl_put, h1, EM_put2]
  have hs : hasSumB 1 (putWord s 4 n) = true := rfl
  have h3 : dSum 1 xa ya (putWord (putWord s 4 n) 2 0) = foldI (ES kind n d) := by
    show sumI _ = _
    rw [sumI_bl, h2, EM_sum]
    unfold ES
    refine congrArg foldI ?_
    omega
  have hb := foldI_bd (ES kind n d)
  unfold btwM
  rw [eP]
  unfold sealM
  rw [if_neg (by rw [hs]; decide)]
  have e2 : sumAtI 1 = 2 := rfl
  rw [e2, bl_put, h2, EM_put2]
  unfold sealSum
  rw [h3]
  unfold ckI
  rw [if_neg (fun h => absurd h.2 (by decide))]
  rfl
theorem echo_onward (kind src dst id xa xp ya yp : Int) (data : ByteArray) (hr : ERange kind src dst id data) :
    onHead ((rawP (echoP kind src dst id data)).extract 0 20) xa ya ++ btwM 1 (eBody kind id data) xa xp ya yp = rawP ⟨9, 0, 0, 8, 1, xa, ya, eBody kind (if kind = 8 then xp else yp) data⟩ := by
  apply bl_inj
  have hbl : bl (rawP (echoP kind src dst id data)) = HDS (28 + (data.size : Int)) 9 0 9 1 src dst ++ EMS kind id (bl data) := bl_rawE kind src dst id 9 data 9
  rw [bl_app, bl_rawE, bl_onHead _ _ _ _ _ _ _ _ _ _ _ (whole_head hbl), bl_btwE (bl_echoB kind id data) hr.k xa xp ya yp]
  have e8 : (9 : Int) - 1 = 8 := by decide
  rw [e8]
theorem echo_hon {s : ByteArray} {kind id : Int} {d : List UInt8} (h : bl s = EMS kind id d) (p : PK) (hp : p.pr = 1) (hB : p.body = s) : honB p = true := by
  have hs : sumI s = 65535 := by rw [sumI_bl, h, echo_sum]
  unfold honB
  rw [hp, hB, if_neg (fun h => absurd h.1 (by decide)), if_pos rfl, hs]
  rfl
/-- An echo or a reply that is let through comes out as it should. -/
theorem echo_one (b : Nat) (s : BX) (hk : OKB s) (side kind src dst id : Int) (data : ByteArray) (hr : ERange kind src dst id data) (hside : side = 0 ∨ side = 1) (hmay : mayB s side src dst = true) (out xa xp ya yp : Int) (l' : List SD)
    (hW : eW s side kind src dst id data = ⟨0, out, 1, xa, xp, ya, yp, btwM 1 (eBody kind id data) xa xp ya yp⟩) (hL : eL s side kind src dst id data = l') (hx0 : 0 ≤ xa) (hx1 : xa ≤ 4294967295) (hy0 : 0 ≤ ya) (hy1 : ya ≤ 4294967295) :
    OneOK b s side (echoP kind src dst id data) out ⟨9, 0, 0, 8, 1, xa, ya, eBody kind (if kind = 8 then xp else yp) data⟩ { s with l := l', cs := bump s.cs 0 } := by
  have hH := echo_hand s side kind src dst id data hr hside hmay
  rw [hW, hL] at hH
  unfold wayH at hH
  simp only [if_pos] at hH
  rw [echo_onward kind src dst id xa xp ya yp data hr] at hH
  generalize (if kind = 8 then xp else yp) = n at hH ⊢
  have hbl := bl_rawE kind xa ya n 8 data 9
  have hlen : (EMS kind n (bl data)).length = 8 + data.size := by rw [EMS_length, bl_length]
  have hsz := hr.sz
  have hz := whole_size hbl
  rw [hlen] at hz
  have hR : RecvAt b s side (rawP (echoP kind src dst id data)) 0 (some (out, rawP ⟨9, 0, 0, 8, 1, xa, ya, eBody kind n data⟩)) { s with l := l', cs := bump s.cs 0 } := fun W v hbx => by
    have h := Receive_any hbx hk side (rawP (echoP kind src dst id data)) (Or.inl (echo_noerr kind src dst id data hr)) (echo_np kind src dst id data)
    rw [hH] at h
    exact h
  obtain ⟨h0, h1, h2, -, -, -, -, -, -, -⟩ := HD_word _ _ _ _ _ _ _ _ _ _ hbl
  have hpar : parP (rawP ⟨9, 0, 0, 8, 1, xa, ya, eBody kind n data⟩) = ⟨9, 0, 0, 8, 1, xa, ya, eBody kind n data⟩ := by
    rw [whole_par hbl (bl_echoB kind n data)]
    have e1 : xa % 4294967296 = xa := by omega
    have e2 : ya % 4294967296 = ya := by omega
    rw [e1, e2]
    have q1 : (9 : Int) % 65536 = 9 := by decide
    have q2 : (0 : Int) % 65536 / 8192 = 0 := by decide
    have q3 : (0 : Int) % 65536 % 8192 * 8 = 0 := by decide
    have q4 : (8 : Int) % 256 = 8 := by decide
    have q5 : (1 : Int) % 256 = 1 := by decide
    rw [q1, q2, q3, q4, q5]
  have hon : honB ⟨9, 0, 0, 8, 1, xa, ya, eBody kind n data⟩ = true := by
    have hB := bl_echoB kind n data
    generalize eBody kind n data = B at hB
    exact echo_hon hB _ rfl rfl
  have hp1 : (echoP kind src dst id data).id = 9 ∧ (echoP kind src dst id data).fl = 0 ∧ (echoP kind src dst id data).off = 0 ∧ (echoP kind src dst id data).pr = 1 ∧ (echoP kind src dst id data).ttl = 9 := by
    unfold echoP
    generalize eBody kind id data = B
    exact ⟨rfl, rfl, rfl, rfl, rfl⟩
  have hp2 := echoP_ok kind src dst id data hr
  obtain ⟨q1, q2, q3, q4, q5⟩ := hp1
  generalize echoP kind src dst id data = P at hR hp2 q1 q2 q3 q4 q5 ⊢
  generalize eBody kind n data = B at hR hpar hon hz h0 h1 h2 hbl ⊢
  refine ⟨fun w v hbx => ?_⟩
  have h := one_yes hbx side out P hp2 (rawP ⟨9, 0, 0, 8, 1, xa, ya, B⟩) hR (by omega) (by omega) (h2.trans (by rw [hz]; omega)) h0 h1 (whole_sum hbl)
    (by rw [hpar]; exact hon) (by rw [hpar, q1]) (by rw [hpar, q2]) (by rw [hpar, q3]) (by rw [hpar, q4]) (by rw [hpar, q5]; rfl) (by rw [q5]; decide) (by rw [q5]; decide)
  rw [hpar] at h
  exact h

/-! What nobody asked for. -/
theorem outs_other (s : BX) (h p f q port dl fa fp tp : Int) (m : ByteArray) (hl : s.l = [S1 h p f q port dl]) (hne : ¬ (port = tp ∧ f = fa ∧ q = fp)) : (outsW s 17 m fa fp tp).what = 16 ∧ outsL s 17 m fa fp tp = s.l := by
  have hI : innerI 17 tp s.l = if port = tp then some (S1 h p f q port dl) else none := by rw [hl, innerI_one]
  by_cases e : port = tp
  · rw [if_pos e] at hI
    have hH : hasS 17 (S1 h p f q port dl).ia (S1 h p f q port dl).ip fa fp s.l = false := by rw [hl, hasS_one]; exact decide_eq_false fun h => hne ⟨e, h.2.2.1, h.2.2.2⟩
    constructor
    · unfold outsW
      rw [hI]
      simp only [hH]
      rfl
    · unfold outsL
      rw [hI]
      simp only [hH]
      rfl
  · rw [if_neg e] at hI
    constructor
    · unfold outsW; rw [hI]
    · unfold outsL; rw [hI]
theorem inner_S1 (pr pt h p f q port dl : Int) (hp : ¬ pr = 17) : innerI pr pt [S1 h p f q port dl] = none := by
  unfold innerI
  have : ¬ (17 : Int) = pr := fun e => hp e.symm
  simp [S1, this]
theorem outs_otherpr (s : BX) (pr h p f q port dl fa fp tp : Int) (m : ByteArray) (hp : ¬ pr = 17) (hl : s.l = [S1 h p f q port dl]) : (outsW s pr m fa fp tp).what = 16 ∧ outsL s pr m fa fp tp = s.l := by
  have hI : innerI pr tp s.l = none := by rw [hl, inner_S1 _ _ _ _ _ _ _ _ hp]
  constructor
  · unfold outsW; rw [hI]
  · unfold outsL; rw [hI]
theorem hasT_S1 (a b c d h p f q port dl : Int) : hasS 6 a b c d [S1 h p f q port dl] = false := by
  unfold hasS findI
  have e1 : [S1 h p f q port dl].findIdx? (isS 6 a b c d) = none := by simp [isS, S1]
  rw [e1]; rfl
theorem insT_ack (s : BX) (h p f q port dl a c d e : Int) (m : ByteArray) (hl : s.l = [S1 h p f q port dl]) (hf : ¬ d = s.ou) (hs : ¬ fl (byteAt m 13) 23 = 2) : (insW s 6 m a c d e).what = 16 ∧ insF s 6 m a c d e = s.l := by
  have hW : askW s 6 a c d e (byteAt m 13) = 16 := by
    unfold askW
    rw [hl, hasT_S1]
    simp [hs]
  have hL : askL s 6 a c d e (byteAt m 13) = s.l := by
    unfold askL
    rw [hW, hl, hasT_S1]
    simp
  constructor
  · unfold insW
    rw [if_neg (fun h => hf h.1), hW, if_pos (by decide)]
  · unfold insF
    rw [if_neg (fun h => hf h.1), hW, if_pos (by decide), hL]
theorem udp_bad (b : Nat) (s : BX) (hk : OKB s) (side src fr dst to' : Int) (data : ByteArray) (hr : URange src fr dst to' data) (hside : side = 0 ∨ side = 1) (hmay : mayB s side src dst = false) :
    NoneOK b s side (udpP src fr dst to' data) 6 { s with l := s.l, cs := bump s.cs 6 } := by
  have hH : handM s side (rawP (udpP src fr dst to' data)) = ⟨6, none, s.l⟩ := by
    obtain ⟨s0, s1, d0, d1, f0, f1, t0, t1, sz⟩ := hr
    have hbl : bl (rawP (udpP src fr dst to' data)) = HDS (28 + (data.size : Int)) 7 0 9 17 src dst ++ UMS src fr dst to' (bl data) := bl_rawU src fr dst to' 9 data 7
    have hlen : (UMS src fr dst to' (bl data)).length = 8 + data.size := by rw [UMS_length, bl_length]
    have hft : rFault (rawP (udpP src fr dst to' data)) = 0 := whole_fault hbl (by rw [hlen]; omega) (by rw [hlen]; omega) (by rw [hlen]; omega) rfl (by decide) (by decide)
    obtain ⟨-, -, -, -, -, -, h9, -, h12, h16⟩ := HD_word _ _ _ _ _ _ _ _ _ _ hbl
    have e12 : addrAt (rawP (udpP src fr dst to' data)) 12 = src := h12.trans (by omega)
    have e16 : addrAt (rawP (udpP src fr dst to' data)) 16 = dst := h16.trans (by omega)
    unfold handM
    rw [if_neg (by omega), if_neg (by simp [hft]), e12, e16, if_pos hmay]
  have hR : RecvAt b s side (rawP (udpP src fr dst to' data)) 6 none { s with l := s.l, cs := bump s.cs 6 } := fun W v hbx => by
    have h := Receive_any hbx hk side (rawP (udpP src fr dst to' data)) (Or.inl (udp_noerr src fr dst to' data)) (udp_np src fr dst to' data)
    rw [hH] at h
    exact h
  have hp2 := udpP_ok src fr dst to' data hr
  generalize udpP src fr dst to' data = P at hR hp2 ⊢
  exact fun w v hbx => none_yes hbx side 6 P hp2 hR

/-! At a box of two ports with one session of UDP, or none. -/
theorem q_first (b : Nat) (cs : List Int) (f q : Int) (c0 : 134744064 ≤ f) (c1 : f ≤ 134744300) (q0 : 1 ≤ q) (q1 : q ≤ 65535) :
    NoneOK b (stN 2 0 cs []) 1 (udpP f q 3405803781 5000 ⟨#[120]⟩) 16 (stN 2 0 (bump cs 16) []) := by
  obtain ⟨e1, e2⟩ := outs_nil (stN 2 0 cs []) f q 5000 (udpB f q 3405803781 5000 ⟨#[120]⟩) rfl
  exact udp_none b (stN 2 0 cs []) (stN_nil 2 0 cs (by decide) (by decide) (by decide) (by decide)) 1 f q 3405803781 5000 ⟨#[120]⟩ ⟨by omega, by omega, by decide, by decide, q0, q1, by decide, by decide, by decide⟩ (Or.inr rfl) (may_out _ rfl rfl f (by omega) (show ¬ f = 3405803781 by omega)) 16 _
    ((congrArg WYD.what (if_neg (by decide))).trans e1) (by decide) ((if_neg (by decide)).trans e2)
--%def ST2(x) (stN 2 0 (bump cs x) [S1 h p f q 5000 dl])
theorem q_udp (b : Nat) (cs : List Int) (h p f q dl fa fp tp : Int) (hr : RQ h p f q) (c0 : 134744064 ≤ fa) (c1 : fa ≤ 134744300) (q0 : 1 ≤ fp) (q1 : fp ≤ 65535) (t0 : 1 ≤ tp) (t1 : tp ≤ 65535) (hne : ¬ (5000 = tp ∧ f = fa ∧ q = fp)) :
    NoneOK b (stN 2 0 cs [S1 h p f q 5000 dl]) 1 (udpP fa fp 3405803781 tp ⟨#[120]⟩) 16 (stN 2 0 (bump cs 16) [S1 h p f q 5000 dl]) := by
  obtain ⟨e1, e2⟩ := outs_other (stN 2 0 cs [S1 h p f q 5000 dl]) h p f q 5000 dl fa fp tp (udpB fa fp 3405803781 tp ⟨#[120]⟩) rfl hne
  exact udp_none b (stN 2 0 cs [S1 h p f q 5000 dl]) (stN_one 2 0 cs h p f q 5000 dl (by decide) (by decide) (by decide) (by decide) (by have := hr.h0; omega) (by have := hr.h1; omega)) 1 fa fp 3405803781 tp ⟨#[120]⟩ ⟨by omega, by omega, by decide, by decide, q0, q1, t0, t1, by decide⟩ (Or.inr rfl) (may_out _ rfl rfl fa (by omega) (show ¬ fa = 3405803781 by omega)) 16 _
    ((congrArg WYD.what (if_neg (by decide))).trans e1) (by decide) ((if_neg (by decide)).trans e2)
theorem q_tcp (b : Nat) (cs : List Int) (h p f q dl fg : Int) (hr : RQ h p f q) :
    NoneOK b (stN 2 0 cs [S1 h p f q 5000 dl]) 1 (tcpP f q 3405803781 5000 fg ⟨#[]⟩) 16 (stN 2 0 (bump cs 16) [S1 h p f q 5000 dl]) := by
  obtain ⟨e1, e2⟩ := outs_otherpr (stN 2 0 cs [S1 h p f q 5000 dl]) 6 h p f q 5000 dl f q 5000 (tcpB f q 3405803781 5000 fg ⟨#[]⟩) (by decide) rfl
  have := hr.f0
  have := hr.f1
  exact tcp_none b (stN 2 0 cs [S1 h p f q 5000 dl]) (stN_one 2 0 cs h p f q 5000 dl (by decide) (by decide) (by decide) (by decide) (by have := hr.h0; omega) (by have := hr.h1; omega)) 1 f q 3405803781 5000 fg ⟨#[]⟩ ⟨by omega, by omega, by decide, by decide, hr.q0, hr.q1, by decide, by decide, by decide⟩ (Or.inr rfl) (may_out _ rfl rfl f (by omega) (show ¬ f = 3405803781 by omega)) 16 _
    ((congrArg WYD.what (if_neg (by decide))).trans e1) (by decide) ((if_neg (by decide)).trans e2)
theorem q_ack (b : Nat) (cs : List Int) (h p f q dl : Int) (hr : RQ h p f q) :
    NoneOK b (stN 2 0 cs [S1 h p f q 5000 dl]) 0 (tcpP h p f q 16 ⟨#[]⟩) 16 (stN 2 0 (bump cs 16) [S1 h p f q 5000 dl]) := by
  have hs : ¬ fl (byteAt (tcpB h p f q 16 ⟨#[]⟩) 13) 23 = 2 := by rw [tcpB_flags _ _ _ _ _ _ (by decide) (by decide)]; exact tk_steps.2.1
  obtain ⟨h0, h1, p0, p1, f0, f1, q0, q1⟩ := hr
  obtain ⟨e1, e2⟩ := insT_ack (stN 2 0 cs [S1 h p f q 5000 dl]) h p f q 5000 dl h p f q (tcpB h p f q 16 ⟨#[]⟩) rfl (show ¬ f = 3405803781 by omega) hs
  exact tcp_none b (stN 2 0 cs [S1 h p f q 5000 dl]) (stN_one 2 0 cs h p f q 5000 dl (by decide) (by decide) (by decide) (by decide) (by omega) (by omega)) 0 h p f q 16 ⟨#[]⟩ ⟨by omega, by omega, by omega, by omega, p0, p1, q0, q1, by decide⟩ (Or.inl rfl) (may_in _ rfl rfl h f (by omega) (by omega) (by omega)) 16 _
    ((congrArg WYD.what (if_pos rfl)).trans e1) (by decide) ((if_pos rfl).trans e2)
theorem q_echo (b : Nat) (cs : List Int) (h p f q dl : Int) (hr : RQ h p f q) :
    NoneOK b (stN 2 0 cs [S1 h p f q 5000 dl]) 1 (echoP 8 f 3405803781 5000 ⟨#[120]⟩) 16 (stN 2 0 (bump cs 16) [S1 h p f q 5000 dl]) := by
  have := hr.f0
  have := hr.f1
  have hE : eFault 3405803781 1 1 3405803781 (eBody 8 5000 ⟨#[120]⟩) = 16 := by
    obtain ⟨-, k2, k3, -⟩ := eBody_is 8 5000 ⟨#[120]⟩ (Or.inl rfl) (by decide) (by decide)
    unfold eFault
    rw [k2, k3]
    rfl
  have e0 : ¬ eFault ((stN 2 0 cs [S1 h p f q 5000 dl])).ou 1 1 3405803781 (eBody 8 5000 ⟨#[120]⟩) = 0 := by
    show ¬ eFault 3405803781 1 1 3405803781 (eBody 8 5000 ⟨#[120]⟩) = 0
    rw [hE]; decide
  refine echo_none b (stN 2 0 cs [S1 h p f q 5000 dl]) (stN_one 2 0 cs h p f q 5000 dl (by decide) (by decide) (by decide) (by decide) (by have := hr.h0; omega) (by have := hr.h1; omega)) 1 8 f 3405803781 5000 ⟨#[120]⟩ ⟨Or.inl rfl, by omega, by omega, by decide, by decide, by decide, by decide, by decide⟩ (Or.inr rfl) (may_out _ rfl rfl f (by omega) (show ¬ f = 3405803781 by omega)) 16 _ ?_ (by decide) ?_
  · unfold eW
    rw [if_pos e0]
    exact hE
  · unfold eL
    rw [if_pos e0]
    rfl
theorem q_reply (b : Nat) (cs : List Int) (h p f q dl : Int) (hr : RQ h p f q) :
    NoneOK b (stN 2 0 cs [S1 h p f q 5000 dl]) 1 (echoP 0 f 3405803781 5000 ⟨#[120]⟩) 16 (stN 2 0 (bump cs 16) [S1 h p f q 5000 dl]) := by
  have := hr.f0
  have := hr.f1
  have hE : eFault 3405803781 1 1 3405803781 (eBody 0 5000 ⟨#[120]⟩) = 0 := by
    obtain ⟨-, k2, k3, -⟩ := eBody_is 0 5000 ⟨#[120]⟩ (Or.inr rfl) (by decide) (by decide)
    unfold eFault
    rw [k2, k3]
    rfl
  have e0 : ¬ ¬ eFault ((stN 2 0 cs [S1 h p f q 5000 dl])).ou 1 1 3405803781 (eBody 0 5000 ⟨#[120]⟩) = 0 := by
    show ¬ ¬ eFault 3405803781 1 1 3405803781 (eBody 0 5000 ⟨#[120]⟩) = 0
    rw [hE]; decide
  obtain ⟨e1, e2⟩ := outs_otherpr (stN 2 0 cs [S1 h p f q 5000 dl]) 1 h p f q 5000 dl f 0 5000 (eBody 0 5000 ⟨#[120]⟩) (by decide) rfl
  refine echo_none b (stN 2 0 cs [S1 h p f q 5000 dl]) (stN_one 2 0 cs h p f q 5000 dl (by decide) (by decide) (by decide) (by decide) (by have := hr.h0; omega) (by have := hr.h1; omega)) 1 0 f 3405803781 5000 ⟨#[120]⟩ ⟨Or.inr rfl, by omega, by omega, by decide, by decide, by decide, by decide, by decide⟩ (Or.inr rfl) (may_out _ rfl rfl f (by omega) (show ¬ f = 3405803781 by omega)) 16 _ ?_ (by decide) ?_
  · unfold eW
    rw [if_neg e0, if_neg (by decide)]
    exact e1
  · unfold eL
    rw [if_neg e0, if_neg (by decide)]
    exact e2
theorem q_bad (b : Nat) (cs : List Int) (h p f q dl : Int) (hr : RQ h p f q) (side src fr dst to' : Int) (hu : URange src fr dst to' ⟨#[120]⟩) (hside : side = 0 ∨ side = 1) (hmay : mayB (stN 2 0 cs [S1 h p f q 5000 dl]) side src dst = false) :
    NoneOK b (stN 2 0 cs [S1 h p f q 5000 dl]) side (udpP src fr dst to' ⟨#[120]⟩) 6 (stN 2 0 (bump cs 6) [S1 h p f q 5000 dl]) :=
  udp_bad b (stN 2 0 cs [S1 h p f q 5000 dl]) (stN_one 2 0 cs h p f q 5000 dl (by decide) (by decide) (by decide) (by decide) (by have := hr.h0; omega) (by have := hr.h1; omega)) side src fr dst to' ⟨#[120]⟩ hu hside hmay
end Go.Proofs.YtfkjobiapjhacabGreat
