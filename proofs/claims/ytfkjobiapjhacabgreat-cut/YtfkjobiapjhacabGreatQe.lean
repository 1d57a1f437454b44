/- Pieces of one datagram, purely; Poison. Own work. -/
import Derived.Test.YtfkjobiapjhacabGreatQc
namespace Go.Proofs.YtfkjobiapjhacabGreat
open Go.RowKit
attribute [local go_sem ↓] Go.wp_at_zero Go.wp_at_succ

def hdOf (p : PK) : ByteArray := (rawP p).extract 0 20
structure HdOK (hd : ByteArray) (o fl id : Int) : Prop where
  pl : placeI hd = 8 * o
  mo : moreB hd = (fl == 1)
  nu : wordAt hd 4 = id
/-- A piece comes to the pieces. -/
theorem piece_hand (s : BX) (side : Int) (hside : side = 0 ∨ side = 1) {id fl o ttl pr src dst : Int} {B : ByteArray} (h : PCOK id fl o ttl pr src dst B) (hpc : fl = 1 ∨ ¬ o = 0) (hmay : mayB s side src dst = true) :
    HdOK (hdOf ⟨id, fl, 8 * o, ttl, pr, src, dst, B⟩) o fl id ∧ handG s side (rawP ⟨id, fl, 8 * o, ttl, pr, src, dst, B⟩) = tookH s side (takeP s.wl side ⟨hdOf ⟨id, fl, 8 * o, ttl, pr, src, dst, B⟩, src, dst, pr, B⟩ s.ps s.gl s.tm) := by
  obtain ⟨hd, f0, f1, -, f3, f4, f5, f6, f7⟩ := piece_raw h
  have e : hdOf ⟨id, fl, 8 * o, ttl, pr, src, dst, B⟩ = hd := f3.symm
  rw [e]
  refine ⟨⟨f4, f5, f6⟩, ?_⟩
  generalize rawP ⟨id, fl, 8 * o, ttl, pr, src, dst, B⟩ = raw at f0 f1 f3
  have e12 : addrAt raw 12 = src := congrArg KP.sr f1
  have e16 : addrAt raw 16 = dst := congrArg KP.ds f1
  have e9 : byteAt raw 9 = pr := congrArg KP.pr f1
  have hpb : pieceB (raw.extract 0 20) = true := by
    rw [← f3, f7]
    rcases hpc with e | e
    · simp [e]
    · simp [e]
  unfold handG
  rw [if_neg (by omega), if_neg (by rw [f0]; decide), e12, e16, hmay, if_neg (by decide), e9, if_neg (by have := h.pr; omega), hpb, if_pos rfl, f1]
theorem lay_nil {α : Type} (bef : α → α → Bool) (n : α) : layL bef n [] = [n] := rfl
def stV (tm : Int) (cs : List Int) (wl : List PD) : BX := ⟨3405803781, 167772160, 8, 5000, 5001, 400, 700, tm, cs, [], wl⟩
/-- The datagram of a piece, with what is held of it. -/
def dOf (p : KP) (gu : Bool) (dl : Int) (held : List KP) : PD := ⟨0, p.sr, p.ds, p.pr, wordAt p.h 4, gu, dl, held⟩
/-- Two pieces of one datagram. -/
def kin (p q : KP) : Prop := p.sr = q.sr ∧ p.ds = q.ds ∧ p.pr = q.pr ∧ wordAt p.h 4 = wordAt q.h 4
theorem name_kin {p q : KP} (h : kin p q) (gu : Bool) (dl : Int) (held : List KP) : nameB 0 p (dOf q gu dl held) = true := by
  unfold nameB dOf
  simp [h.1, h.2.1, h.2.2.1, h.2.2.2]
theorem found_kin {p q : KP} (h : kin p q) (gu : Bool) (dl : Int) (held : List KP) : foundP [dOf q gu dl held] 0 p = dOf q gu dl held ∧ dropP [dOf q gu dl held] 0 p = [] := by
  unfold foundP dropP
  simp [name_kin h]
theorem dOf_kin {p q : KP} (h : kin p q) (gu : Bool) (dl : Int) (held : List KP) : dOf p gu dl held = dOf q gu dl held := by
  unfold dOf
  rw [h.1, h.2.1, h.2.2.1, h.2.2.2]
theorem take_poisoned {p q : KP} (h : kin p q) (dl : Int) (held : List KP) (ps gl tm : Int) : takeP [dOf q true dl held] 0 p ps gl tm = ⟨8, [], [dOf q true dl held]⟩ := by
  unfold takeP
  rw [(found_kin h true dl held).1]
  have e : faultP [dOf q true dl held] (dOf q true dl held) p ps gl = 8 := by unfold faultP; rw [if_pos (show (dOf q true dl held).gu = true from rfl)]
  rw [e]
  rfl
theorem take_overlap {p q : KP} (h : kin p q) (dl : Int) (held : List KP) (hh : hasP held p = false) (hc : clashB held p = true) (ps gl tm : Int) : takeP [dOf q false dl held] 0 p ps gl tm = ⟨9, [], [dOf q true (tm + 6) []]⟩ := by
  unfold takeP
  rw [(found_kin h false dl held).1, (found_kin h false dl held).2]
  have e : faultP [dOf q false dl held] (dOf q false dl held) p ps gl = 9 := by
    unfold faultP
    have e1 : (dOf q false dl held).held = held := rfl
    rw [e1, hh, hc]
    rfl
  rw [e, if_pos rfl, lay_nil]
  exact congrArg (fun d => (⟨9, [], [d]⟩ : TKR)) (dOf_kin h true (tm + 6) [])
theorem take_first (p : KP) (ps gl tm : Int) (hm : moreB p.h = true) (he : endI p ≤ 65535) (h1 : costK p ≤ ps) (h2 : costK p ≤ gl) : takeP [] 0 p ps gl tm = ⟨1, [], [dOf p false (tm + 6) [p]]⟩ := by
  have e : faultP [] (foundP [] 0 p) p ps gl = 0 := by
    unfold faultP
    have ef : foundP [] 0 p = pd0 := rfl
    rw [ef]
    have em : muchB [] p ps gl = false := by
      unfold muchB heldOf heldAll
      simp
      omega
    rw [if_neg (by simp [pd0]), if_neg (by simp [pd0, hasP]), if_neg (by simp [pd0, clashB]), if_neg (by simp [pd0]), em, if_neg (by decide), if_neg (by simp), if_neg (by omega)]
  have ew : wholeB (withP (foundP [] 0 p).held p) = false := whole_more _ (fun q hq => by
    have : q = p := by
      rcases withP_mem _ _ _ hq with e | e
      · exact e
      · exact absurd e (by simp [foundP, pd0])
    rw [this]; exact hm)
  unfold takeP
  rw [e, ew]
  rfl
theorem take_next {p q : KP} (h : kin p q) (dl : Int) (held : List KP) (ps gl tm : Int) (hne : held ≠ []) (h6 : held.length < 6) (hh : hasP held p = false) (hc : clashB held p = false) (he : endI p ≤ 65535) (h1 : costD held + costK p ≤ ps) (h2 : costD held + costK p ≤ gl) :
    takeP [dOf q false dl held] 0 p ps gl tm = if wholeB (withP held p) = true then ⟨0, withP held p, []⟩ else ⟨1, [], [dOf q false dl (withP held p)]⟩ := by
  have e : faultP [dOf q false dl held] (dOf q false dl held) p ps gl = 0 := by
    unfold faultP
    have e1 : (dOf q false dl held).held = held := rfl
    have em : muchB [dOf q false dl held] p ps gl = false := by
      unfold muchB heldOf heldAll
      have e2 : (dOf q false dl held).sr = p.sr := h.1.symm
      simp [e2, e1]
      omega
    have hl : ¬ held.length = 0 := fun e => hne (List.eq_nil_of_length_eq_zero e)
    rw [e1, hh, hc, em, if_neg (by simp [dOf]), if_neg (by decide), if_neg (by decide), if_neg (by omega), if_neg (by decide), if_neg (fun x => hl x.1), if_neg (by omega)]
  unfold takeP growD
  rw [(found_kin h false dl held).1, (found_kin h false dl held).2, e, if_neg (by decide), if_neg (by decide)]
  have e1 : (dOf q false dl held).held = held := rfl
  have hl : ¬ held.length = 0 := fun e => hne (List.eq_nil_of_length_eq_zero e)
  rw [e1, if_neg hl]
  rfl
theorem tookH_no (s : BX) (side : Int) (k : Int) (wl : List PD) (hk : ¬ k = 0) : tookH s side ⟨k, [], wl⟩ = ⟨k, [], s.l, wl⟩ := by unfold tookH; rw [if_neg hk]
/-- What Receive answers, by what becomes of the packet. -/
theorem recv_no (b : Nat) (s : BX) (hg : Good s) (side : Int) (raw : ByteArray) (k : Int) (l : List SD) (wl : List PD) (h : handG s side raw = ⟨k, [], l, wl⟩) : RecvAt b s side raw k none { s with l := l, wl := wl, cs := bump s.cs k.toNat } ∧ Good { s with l := l, wl := wl, cs := bump s.cs k.toNat } := by
  refine ⟨fun W v hW => ?_, ?_⟩
  · have := Receive_good hW hg side raw
    rw [h] at this
    exact this
  · have := hg.recv side raw
    rw [h] at this
    exact this
theorem pass_udp (s : BX) (l : List KP) {h p f q : Int} {data : ByteArray} (hw : wOf l = ⟨17, h, f, udpB h p f q data⟩) (hr : URange h p f q data) : passW s 0 l = insW s 17 (udpB h p f q data) h p f q ∧ passL' s 0 l = insF s 17 (udpB h p f q data) h p f q := by
  obtain ⟨s0, s1, d0, d1, f0, f1, t0, t1, sz⟩ := hr
  have hbB := bl_udpB h p f q data
  obtain ⟨w0, w2, -, -⟩ := UM_words hbB
  have ew0 : wordAt (udpB h p f q data) 0 = p := w0.trans (by omega)
  have ew2 : wordAt (udpB h p f q data) 2 = q := w2.trans (by omega)
  have hdf := udp_fault (d := bl data) (by rw [bl_length]; omega) hbB s0 s1 d0 d1 f0 f1 t0 t1
  rw [ew0, ew2] at hdf
  have hpo : portsOf 17 (udpB h p f q data) = (p, q) := by
    unfold portsOf
    rw [if_pos (by decide), ew0, ew2]
  unfold passW passL'
  rw [hw]
  simp only
  rw [hpo]
  unfold routeG
  rw [noerr17, if_neg (by simp)]
  unfold routeW routeL
  have e1 : ¬ ¬ dFault 17 h p f q (udpB h p f q data) = 0 := by simp [hdf]
  have e2 : ¬ ((17 : Int) = 1 ∧ ¬ eFault s.ou 0 17 f (udpB h p f q data) = 0) := fun h => absurd h.1 (by decide)
  have e3 : ¬ errB 17 (udpB h p f q data) = true := by rw [noerr17]; decide
  rw [if_neg e1, if_neg e1, if_neg e3, if_neg e3, if_neg e2, if_neg e2]
  exact ⟨rfl, rfl⟩
theorem onAll_len (fa ta : Int) (m : ByteArray) (l : List KP) : (onAll fa ta m l).length = l.length := by
  rw [← onTo_all]
  exact (onTo_len fa ta m l l.length (Nat.le_refl _)).1
theorem tickV_stay (tm : Int) (cs : List Int) (d : PD) (n : Int) (h : tm + n < d.dl) : tickS (stV tm cs [d]) n = stV (tm + n) cs [d] := by
  unfold tickS stV
  simp [h]
theorem tickV_gone (tm : Int) (cs : List Int) (d : PD) (n : Int) (h : ¬ tm + n < d.dl) : tickS (stV tm cs [d]) n = stV (tm + n) cs [] := by
  unfold tickS stV
  simp [h]
end Go.Proofs.YtfkjobiapjhacabGreat
