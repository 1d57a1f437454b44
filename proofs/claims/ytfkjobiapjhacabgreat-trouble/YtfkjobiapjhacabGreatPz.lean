/- Pieces, purely; what becomes of a packet. Own work. -/
import Derived.Test.YtfkjobiapjhacabGreatGwM
namespace Go.Proofs.YtfkjobiapjhacabGreat
open Go.RowKit

def endI (p : KP) : Int := placeI p.h + p.b.size
/-- Is the datagram that of a piece? -/
def nameB (side : Int) (p : KP) (d : PD) : Bool := d.sd == side && d.sr == p.sr && d.ds == p.ds && d.pr == p.pr && d.nu == wordAt p.h 4
def pd0 : PD := ⟨0, 0, 0, 0, 0, false, 0, []⟩
def likeB (p h : KP) : Bool := (placeI h.h == placeI p.h) && (moreB h.h == moreB p.h) && (h.b == p.b)
def hasP (held : List KP) (p : KP) : Bool := held.any (likeB p)
def overB (p q : KP) : Bool := decide (placeI p.h < endI q) && decide (placeI q.h < endI p)
def beyondB (q p : KP) : Bool := !moreB q.h && decide (endI q < endI p)
def clashB (held : List KP) (p : KP) : Bool := (decide (0 < held.length) && decide (65535 < endI p)) || held.any (fun h => overB h p || beyondB h p || beyondB p h)
def costK (p : KP) : Int := p.b.size + 16
def costD (held : List KP) : Int := (held.map costK).sum
def heldAll (wl : List PD) : Int := (wl.map (fun d => costD d.held)).sum
def heldOf (wl : List PD) (src : Int) : Int := (wl.map (fun d => if d.sr = src then costD d.held else 0)).sum
def muchB (wl : List PD) (p : KP) (ps gl : Int) : Bool := decide (ps < heldOf wl p.sr + costK p) || decide (gl < heldAll wl + costK p)
/-- What speaks against holding a piece; 0: nothing. -/
def faultP (wl : List PD) (d : PD) (p : KP) (ps gl : Int) : Int :=
  if d.gu = true then 8 else if hasP d.held p = true then 10 else if clashB d.held p = true then 9 else if 6 ≤ d.held.length then 12
  else if muchB wl p ps gl = true then 11 else if d.held.length = 0 ∧ 4 ≤ wl.length then 12 else if 65535 < endI p then 9 else 0
/-- Something laid down among others, by its place. -/
def layStep {α : Type} (bef : α → α → Bool) (n : α) (a : List α × Bool) (d : α) : List α × Bool := if a.2 = false ∧ bef n d = true then (a.1 ++ [n] ++ [d], true) else (a.1 ++ [d], a.2)
def layTo {α : Type} (bef : α → α → Bool) (n : α) (l : List α) (k : Nat) : List α × Bool := (l.take k).foldl (layStep bef n) ([], false)
def layL {α : Type} (bef : α → α → Bool) (n : α) (l : List α) : List α := if (layTo bef n l l.length).2 = true then (layTo bef n l l.length).1 else (layTo bef n l l.length).1 ++ [n]
def befP (n d : PD) : Bool :=
  if ¬ n.sd = d.sd then decide (n.sd < d.sd) else if ¬ n.sr = d.sr then decide (n.sr < d.sr) else if ¬ n.ds = d.ds then decide (n.ds < d.ds) else if ¬ n.pr = d.pr then decide (n.pr < d.pr) else decide (n.nu < d.nu)
def befK (p h : KP) : Bool := decide (placeI p.h < placeI h.h)
def withP (held : List KP) (p : KP) : List KP := layL befK p held
/-- The known end, and how many bytes are there. -/
def whStep (a : Int × Int) (p : KP) : Int × Int := (if moreB p.h = true then a.1 else endI p, a.2 + p.b.size)
def wholeB (held : List KP) : Bool := decide (0 < (held.foldl whStep (0, 0)).1) && ((held.foldl whStep (0, 0)).2 == (held.foldl whStep (0, 0)).1)
def dropP (wl : List PD) (side : Int) (p : KP) : List PD := wl.filter (fun d => !nameB side p d)
structure TKR where
  what : Int
  pk : List KP
  wl : List PD
def foundP (wl : List PD) (side : Int) (p : KP) : PD := (wl.find? (nameB side p)).getD pd0
def freshD (side : Int) (p : KP) (gu : Bool) (dl : Int) : PD := ⟨side, p.sr, p.ds, p.pr, wordAt p.h 4, gu, dl, []⟩
/-- What is held of a piece's datagram, and it. -/
def growD (wl : List PD) (side : Int) (p : KP) (tm : Int) : PD :=
  { (if (foundP wl side p).held.length = 0 then freshD side p false (tm + 6) else foundP wl side p) with held := withP (foundP wl side p).held p }
def takeP (wl : List PD) (side : Int) (p : KP) (ps gl tm : Int) : TKR :=
  if faultP wl (foundP wl side p) p ps gl = 9 then ⟨9, [], layL befP (freshD side p true (tm + 6)) (dropP wl side p)⟩
  else if ¬ faultP wl (foundP wl side p) p ps gl = 0 then ⟨faultP wl (foundP wl side p) p ps gl, [], wl⟩
  else if wholeB (withP (foundP wl side p).held p) = true then ⟨0, withP (foundP wl side p).held p, dropP wl side p⟩
  else ⟨1, [], layL befP (growD wl side p tm) (dropP wl side p)⟩

/-- A packet that was read. -/
def pkOf (raw : ByteArray) : KP := ⟨raw.extract 0 20, addrAt raw 12, addrAt raw 16, byteAt raw 9, raw.extract 20 raw.size⟩
def tookH (s : BX) (side : Int) (t : TKR) : HG := if t.what = 0 then passH { s with wl := t.wl } side t.pk else ⟨t.what, [], s.l, t.wl⟩
/-- What becomes of a packet. -/
def handG (s : BX) (side : Int) (raw : ByteArray) : HG :=
  if ¬ side = 0 ∧ ¬ side = 1 then ⟨2, [], s.l, s.wl⟩
  else if ¬ rFault raw = 0 then ⟨rFault raw, [], s.l, s.wl⟩
  else if mayB s side (addrAt raw 12) (addrAt raw 16) = false then ⟨6, [], s.l, s.wl⟩
  else if ¬ (byteAt raw 9 = 1 ∨ byteAt raw 9 = 6 ∨ byteAt raw 9 = 17) then ⟨7, [], s.l, s.wl⟩
  else if pieceB (raw.extract 0 20) = true then tookH s side (takeP s.wl side (pkOf raw) s.ps s.gl s.tm)
  else passH s side [pkOf raw]
/-- A packet that may come to the pieces. -/
structure PKok (p : KP) : Prop where
  h20 : p.h.size = 20
  b0 : 1 ≤ p.b.size
  b1 : p.b.size ≤ 140
  pr : p.pr = 1 ∨ p.pr = 6 ∨ p.pr = 17
  s0 : 0 ≤ p.sr
  s1 : p.sr ≤ 4294967295
  d0 : 0 ≤ p.ds
  d1 : p.ds ≤ 4294967295
  mb : moreB p.h = true → p.b.size % 8 = 0
/-- Packets that may be passed on together. -/
structure PLok (l : List KP) : Prop where
  n : l.length ≤ 1000
  b : ∀ p ∈ l, p.h.size = 20 ∧ p.b.size ≤ 1000
  m : (wOf l).m.size ≤ 900
  pr : (wOf l).pr = 1 ∨ (wOf l).pr = 6 ∨ (wOf l).pr = 17
  s0 : 0 ≤ (wOf l).sr
  s1 : (wOf l).sr ≤ 4294967295
  d0 : 0 ≤ (wOf l).ds
  d1 : (wOf l).ds ≤ 4294967295
/-- What is asked of Take at a box. -/
def TkOK (b : Nat) (s : BX) : Prop := ∀ (side : Int) (p : KP), PKok p → pieceB p.h = true →
  ((takeP s.wl side p s.ps s.gl s.tm).what = 0 → PLok (takeP s.wl side p s.ps s.gl s.tm).pk) ∧ ∀ v W, BoxAt W b v s → Calls Tryz.prog 50 #[.pointer (some ⟨b, 27, none⟩), .int .i64 side, .agg #[.string p.h, .int .i64 p.sr, .int .i64 p.ds, .int .i64 p.pr, .string p.b], .agg #[.int .i64 s.ou, .int .i64 s.ne, .int .i64 s.bi, .int .i64 s.lo, .int .i64 s.hi, .int .i64 s.ps, .int .i64 s.gl], .int .i64 s.tm] W
    fun e w' => ∃ pv, e = .returned (.tuple #[.int .i64 (takeP s.wl side p s.ps s.gl s.tm).what, pv]) ∧ KsAt w' pv (takeP s.wl side p s.ps s.gl s.tm).pk ∧ BoxAt w' b v { s with wl := (takeP s.wl side p s.ps s.gl s.tm).wl } ∧ Chg b v W w' v
theorem PLok.one {p : KP} (h : PKok p) : PLok [p] := by
  have e : wOf [p] = ⟨p.pr, p.sr, p.ds, ⟨#[]⟩ ++ p.b⟩ := rfl
  have hb := h.b1
  refine ⟨by simp, ?_, ?_, ?_, ?_, ?_, ?_, ?_⟩
  · intro q hq
    simp at hq
    subst hq
    exact ⟨h.h20, by omega⟩
  · rw [e]
    show (⟨#[]⟩ ++ p.b).size ≤ 900
    rw [ByteArray.size_append]
    have : (⟨#[]⟩ : ByteArray).size = 0 := rfl
    omega
  · rw [e]; exact h.pr
  · rw [e]; exact h.s0
  · rw [e]; exact h.s1
  · rw [e]; exact h.d0
  · rw [e]; exact h.d1
end Go.Proofs.YtfkjobiapjhacabGreat
