/- What goes out, whatever came in. Own work. -/
import Derived.Test.YtfkjobiapjhacabGreatXa
import Derived.Test.YtfkjobiapjhacabGreatIb
namespace Go.Proofs.YtfkjobiapjhacabGreat
open Go.RowKit

/-- A message whose checksum is right, or that has none. -/
def MsgOK (pr xa ya : Int) (m : ByteArray) : Prop := (pr = 17 ∧ wordAt m 6 = 0) ∨ dSum pr xa ya m = 65535
theorem btw_ok (pr : Int) (m : ByteArray) (xa xp ya yp : Int) (h2 : sumAtI pr + 2 ≤ m.size) (h6 : 6 ≤ m.size) (hp : 0 ≤ pr) (x0 : 0 ≤ xa) (y0 : 0 ≤ ya) : MsgOK pr xa ya (btwM pr m xa xp ya yp) := by
  unfold btwM
  have hsz := portM_size pr m xp yp h6
  generalize portM pr m xp yp = z at hsz
  cases hs : hasSumB pr z
  · left
    unfold sealM
    rw [if_pos hs]
    unfold hasSumB at hs
    split at hs
    · rename_i e
      exact ⟨e, by simpa using hs⟩
    · exact absurd hs (by simp)
  · right
    exact seal_sum pr xa ya z (by omega) hs hp x0 y0
theorem ret_ok (m : ByteArray) (src dst xa xp ya yp pa pb : Int) (h : 36 ≤ m.size) (s0 : 0 ≤ src) (d0 : 0 ≤ dst) : MsgOK 1 pa pb (retM m src dst xa xp ya yp) := by
  right
  unfold retM
  obtain ⟨z, hz⟩ : ∃ z, z = m.extract 0 8 ++ addrHead (abH m) xa ya ++ shiftM (byteAt (abR m) 9) (addrAt (abR m) 12) (portsOf (byteAt (abR m) 9) (abB m)).1 (addrAt (abR m) 16) (portsOf (byteAt (abR m) 9) (abB m)).2 (abB m) xa xp ya yp := ⟨_, rfl⟩
  rw [← hz]
  have h8 : 8 ≤ z.size := by
    rw [hz, ByteArray.size_append, ByteArray.size_append, ByteArray.size_extract]
    omega
  have h1 := seal_sum 1 src dst z (by show 2 + 2 ≤ z.size; omega) rfl (by decide) s0 d0
  unfold dSum at h1 ⊢
  rw [if_pos rfl] at h1 ⊢
  exact h1
/-- Where something goes that is passed on. -/
structure ROut (s : BX) (side pr : Int) (t : WYD) : Prop where
  xo : innerB s.ne s.bi t.xa = false
  yo : innerB s.ne s.bi t.ya = decide (t.side = 0)
  sd : t.side = 0 ∨ t.side = 1
  ou : side = 1 ∨ t.xa = s.ou
  x0 : 0 ≤ t.xa
  x1 : t.xa ≤ 4294967295
  y0 : 0 ≤ t.ya
  y1 : t.ya ≤ 4294967295
  mo : MsgOK pr t.xa t.ya t.m
theorem innerI_mem {pr port : Int} {l : List SD} {x : SD} (h : innerI pr port l = some x) : x ∈ l := List.mem_of_find?_eq_some h
theorem may_0 {s : BX} {fa ta : Int} (h : mayB s 0 fa ta = true) : innerB s.ne s.bi fa = true ∧ innerB s.ne s.bi ta = false := by
  unfold mayB at h
  rw [if_pos rfl] at h
  simpa using h
theorem may_1 {s : BX} {fa ta : Int} (h : mayB s 1 fa ta = true) : innerB s.ne s.bi fa = false ∧ ta = s.ou := by
  unfold mayB at h
  rw [if_neg (by decide)] at h
  simp at h
  exact ⟨h.1.1, h.2⟩
theorem innE_mem {pr tp : Int} {l : List SD} (h : (innE pr tp l).1 = true) : ∃ x ∈ l, (innE pr tp l).2.1 = x.ia ∧ (innE pr tp l).2.2 = x.ip := by
  unfold innE at h ⊢
  rcases hi : innerI pr tp l with _ | x
  · rw [hi] at h; exact absurd h (by simp)
  · exact ⟨x, innerI_mem hi, rfl, rfl⟩
theorem route_out {s : BX} (h : Good s) {side pr fa fp ta tp : Int} {m : ByteArray} (hside : side = 0 ∨ side = 1) (hm : mayB s side fa ta = true) (hp : pr = 1 ∨ pr = 6 ∨ pr = 17) (f0 : 0 ≤ fa) (f1 : fa ≤ 4294967295) (t0 : 0 ≤ ta) (t1 : ta ≤ 4294967295) (hw : (routeW s side pr fa fp ta tp m).what = 0) :
    ROut s side pr (routeW s side pr fa fp ta tp m) := by
  have hc := h.cfg
  have o1 := hc.o1
  have o2 := hc.o2
  have hp0 : 0 ≤ pr := by omega
  have e0 : ∀ k, (noW k).what = k := fun _ => rfl
  unfold routeW at hw ⊢
  split at hw
  · rename_i hd
    exact absurd hw hd
  rename_i hd
  rw [if_neg hd]
  have hd' : dFault pr fa fp ta tp m = 0 := by simpa using hd
  obtain ⟨r1, r2⟩ := formed_room hd' hp
  split at hw
  · rename_i he
    rw [if_pos he]
    have hp1 : pr = 1 := by unfold errB at he; simp at he; exact he.1
    subst hp1
    unfold trW at hw ⊢
    split at hw
    · rw [e0] at hw; exact absurd hw (by decide)
    rename_i hab
    rw [if_neg hab]
    have h36 := abOK_size (m := m) (by simpa using hab)
    split at hw
    · rename_i hs
      subst hs
      rw [if_pos rfl]
      unfold trIn at hw ⊢
      split at hw
      · rw [e0] at hw; exact absurd hw (by decide)
      rename_i h1
      rw [if_neg h1]
      split at hw
      · rw [e0] at hw; exact absurd hw (by decide)
      rename_i h2
      rw [if_neg h2]
      obtain ⟨-, m2⟩ := may_0 hm
      exact ⟨hc.no, by rw [m2]; rfl, Or.inr rfl, Or.inr rfl, by show 0 ≤ s.ou; omega, by show s.ou ≤ 4294967295; omega, t0, t1, ret_ok m _ _ _ _ _ _ _ _ h36 (by omega) t0⟩
    · rename_i hs
      have hs1 : side = 1 := by omega
      subst hs1
      rw [if_neg hs]
      unfold trOut at hw ⊢
      split at hw
      · rw [e0] at hw; exact absurd hw (by decide)
      rename_i h1
      rw [if_neg h1]
      rcases hi : innerI (byteAt (abR m) 9) (portsOf (byteAt (abR m) 9) (abB m)).1 s.l with _ | x
      · rw [hi] at hw; exact absurd (show (16 : Int) = 0 from hw) (by decide)
      · rw [hi] at hw
        simp only at hw ⊢
        split at hw
        · exact absurd (show (16 : Int) = 0 from hw) (by decide)
        · rename_i h2
          rw [if_neg h2]
          obtain ⟨m1, -⟩ := may_1 hm
          have hx := h.so x (innerI_mem hi)
          exact ⟨m1, by rw [hx.inn]; rfl, Or.inl rfl, Or.inl rfl, f0, f1, hx.a0, hx.a1, ret_ok m _ _ _ _ _ _ _ _ h36 f0 hx.a0⟩
  rename_i he
  rw [if_neg he]
  split at hw
  · rename_i h3
    exact absurd hw h3.2
  rename_i h3
  rw [if_neg h3]
  split at hw
  · rename_i hs
    subst hs
    rw [if_pos rfl]
    obtain ⟨-, m2⟩ := may_0 hm
    unfold insW at hw ⊢
    split at hw
    · exact absurd hw (by decide)
    rename_i h4
    rw [if_neg h4]
    split at hw
    · rename_i h5
      exact absurd hw h5
    rename_i h5
    rw [if_neg h5]
    split at hw
    · rename_i h6
      rw [if_pos h6]
      unfold turnW at hw ⊢
      split at hw
      · rename_i h7
        rw [if_pos h7]
        obtain ⟨x, hx, e1, -⟩ := innE_mem (pr := pr) (tp := tp) (l := s.l) (by cases hh : (innE pr tp s.l).1; exact absurd ⟨h6, hh⟩ h4; rfl)
        have hx' := h.so x hx
        refine ⟨hc.no, by show innerB s.ne s.bi (innE pr tp s.l).2.1 = _; rw [e1, hx'.inn]; rfl, Or.inl rfl, Or.inr rfl, by show 0 ≤ s.ou; omega, by show s.ou ≤ 4294967295; omega, by show 0 ≤ (innE pr tp s.l).2.1; rw [e1]; exact hx'.a0, by show (innE pr tp s.l).2.1 ≤ 4294967295; rw [e1]; exact hx'.a1, ?_⟩
        exact btw_ok pr m _ _ _ _ r1 r2 hp0 (by show 0 ≤ s.ou; omega) (by show 0 ≤ (innE pr tp s.l).2.1; rw [e1]; exact hx'.a0)
      · exact absurd hw (by decide)
    · rename_i h6
      rw [if_neg h6]
      exact ⟨hc.no, by rw [m2]; rfl, Or.inr rfl, Or.inr rfl, by show 0 ≤ s.ou; omega, by show s.ou ≤ 4294967295; omega, t0, t1, btw_ok pr m _ _ _ _ r1 r2 hp0 (by show 0 ≤ s.ou; omega) t0⟩
  · rename_i hs
    have hs1 : side = 1 := by omega
    subst hs1
    rw [if_neg hs]
    obtain ⟨m1, -⟩ := may_1 hm
    unfold outsW at hw ⊢
    rcases hi : innerI pr tp s.l with _ | x
    · rw [hi] at hw; exact absurd (show (16 : Int) = 0 from hw) (by decide)
    · rw [hi] at hw
      simp only at hw ⊢
      split at hw
      · rename_i h7
        rw [if_pos h7]
        have hx := h.so x (innerI_mem hi)
        exact ⟨m1, by rw [hx.inn]; rfl, Or.inl rfl, Or.inl rfl, f0, f1, hx.a0, hx.a1, btw_ok pr m _ _ _ _ r1 r2 hp0 f0 hx.a0⟩
      · exact absurd (show (16 : Int) = 0 from hw) (by decide)
end Go.Proofs.YtfkjobiapjhacabGreat
