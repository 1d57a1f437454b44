/- Contracts of package wire: what goes out for packets. Own work. -/
import Derived.Test.YtfkjobiapjhacabGreatGwC
namespace Go.Proofs.YtfkjobiapjhacabGreat
open Go.RowKit
attribute [local go_sem ↓] Go.wp_at_zero Go.wp_at_succ

theorem empty_app (b : ByteArray) : (⟨#[]⟩ : ByteArray) ++ b = b := bl_inj (by simp [bl])
/-- A datagram that a packet is by itself. -/
theorem Whole_one (h b : ByteArray) (sr ds pr : Int) (W : World) (g cap : Nat) (hg : W.heap[g]? = some (.cells #[.string h, .int .i64 sr, .int .i64 ds, .int .i64 pr, .string b] 83 (0, 0))) (hb : b.size ≤ 1000) :
    Calls Tryz.prog 60 #[.slice (some ⟨g, 0, none⟩) 1 cap] W fun e w' => e = .returned (.agg #[.int .i64 pr, .int .i64 sr, .int .i64 (portsOf pr b).1, .int .i64 ds, .int .i64 (portsOf pr b).2, .string b, .bool false]) ∧ Below W.heap.size W w' := by
  have hk : KsAt W (.slice (some ⟨g, 0, none⟩) 1 cap) [⟨h, sr, ds, pr, b⟩] := KsAt.one hg
  have h1 := Whole_any (.slice (some ⟨g, 0, none⟩) 1 cap) [⟨h, sr, ds, pr, b⟩] W hk (by simp) (fun p hp => by simp at hp; subst hp; exact hb)
  have e : wOf [(⟨h, sr, ds, pr, b⟩ : KP)] = ⟨pr, sr, ds, b⟩ := by
    show (⟨pr, sr, ds, ⟨#[]⟩ ++ b⟩ : WD) = _
    rw [empty_app]
  rw [e] at h1
  exact h1
/-- What is left of the message, and what has gone out. -/
def onStep (fa ta : Int) (a : ByteArray × List ByteArray) (p : KP) : ByteArray × List ByteArray :=
  (a.1.extract (min p.b.size a.1.size) a.1.size, a.2 ++ [onHead p.h fa ta ++ a.1.extract 0 (min p.b.size a.1.size)])
def onTo (fa ta : Int) (m : ByteArray) (l : List KP) (k : Nat) : ByteArray × List ByteArray := (l.take k).foldl (onStep fa ta) (m, [])
/-- What goes out for packets. -/
def onAll (fa ta : Int) (m : ByteArray) (l : List KP) : List ByteArray := (l.foldl (onStep fa ta) (m, [])).2
theorem onTo_succ (fa ta : Int) (m : ByteArray) (l : List KP) (k : Nat) (h : k < l.length) : onTo fa ta m l (k + 1) = onStep fa ta (onTo fa ta m l k) l[k] := by
  unfold onTo
  rw [List.take_succ_eq_append_getElem h, List.foldl_append]
  rfl
theorem onTo_all (fa ta : Int) (m : ByteArray) (l : List KP) : (onTo fa ta m l l.length).2 = onAll fa ta m l := by unfold onTo onAll; rw [List.take_length]
theorem onTo_len (fa ta : Int) (m : ByteArray) (l : List KP) (k : Nat) (hk : k ≤ l.length) : (onTo fa ta m l k).2.length = k ∧ (onTo fa ta m l k).1.size ≤ m.size := by
  induction k with
  | zero => exact ⟨rfl, Nat.le_refl _⟩
  | succ k ih =>
    obtain ⟨h1, h2⟩ := ih (by omega)
    rw [onTo_succ fa ta m l k (by omega)]
    unfold onStep
    refine ⟨by simp [h1], ?_⟩
    simp only [ByteArray.size_extract]
    omega
def strC (s : ByteArray) : List Value := [.string s]
theorem strC_len (s : ByteArray) : (strC s).length = 1 := rfl
theorem info_str : (Tryz.prog.info? 9).map (fun i => (i.zero, i.size, i.bytes)) = some (some (.string ⟨#[]⟩), 1, 16) := by kernel_rfl
set_option maxRecDepth 100000 in
set_option maxHeartbeats 2000000 in
theorem Onward_any (pr fa fp ta tp : Int) (m : ByteArray) (iq : Bool) (v : Value) (l : List KP) (w : World) (hl : KsAt w v l) (hn : l.length ≤ 1000) (hm : m.size ≤ 1000) (hb : ∀ p ∈ l, p.h.size = 20 ∧ p.b.size ≤ 1000) :
    Calls Tryz.prog 62 #[.agg #[.int .i64 pr, .int .i64 fa, .int .i64 fp, .int .i64 ta, .int .i64 tp, .string m, .bool iq], v] w fun e w' => ∃ ov, e = .returned ov ∧ LsAt w' 9 1 strC ov (onAll fa ta m l) ∧ Below w.heap.size w w' := by
  have HL : Hid (KsAt w v l) := hl
  have HBD : Hid (∀ p ∈ l, p.h.size = 20 ∧ p.b.size ≤ 1000) := hb
  obtain ⟨ao, cap, hv⟩ := hl.shape
  clear hl hb
  subst hv
  generalize hlen : l.length = len at hn HL ⊢
  have HE : Hid (l.length = len) := hlen
  clear hlen
  obtain ⟨i0, hi0, hz0, hz1, hz2⟩ := info_parts info_str
  have HM0 : Hid (QMid w ((w.alloc (.cells #[.int .i64 pr, .int .i64 fa, .int .i64 fp, .int .i64 ta, .int .i64 tp, .string m, .bool iq] 106)).alloc (.cells #[] 9)) [(w.heap.size, #[.int .i64 pr, .int .i64 fa, .int .i64 fp, .int .i64 ta, .int .i64 tp, .string m, .bool iq], 106)] 9 1 (.slice (some ⟨w.heap.size + 1, 0, none⟩) 0 0) 0 []) := QMid.start ((LMid.start w).alloc' _ _ _ rfl) _ _ _ (by simp)
  go_enter Tryz.func62, Tryz.ntmps62
  go_wp2
  go_loopw [5, 6, 15] (fun lst rs i wr => ∃ (k : Nat) (lv : Value), k ≤ len ∧ i = .int .i64 k ∧ lv = lst ∧ rs = .string (onTo fa ta m l k).1 ∧ QMid w wr [(w.heap.size, #[.int .i64 pr, .int .i64 fa, .int .i64 fp, .int .i64 ta, .int .i64 tp, .string m, .bool iq], 106)] 9 1 lv k ((onTo fa ta m l k).2.flatMap strC)) (fun _ _ i _ => len - (intOf i).toNat)
  case atStart => exact ⟨0, _, Nat.zero_le _, rfl, rfl, rfl, HM0.out⟩
  case round =>
    obtain ⟨k, lv, hk, rfl, rfl, rfl, hM1⟩ := hrel
    have hM : Hid (QMid w wr [(w.heap.size, #[.int .i64 pr, .int .i64 fa, .int .i64 fp, .int .i64 ta, .int .i64 tp, .string m, .bool iq], 106)] 9 1 lv k ((onTo fa ta m l k).2.flatMap strC)) := hM1
    obtain ⟨-, hsz⟩ := onTo_len fa ta m l k (by have := HE.out; omega)
    by_cases hlt : k < len
    · have hlo : k < l.length := by have := HE.out; omega
      obtain ⟨g, cp, hv, hg, q0, q1, q2, q3, q4⟩ := KsAt.get (LsAt.keep HL.out hM1.mid.bl) k hlo
      obtain ⟨hhs, hbs⟩ := HBD.out l[k] (List.getElem_mem _)
      have HSU : Hid (onTo fa ta m l (k + 1) = onStep fa ta (onTo fa ta m l k) l[k]) := onTo_succ fa ta m l k hlo
      simp at hv
      obtain ⟨rfl, -, rfl⟩ := hv
      have hsw := hM1.mid.bl.size
      clear hM1
      generalize onTo fa ta m l k = x at hM HSU hsz ⊢
      obtain ⟨rs, out⟩ := x
      simp only at hM hsz ⊢
      generalize l[k] = o at q0 q1 q2 q3 q4 HSU hbs hhs
      have hkI : (0 : Int) ≤ (k : Int) := by omega
      have hkL : (k : Int) < (len : Int) := by omega
      have HON : Hid (∀ W body, body.size ≤ 1000 → Calls Tryz.prog 83 #[.agg #[.string o.h, .int .i64 o.sr, .int .i64 o.ds, .int .i64 o.pr, .string o.b], .int .i64 fa, .int .i64 ta, .string body] W fun e w' => e = .returned (.string (onHead o.h fa ta ++ body)) ∧ Below W.heap.size W w') := fun W body hbd => onward_any o.h o.b o.sr o.ds o.pr fa ta body W hhs hbd
      obtain ⟨sz, hsz2⟩ : ∃ sz, sz = min o.b.size rs.size := ⟨_, rfl⟩
      have HST : Hid (onStep fa ta (rs, out) o = (rs.extract sz rs.size, out ++ [onHead o.h fa ta ++ rs.extract 0 sz])) := by rw [hsz2]; rfl
      have hs1 : (sz : Int) ≤ (rs.size : Int) := by omega
      have hs0 : (0 : Int) ≤ (sz : Int) := by omega
      have hbd : (rs.extract 0 sz).size ≤ 1000 := by rw [ByteArray.size_extract]; omega
      have hM1 := hM.out.alloc' #[.string o.h, .int .i64 o.sr, .int .i64 o.ds, .int .i64 o.pr, .string o.b] 83 wr.heap.size rfl
      clear hM
      obtain ⟨⟨d0, d1, d2, d3, d4, d5, d6⟩, df⟩ := c7 hM1.mid.at1; obtain ⟨⟨p0, p1, p2, p3, p4⟩, pf⟩ := c5 hM1.mid.at0; have n0 := lt_of_block hM1.mid.at1; have n1 := lt_of_block hM1.mid.at0
      have hM : Hid _ := hM1.drew
      clear hM1
      go_upto_if 25 with fail
      go_cut [9] (fun s9 wx => s9 = .int .i64 (sz : Int) ∧ wx = wr.alloc (.cells #[.string o.h, .int .i64 o.sr, .int .i64 o.ds, .int .i64 o.pr, .string o.b] 83))
      case first =>
        go_wp2_with fail
        all_goals
          go_meet
          first | exact ⟨by rw [show (sz : Int) = (rs.size : Int) by omega], rfl⟩ | exact ⟨by rw [show (sz : Int) = (o.b.size : Int) by omega], rfl⟩
      case rest =>
        obtain ⟨rfl, rfl⟩ := hcut
        clear q0 q1 q2 q3 q4 hsz2
        go_wp2_with fail
        go_region_held3 (fun w' => w'.cell? ⟨w.heap.size, 1, none⟩ = some (.int .i64 fa) ∧ w'.cell? ⟨w.heap.size, 3, none⟩ = some (.int .i64 ta) ∧ w'.cell? ⟨wr.heap.size, 0, none⟩ = some (.string o.h) ∧ w'.cell? ⟨wr.heap.size, 1, none⟩ = some (.int .i64 o.sr) ∧ w'.cell? ⟨wr.heap.size, 2, none⟩ = some (.int .i64 o.ds) ∧ w'.cell? ⟨wr.heap.size, 3, none⟩ = some (.int .i64 o.pr) ∧ w'.cell? ⟨wr.heap.size, 4, none⟩ = some (.string o.b)) (first | (simp [*]; done) | (simp only [cell_alloc_lt n0, cell_alloc_lt n1]; simp [*]; done)) (first | (go_at_call 83; refine (HON.out _ _ (by assumption)).mono ?_; rintro e w1 ⟨rfl, hb1⟩; have hM1 := hM.out.call hb1; clear hM hb1; clear d0 d1 d2 d3 d4 d5 d6 df p0 p1 p2 p3 p4 pf n0 n1; obtain ⟨⟨d0, d1, d2, d3, d4, d5, d6⟩, df⟩ := c7 hM1.mid.at1; obtain ⟨⟨p0, p1, p2, p3, p4⟩, pf⟩ := c5 hM1.mid.at0; have n0 := lt_of_block hM1.mid.at1; have n1 := lt_of_block hM1.mid.at0; have hM : Hid _ := hM1; clear hM1) | (refine step_append_lies _ (by rfl) (.tmp 28) (.tmp 40) 26 (by rfl) w.heap.size 9 i0 _ 1 16 Tryz.underlying26 hi0 hz0 hz1 hz2 (by rfl) (by decide) lv k (out.flatMap strC) (by simp [Act.eval]) (by exact hM.out.own.alloc _) ⟨w1.heap.size, 0, none⟩ 1 1 [.string (onHead o.h fa ta ++ rs.extract 0 sz)] (by simp [Act.eval]) (by rfl) (by exact World.news_of_block (heap_alloc_new w1 _)) (by intro u hu; simp at hu; subst hu; rfl) (by decide) (by unfold maxLen; omega) (by omega) (by have := hM.out.mid.bl.size; simp; omega) (w1.heap.size + 1) (by simp) ?_; intro g4 cap4 w4 hown hgrow hat hlt4; have hM1 := (hM.out.call ((Below.refl _ _).alloc (Nat.le_refl _) _)).app hgrow hown _ hat (by simp); clear hM hown hgrow hat hlt4; clear d0 d1 d2 d3 d4 d5 d6 df p0 p1 p2 p3 p4 pf n0 n1; obtain ⟨⟨d0, d1, d2, d3, d4, d5, d6⟩, df⟩ := c7 hM1.mid.at1; obtain ⟨⟨p0, p1, p2, p3, p4⟩, pf⟩ := c5 hM1.mid.at0; have n0 := lt_of_block hM1.mid.at1; have n1 := lt_of_block hM1.mid.at0; have hM : Hid _ := hM1; clear hM1))
        go_wp2_with fail
        go_roundw
        case rel =>
          refine ⟨k + 1, _, by omega, by go_num, rfl, ?_, ?_⟩
          · rw [HSU.out, HST.out]
          · rw [HSU.out, HST.out]
            have := hM.out.tail
            simpa [strC] using this
        case measure => simp [intOf]; omega
    · have e : k = len := by omega
      have HO : Hid (LsAt wr 9 1 strC lv (onAll fa ta m l)) := by
        have h1 := hM1.own
        have h2 : (onTo fa ta m l k).2 = onAll fa ta m l := by rw [e, ← HE.out]; exact onTo_all fa ta m l
        have h3 := (onTo_len fa ta m l k (by have := HE.out; omega)).1
        rw [h2] at h1 h3
        rw [← h3] at h1
        exact LsAt.of_owns strC_len h1
      have HB : Hid (Below w.heap.size w wr) := hM1.mid.bl
      clear hM1 hM
      go_wp2
      go_ret
      exact ⟨_, rfl, HO.out, HB.out⟩
end Go.Proofs.YtfkjobiapjhacabGreat
