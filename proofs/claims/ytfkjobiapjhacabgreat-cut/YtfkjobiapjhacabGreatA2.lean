/- Own work. -/
import Derived.Test.YtfkjobiapjhacabGreatA1
/- Contracts of package wire: packets, read and made. Own work. -/
namespace Go.Proofs.YtfkjobiapjhacabGreat
open Go.RowKit
attribute [local go_sem ↓] Go.wp_at_zero Go.wp_at_succ

/-- Where the body begins, in bytes. -/
def placeI (h : ByteArray) : Int := bits .and .i64 (wordAt h 6) 8191 * 8
theorem and_low (x : Int) (h0 : 0 ≤ x) (h1 : x < 2 ^ 62) : bits .and .i64 x 8191 = x % 8192 := by
  have h := bits_mask .i64 62 (by decide) wraps_i64_62 13 (by decide) x h0 h1
  simpa using h
theorem placeI_bd (h : ByteArray) : 0 ≤ placeI h ∧ placeI h ≤ 65528 := by
  have := wordAt_bd h 6
  unfold placeI
  rw [and_low _ (by omega) (by omega)]
  omega
set_option maxRecDepth 100000 in
set_option maxHeartbeats 1000000 in
theorem Place_any (h b : ByteArray) (sr ds pr : Int) (w : World) :
    Calls Tryz.prog 59 #[.agg #[.string h, .int .i64 sr, .int .i64 ds, .int .i64 pr, .string b]] w fun e w' => e = .returned (.int .i64 (placeI h)) ∧ w' = w.alloc (.cells #[.string h, .int .i64 sr, .int .i64 ds, .int .i64 pr, .string b] 83) := by
  have HP : Hid (placeI h = bits .and .i64 (wordAt h 6) 8191 * 8) := rfl
  have hb := placeI_bd h
  rw [HP.out] at hb
  go_enter Tryz.func59, Tryz.ntmps59
  go_wp2_with (go_at_call 74; refine (Word_any _ _ _ (by decide) (by decide)).mono ?_; rintro e w' ⟨rfl, rfl⟩)
  exact bodyPost_ret (v := .int .i64 (bits .and .i64 (wordAt h 6) 8191 * 8)) (by simp [results, Tryz.results59, go_sem]) rfl ⟨by rw [HP.out], rfl⟩
def pieceB (h : ByteArray) : Bool := moreB h || (placeI h != 0)
set_option maxRecDepth 100000 in
set_option maxHeartbeats 1000000 in
theorem Piece_any (h b : ByteArray) (sr ds pr : Int) (w : World) :
    Calls Tryz.prog 48 #[.agg #[.string h, .int .i64 sr, .int .i64 ds, .int .i64 pr, .string b]] w fun e w' => e = .returned (.bool (pieceB h)) ∧ Below w.heap.size w w' := by
  have HP : Hid (pieceB h = (moreB h || (placeI h != 0))) := rfl
  cases c : moreB h
  all_goals
    rw [c] at HP
    go_enter Tryz.func48, Tryz.ntmps48
    go_wp2_with (first | (go_at_call 58; refine (More_any h b sr ds pr _).mono ?_; rintro e w' ⟨rfl, rfl⟩) | (go_at_call 59; refine (Place_any h b sr ds pr _).mono ?_; rintro e w' ⟨rfl, rfl⟩))
    go_ret
    refine ⟨g_bool ?_, (by repeat (first | exact Below.refl _ _ | refine Below.drew ?_ | (refine Below.alloc ?_ (by simp <;> omega) _) | (refine Below.setCell ?_ (by simp) _)))⟩
    rw [HP.out]
    simp

/-- A header between other addresses, with the checksum that it then has. -/
def addrHead (h : ByteArray) (src dst : Int) : ByteArray :=
  let h2 := putAddr (putAddr h 12 src) 16 dst
  let h4 := putWord h2 10 0
  putWord h4 10 (65535 - sumI h4)
/-- The header that goes out for header h, between other addresses. -/
def onHead (h : ByteArray) (src dst : Int) : ByteArray := addrHead (putWord h 8 (wordAt h 8 - 256)) src dst
theorem size_addrHead (h : ByteArray) (src dst : Int) (hh : h.size = 20) : (addrHead h src dst).size = 20 := by
  have z1 : (putAddr h 12 src).size = 20 := by rw [size_addr _ _ _ (by omega), hh]
  have z2 : (putAddr (putAddr h 12 src) 16 dst).size = 20 := by rw [size_addr _ _ _ (by omega), z1]
  have z4 : (putWord (putAddr (putAddr h 12 src) 16 dst) 10 0).size = 20 := by rw [size_put _ _ _ (by omega), z2]
  show (putWord _ 10 _).size = 20
  rw [size_put _ _ _ (by omega), z4]

set_option maxRecDepth 100000 in
set_option maxHeartbeats 2000000 in
theorem addressed_any (h : ByteArray) (src dst : Int) (w : World) (hh : h.size = 20) :
    Calls Tryz.prog 110 #[.string h, .int .i64 src, .int .i64 dst] w fun e w' => e = .returned (.string (addrHead h src dst)) ∧ Below w.heap.size w w' := by
  obtain ⟨h1, e1⟩ : ∃ x, x = putAddr h 12 src := ⟨_, rfl⟩
  obtain ⟨h2, e2⟩ : ∃ x, x = putAddr h1 16 dst := ⟨_, rfl⟩
  obtain ⟨h4, e4⟩ : ∃ x, x = putWord h2 10 0 := ⟨_, rfl⟩
  obtain ⟨h5, e5⟩ : ∃ x, x = putWord h4 10 (65535 - sumI h4) := ⟨_, rfl⟩
  have z1 : h1.size = 20 := by rw [e1, size_addr _ _ _ (by omega), hh]
  have z2 : h2.size = 20 := by rw [e2, size_addr _ _ _ (by omega), z1]
  have z4 : h4.size = 20 := by rw [e4, size_put _ _ _ (by omega), z2]
  have HO : Hid (addrHead h src dst = h5) := by show _ = _; unfold addrHead; simp only [← e1, ← e2, ← e4, ← e5]
  have p1 : Hid (∀ w, Calls Tryz.prog 125 #[.string h, .int .i64 12, .int .i64 src] w fun e w' => e = .returned (.string h1) ∧ Below w.heap.size w w') := fun w => by rw [e1]; exact PutAddress_any h 12 src w (by omega) (by omega)
  have p2 : Hid (∀ w, Calls Tryz.prog 125 #[.string h1, .int .i64 16, .int .i64 dst] w fun e w' => e = .returned (.string h2) ∧ Below w.heap.size w w') := fun w => by rw [e2]; exact PutAddress_any h1 16 dst w (by omega) (by omega)
  have p4 : Hid (∀ w, Calls Tryz.prog 109 #[.string h2, .int .i64 10, .int .i64 0] w fun e w' => e = .returned (.string h4) ∧ Below w.heap.size w w') := fun w => by rw [e4]; exact PutWord_any h2 10 0 w (by omega) (by omega)
  have p5 : Hid (∀ w, Calls Tryz.prog 109 #[.string h4, .int .i64 10, .int .i64 (65535 - sumI h4)] w fun e w' => e = .returned (.string h5) ∧ Below w.heap.size w w') := fun w => by rw [e5]; exact PutWord_any h4 10 _ w (by omega) (by omega)
  have q5 := sumI_bd h4
  clear e1 e2 e4 e5
  go_enter Tryz.func110, Tryz.ntmps110
  go_wp2_with fail
  refine (p1.out _).mono ?_; rintro e w1 ⟨rfl, b1⟩
  go_wp2_with fail
  refine (p2.out _).mono ?_; rintro e w2 ⟨rfl, b2⟩
  go_wp2_with fail
  refine (p4.out _).mono ?_; rintro e w4 ⟨rfl, b4⟩
  go_wp2_with fail
  refine (Sum_any h4 _ (by omega)).mono ?_; rintro e w' ⟨rfl, rfl⟩
  go_wp2_with fail
  refine (p5.out _).mono ?_; rintro e w5 ⟨rfl, b5⟩
  go_wp2_with fail
  go_ret
  have s0 := b1.size; have s1 := b2.size; have s2 := b4.size
  refine ⟨g_str (by rw [HO.out]), b1.trans ((b2.mono (by omega)).trans ((b4.mono (by omega)).trans (b5.mono (by omega))))⟩

set_option maxRecDepth 100000 in
set_option maxHeartbeats 2000000 in
theorem onward_any (h b : ByteArray) (sr ds pr : Int) (src dst : Int) (body : ByteArray) (w : World) (hh : h.size = 20) (hb : body.size ≤ 1000) :
    Calls Tryz.prog 83 #[.agg #[.string h, .int .i64 sr, .int .i64 ds, .int .i64 pr, .string b], .int .i64 src, .int .i64 dst, .string body] w fun e w' => e = .returned (.string (onHead h src dst ++ body)) ∧ Below w.heap.size w w' := by
  obtain ⟨h1, e1⟩ : ∃ x, x = putWord h 8 (wordAt h 8 - 256) := ⟨_, rfl⟩
  obtain ⟨h5, e5⟩ : ∃ x, x = addrHead h1 src dst := ⟨_, rfl⟩
  have z1 : h1.size = 20 := by rw [e1, size_put _ _ _ (by omega), hh]
  have z5 : h5.size = 20 := by rw [e5, size_addrHead _ _ _ z1]
  have HO : Hid (onHead h src dst = h5) := by show _ = _; unfold onHead; rw [← e1, ← e5]
  have p1 : Hid (∀ w, Calls Tryz.prog 109 #[.string h, .int .i64 8, .int .i64 (IntKind.i64.wrap (wordAt h 8 - 256))] w fun e w' => e = .returned (.string h1) ∧ Below w.heap.size w w') := fun w => by rw [e1, g_wrap _ (by have := wordAt_bd h 8; omega) (by have := wordAt_bd h 8; omega)]; exact PutWord_any h 8 _ w (by omega) (by omega)
  have p5 : Hid (∀ w, Calls Tryz.prog 110 #[.string h1, .int .i64 src, .int .i64 dst] w fun e w' => e = .returned (.string h5) ∧ Below w.heap.size w w') := fun w => by rw [e5]; exact addressed_any h1 src dst w z1
  have q3 := wordAt_bd h 8
  have m1 : ¬ 9223372036854775807 < h5.size + body.size := by omega
  clear e1 e5
  go_enter Tryz.func83, Tryz.ntmps83
  go_wp2_with fail
  go_region_held3 (fun w' => w'.cell? ⟨w.heap.size, 0, none⟩ = some (.string h)) (simp [*]) (first | (go_at_call 74; refine (Word_any _ _ _ (by decide) (by decide)).mono ?_; rintro e w' ⟨rfl, rfl⟩) | (go_at_call 109; refine (p1.out _).mono ?_; rintro e w1 ⟨rfl, b1⟩; obtain ⟨hc1, hf1⟩ := bcell' b1; have hz1 : w.heap.size < w1.heap.size := below_lt' b1))
  go_wp2_with fail
  refine (p5.out _).mono ?_; rintro e w5 ⟨rfl, b5⟩
  go_wp2_with fail
  go_ret
  have s0 := b1.size
  simp at s0
  refine ⟨g_str (by rw [HO.out]), ((Below.refl _ _).alloc (Nat.le_refl _) _).drew.trans ((b1.mono (by simp)).trans (b5.mono (by omega)))⟩

set_option maxRecDepth 100000 in
set_option maxHeartbeats 1000000 in
theorem Kind_any (pr fa fp ta tp : Int) (m : ByteArray) (iq : Bool) (w : World) :
    Calls Tryz.prog 91 #[.agg #[.int .i64 pr, .int .i64 fa, .int .i64 fp, .int .i64 ta, .int .i64 tp, .string m, .bool iq]] w fun e w' => e = .returned (.int .i64 (byteAt m 0)) ∧ Below w.heap.size w w' := by
  go_enter Tryz.func91, Tryz.ntmps91
  go_wp2_with (go_at_call 73; refine (Byte_any _ _ _).mono ?_; rintro e w' ⟨rfl, rfl⟩)
  go_ret
  exact ⟨rfl, (Below.refl _ _).alloc (Nat.le_refl _) _⟩

/-- The ports of a message of ICMP. -/
def numb (m : ByteArray) (fp tp : Int) : Int × Int := if (byteAt m 0 == 8) = true then (wordAt m 4, tp) else if (byteAt m 0 == 0) = true then (fp, wordAt m 4) else (fp, tp)
set_option maxRecDepth 100000 in
set_option maxHeartbeats 1000000 in
theorem numbered_any (pr fa fp ta tp : Int) (m : ByteArray) (iq : Bool) (w : World) :
    Calls Tryz.prog 76 #[.agg #[.int .i64 pr, .int .i64 fa, .int .i64 fp, .int .i64 ta, .int .i64 tp, .string m, .bool iq]] w fun e w' => e = .returned (.agg #[.int .i64 pr, .int .i64 fa, .int .i64 (numb m fp tp).1, .int .i64 ta, .int .i64 (numb m fp tp).2, .string m, .bool iq]) ∧ Below w.heap.size w w' := by
  have HM0 : Hid (SealMid w ((w.alloc (.cells #[.int .i64 pr, .int .i64 fa, .int .i64 fp, .int .i64 ta, .int .i64 tp, .string m, .bool iq] 106)).alloc (.cells #[.int .i64 0, .int .i64 0, .int .i64 0, .int .i64 0, .int .i64 0, .string ⟨#[]⟩, .bool false] 106)) #[.int .i64 pr, .int .i64 fa, .int .i64 fp, .int .i64 ta, .int .i64 tp, .string m, .bool iq]) := SealMid.start w #[.int .i64 pr, .int .i64 fa, .int .i64 fp, .int .i64 ta, .int .i64 tp, .string m, .bool iq]
  obtain ⟨np, hnp⟩ : ∃ np, np = numb m fp tp := ⟨_, rfl⟩
  rw [← hnp]
  unfold numb at hnp
  cases k1 : (byteAt m 0 == 8) <;> cases k2 : (byteAt m 0 == 0)
  all_goals
    simp only [k1, k2, Bool.false_eq_true, if_false, if_true] at hnp
    have HN : Hid (_) := hnp
    clear hnp
    go_enter Tryz.func76, Tryz.ntmps76
    go_wp2_with fail
    refine (Kind_any pr fa fp ta tp m iq _).mono ?_; rintro e w1 ⟨rfl, hb1⟩
    have HM1 : Hid (SealMid w w1 #[.int .i64 pr, .int .i64 fa, .int .i64 fp, .int .i64 ta, .int .i64 tp, .string m, .bool iq]) := HM0.out.call hb1
    clear hb1
    obtain ⟨⟨d0, d1, d2, d3, d4, d5, d6⟩, df⟩ := c7 HM1.out.dg
    obtain ⟨⟨r0, r1, r2, r3, r4, r5, r6⟩, rf⟩ := c7 HM1.out.rs
    go_wp2_with (go_at_call 74; refine (Word_any _ _ _ (by decide) (by decide)).mono ?_; rintro e w' ⟨rfl, rfl⟩)
  · refine bodyPost_ret (v := .agg #[.int .i64 pr, .int .i64 fa, .int .i64 fp, .int .i64 ta, .int .i64 tp, .string m, .bool iq]) (by simp [results, Tryz.results76, go_sem, r0, r1, r2, r3, r4, r5, r6]) rfl ⟨by rw [HN.out], ?_⟩
    have := HM1.out.bl
    exact ((((((this.setCell (by simp) _).setCell (by simp) _).setCell (by simp) _).setCell (by simp) _).setCell (by simp) _).setCell (by simp) _).setCell (by simp) _
  · refine bodyPost_ret (v := .agg #[.int .i64 pr, .int .i64 fa, .int .i64 fp, .int .i64 ta, .int .i64 (wordAt m 4), .string m, .bool iq]) (by simp [results, Tryz.results76, go_sem, r0, r1, r2, r3, r4, r5, r6]) rfl ⟨by rw [HN.out], ?_⟩
    have := HM1.out.bl
    exact (((((((this.setCell (by simp) _).setCell (by simp) _).setCell (by simp) _).setCell (by simp) _).setCell (by simp) _).setCell (by simp) _).setCell (by simp) _).setCell (by simp) _
  · refine bodyPost_ret (v := .agg #[.int .i64 pr, .int .i64 fa, .int .i64 (wordAt m 4), .int .i64 ta, .int .i64 tp, .string m, .bool iq]) (by simp [results, Tryz.results76, go_sem, r0, r1, r2, r3, r4, r5, r6]) rfl ⟨by rw [HN.out], ?_⟩
    have := HM1.out.bl
    exact (((((((this.setCell (by simp) _).setCell (by simp) _).setCell (by simp) _).setCell (by simp) _).setCell (by simp) _).setCell (by simp) _).setCell (by simp) _).setCell (by simp) _
  · exfalso; simp at k1 k2; omega

def portsOf (pr : Int) (b : ByteArray) : Int × Int := if (pr != 1) = true then (wordAt b 0, wordAt b 2) else numb b 0 0
/-- What packets are together. -/
structure WD where
  pr : Int
  sr : Int
  ds : Int
  m : ByteArray
def wStep (a : WD) (p : KP) : WD := ⟨p.pr, p.sr, p.ds, a.m ++ p.b⟩
def wTo (l : List KP) (k : Nat) : WD := (l.take k).foldl wStep ⟨0, 0, 0, ⟨#[]⟩⟩
def wOf (l : List KP) : WD := l.foldl wStep ⟨0, 0, 0, ⟨#[]⟩⟩
theorem wTo_succ (l : List KP) (k : Nat) (h : k < l.length) : wTo l (k + 1) = wStep (wTo l k) l[k] := by
  unfold wTo
  rw [List.take_succ_eq_append_getElem h, List.foldl_append]
  rfl
theorem wTo_all (l : List KP) : wTo l l.length = wOf l := by unfold wTo wOf; rw [List.take_length]
theorem wTo_size (l : List KP) (hb : ∀ p ∈ l, p.b.size ≤ 1000) (k : Nat) (hk : k ≤ l.length) : (wTo l k).m.size ≤ 1000 * k := by
  induction k with
  | zero => exact Nat.le_refl _
  | succ k ih =>
    have h1 := ih (by omega)
    have h2 := hb l[k] (List.getElem_mem _)
    rw [wTo_succ l k (by omega)]
    show ((wTo l k).m ++ l[k].b).size ≤ _
    rw [ByteArray.size_append]
    omega
set_option maxRecDepth 100000 in
set_option maxHeartbeats 2000000 in
theorem Whole_any (v : Value) (l : List KP) (w : World) (hl : KsAt w v l) (hn : l.length ≤ 1000) (hb : ∀ p ∈ l, p.b.size ≤ 1000) :
    Calls Tryz.prog 60 #[v] w fun e w' => e = .returned (.agg #[.int .i64 (wOf l).pr, .int .i64 (wOf l).sr, .int .i64 (portsOf (wOf l).pr (wOf l).m).1, .int .i64 (wOf l).ds, .int .i64 (portsOf (wOf l).pr (wOf l).m).2, .string (wOf l).m, .bool (decide (1 < l.length))]) ∧ Below w.heap.size w w' := by
  have HL : Hid (KsAt w v l) := hl
  have HZ : Hid (∀ k, k ≤ l.length → (wTo l k).m.size ≤ 1000 * k) := fun k hk => wTo_size l hb k hk
  have HBD : Hid (∀ p ∈ l, p.b.size ≤ 1000) := hb
  obtain ⟨ao, cap, hv⟩ := hl.shape
  clear hl hb
  subst hv
  generalize hlen : l.length = len at hn HL ⊢
  have HE : Hid (l.length = len) := hlen
  clear hlen
  have HM0 : Hid (LMid w ((w.alloc (.cells #[.int .i64 0, .int .i64 0, .int .i64 0, .int .i64 0, .int .i64 0, .string ⟨#[]⟩, .bool false] 106)).alloc (.cells #[.int .i64 0, .int .i64 0, .int .i64 0, .int .i64 0, .int .i64 0, .string ⟨#[]⟩, .bool (decide (1 < len))] 106)) [(w.heap.size + 1, #[.int .i64 0, .int .i64 0, .int .i64 0, .int .i64 0, .int .i64 0, .string ⟨#[]⟩, .bool (decide (1 < len))], 106), (w.heap.size, #[.int .i64 0, .int .i64 0, .int .i64 0, .int .i64 0, .int .i64 0, .string ⟨#[]⟩, .bool false], 106)]) := ((LMid.start w).alloc' _ _ _ rfl).alloc' _ _ _ (by simp)
  have hd1 : decide ((1 : Int) < (len : Int)) = decide (1 < len) := decide_eq_decide.mpr (by omega)
  go_enter Tryz.func60, Tryz.ntmps60
  go_wp2
  go_loopw [12] (fun i wr => ∃ k : Nat, k ≤ len ∧ i = .int .i64 k ∧ LMid w wr [(w.heap.size + 1, #[.int .i64 (wTo l k).pr, .int .i64 (wTo l k).sr, .int .i64 0, .int .i64 (wTo l k).ds, .int .i64 0, .string (wTo l k).m, .bool (decide (1 < len))], 106), (w.heap.size, #[.int .i64 0, .int .i64 0, .int .i64 0, .int .i64 0, .int .i64 0, .string ⟨#[]⟩, .bool false], 106)]) (fun i _ => len - (intOf i).toNat)
  case atStart => exact ⟨0, Nat.zero_le _, rfl, HM0.out⟩
  case round =>
    obtain ⟨k, hk, rfl, hM1⟩ := hrel
    have hM : Hid (LMid w wr [(w.heap.size + 1, #[.int .i64 (wTo l k).pr, .int .i64 (wTo l k).sr, .int .i64 0, .int .i64 (wTo l k).ds, .int .i64 0, .string (wTo l k).m, .bool (decide (1 < len))], 106), (w.heap.size, #[.int .i64 0, .int .i64 0, .int .i64 0, .int .i64 0, .int .i64 0, .string ⟨#[]⟩, .bool false], 106)]) := hM1
    obtain ⟨⟨d0, d1, d2, d3, d4, d5, d6⟩, df⟩ := c7 hM1.at0
    have n1 := lt_of_block hM1.at0
    have hms := HZ.out k (by have := HE.out; omega)
    by_cases hlt : k < len
    · have hlo : k < l.length := by have := HE.out; omega
      obtain ⟨g, cp, hv, hg, q0, q1, q2, q3, q4⟩ := KsAt.get (LsAt.keep HL.out hM1.bl) k hlo
      have hbs := HBD.out l[k] (List.getElem_mem _)
      have HSU : Hid (wTo l (k + 1) = wStep (wTo l k) l[k]) := wTo_succ l k hlo
      simp at hv
      obtain ⟨rfl, -, rfl⟩ := hv
      clear hM1
      generalize wTo l k = x at hM d0 d1 d3 d5 HSU hms
      generalize l[k] = o at q0 q1 q2 q3 q4 HSU hbs
      have hkI : (0 : Int) ≤ (k : Int) := by omega
      have hkL : (k : Int) < (len : Int) := by omega
      have hcc : ¬ 9223372036854775807 < x.m.size + o.b.size := by omega
      have hne : w.heap.size + 1 ≠ wr.heap.size := by omega
      go_wp2
      go_roundw
      case rel =>
        refine ⟨k + 1, by omega, by go_num, ?_⟩
        rw [HSU.out]
        exact ((((((hM.out.set0 0 (.int .i64 o.pr)).set0 1 (.int .i64 o.sr)).set0 3 (.int .i64 o.ds)).set0 5 (.string (x.m ++ o.b)))).alloc' _ _ _ rfl).tail
      case measure => simp [intOf]; omega
    · have e : k = len := by omega
      have eW : wTo l k = wOf l := by rw [e, ← HE.out]; exact wTo_all l
      rw [eW] at hM d0 d1 d3 d5 hms
      clear hM1 eW
      obtain ⟨x, hx⟩ : ∃ x, wOf l = x := ⟨_, rfl⟩
      rw [hx] at hM d0 d1 d3 d5 hms
      have HX : Hid (wOf l = x) := hx
      clear hx
      obtain ⟨⟨r0, r1, r2, r3, r4, r5, r6⟩, rf⟩ := c7 hM.out.at1
      have n0 := lt_of_block hM.out.at1
      cases hp : (x.pr == 1)
      · have HP : Hid (portsOf x.pr x.m = (wordAt x.m 0, wordAt x.m 2)) := by show _ = _; unfold portsOf; rw [if_pos (by simpa using hp)]
        go_wp2_with (go_at_call 74; refine (Word_any _ _ _ (by decide) (by decide)).mono ?_; rintro e w' ⟨rfl, rfl⟩)
        exact bodyPost_ret (v := .agg #[.int .i64 x.pr, .int .i64 x.sr, .int .i64 (wordAt x.m 0), .int .i64 x.ds, .int .i64 (wordAt x.m 2), .string x.m, .bool (decide (1 < len))]) (by simp [results, Tryz.results60, go_sem, r0, r1, r2, r3, r4, r5, r6]) rfl ⟨by rw [HX.out, HP.out], ((((((((hM.out.bl.setCell (by simp) _).setCell (by simp) _).setCell (by simp) _).setCell (by simp) _).setCell (by simp) _).setCell (by simp) _).setCell (by simp) _).setCell (by simp) _).setCell (by simp) _⟩
      · have HP : Hid (portsOf x.pr x.m = numb x.m 0 0) := by show _ = _; unfold portsOf; rw [if_neg (by simpa using hp)]
        have HN : Hid (∀ W, Calls Tryz.prog 76 #[.agg #[.int .i64 x.pr, .int .i64 x.sr, .int .i64 0, .int .i64 x.ds, .int .i64 0, .string x.m, .bool (decide (1 < len))]] W fun e w' => e = .returned (.agg #[.int .i64 x.pr, .int .i64 x.sr, .int .i64 (numb x.m 0 0).1, .int .i64 x.ds, .int .i64 (numb x.m 0 0).2, .string x.m, .bool (decide (1 < len))]) ∧ Below W.heap.size W w') := fun W => numbered_any x.pr x.sr 0 x.ds 0 x.m _ W
        generalize numb x.m 0 0 = nb at HP HN
        go_wp2_with fail
        refine (HN.out _).mono ?_
        rintro e w1 ⟨rfl, hb1⟩
        have hM1 := hM.out.call hb1
        clear hM hb1 r0 r1 r2 r3 r4 r5 r6 rf d0 d1 d2 d3 d4 d5 d6 df
        obtain ⟨⟨r0, r1, r2, r3, r4, r5, r6⟩, rf⟩ := c7 hM1.at1
        have hM : Hid _ := hM1
        clear hM1
        go_wp2_with fail
        exact bodyPost_ret (v := .agg #[.int .i64 x.pr, .int .i64 x.sr, .int .i64 nb.1, .int .i64 x.ds, .int .i64 nb.2, .string x.m, .bool (decide (1 < len))]) (by simp [results, Tryz.results60, go_sem, r0, r1, r2, r3, r4, r5, r6]) rfl ⟨by rw [HX.out, HP.out], ((((((hM.out.bl.setCell (by simp) _).setCell (by simp) _).setCell (by simp) _).setCell (by simp) _).setCell (by simp) _).setCell (by simp) _).setCell (by simp) _⟩
end Go.Proofs.YtfkjobiapjhacabGreat
/- Contracts of package wire: datagrams. Own work. -/
namespace Go.Proofs.YtfkjobiapjhacabGreat
open Go.RowKit
attribute [local go_sem ↓] Go.wp_at_zero Go.wp_at_succ

/-- Is what a datagram holds a message of its protocol? -/
def formedB (pr fp tp : Int) (m : ByteArray) : Bool :=
  if pr = 1 then decide (8 ≤ m.size) else if fp = 0 ∨ tp = 0 then false else if pr = 17 then decide (8 ≤ m.size) && (wordAt m 4 == (m.size : Int))
  else decide (20 ≤ byteAt m 12 / 16 * 4) && decide (byteAt m 12 / 16 * 4 ≤ m.size)

set_option maxRecDepth 100000 in
set_option maxHeartbeats 2000000 in
theorem formed_any (pr fa fp ta tp : Int) (m : ByteArray) (iq : Bool) (w : World) (hm : m.size ≤ 1000) :
    Calls Tryz.prog 92 #[.agg #[.int .i64 pr, .int .i64 fa, .int .i64 fp, .int .i64 ta, .int .i64 tp, .string m, .bool iq]] w fun e w' => e = .returned (.bool (formedB pr fp tp m)) ∧ Below w.heap.size w w' := by
  have HF : Hid (formedB pr fp tp m = (if pr = 1 then decide (8 ≤ m.size) else if fp = 0 ∨ tp = 0 then false else if pr = 17 then decide (8 ≤ m.size) && (wordAt m 4 == (m.size : Int))
      else decide (20 ≤ byteAt m 12 / 16 * 4) && decide (byteAt m 12 / 16 * 4 ≤ m.size))) := rfl
  have b12 := byteAt_bd m 12
  go_enter Tryz.func92, Tryz.ntmps92
  go_wp2_with (first | (go_at_call 73; refine (Byte_any _ _ _).mono ?_; rintro e w' ⟨rfl, rfl⟩) | (go_at_call 74; refine (Word_any _ _ _ (by decide) (by decide)).mono ?_; rintro e w' ⟨rfl, rfl⟩))
  all_goals
    go_ret
    refine ⟨g_bool ?_, (Below.refl _ _).alloc (Nat.le_refl _) _⟩
    rw [HF.out]
    clear HF
    (repeat' split) <;> first | rfl | (simp_all; done) | (exfalso; simp_all; done) | (simp_all; omega) | (exfalso; simp_all; omega)

def hasSumB (pr : Int) (m : ByteArray) : Bool := if pr = 17 then wordAt m 6 != 0 else true
set_option maxRecDepth 100000 in
set_option maxHeartbeats 2000000 in
theorem hasSum_any (pr fa fp ta tp : Int) (m : ByteArray) (iq : Bool) (w : World) :
    Calls Tryz.prog 93 #[.agg #[.int .i64 pr, .int .i64 fa, .int .i64 fp, .int .i64 ta, .int .i64 tp, .string m, .bool iq]] w fun e w' => e = .returned (.bool (hasSumB pr m)) ∧ Below w.heap.size w w' := by
  have HF : Hid (hasSumB pr m = if pr = 17 then wordAt m 6 != 0 else true) := rfl
  go_enter Tryz.func93, Tryz.ntmps93
  go_wp2_with (first | (go_at_call 73; refine (Byte_any _ _ _).mono ?_; rintro e w' ⟨rfl, rfl⟩) | (go_at_call 74; refine (Word_any _ _ _ (by decide) (by decide)).mono ?_; rintro e w' ⟨rfl, rfl⟩))
  all_goals
    go_ret
    refine ⟨g_bool ?_, (Below.refl _ _).alloc (Nat.le_refl _) _⟩
    rw [HF.out]
    clear HF
    (repeat' split) <;> first | rfl | (simp_all; done) | (exfalso; simp_all; done)

/-- The folded sum of all words that a message's checksum is of. -/
def dSum (pr fa ta : Int) (m : ByteArray) : Int := if pr = 1 then sumI m else foldI (sumI m + (fa / 65536 + fa % 65536 + ta / 65536 + ta % 65536) + pr + m.size)
theorem dSum_bd (pr fa ta : Int) (m : ByteArray) : 0 ≤ dSum pr fa ta m ∧ dSum pr fa ta m ≤ 65535 := by
  unfold dSum; split
  · exact sumI_bd _
  · exact foldI_bd _
set_option maxRecDepth 100000 in
set_option maxHeartbeats 400000 in
theorem addressWords_any (a p : Int) (w : World) (h0 : 0 ≤ a) (h1 : a ≤ 4294967295) :
    Calls Tryz.prog 113 #[.agg #[.int .i64 a, .int .i64 p]] w fun e w' => e = .returned (.int .i64 (a / 65536 + a % 65536)) ∧ Below w.heap.size w w' := by
  have a1 := and_ffff a h0 (by omega)
  go_enter Tryz.func113, Tryz.ntmps113
  go_wp2
  go_ret
  exact ⟨rfl, (Below.refl _ _).alloc (Nat.le_refl _) _⟩
set_option maxRecDepth 100000 in
set_option maxHeartbeats 2000000 in
theorem dsum_any (pr fa fp ta tp : Int) (m : ByteArray) (iq : Bool) (w : World) (hm : m.size ≤ 1000) (hp0 : 0 ≤ pr) (hp1 : pr ≤ 255) (hf0 : 0 ≤ fa) (hf1 : fa ≤ 4294967295) (ht0 : 0 ≤ ta) (ht1 : ta ≤ 4294967295) :
    Calls Tryz.prog 94 #[.agg #[.int .i64 pr, .int .i64 fa, .int .i64 fp, .int .i64 ta, .int .i64 tp, .string m, .bool iq]] w fun e w' => e = .returned (.int .i64 (dSum pr fa ta m)) ∧ Below w.heap.size w w' := by
  have sb := sumI_bd m
  by_cases h1 : pr = 1
  · subst h1
    have HF : Hid (dSum 1 fa ta m = sumI m) := rfl
    go_enter Tryz.func94, Tryz.ntmps94
    go_wp2_with (go_at_call 75; refine (Sum_any _ _ (by omega)).mono ?_; rintro e w' ⟨rfl, rfl⟩)
    go_ret
    exact ⟨g_int HF.out.symm, (Below.refl _ _).alloc (Nat.le_refl _) _⟩
  · have hp : (pr == 1) = false := by simpa using h1
    have HF : Hid (dSum pr fa ta m = foldI (sumI m + (fa / 65536 + fa % 65536 + ta / 65536 + ta % 65536) + pr + m.size)) := by show _ = _; unfold dSum; rw [if_neg h1]
    clear h1
    have HG : Hid (sumI m + (fa / 65536 + fa % 65536 + ta / 65536 + ta % 65536) + pr + m.size = sumI m + (fa / 65536 + fa % 65536 + (ta / 65536 + ta % 65536)) + pr + m.size) := by show _ = _; omega
    rw [HG.out] at HF
    clear HG
    have hB : Hid (Below w.heap.size w (w.alloc (.cells #[.int .i64 pr, .int .i64 fa, .int .i64 fp, .int .i64 ta, .int .i64 tp, .string m, .bool iq] 106)).drew) := ((Below.refl _ _).alloc (Nat.le_refl _) _).drew
    go_enter Tryz.func94, Tryz.ntmps94
    go_wp2_with (go_at_call 75; refine (Sum_any _ _ (by omega)).mono ?_; rintro e w' ⟨rfl, rfl⟩)
    go_region_held3 (fun w' => w'.cell? ⟨w.heap.size, 0, none⟩ = some (.int .i64 pr) ∧ w'.cell? ⟨w.heap.size, 1, none⟩ = some (.int .i64 fa) ∧ w'.cell? ⟨w.heap.size, 2, none⟩ = some (.int .i64 fp) ∧ w'.cell? ⟨w.heap.size, 3, none⟩ = some (.int .i64 ta) ∧ w'.cell? ⟨w.heap.size, 4, none⟩ = some (.int .i64 tp) ∧ w'.cell? ⟨w.heap.size, 5, none⟩ = some (.string m)) (simp [*]) (first | (go_at_call 113; refine (addressWords_any _ _ _ (by assumption) (by assumption)).mono ?_; rintro e w1 ⟨rfl, hb1⟩; obtain ⟨hc1, hf1⟩ := bcell' hb1; have hz1 : w.heap.size < w1.heap.size := below_lt' hb1 (by first | assumption | (simp; done)); have hB1 := hB.out.trans (hb1.mono hB.out.size); clear hB hb1; have hB : Hid _ := hB1; clear hB1))
    go_wp2_with fail
    refine (Fold_any _ _ (by omega) (by omega)).mono ?_
    rintro e w' ⟨rfl, rfl⟩
    go_wp2_with fail
    go_ret
    refine ⟨g_int ?_, hB.out⟩
    rw [HF.out]

def sumAtI (pr : Int) : Nat := if pr = 6 then 16 else if pr = 17 then 6 else 2
set_option maxRecDepth 100000 in
set_option maxHeartbeats 1000000 in
theorem sumAt_any (pr fa fp ta tp : Int) (m : ByteArray) (iq : Bool) (w : World) :
    Calls Tryz.prog 132 #[.agg #[.int .i64 pr, .int .i64 fa, .int .i64 fp, .int .i64 ta, .int .i64 tp, .string m, .bool iq]] w fun e w' => e = .returned (.int .i64 (sumAtI pr : Int)) ∧ Below w.heap.size w w' := by
  have HF : Hid (sumAtI pr = if pr = 6 then 16 else if pr = 17 then 6 else 2) := rfl
  go_enter Tryz.func132, Tryz.ntmps132
  go_wp2
  all_goals
    go_ret
    refine ⟨g_int ?_, (Below.refl _ _).alloc (Nat.le_refl _) _⟩
    rw [HF.out]
    clear HF
    (repeat' split) <;> first | rfl | (exfalso; simp_all; done)

set_option maxRecDepth 100000 in
set_option maxHeartbeats 1000000 in
theorem Flags_any (pr fa fp ta tp : Int) (m : ByteArray) (iq : Bool) (w : World) :
    Calls Tryz.prog 102 #[.agg #[.int .i64 pr, .int .i64 fa, .int .i64 fp, .int .i64 ta, .int .i64 tp, .string m, .bool iq]] w fun e w' => e = .returned (.int .i64 (byteAt m 13)) ∧ Below w.heap.size w w' := by
  go_enter Tryz.func102, Tryz.ntmps102
  go_wp2_with (go_at_call 73; refine (Byte_any _ _ _).mono ?_; rintro e w' ⟨rfl, rfl⟩)
  go_ret
  exact ⟨rfl, (Below.refl _ _).alloc (Nat.le_refl _) _⟩

/-- What speaks against a message; 0: nothing. -/
def dFault (pr fa fp ta tp : Int) (m : ByteArray) : Int := if formedB pr fp tp m = false then 13 else if hasSumB pr m = true ∧ ¬ dSum pr fa ta m = 65535 then 4 else 0
set_option maxRecDepth 100000 in
set_option maxHeartbeats 2000000 in
theorem dFault_any (pr fa fp ta tp : Int) (m : ByteArray) (iq : Bool) (w : World) (hm : m.size ≤ 1000) (hp0 : 0 ≤ pr) (hp1 : pr ≤ 255) (hf0 : 0 ≤ fa) (hf1 : fa ≤ 4294967295) (ht0 : 0 ≤ ta) (ht1 : ta ≤ 4294967295) :
    Calls Tryz.prog 77 #[.agg #[.int .i64 pr, .int .i64 fa, .int .i64 fp, .int .i64 ta, .int .i64 tp, .string m, .bool iq]] w fun e w' => e = .returned (.int .i64 (dFault pr fa fp ta tp m)) ∧ Below w.heap.size w w' := by
  have HF : Hid (dFault pr fa fp ta tp m = if formedB pr fp tp m = false then 13 else if hasSumB pr m = true ∧ ¬ dSum pr fa ta m = 65535 then 4 else 0) := rfl
  cases c1 : formedB pr fp tp m <;> cases c2 : hasSumB pr m
  all_goals
    go_enter Tryz.func77, Tryz.ntmps77
    go_wp2_with (first
      | (go_at_call 92; refine (formed_any pr fa fp ta tp m iq _ hm).mono ?_; rintro e w1 ⟨rfl, hb1⟩; obtain ⟨hc1, hf1⟩ := bcell' hb1; have hz1 : w.heap.size < w1.heap.size := below_lt' hb1)
      | (go_at_call 93; refine (hasSum_any pr fa fp ta tp m iq _).mono ?_; rintro e w2 ⟨rfl, hb2⟩; obtain ⟨hc2, hf2⟩ := bcell' hb2; have hz2 : w.heap.size < w2.heap.size := below_lt' hb2 hz1)
      | (go_at_call 94; refine (dsum_any pr fa fp ta tp m iq _ hm hp0 hp1 (by assumption) (by assumption) ht0 ht1).mono ?_; rintro e w3 ⟨rfl, hb3⟩))
  all_goals
    go_ret
    refine ⟨g_int ?_, ?_⟩
    · rw [HF.out]; clear HF
      (repeat' split) <;> first | rfl | (exfalso; simp_all; done) | (simp_all; done)
    · first
        | exact ((Below.refl _ _).alloc (Nat.le_refl _) _).trans ((hb1.mono (by simp)).trans ((hb2.mono (by omega)).trans (hb3.mono (by omega))))
        | exact ((Below.refl _ _).alloc (Nat.le_refl _) _).trans ((hb1.mono (by simp)).trans (hb2.mono (by omega)))
        | exact ((Below.refl _ _).alloc (Nat.le_refl _) _).trans (hb1.mono (by simp))
end Go.Proofs.YtfkjobiapjhacabGreat
