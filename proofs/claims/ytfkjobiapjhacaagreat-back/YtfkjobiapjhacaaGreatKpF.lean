/- Contracts of package gatewaykeep: a box; messages that come in. Own work. -/
import Derived.Test.YtfkjobiapjhacaaGreatKpE
namespace Go.Proofs.YtfkjobiapjhacaaGreat
open Go.RowKit
attribute [local go_sem ↓] Go.wp_at_zero Go.wp_at_succ

/-- A fresh box of n outer ports. -/
def box0 (n : Int) : BX := ⟨3405803781, 167772160, 8, 5000, 4999 + n, 400, 700, 0, [0, 0, 0, 0, 0, 0, 0, 0, 0, 0, 0, 0, 0, 0, 0, 0, 0, 0], [], []⟩
theorem box0_ok (n : Int) (h0 : 1 ≤ n) (h1 : n ≤ 12) : OKB (box0 n) :=
  ⟨(by decide : (0 : Int) ≤ 167772160), (by decide : (167772160 : Int) ≤ 4294967296), (by decide : (0 : Int) ≤ 3405803781), (by decide : (3405803781 : Int) ≤ 4294967295), (by decide : (0 : Int) ≤ 5000), (by show (5000 : Int) ≤ 4999 + n; omega), (by show 4999 + n ≤ 100000; omega), (by decide : (0 : Int) ≤ 0), (by decide : (0 : Int) ≤ 1000000000000000), (by decide : 0 ≤ 100), fun x hx => absurd hx (by simp [box0])⟩
theorem box0_valid (n : Int) (h0 : 1 ≤ n) (h1 : n ≤ 12) : validB 3405803781 167772160 8 5000 (4999 + n) 400 700 = true := by
  have e1 : validNetB 3405803781 167772160 8 = true := by decide
  have e2 : validPortsB 5000 (4999 + n) = true := by unfold validPortsB; exact decide_eq_true (by omega)
  have e3 : validQuotaB 400 700 = true := by decide
  unfold validB
  rw [e1, e2, e3]
  rfl
set_option maxRecDepth 100000 in
set_option maxHeartbeats 1000000 in
theorem box_any (n : Int) (w : World) (h0 : 1 ≤ n) (h1 : n ≤ 12) :
    Calls Tryz.prog 17 #[.int .i64 n] w fun e w' => ∃ b, e = .returned (.pointer (some ⟨b, 0, none⟩)) ∧ BoxAt w' b (.slice none 0 0) (box0 n) ∧ w.heap.size ≤ b ∧ Below w.heap.size w w' := by
  have e1 : wrap64 (5000 + n) = 5000 + n := g_wrap64 _ (by omega) (by omega)
  have e2 : wrap64 (5000 + n - 1) = 5000 + n - 1 := g_wrap64 _ (by omega) (by omega)
  have e3 : 4999 + n = 5000 + n - 1 := by omega
  have HN : Hid (∀ w, Calls Tryz.prog 32 #[.agg #[.int .i64 3405803781, .int .i64 167772160, .int .i64 8, .int .i64 5000, .int .i64 (5000 + n - 1), .int .i64 400, .int .i64 700]] w fun e w' => ∃ b, e = .returned (.tuple #[.pointer (some ⟨b, 0, none⟩), .int .i64 0]) ∧ BoxAt w' b (.slice none 0 0) (box0 n) ∧ w.heap.size ≤ b ∧ Below w.heap.size w w') := fun w => by
    rw [← e3]
    refine (New_ok 3405803781 167772160 8 5000 (4999 + n) 400 700 w (box0_valid n h0 h1)).mono ?_
    rintro e w' ⟨b, rfl, hlt, hlt2, hbk, hb⟩
    exact ⟨b, rfl, ⟨⟨_, hbk, WaitAt.nil _⟩, ⟨by simp [scells, box0], Or.inl ⟨rfl, rfl⟩⟩, by simp [Value.ownBlock], rfl⟩, by omega, hb⟩
  clear e3
  go_enter Tryz.func17, Tryz.ntmps17
  go_wp2_with fail
  refine (HN.out _).mono ?_
  rintro e w1 ⟨b, rfl, hbx, hle, hb⟩
  go_wp2
  go_ret
  exact ⟨b, rfl, hbx, hle, hb⟩

/-- What one(..) finds right. -/
structure OneOK (b : Nat) (s : BX) (side : Int) (p : PK) (to' : Int) (q : PK) (s' : BX) : Prop where
  run : ∀ w v, BoxAt w b v s → Calls Tryz.prog 34 #[.pointer (some ⟨b, 0, none⟩), .int .i64 side, p.val, .int .i64 to'] w fun e w' => e = .returned (.tuple #[q.val, .bool true]) ∧ ∃ v', BoxAt w' b v' s' ∧ Chg b v w w' v'
def NoneOK (b : Nat) (s : BX) (side : Int) (p : PK) (what : Int) (s' : BX) : Prop :=
  ∀ w v, BoxAt w b v s → Calls Tryz.prog 35 #[.pointer (some ⟨b, 0, none⟩), .int .i64 side, p.val, .int .i64 what] w fun e w' => e = .returned (.bool true) ∧ ∃ v', BoxAt w' b v' s' ∧ Chg b v w w' v'
set_option maxRecDepth 100000 in
set_option maxHeartbeats 1000000 in
theorem udpOne_yes {w : World} {b : Nat} {v : Value} {s s' : BX} (h : BoxAt w b v s) (side src fr dst to' : Int) (data : ByteArray) (out : Int) (q : PK) (hd : data.size ≤ 900) (hO : OneOK b s side (udpP src fr dst to' data) out q s') :
    Calls Tryz.prog 22 #[.pointer (some ⟨b, 0, none⟩), .int .i64 side, .int .i64 src, .int .i64 fr, .int .i64 dst, .int .i64 to', .string data, .int .i64 out] w fun e w' => e = .returned (.tuple #[q.val, .bool true]) ∧ ∃ v', BoxAt w' b v' s' ∧ Chg b v w w' v' := by
  have hM1 : GMid w (w.alloc (.cells #[.int .i64 0, .int .i64 0, .int .i64 0, .int .i64 0, .int .i64 0, .int .i64 0, .int .i64 0, .string ⟨#[]⟩] 31)) b v v s [(w.heap.size, #[.int .i64 0, .int .i64 0, .int .i64 0, .int .i64 0, .int .i64 0, .int .i64 0, .int .i64 0, .string ⟨#[]⟩], 31)] := (GMid.start h).alloc' _ _ _ rfl
  have HU : Hid (∀ w, Calls Tryz.prog 33 #[.int .i64 src, .int .i64 fr, .int .i64 dst, .int .i64 to', .string data] w fun e w' => e = .returned (udpP src fr dst to' data).val ∧ Below w.heap.size w w') := fun w => udp_any src fr dst to' data w hd
  have HO : Hid (∀ w v, BoxAt w b v s → Calls Tryz.prog 34 #[.pointer (some ⟨b, 0, none⟩), .int .i64 side, (udpP src fr dst to' data).val, .int .i64 out] w fun e w' => e = .returned (.tuple #[q.val, .bool true]) ∧ ∃ v', BoxAt w' b v' s' ∧ Chg b v w w' v') := hO.run
  generalize udpP src fr dst to' data = p at HU HO
  have hpv : p.val = .agg #[.int .i64 p.id, .int .i64 p.fl, .int .i64 p.off, .int .i64 p.ttl, .int .i64 p.pr, .int .i64 p.src, .int .i64 p.dst, .string p.body] := rfl
  have hqv : q.val = .agg #[.int .i64 q.id, .int .i64 q.fl, .int .i64 q.off, .int .i64 q.ttl, .int .i64 q.pr, .int .i64 q.src, .int .i64 q.dst, .string q.body] := rfl
  rw [hpv] at HU HO
  rw [hqv] at HO ⊢
  clear hpv hqv hO h
  obtain ⟨⟨r0, r1, r2, r3, r4, r5, r6, r7⟩, rf⟩ := c8 hM1.at0
  have hM : Hid _ := hM1
  clear hM1
  go_enter Tryz.func22, Tryz.ntmps22
  go_wp2_with (go_at_call 33; refine (HU.out _).mono ?_; rintro e w1 ⟨rfl, hb1⟩; have hM1 := hM.out.call hb1; clear hM hb1; clear r0 r1 r2 r3 r4 r5 r6 r7 rf; have hM : Hid _ := hM1; clear hM1)
  refine (HO.out _ _ (hM.out.alloc' #[.int .i64 p.id, .int .i64 p.fl, .int .i64 p.off, .int .i64 p.ttl, .int .i64 p.pr, .int .i64 p.src, .int .i64 p.dst, .string p.body] 31 w1.heap.size rfl).box).mono ?_
  rintro e w2 ⟨rfl, v', hbx, hch⟩
  have hM1 := (hM.out.alloc' #[.int .i64 p.id, .int .i64 p.fl, .int .i64 p.off, .int .i64 p.ttl, .int .i64 p.pr, .int .i64 p.src, .int .i64 p.dst, .string p.body] 31 w1.heap.size rfl).change hbx hch
  clear hM hbx hch
  obtain ⟨⟨r0, r1, r2, r3, r4, r5, r6, r7⟩, rf⟩ := c8 hM1.at1
  have hM : Hid _ := hM1
  clear hM1
  go_wp2_with fail
  refine bodyPost_ret (v := .tuple #[.agg #[.int .i64 q.id, .int .i64 q.fl, .int .i64 q.off, .int .i64 q.ttl, .int .i64 q.pr, .int .i64 q.src, .int .i64 q.dst, .string q.body], .bool true]) (by simp [results, Tryz.results22, go_sem, r0, r1, r2, r3, r4, r5, r6, r7]) rfl ⟨rfl, v', ?_⟩
  have hE := (((((((hM.out.set1 0 (.int .i64 q.id)).set1 1 (.int .i64 q.fl)).set1 2 (.int .i64 q.off)).set1 3 (.int .i64 q.ttl)).set1 4 (.int .i64 q.pr)).set1 5 (.int .i64 q.src)).set1 6 (.int .i64 q.dst)).set1 7 (.string q.body)
  exact ⟨hE.box, hE.chg⟩
set_option maxRecDepth 100000 in
set_option maxHeartbeats 1000000 in
theorem udpNone_yes {w : World} {b : Nat} {v : Value} {s s' : BX} (h : BoxAt w b v s) (side src fr dst to' what : Int) (hO : NoneOK b s side (udpP src fr dst to' ⟨#[120]⟩) what s') :
    Calls Tryz.prog 25 #[.pointer (some ⟨b, 0, none⟩), .int .i64 side, .int .i64 src, .int .i64 fr, .int .i64 dst, .int .i64 to', .int .i64 what] w fun e w' => e = .returned (.bool true) ∧ ∃ v', BoxAt w' b v' s' ∧ Chg b v w w' v' := by
  have HU : Hid (∀ w, Calls Tryz.prog 33 #[.int .i64 src, .int .i64 fr, .int .i64 dst, .int .i64 to', .string ⟨#[120]⟩] w fun e w' => e = .returned (udpP src fr dst to' ⟨#[120]⟩).val ∧ Below w.heap.size w w') := fun w => udp_any src fr dst to' ⟨#[120]⟩ w (by decide)
  have HO : Hid (∀ w v, BoxAt w b v s → Calls Tryz.prog 35 #[.pointer (some ⟨b, 0, none⟩), .int .i64 side, (udpP src fr dst to' ⟨#[120]⟩).val, .int .i64 what] w fun e w' => e = .returned (.bool true) ∧ ∃ v', BoxAt w' b v' s' ∧ Chg b v w w' v') := hO
  generalize udpP src fr dst to' ⟨#[120]⟩ = p at HU HO
  have hpv : p.val = .agg #[.int .i64 p.id, .int .i64 p.fl, .int .i64 p.off, .int .i64 p.ttl, .int .i64 p.pr, .int .i64 p.src, .int .i64 p.dst, .string p.body] := rfl
  rw [hpv] at HU HO
  clear hpv hO
  have hM : Hid (GMid w w b v v s []) := GMid.start h
  clear h
  go_enter Tryz.func25, Tryz.ntmps25
  go_wp2_with (go_at_call 33; refine (HU.out _).mono ?_; rintro e w1 ⟨rfl, hb1⟩; have hM1 := hM.out.call hb1; clear hM hb1; have hM : Hid _ := hM1; clear hM1)
  refine (HO.out _ _ (hM.out.alloc' #[.int .i64 p.id, .int .i64 p.fl, .int .i64 p.off, .int .i64 p.ttl, .int .i64 p.pr, .int .i64 p.src, .int .i64 p.dst, .string p.body] 31 w1.heap.size rfl).box).mono ?_
  rintro e w2 ⟨rfl, v', hbx, hch⟩
  have hM1 := (hM.out.alloc' #[.int .i64 p.id, .int .i64 p.fl, .int .i64 p.off, .int .i64 p.ttl, .int .i64 p.pr, .int .i64 p.src, .int .i64 p.dst, .string p.body] 31 w1.heap.size rfl).change hbx hch
  clear hM hbx hch
  have hM : Hid _ := hM1
  clear hM1
  go_wp2_with fail
  go_ret
  exact ⟨rfl, v', hM.out.box, hM.out.chg⟩
end Go.Proofs.YtfkjobiapjhacaaGreat
