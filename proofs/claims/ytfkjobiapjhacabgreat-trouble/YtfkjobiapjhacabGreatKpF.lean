/- Contracts of package gatewaykeep: a box; messages that come in. Own work. -/
import Derived.Test.YtfkjobiapjhacabGreatKpE
namespace Go.Proofs.YtfkjobiapjhacabGreat
open Go.RowKit
attribute [local go_sem ↓] Go.wp_at_zero Go.wp_at_succ

/-- A fresh box of n outer ports. -/
def box0 (n : Int) : BX := ⟨3405803781, 167772160, 8, 5000, 4999 + n, 400, 700, 0, [0, 0, 0, 0, 0, 0, 0, 0, 0, 0, 0, 0, 0, 0, 0, 0, 0, 0], [], []⟩
theorem box0_ok (n : Int) (h0 : 1 ≤ n) (h1 : n ≤ 12) : OKB (box0 n) :=
  ⟨(by decide : (0 : Int) ≤ 167772160), (by decide : (167772160 : Int) ≤ 4294967296), (by decide : (0 : Int) ≤ 3405803781), (by decide : (3405803781 : Int) ≤ 4294967295), (by decide : (0 : Int) ≤ 5000), (by show (5000 : Int) ≤ 4999 + n; omega), (by show 4999 + n ≤ 100000; omega), (by decide : (0 : Int) ≤ 0), (by decide : (0 : Int) ≤ 1000000000000000), (by decide : 0 ≤ 100), fun x hx => absurd hx (by simp [box0])⟩
theorem box0_valid (n : Int) (h0 : 1 ≤ n) (h1 : n ≤ 12) : validB 3405803781 167772160 8 5000 (4999 + n) 400 700 = true := by
  have e1 : validNetB 3405803781 167772160 8 = true := by decide
  have e2 : validPortsB 5000 (4999 + n) = true := by unfold validPortsB; exact decide_eq_true (by omega)
  have e3 : validQuotaB 400 700 = true := by decide
  unfold validB
  rw [e1, e2, e3]
  rfl
set_option maxRecDepth 100000 in
set_option maxHeartbeats 1000000 in
theorem box_any (n : Int) (w : World) (h0 : 1 ≤ n) (h1 : n ≤ 12) :
    Calls Tryz.prog 13 #[.int .i64 n] w fun e w' => ∃ b, e = .returned (.pointer (some ⟨b, 0, none⟩)) ∧ BoxAt w' b (.slice none 0 0) (box0 n) ∧ w.heap.size ≤ b ∧ Below w.heap.size w w' := by
  have e1 : wrap64 (5000 + n) = 5000 + n := g_wrap64 _ (by omega) (by omega)
  have e2 : wrap64 (5000 + n - 1) = 5000 + n - 1 := g_wrap64 _ (by omega) (by omega)
  have e3 : 4999 + n = 5000 + n - 1 := by omega
  have HN : Hid (∀ w, Calls Tryz.prog 34 #[.agg #[.int .i64 3405803781, .int .i64 167772160, .int .i64 8, .int .i64 5000, .int .i64 (5000 + n - 1), .int .i64 400, .int .i64 700]] w fun e w' => ∃ b, e = .returned (.tuple #[.pointer (some ⟨b, 0, none⟩), .int .i64 0]) ∧ BoxAt w' b (.slice none 0 0) (box0 n) ∧ w.heap.size ≤ b ∧ Below w.heap.size w w') := fun w => by
    rw [← e3]
    refine (New_ok 3405803781 167772160 8 5000 (4999 + n) 400 700 w (box0_valid n h0 h1)).mono ?_
    rintro e w' ⟨b, rfl, hlt, hlt2, hbk, hb⟩
    exact ⟨b, rfl, ⟨⟨_, hbk, WaitAt.nil _⟩, ⟨by simp [scells, box0], Or.inl ⟨rfl, rfl⟩⟩, by simp [Value.ownBlock], rfl⟩, by omega, hb⟩
  clear e3
  go_enter Tryz.func13, Tryz.ntmps13
  go_wp2_with fail
  refine (HN.out _).mono ?_
  rintro e w1 ⟨b, rfl, hbx, hle, hb⟩
  go_wp2
  go_ret
  exact ⟨b, rfl, hbx, hle, hb⟩

/-- What one(..) finds right. -/
structure OneOK (b : Nat) (s : BX) (side : Int) (p : PK) (to' : Int) (q : PK) (s' : BX) : Prop where
  run : ∀ w v, BoxAt w b v s → Calls Tryz.prog 24 #[.pointer (some ⟨b, 0, none⟩), .int .i64 side, p.val, .int .i64 to'] w fun e w' => e = .returned (.tuple #[q.val, .bool true]) ∧ ∃ v', BoxAt w' b v' s' ∧ Chg b v w w' v'
def NoneOK (b : Nat) (s : BX) (side : Int) (p : PK) (what : Int) (s' : BX) : Prop :=
  ∀ w v, BoxAt w b v s → Calls Tryz.prog 28 #[.pointer (some ⟨b, 0, none⟩), .int .i64 side, p.val, .int .i64 what] w fun e w' => e = .returned (.bool true) ∧ ∃ v', BoxAt w' b v' s' ∧ Chg b v w w' v'
end Go.Proofs.YtfkjobiapjhacabGreat
