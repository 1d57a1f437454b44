/- Contracts of package gatewaykeep: echoes that come in. Own work. -/
import Derived.Test.YtfkjobiapjhacaaGreatKpV
import Derived.Test.YtfkjobiapjhacaaGreatKpF
namespace Go.Proofs.YtfkjobiapjhacaaGreat
open Go.RowKit
attribute [local go_sem ↓] Go.wp_at_zero Go.wp_at_succ

set_option maxRecDepth 100000 in
set_option maxHeartbeats 1000000 in
theorem echoNone_yes {w : World} {b : Nat} {v : Value} {s s' : BX} (h : BoxAt w b v s) (side kind src dst id what : Int) (hO : NoneOK b s side (echoP kind src dst id ⟨#[120]⟩) what s') :
    Calls Tryz.prog 29 #[.pointer (some ⟨b, 0, none⟩), .int .i64 side, .int .i64 kind, .int .i64 src, .int .i64 dst, .int .i64 id, .int .i64 what] w fun e w' => e = .returned (.bool true) ∧ ∃ v', BoxAt w' b v' s' ∧ Chg b v w w' v' := by
  have HU : Hid (∀ w, Calls Tryz.prog 39 #[.int .i64 kind, .int .i64 src, .int .i64 dst, .int .i64 id, .string ⟨#[120]⟩] w fun e w' => e = .returned (echoP kind src dst id ⟨#[120]⟩).val ∧ Below w.heap.size w w') := fun w => echo_any kind src dst id ⟨#[120]⟩ w (by decide)
  have HO : Hid (∀ w v, BoxAt w b v s → Calls Tryz.prog 35 #[.pointer (some ⟨b, 0, none⟩), .int .i64 side, (echoP kind src dst id ⟨#[120]⟩).val, .int .i64 what] w fun e w' => e = .returned (.bool true) ∧ ∃ v', BoxAt w' b v' s' ∧ Chg b v w w' v') := hO
  generalize echoP kind src dst id ⟨#[120]⟩ = p at HU HO
  have hpv : p.val = .agg #[.int .i64 p.id, .int .i64 p.fl, .int .i64 p.off, .int .i64 p.ttl, .int .i64 p.pr, .int .i64 p.src, .int .i64 p.dst, .string p.body] := rfl
  rw [hpv] at HU HO
  clear hpv hO
  have hM : Hid (GMid w w b v v s []) := GMid.start h
  clear h
  go_enter Tryz.func29, Tryz.ntmps29
  go_wp2_with (go_at_call 39; refine (HU.out _).mono ?_; rintro e w1 ⟨rfl, hb1⟩; have hM1 := hM.out.call hb1; clear hM hb1; have hM : Hid _ := hM1; clear hM1)
  refine (HO.out _ _ (hM.out.alloc' #[.int .i64 p.id, .int .i64 p.fl, .int .i64 p.off, .int .i64 p.ttl, .int .i64 p.pr, .int .i64 p.src, .int .i64 p.dst, .string p.body] 31 w1.heap.size rfl).box).mono ?_
  rintro e w2 ⟨rfl, v', hbx, hch⟩
  have hM1 := (hM.out.alloc' #[.int .i64 p.id, .int .i64 p.fl, .int .i64 p.off, .int .i64 p.ttl, .int .i64 p.pr, .int .i64 p.src, .int .i64 p.dst, .string p.body] 31 w1.heap.size rfl).change hbx hch
  clear hM hbx hch
  have hM : Hid _ := hM1
  clear hM1
  go_wp2_with fail
  go_ret
  exact ⟨rfl, v', hM.out.box, hM.out.chg⟩
end Go.Proofs.YtfkjobiapjhacaaGreat
