/-
  No cell of these rows narrows 'for every input' (looked for: loops, veiled, ifaces, maps, wideKeys, modest, calm, conditions, laid).
  DERIVED. THE GIVEN ROWS OF THIS SEAT. 5 by the template 'for every input the law returns true; each argument reads behind the call as it read before'; 0 by the template 'total and deterministic' (their statements: YtfkjobiapjhacabGreatTotals.lean).
  GIVEN WITH THE SEED: the statements are not yours to turn. If you find one false, say at which input.
  Laid BY PROGRAM, IN A SANDBOX (cutbox-rows.mjs): the forced cells as the released guide's own fill.sh prints them over the translation 6869fc1d3f685a89… (all of the seat's roots in one cut). By AI agents, Wed Nov 11 2026. No macro, syntax, notation, axiom, sorry.
-/
import Derived.Test.YtfkjobiapjhacabGreatChecked
import GoSem.Claim
import GoSem.ClaimJoined
import GoSem.ClaimMapViews
import Derived.JoinedTies
import Derived.KernelRfl
namespace Go.Proofs.YtfkjobiapjhacabGreat
/- THE CELL 'sum', in the pinned program and in every row, IS THE sha256 OF THE DUMP (.gsa) THAT YtfkjobiapjhacabGreatProg.lean LOADS. Nothing in Lean hashes anything: it is a label: what it is worth is what the hold of that sum in a sandbox is worth. -/
noncomputable def Tryz.pinned : Pinned := { name := "ytfkjobiapjhacabgreat", sum := "6869fc1d3f685a891b8a99dda983a4e00b290354eb461b7cd75f16f2cc3ff4c2", checked := Tryz.checked }
namespace Rows
def none {H : Type} : Left H := { results := [], args := [] }

/-- 'gatewaykeep.Trouble': WHATEVER THE INPUT: true; the input reads as it did. -/
def troubleSpec : ChangeSpec := { name := "trouble", fn := fun _ => fun
  | [d1, d2, d3] => { results := [.lit (.bool true)], args := [d1, d2, d3] }
  | _ => none }
def troubleRow : OpenClaim := { program := "ytfkjobiapjhacabgreat", sum := "6869fc1d3f685a891b8a99dda983a4e00b290354eb461b7cd75f16f2cc3ff4c2", func := "gateway/gatewaykeep.Trouble", spec := "trouble", apart := false }
def TroubleSaid : Prop := troubleRow.holds Tryz.pinned (OpenSpec.ofChange troubleSpec)

/-- ITS FALSE NEIGHBOUR: 'it returns false'. Refute it at one input. -/
def troubleWrong : ChangeSpec := { name := "trouble", fn := fun _ => fun
  | [d1, d2, d3] => { results := [.lit (.bool false)], args := [d1, d2, d3] }
  | _ => none }
def TroubleWrongFalsely : Prop := troubleRow.holds Tryz.pinned (OpenSpec.ofChange troubleWrong)

/-- 'gatewaykeep.Cut': WHATEVER THE INPUT: true; the input reads as it did. -/
def cutSpec : ChangeSpec := { name := "cut", fn := fun _ => fun
  | [d1, d2, d3] => { results := [.lit (.bool true)], args := [d1, d2, d3] }
  | _ => none }
def cutRow : OpenClaim := { program := "ytfkjobiapjhacabgreat", sum := "6869fc1d3f685a891b8a99dda983a4e00b290354eb461b7cd75f16f2cc3ff4c2", func := "gateway/gatewaykeep.Cut", spec := "cut", apart := false }
def CutSaid : Prop := cutRow.holds Tryz.pinned (OpenSpec.ofChange cutSpec)

/-- ITS FALSE NEIGHBOUR: 'it returns false'. Refute it at one input. -/
def cutWrong : ChangeSpec := { name := "cut", fn := fun _ => fun
  | [d1, d2, d3] => { results := [.lit (.bool false)], args := [d1, d2, d3] }
  | _ => none }
def CutWrongFalsely : Prop := cutRow.holds Tryz.pinned (OpenSpec.ofChange cutWrong)

/-- 'gatewaykeep.Poison': WHATEVER THE INPUT: true; the input reads as it did. -/
def poisonSpec : ChangeSpec := { name := "poison", fn := fun _ => fun
  | [d] => { results := [.lit (.bool true)], args := [d] }
  | _ => none }
def poisonRow : OpenClaim := { program := "ytfkjobiapjhacabgreat", sum := "6869fc1d3f685a891b8a99dda983a4e00b290354eb461b7cd75f16f2cc3ff4c2", func := "gateway/gatewaykeep.Poison", spec := "poison", apart := false }
def PoisonSaid : Prop := poisonRow.holds Tryz.pinned (OpenSpec.ofChange poisonSpec)

/-- ITS FALSE NEIGHBOUR: 'it returns false'. Refute it at one input. -/
def poisonWrong : ChangeSpec := { name := "poison", fn := fun _ => fun
  | [d] => { results := [.lit (.bool false)], args := [d] }
  | _ => none }
def PoisonWrongFalsely : Prop := poisonRow.holds Tryz.pinned (OpenSpec.ofChange poisonWrong)

/-- 'gatewaykeep.Quota': WHATEVER THE INPUT: true; the input reads as it did. -/
def quotaSpec : ChangeSpec := { name := "quota", fn := fun _ => fun
  | [d] => { results := [.lit (.bool true)], args := [d] }
  | _ => none }
def quotaRow : OpenClaim := { program := "ytfkjobiapjhacabgreat", sum := "6869fc1d3f685a891b8a99dda983a4e00b290354eb461b7cd75f16f2cc3ff4c2", func := "gateway/gatewaykeep.Quota", spec := "quota", apart := false }
def QuotaSaid : Prop := quotaRow.holds Tryz.pinned (OpenSpec.ofChange quotaSpec)

/-- ITS FALSE NEIGHBOUR: 'it returns false'. Refute it at one input. -/
def quotaWrong : ChangeSpec := { name := "quota", fn := fun _ => fun
  | [d] => { results := [.lit (.bool false)], args := [d] }
  | _ => none }
def QuotaWrongFalsely : Prop := quotaRow.holds Tryz.pinned (OpenSpec.ofChange quotaWrong)

/-- 'gatewaykeep.Anything': WHATEVER THE INPUT: true; the input reads as it did. -/
def anythingSpec : ChangeSpec := { name := "anything", fn := fun _ => fun
  | [d1, d2, d3, d4] => { results := [.lit (.bool true)], args := [d1, d2, d3, d4] }
  | _ => none }
def anythingRow : OpenClaim := { program := "ytfkjobiapjhacabgreat", sum := "6869fc1d3f685a891b8a99dda983a4e00b290354eb461b7cd75f16f2cc3ff4c2", func := "gateway/gatewaykeep.Anything", spec := "anything", apart := false }
def AnythingSaid : Prop := anythingRow.holds Tryz.pinned (OpenSpec.ofChange anythingSpec)

/-- ITS FALSE NEIGHBOUR: 'it returns false'. Refute it at one input. -/
def anythingWrong : ChangeSpec := { name := "anything", fn := fun _ => fun
  | [d1, d2, d3, d4] => { results := [.lit (.bool false)], args := [d1, d2, d3, d4] }
  | _ => none }
def AnythingWrongFalsely : Prop := anythingRow.holds Tryz.pinned (OpenSpec.ofChange anythingWrong)

/- THE SECOND FORM. 'bulk': how many values and letters a reading holds, each counted each time it is reached (what is shared counts as often as it is met; a slice's spare places count too). A statement '..UptoSaid' is the law's where the arguments, and the package variables that the reading takes, are together of bulk at most 1048576: NARROWER than '..Said'. Prove '..Said' where nothing that the law and all that it calls make is longer than what came in: it says more and counts as full. Else prove '..UptoSaid'. A law counts once. -/
mutual
def uptoBulk {H : Type} : DataW H → Nat
  | .lit (.string bytes) => bytes.length + 1
  | .lit _ => 1
  | .nil => 1
  | .ptr d => uptoBulk d + 1
  | .slice elems spare => uptoBulkAll elems + uptoBulkAll spare + 1
  | .agg parts => uptoBulkAll parts + 1
  | .iface _ d => uptoBulk d + 1
  | .map entries => uptoBulkEntries entries + 1
  | .held _ => 1
def uptoBulkAll {H : Type} : List (DataW H) → Nat
  | [] => 0
  | d :: r => uptoBulk d + uptoBulkAll r
def uptoBulkEntries {H : Type} : List (Lit × DataW H) → Nat
  | [] => 0
  | x :: r => uptoBulkEntry x + uptoBulkEntries r
def uptoBulkEntry {H : Type} : Lit × DataW H → Nat
  | (.string bytes, d) => bytes.length + uptoBulk d + 1
  | (_, d) => uptoBulk d + 1
 end
def uptoSmall : (H : Type) → List (DataW H) → Bool := fun _ ds => decide (uptoBulkAll ds ≤ 1048576)
def OpenSpec.upto (s : _root_.Go.ChangeSpec) : _root_.Go.OpenSpec := { _root_.Go.OpenSpec.ofChange s with cond := some uptoSmall }

/-- 'gatewaykeep.Trouble', WHERE WHAT IT READS IS OF BULK AT MOST 1048576: true; the input reads as it did. -/
def troubleUptoRow : OpenClaim := { program := "ytfkjobiapjhacabgreat", sum := "6869fc1d3f685a891b8a99dda983a4e00b290354eb461b7cd75f16f2cc3ff4c2", func := "gateway/gatewaykeep.Trouble", spec := "trouble", apart := false, narrowed := true }
def TroubleUptoSaid : Prop := troubleUptoRow.holds Tryz.pinned (OpenSpec.upto troubleSpec)

/-- 'gatewaykeep.Cut', WHERE WHAT IT READS IS OF BULK AT MOST 1048576: true; the input reads as it did. -/
def cutUptoRow : OpenClaim := { program := "ytfkjobiapjhacabgreat", sum := "6869fc1d3f685a891b8a99dda983a4e00b290354eb461b7cd75f16f2cc3ff4c2", func := "gateway/gatewaykeep.Cut", spec := "cut", apart := false, narrowed := true }
def CutUptoSaid : Prop := cutUptoRow.holds Tryz.pinned (OpenSpec.upto cutSpec)

/-- 'gatewaykeep.Poison', WHERE WHAT IT READS IS OF BULK AT MOST 1048576: true; the input reads as it did. -/
def poisonUptoRow : OpenClaim := { program := "ytfkjobiapjhacabgreat", sum := "6869fc1d3f685a891b8a99dda983a4e00b290354eb461b7cd75f16f2cc3ff4c2", func := "gateway/gatewaykeep.Poison", spec := "poison", apart := false, narrowed := true }
def PoisonUptoSaid : Prop := poisonUptoRow.holds Tryz.pinned (OpenSpec.upto poisonSpec)

/-- 'gatewaykeep.Quota', WHERE WHAT IT READS IS OF BULK AT MOST 1048576: true; the input reads as it did. -/
def quotaUptoRow : OpenClaim := { program := "ytfkjobiapjhacabgreat", sum := "6869fc1d3f685a891b8a99dda983a4e00b290354eb461b7cd75f16f2cc3ff4c2", func := "gateway/gatewaykeep.Quota", spec := "quota", apart := false, narrowed := true }
def QuotaUptoSaid : Prop := quotaUptoRow.holds Tryz.pinned (OpenSpec.upto quotaSpec)

/-- 'gatewaykeep.Anything', WHERE WHAT IT READS IS OF BULK AT MOST 1048576: true; the input reads as it did. -/
def anythingUptoRow : OpenClaim := { program := "ytfkjobiapjhacabgreat", sum := "6869fc1d3f685a891b8a99dda983a4e00b290354eb461b7cd75f16f2cc3ff4c2", func := "gateway/gatewaykeep.Anything", spec := "anything", apart := false, narrowed := true }
def AnythingUptoSaid : Prop := anythingUptoRow.holds Tryz.pinned (OpenSpec.upto anythingSpec)

end Rows
end Go.Proofs.YtfkjobiapjhacabGreat
