/-
  No cell of these rows narrows 'for every input' (looked for: loops, veiled, ifaces, maps, wideKeys, modest, calm, conditions, laid).
  DERIVED. THE GIVEN ROWS OF THIS SEAT. 7 by the template 'for every input the law returns true; each argument reads behind the call as it read before'; 0 by the template 'total and deterministic' (their statements: YtfkjobiapjhacaaGreatTotals.lean).
  GIVEN WITH THE SEED: the statements are not yours to turn. If you find one false, say at which input.
  Laid BY PROGRAM, IN A SANDBOX (cutbox-rows.mjs): the forced cells as the released guide's own fill.sh prints them over the translation 80caafb49a7c1343… (all of the seat's roots in one cut). By AI agents, Wed Nov 11 2026. No macro, syntax, notation, axiom, sorry.
-/
import Derived.Test.YtfkjobiapjhacaaGreatChecked
import GoSem.Claim
import GoSem.ClaimJoined
import GoSem.ClaimMapViews
import Derived.JoinedTies
import Derived.KernelRfl
namespace Go.Proofs.YtfkjobiapjhacaaGreat
/- THE CELL 'sum', in the pinned program and in every row, IS THE sha256 OF THE DUMP (.gsa) THAT YtfkjobiapjhacaaGreatProg.lean LOADS. Nothing in Lean hashes anything: it is a label: what it is worth is what the hold of that sum in a sandbox is worth. -/
noncomputable def Tryz.pinned : Pinned := { name := "ytfkjobiapjhacaagreat", sum := "80caafb49a7c1343b6b9e701673a6f4524cfe461c57c36c7778aa49e36451fef", checked := Tryz.checked }
namespace Rows
def none {H : Type} : Left H := { results := [], args := [] }

/-- 'gatewaykeep.Back': WHATEVER THE INPUT: true; the input reads as it did. -/
def backSpec : ChangeSpec := { name := "back", fn := fun _ => fun
  | [d1, d2, d3] => { results := [.lit (.bool true)], args := [d1, d2, d3] }
  | _ => none }
def backRow : OpenClaim := { program := "ytfkjobiapjhacaagreat", sum := "80caafb49a7c1343b6b9e701673a6f4524cfe461c57c36c7778aa49e36451fef", func := "gateway/gatewaykeep.Back", spec := "back", apart := false }
def BackSaid : Prop := backRow.holds Tryz.pinned (OpenSpec.ofChange backSpec)

/-- ITS FALSE NEIGHBOUR: 'it returns false'. Refute it at one input. -/
def backWrong : ChangeSpec := { name := "back", fn := fun _ => fun
  | [d1, d2, d3] => { results := [.lit (.bool false)], args := [d1, d2, d3] }
  | _ => none }
def BackWrongFalsely : Prop := backRow.holds Tryz.pinned (OpenSpec.ofChange backWrong)

/-- 'gatewaykeep.Apart': WHATEVER THE INPUT: true; the input reads as it did. -/
def apartSpec : ChangeSpec := { name := "apart", fn := fun _ => fun
  | [d] => { results := [.lit (.bool true)], args := [d] }
  | _ => none }
def apartRow : OpenClaim := { program := "ytfkjobiapjhacaagreat", sum := "80caafb49a7c1343b6b9e701673a6f4524cfe461c57c36c7778aa49e36451fef", func := "gateway/gatewaykeep.Apart", spec := "apart", apart := false }
def ApartSaid : Prop := apartRow.holds Tryz.pinned (OpenSpec.ofChange apartSpec)

/-- ITS FALSE NEIGHBOUR: 'it returns false'. Refute it at one input. -/
def apartWrong : ChangeSpec := { name := "apart", fn := fun _ => fun
  | [d] => { results := [.lit (.bool false)], args := [d] }
  | _ => none }
def ApartWrongFalsely : Prop := apartRow.holds Tryz.pinned (OpenSpec.ofChange apartWrong)

/-- 'gatewaykeep.Talk': WHATEVER THE INPUT: true; the input reads as it did. -/
def talkSpec : ChangeSpec := { name := "talk", fn := fun _ => fun
  | [d1, d2] => { results := [.lit (.bool true)], args := [d1, d2] }
  | _ => none }
def talkRow : OpenClaim := { program := "ytfkjobiapjhacaagreat", sum := "80caafb49a7c1343b6b9e701673a6f4524cfe461c57c36c7778aa49e36451fef", func := "gateway/gatewaykeep.Talk", spec := "talk", apart := false }
def TalkSaid : Prop := talkRow.holds Tryz.pinned (OpenSpec.ofChange talkSpec)

/-- ITS FALSE NEIGHBOUR: 'it returns false'. Refute it at one input. -/
def talkWrong : ChangeSpec := { name := "talk", fn := fun _ => fun
  | [d1, d2] => { results := [.lit (.bool false)], args := [d1, d2] }
  | _ => none }
def TalkWrongFalsely : Prop := talkRow.holds Tryz.pinned (OpenSpec.ofChange talkWrong)

/-- 'gatewaykeep.Turned': WHATEVER THE INPUT: true; the input reads as it did. -/
def turnedSpec : ChangeSpec := { name := "turned", fn := fun _ => fun
  | [d1, d2] => { results := [.lit (.bool true)], args := [d1, d2] }
  | _ => none }
def turnedRow : OpenClaim := { program := "ytfkjobiapjhacaagreat", sum := "80caafb49a7c1343b6b9e701673a6f4524cfe461c57c36c7778aa49e36451fef", func := "gateway/gatewaykeep.Turned", spec := "turned", apart := false }
def TurnedSaid : Prop := turnedRow.holds Tryz.pinned (OpenSpec.ofChange turnedSpec)

/-- ITS FALSE NEIGHBOUR: 'it returns false'. Refute it at one input. -/
def turnedWrong : ChangeSpec := { name := "turned", fn := fun _ => fun
  | [d1, d2] => { results := [.lit (.bool false)], args := [d1, d2] }
  | _ => none }
def TurnedWrongFalsely : Prop := turnedRow.holds Tryz.pinned (OpenSpec.ofChange turnedWrong)

/-- 'gatewaykeep.Rest': WHATEVER THE INPUT: true; the input reads as it did. -/
def restSpec : ChangeSpec := { name := "rest", fn := fun _ => fun
  | [d] => { results := [.lit (.bool true)], args := [d] }
  | _ => none }
def restRow : OpenClaim := { program := "ytfkjobiapjhacaagreat", sum := "80caafb49a7c1343b6b9e701673a6f4524cfe461c57c36c7778aa49e36451fef", func := "gateway/gatewaykeep.Rest", spec := "rest", apart := false }
def RestSaid : Prop := restRow.holds Tryz.pinned (OpenSpec.ofChange restSpec)

/-- ITS FALSE NEIGHBOUR: 'it returns false'. Refute it at one input. -/
def restWrong : ChangeSpec := { name := "rest", fn := fun _ => fun
  | [d] => { results := [.lit (.bool false)], args := [d] }
  | _ => none }
def RestWrongFalsely : Prop := restRow.holds Tryz.pinned (OpenSpec.ofChange restWrong)

/-- 'gatewaykeep.Unasked': WHATEVER THE INPUT: true; the input reads as it did. -/
def unaskedSpec : ChangeSpec := { name := "unasked", fn := fun _ => fun
  | [d1, d2, d3] => { results := [.lit (.bool true)], args := [d1, d2, d3] }
  | _ => none }
def unaskedRow : OpenClaim := { program := "ytfkjobiapjhacaagreat", sum := "80caafb49a7c1343b6b9e701673a6f4524cfe461c57c36c7778aa49e36451fef", func := "gateway/gatewaykeep.Unasked", spec := "unasked", apart := false }
def UnaskedSaid : Prop := unaskedRow.holds Tryz.pinned (OpenSpec.ofChange unaskedSpec)

/-- ITS FALSE NEIGHBOUR: 'it returns false'. Refute it at one input. -/
def unaskedWrong : ChangeSpec := { name := "unasked", fn := fun _ => fun
  | [d1, d2, d3] => { results := [.lit (.bool false)], args := [d1, d2, d3] }
  | _ => none }
def UnaskedWrongFalsely : Prop := unaskedRow.holds Tryz.pinned (OpenSpec.ofChange unaskedWrong)

/-- 'gatewaykeep.Echo': WHATEVER THE INPUT: true; the input reads as it did. -/
def echoSpec : ChangeSpec := { name := "echo", fn := fun _ => fun
  | [d1, d2, d3] => { results := [.lit (.bool true)], args := [d1, d2, d3] }
  | _ => none }
def echoRow : OpenClaim := { program := "ytfkjobiapjhacaagreat", sum := "80caafb49a7c1343b6b9e701673a6f4524cfe461c57c36c7778aa49e36451fef", func := "gateway/gatewaykeep.Echo", spec := "echo", apart := false }
def EchoSaid : Prop := echoRow.holds Tryz.pinned (OpenSpec.ofChange echoSpec)

/-- ITS FALSE NEIGHBOUR: 'it returns false'. Refute it at one input. -/
def echoWrong : ChangeSpec := { name := "echo", fn := fun _ => fun
  | [d1, d2, d3] => { results := [.lit (.bool false)], args := [d1, d2, d3] }
  | _ => none }
def EchoWrongFalsely : Prop := echoRow.holds Tryz.pinned (OpenSpec.ofChange echoWrong)

/- THE SECOND FORM. 'bulk': how many values and letters a reading holds, each counted each time it is reached (what is shared counts as often as it is met; a slice's spare places count too). A statement '..UptoSaid' is the law's where the arguments, and the package variables that the reading takes, are together of bulk at most 1048576: NARROWER than '..Said'. Prove '..Said' where nothing that the law and all that it calls make is longer than what came in: it says more and counts as full. Else prove '..UptoSaid'. A law counts once. -/
mutual
def uptoBulk {H : Type} : DataW H → Nat
  | .lit (.string bytes) => bytes.length + 1
  | .lit _ => 1
  | .nil => 1
  | .ptr d => uptoBulk d + 1
  | .slice elems spare => uptoBulkAll elems + uptoBulkAll spare + 1
  | .agg parts => uptoBulkAll parts + 1
  | .iface _ d => uptoBulk d + 1
  | .map entries => uptoBulkEntries entries + 1
  | .held _ => 1
def uptoBulkAll {H : Type} : List (DataW H) → Nat
  | [] => 0
  | d :: r => uptoBulk d + uptoBulkAll r
def uptoBulkEntries {H : Type} : List (Lit × DataW H) → Nat
  | [] => 0
  | x :: r => uptoBulkEntry x + uptoBulkEntries r
def uptoBulkEntry {H : Type} : Lit × DataW H → Nat
  | (.string bytes, d) => bytes.length + uptoBulk d + 1
  | (_, d) => uptoBulk d + 1
 end
def uptoSmall : (H : Type) → List (DataW H) → Bool := fun _ ds => decide (uptoBulkAll ds ≤ 1048576)
def OpenSpec.upto (s : _root_.Go.ChangeSpec) : _root_.Go.OpenSpec := { _root_.Go.OpenSpec.ofChange s with cond := some uptoSmall }

/-- 'gatewaykeep.Back', WHERE WHAT IT READS IS OF BULK AT MOST 1048576: true; the input reads as it did. -/
def backUptoRow : OpenClaim := { program := "ytfkjobiapjhacaagreat", sum := "80caafb49a7c1343b6b9e701673a6f4524cfe461c57c36c7778aa49e36451fef", func := "gateway/gatewaykeep.Back", spec := "back", apart := false, narrowed := true }
def BackUptoSaid : Prop := backUptoRow.holds Tryz.pinned (OpenSpec.upto backSpec)

/-- 'gatewaykeep.Apart', WHERE WHAT IT READS IS OF BULK AT MOST 1048576: true; the input reads as it did. -/
def apartUptoRow : OpenClaim := { program := "ytfkjobiapjhacaagreat", sum := "80caafb49a7c1343b6b9e701673a6f4524cfe461c57c36c7778aa49e36451fef", func := "gateway/gatewaykeep.Apart", spec := "apart", apart := false, narrowed := true }
def ApartUptoSaid : Prop := apartUptoRow.holds Tryz.pinned (OpenSpec.upto apartSpec)

/-- 'gatewaykeep.Talk', WHERE WHAT IT READS IS OF BULK AT MOST 1048576: true; the input reads as it did. -/
def talkUptoRow : OpenClaim := { program := "ytfkjobiapjhacaagreat", sum := "80caafb49a7c1343b6b9e701673a6f4524cfe461c57c36c7778aa49e36451fef", func := "gateway/gatewaykeep.Talk", spec := "talk", apart := false, narrowed := true }
def TalkUptoSaid : Prop := talkUptoRow.holds Tryz.pinned (OpenSpec.upto talkSpec)

/-- 'gatewaykeep.Turned', WHERE WHAT IT READS IS OF BULK AT MOST 1048576: true; the input reads as it did. -/
def turnedUptoRow : OpenClaim := { program := "ytfkjobiapjhacaagreat", sum := "80caafb49a7c1343b6b9e701673a6f4524cfe461c57c36c7778aa49e36451fef", func := "gateway/gatewaykeep.Turned", spec := "turned", apart := false, narrowed := true }
def TurnedUptoSaid : Prop := turnedUptoRow.holds Tryz.pinned (OpenSpec.upto turnedSpec)

/-- 'gatewaykeep.Rest', WHERE WHAT IT READS IS OF BULK AT MOST 1048576: true; the input reads as it did. -/
def restUptoRow : OpenClaim := { program := "ytfkjobiapjhacaagreat", sum := "80caafb49a7c1343b6b9e701673a6f4524cfe461c57c36c7778aa49e36451fef", func := "gateway/gatewaykeep.Rest", spec := "rest", apart := false, narrowed := true }
def RestUptoSaid : Prop := restUptoRow.holds Tryz.pinned (OpenSpec.upto restSpec)

/-- 'gatewaykeep.Unasked', WHERE WHAT IT READS IS OF BULK AT MOST 1048576: true; the input reads as it did. -/
def unaskedUptoRow : OpenClaim := { program := "ytfkjobiapjhacaagreat", sum := "80caafb49a7c1343b6b9e701673a6f4524cfe461c57c36c7778aa49e36451fef", func := "gateway/gatewaykeep.Unasked", spec := "unasked", apart := false, narrowed := true }
def UnaskedUptoSaid : Prop := unaskedUptoRow.holds Tryz.pinned (OpenSpec.upto unaskedSpec)

/-- 'gatewaykeep.Echo', WHERE WHAT IT READS IS OF BULK AT MOST 1048576: true; the input reads as it did. -/
def echoUptoRow : OpenClaim := { program := "ytfkjobiapjhacaagreat", sum := "80caafb49a7c1343b6b9e701673a6f4524cfe461c57c36c7778aa49e36451fef", func := "gateway/gatewaykeep.Echo", spec := "echo", apart := false, narrowed := true }
def EchoUptoSaid : Prop := echoUptoRow.holds Tryz.pinned (OpenSpec.upto echoSpec)

end Rows
end Go.Proofs.YtfkjobiapjhacaaGreat
