/-
  No cell of these rows narrows 'for every input' (looked for: loops, veiled, ifaces, maps, wideKeys, modest, calm, conditions, laid).
  DERIVED. THE GIVEN ROWS OF THIS SEAT. 8 by the template 'for every input the law returns true; each argument reads behind the call as it read before'; 0 by the template 'total and deterministic' (their statements: YtpcpohbbmeonbabTotals.lean).
  GIVEN WITH THE SEED: the statements are not yours to turn. If you find one false, say at which input.
  Laid BY PROGRAM, IN A SANDBOX (cutbox-rows.mjs): the forced cells as the released guide's own fill.sh prints them over the translation 461d7f97544b52b8… (all of the seat's roots in one cut). By AI agents, Wed Nov 11 2026. No macro, syntax, notation, axiom, sorry.
-/
import Derived.Test.YtpcpohbbmeonbabChecked
import GoSem.Claim
import GoSem.ClaimJoined
import GoSem.ClaimMapViews
import Derived.JoinedTies
import Derived.KernelRfl
namespace Go.Proofs.Ytpcpohbbmeonbab
/- THE CELL 'sum', in the pinned program and in every row, IS THE sha256 OF THE DUMP (.gsa) THAT YtpcpohbbmeonbabProg.lean LOADS. Nothing in Lean hashes anything: it is a label: what it is worth is what the hold of that sum in a sandbox is worth. -/
noncomputable def Try.pinned : Pinned := { name := "ytpcpohbbmeonbab", sum := "461d7f97544b52b84b89697965951c3814780490291405b0a5a7797efa69e95b", checked := Try.checked }
namespace Rows
def none {H : Type} : Left H := { results := [], args := [] }

/-- 'forebaylaw21.StageGoes': WHATEVER THE INPUT: true; the input reads as it did. -/
def stageGoesSpec : ChangeSpec := { name := "stageGoes", fn := fun _ => fun
  | [d1, d2, d3] => { results := [.lit (.bool true)], args := [d1, d2, d3] }
  | _ => none }
def stageGoesRow : OpenClaim := { program := "ytpcpohbbmeonbab", sum := "461d7f97544b52b84b89697965951c3814780490291405b0a5a7797efa69e95b", func := "forebay/forebaylaw21.StageGoes", spec := "stageGoes", apart := false }
def StageGoesSaid : Prop := stageGoesRow.holds Try.pinned (OpenSpec.ofChange stageGoesSpec)

/-- ITS FALSE NEIGHBOUR: 'it returns false'. Refute it at one input. -/
def stageGoesWrong : ChangeSpec := { name := "stageGoes", fn := fun _ => fun
  | [d1, d2, d3] => { results := [.lit (.bool false)], args := [d1, d2, d3] }
  | _ => none }
def StageGoesWrongFalsely : Prop := stageGoesRow.holds Try.pinned (OpenSpec.ofChange stageGoesWrong)

/-- 'forebaylaw21.StageKnows': WHATEVER THE INPUT: true; the input reads as it did. -/
def stageKnowsSpec : ChangeSpec := { name := "stageKnows", fn := fun _ => fun
  | [d1, d2] => { results := [.lit (.bool true)], args := [d1, d2] }
  | _ => none }
def stageKnowsRow : OpenClaim := { program := "ytpcpohbbmeonbab", sum := "461d7f97544b52b84b89697965951c3814780490291405b0a5a7797efa69e95b", func := "forebay/forebaylaw21.StageKnows", spec := "stageKnows", apart := false }
def StageKnowsSaid : Prop := stageKnowsRow.holds Try.pinned (OpenSpec.ofChange stageKnowsSpec)

/-- ITS FALSE NEIGHBOUR: 'it returns false'. Refute it at one input. -/
def stageKnowsWrong : ChangeSpec := { name := "stageKnows", fn := fun _ => fun
  | [d1, d2] => { results := [.lit (.bool false)], args := [d1, d2] }
  | _ => none }
def StageKnowsWrongFalsely : Prop := stageKnowsRow.holds Try.pinned (OpenSpec.ofChange stageKnowsWrong)

/-- 'forebaylaw21.StageRows': WHATEVER THE INPUT: true; the input reads as it did. -/
def stageRowsSpec : ChangeSpec := { name := "stageRows", fn := fun _ => fun
  | [d1, d2, d3] => { results := [.lit (.bool true)], args := [d1, d2, d3] }
  | _ => none }
def stageRowsRow : OpenClaim := { program := "ytpcpohbbmeonbab", sum := "461d7f97544b52b84b89697965951c3814780490291405b0a5a7797efa69e95b", func := "forebay/forebaylaw21.StageRows", spec := "stageRows", apart := false }
def StageRowsSaid : Prop := stageRowsRow.holds Try.pinned (OpenSpec.ofChange stageRowsSpec)

/-- ITS FALSE NEIGHBOUR: 'it returns false'. Refute it at one input. -/
def stageRowsWrong : ChangeSpec := { name := "stageRows", fn := fun _ => fun
  | [d1, d2, d3] => { results := [.lit (.bool false)], args := [d1, d2, d3] }
  | _ => none }
def StageRowsWrongFalsely : Prop := stageRowsRow.holds Try.pinned (OpenSpec.ofChange stageRowsWrong)

/-- 'forebaylaw22.SinkDoes': WHATEVER THE INPUT: true; the input reads as it did. -/
def sinkDoesSpec : ChangeSpec := { name := "sinkDoes", fn := fun _ => fun
  | [d1, d2] => { results := [.lit (.bool true)], args := [d1, d2] }
  | _ => none }
def sinkDoesRow : OpenClaim := { program := "ytpcpohbbmeonbab", sum := "461d7f97544b52b84b89697965951c3814780490291405b0a5a7797efa69e95b", func := "forebay/forebaylaw22.SinkDoes", spec := "sinkDoes", apart := false }
def SinkDoesSaid : Prop := sinkDoesRow.holds Try.pinned (OpenSpec.ofChange sinkDoesSpec)

/-- ITS FALSE NEIGHBOUR: 'it returns false'. Refute it at one input. -/
def sinkDoesWrong : ChangeSpec := { name := "sinkDoes", fn := fun _ => fun
  | [d1, d2] => { results := [.lit (.bool false)], args := [d1, d2] }
  | _ => none }
def SinkDoesWrongFalsely : Prop := sinkDoesRow.holds Try.pinned (OpenSpec.ofChange sinkDoesWrong)

/-- 'forebaylaw22.SinkDiffers': WHATEVER THE INPUT: true; the input reads as it did. -/
def sinkDiffersSpec : ChangeSpec := { name := "sinkDiffers", fn := fun _ => fun
  | [d1, d2] => { results := [.lit (.bool true)], args := [d1, d2] }
  | _ => none }
def sinkDiffersRow : OpenClaim := { program := "ytpcpohbbmeonbab", sum := "461d7f97544b52b84b89697965951c3814780490291405b0a5a7797efa69e95b", func := "forebay/forebaylaw22.SinkDiffers", spec := "sinkDiffers", apart := false }
def SinkDiffersSaid : Prop := sinkDiffersRow.holds Try.pinned (OpenSpec.ofChange sinkDiffersSpec)

/-- ITS FALSE NEIGHBOUR: 'it returns false'. Refute it at one input. -/
def sinkDiffersWrong : ChangeSpec := { name := "sinkDiffers", fn := fun _ => fun
  | [d1, d2] => { results := [.lit (.bool false)], args := [d1, d2] }
  | _ => none }
def SinkDiffersWrongFalsely : Prop := sinkDiffersRow.holds Try.pinned (OpenSpec.ofChange sinkDiffersWrong)

/-- 'forebaylaw22.SinkOrder': WHATEVER THE INPUT: true; the input reads as it did. -/
def sinkOrderSpec : ChangeSpec := { name := "sinkOrder", fn := fun _ => fun
  | [d1, d2, d3] => { results := [.lit (.bool true)], args := [d1, d2, d3] }
  | _ => none }
def sinkOrderRow : OpenClaim := { program := "ytpcpohbbmeonbab", sum := "461d7f97544b52b84b89697965951c3814780490291405b0a5a7797efa69e95b", func := "forebay/forebaylaw22.SinkOrder", spec := "sinkOrder", apart := false }
def SinkOrderSaid : Prop := sinkOrderRow.holds Try.pinned (OpenSpec.ofChange sinkOrderSpec)

/-- ITS FALSE NEIGHBOUR: 'it returns false'. Refute it at one input. -/
def sinkOrderWrong : ChangeSpec := { name := "sinkOrder", fn := fun _ => fun
  | [d1, d2, d3] => { results := [.lit (.bool false)], args := [d1, d2, d3] }
  | _ => none }
def SinkOrderWrongFalsely : Prop := sinkOrderRow.holds Try.pinned (OpenSpec.ofChange sinkOrderWrong)

/-- 'forebaylaw35.BoundNumbers': WHATEVER THE INPUT: true; the input reads as it did. -/
def boundNumbersSpec : ChangeSpec := { name := "boundNumbers", fn := fun _ => fun
  | [d1, d2, d3, d4, d5, d6] => { results := [.lit (.bool true)], args := [d1, d2, d3, d4, d5, d6] }
  | _ => none }
def boundNumbersRow : OpenClaim := { program := "ytpcpohbbmeonbab", sum := "461d7f97544b52b84b89697965951c3814780490291405b0a5a7797efa69e95b", func := "forebay/forebaylaw35.BoundNumbers", spec := "boundNumbers", apart := false }
def BoundNumbersSaid : Prop := boundNumbersRow.holds Try.pinned (OpenSpec.ofChange boundNumbersSpec)

/-- ITS FALSE NEIGHBOUR: 'it returns false'. Refute it at one input. -/
def boundNumbersWrong : ChangeSpec := { name := "boundNumbers", fn := fun _ => fun
  | [d1, d2, d3, d4, d5, d6] => { results := [.lit (.bool false)], args := [d1, d2, d3, d4, d5, d6] }
  | _ => none }
def BoundNumbersWrongFalsely : Prop := boundNumbersRow.holds Try.pinned (OpenSpec.ofChange boundNumbersWrong)

/-- 'forebaylaw35.BoundMore': WHATEVER THE INPUT: true; the input reads as it did. -/
def boundMoreSpec : ChangeSpec := { name := "boundMore", fn := fun _ => fun
  | [d1, d2, d3] => { results := [.lit (.bool true)], args := [d1, d2, d3] }
  | _ => none }
def boundMoreRow : OpenClaim := { program := "ytpcpohbbmeonbab", sum := "461d7f97544b52b84b89697965951c3814780490291405b0a5a7797efa69e95b", func := "forebay/forebaylaw35.BoundMore", spec := "boundMore", apart := false }
def BoundMoreSaid : Prop := boundMoreRow.holds Try.pinned (OpenSpec.ofChange boundMoreSpec)

/-- ITS FALSE NEIGHBOUR: 'it returns false'. Refute it at one input. -/
def boundMoreWrong : ChangeSpec := { name := "boundMore", fn := fun _ => fun
  | [d1, d2, d3] => { results := [.lit (.bool false)], args := [d1, d2, d3] }
  | _ => none }
def BoundMoreWrongFalsely : Prop := boundMoreRow.holds Try.pinned (OpenSpec.ofChange boundMoreWrong)

/- THE SECOND FORM. 'bulk': how many values and letters a reading holds, each counted each time it is reached (what is shared counts as often as it is met; a slice's spare places count too). A statement '..UptoSaid' is the law's where the arguments, and the package variables that the reading takes, are together of bulk at most 1048576: NARROWER than '..Said'. Prove '..Said' where nothing that the law and all that it calls make is longer than what came in: it says more and counts as full. Else prove '..UptoSaid'. A law counts once. -/
mutual
def uptoBulk {H : Type} : DataW H → Nat
  | .lit (.string bytes) => bytes.length + 1
  | .lit _ => 1
  | .nil => 1
  | .ptr d => uptoBulk d + 1
  | .slice elems spare => uptoBulkAll elems + uptoBulkAll spare + 1
  | .agg parts => uptoBulkAll parts + 1
  | .iface _ d => uptoBulk d + 1
  | .map entries => uptoBulkEntries entries + 1
  | .held _ => 1
def uptoBulkAll {H : Type} : List (DataW H) → Nat
  | [] => 0
  | d :: r => uptoBulk d + uptoBulkAll r
def uptoBulkEntries {H : Type} : List (Lit × DataW H) → Nat
  | [] => 0
  | x :: r => uptoBulkEntry x + uptoBulkEntries r
def uptoBulkEntry {H : Type} : Lit × DataW H → Nat
  | (.string bytes, d) => bytes.length + uptoBulk d + 1
  | (_, d) => uptoBulk d + 1
 end
def uptoSmall : (H : Type) → List (DataW H) → Bool := fun _ ds => decide (uptoBulkAll ds ≤ 1048576)
def OpenSpec.upto (s : _root_.Go.ChangeSpec) : _root_.Go.OpenSpec := { _root_.Go.OpenSpec.ofChange s with cond := some uptoSmall }

/-- 'forebaylaw21.StageGoes', WHERE WHAT IT READS IS OF BULK AT MOST 1048576: true; the input reads as it did. -/
def stageGoesUptoRow : OpenClaim := { program := "ytpcpohbbmeonbab", sum := "461d7f97544b52b84b89697965951c3814780490291405b0a5a7797efa69e95b", func := "forebay/forebaylaw21.StageGoes", spec := "stageGoes", apart := false, narrowed := true }
def StageGoesUptoSaid : Prop := stageGoesUptoRow.holds Try.pinned (OpenSpec.upto stageGoesSpec)

/-- 'forebaylaw21.StageKnows', WHERE WHAT IT READS IS OF BULK AT MOST 1048576: true; the input reads as it did. -/
def stageKnowsUptoRow : OpenClaim := { program := "ytpcpohbbmeonbab", sum := "461d7f97544b52b84b89697965951c3814780490291405b0a5a7797efa69e95b", func := "forebay/forebaylaw21.StageKnows", spec := "stageKnows", apart := false, narrowed := true }
def StageKnowsUptoSaid : Prop := stageKnowsUptoRow.holds Try.pinned (OpenSpec.upto stageKnowsSpec)

/-- 'forebaylaw21.StageRows', WHERE WHAT IT READS IS OF BULK AT MOST 1048576: true; the input reads as it did. -/
def stageRowsUptoRow : OpenClaim := { program := "ytpcpohbbmeonbab", sum := "461d7f97544b52b84b89697965951c3814780490291405b0a5a7797efa69e95b", func := "forebay/forebaylaw21.StageRows", spec := "stageRows", apart := false, narrowed := true }
def StageRowsUptoSaid : Prop := stageRowsUptoRow.holds Try.pinned (OpenSpec.upto stageRowsSpec)

/-- 'forebaylaw22.SinkDoes', WHERE WHAT IT READS IS OF BULK AT MOST 1048576: true; the input reads as it did. -/
def sinkDoesUptoRow : OpenClaim := { program := "ytpcpohbbmeonbab", sum := "461d7f97544b52b84b89697965951c3814780490291405b0a5a7797efa69e95b", func := "forebay/forebaylaw22.SinkDoes", spec := "sinkDoes", apart := false, narrowed := true }
def SinkDoesUptoSaid : Prop := sinkDoesUptoRow.holds Try.pinned (OpenSpec.upto sinkDoesSpec)

/-- 'forebaylaw22.SinkDiffers', WHERE WHAT IT READS IS OF BULK AT MOST 1048576: true; the input reads as it did. -/
def sinkDiffersUptoRow : OpenClaim := { program := "ytpcpohbbmeonbab", sum := "461d7f97544b52b84b89697965951c3814780490291405b0a5a7797efa69e95b", func := "forebay/forebaylaw22.SinkDiffers", spec := "sinkDiffers", apart := false, narrowed := true }
def SinkDiffersUptoSaid : Prop := sinkDiffersUptoRow.holds Try.pinned (OpenSpec.upto sinkDiffersSpec)

/-- 'forebaylaw22.SinkOrder', WHERE WHAT IT READS IS OF BULK AT MOST 1048576: true; the input reads as it did. -/
def sinkOrderUptoRow : OpenClaim := { program := "ytpcpohbbmeonbab", sum := "461d7f97544b52b84b89697965951c3814780490291405b0a5a7797efa69e95b", func := "forebay/forebaylaw22.SinkOrder", spec := "sinkOrder", apart := false, narrowed := true }
def SinkOrderUptoSaid : Prop := sinkOrderUptoRow.holds Try.pinned (OpenSpec.upto sinkOrderSpec)

/-- 'forebaylaw35.BoundNumbers', WHERE WHAT IT READS IS OF BULK AT MOST 1048576: true; the input reads as it did. -/
def boundNumbersUptoRow : OpenClaim := { program := "ytpcpohbbmeonbab", sum := "461d7f97544b52b84b89697965951c3814780490291405b0a5a7797efa69e95b", func := "forebay/forebaylaw35.BoundNumbers", spec := "boundNumbers", apart := false, narrowed := true }
def BoundNumbersUptoSaid : Prop := boundNumbersUptoRow.holds Try.pinned (OpenSpec.upto boundNumbersSpec)

/-- 'forebaylaw35.BoundMore', WHERE WHAT IT READS IS OF BULK AT MOST 1048576: true; the input reads as it did. -/
def boundMoreUptoRow : OpenClaim := { program := "ytpcpohbbmeonbab", sum := "461d7f97544b52b84b89697965951c3814780490291405b0a5a7797efa69e95b", func := "forebay/forebaylaw35.BoundMore", spec := "boundMore", apart := false, narrowed := true }
def BoundMoreUptoSaid : Prop := boundMoreUptoRow.holds Try.pinned (OpenSpec.upto boundMoreSpec)

end Rows
end Go.Proofs.Ytpcpohbbmeonbab
