/-
  No cell of these rows narrows 'for every input' (looked for: loops, veiled, ifaces, maps, wideKeys, modest, calm, conditions, laid).
  DERIVED. THE GIVEN ROWS OF THIS SEAT. 3 by the template 'for every input the law returns true; each argument reads behind the call as it read before'; 0 by the template 'total and deterministic' (their statements: YtgbaaemocnjaoaaTotals.lean).
  GIVEN WITH THE SEED: the statements are not yours to turn. If you find one false, say at which input.
  Laid BY PROGRAM, IN A SANDBOX (cutbox-rows.mjs): the forced cells as the released guide's own fill.sh prints them over the translation 0c671b84620aefb5… (all of the seat's roots in one cut). By AI agents, Wed Nov 11 2026. No macro, syntax, notation, axiom, sorry.
-/
import Derived.Test.YtgbaaemocnjaoaaChecked
import GoSem.Claim
import GoSem.ClaimJoined
import GoSem.ClaimMapViews
import Derived.JoinedTies
import Derived.KernelRfl
namespace Go.Proofs.Ytgbaaemocnjaoaa
/- THE CELL 'sum', in the pinned program and in every row, IS THE sha256 OF THE DUMP (.gsa) THAT YtgbaaemocnjaoaaProg.lean LOADS. Nothing in Lean hashes anything: it is a label: what it is worth is what the hold of that sum in a sandbox is worth. -/
noncomputable def Try.pinned : Pinned := { name := "ytgbaaemocnjaoaa", sum := "0c671b84620aefb5843ad2525c02c21cb66f0a6d5cabd24ca2f7e4829afafe58", checked := Try.checked }
namespace Rows
def none {H : Type} : Left H := { results := [], args := [] }

/-- 'forebaylaw30.StrandBuilds': WHATEVER THE INPUT: true; the input reads as it did. -/
def strandBuildsSpec : ChangeSpec := { name := "strandBuilds", fn := fun _ => fun
  | [d] => { results := [.lit (.bool true)], args := [d] }
  | _ => none }
def strandBuildsRow : OpenClaim := { program := "ytgbaaemocnjaoaa", sum := "0c671b84620aefb5843ad2525c02c21cb66f0a6d5cabd24ca2f7e4829afafe58", func := "forebay/forebaylaw30.StrandBuilds", spec := "strandBuilds", recurses := true, apart := false }
def StrandBuildsSaid : Prop := strandBuildsRow.holds Try.pinned (OpenSpec.ofChange strandBuildsSpec)

/-- ITS FALSE NEIGHBOUR: 'it returns false'. Refute it at one input. -/
def strandBuildsWrong : ChangeSpec := { name := "strandBuilds", fn := fun _ => fun
  | [d] => { results := [.lit (.bool false)], args := [d] }
  | _ => none }
def StrandBuildsWrongFalsely : Prop := strandBuildsRow.holds Try.pinned (OpenSpec.ofChange strandBuildsWrong)

/-- 'forebaylaw30.StrandAhead': WHATEVER THE INPUT: true; the input reads as it did. -/
def strandAheadSpec : ChangeSpec := { name := "strandAhead", fn := fun _ => fun
  | [d] => { results := [.lit (.bool true)], args := [d] }
  | _ => none }
def strandAheadRow : OpenClaim := { program := "ytgbaaemocnjaoaa", sum := "0c671b84620aefb5843ad2525c02c21cb66f0a6d5cabd24ca2f7e4829afafe58", func := "forebay/forebaylaw30.StrandAhead", spec := "strandAhead", apart := false }
def StrandAheadSaid : Prop := strandAheadRow.holds Try.pinned (OpenSpec.ofChange strandAheadSpec)

/-- ITS FALSE NEIGHBOUR: 'it returns false'. Refute it at one input. -/
def strandAheadWrong : ChangeSpec := { name := "strandAhead", fn := fun _ => fun
  | [d] => { results := [.lit (.bool false)], args := [d] }
  | _ => none }
def StrandAheadWrongFalsely : Prop := strandAheadRow.holds Try.pinned (OpenSpec.ofChange strandAheadWrong)

/-- 'forebaylaw30.StrandMany': WHATEVER THE INPUT: true; the input reads as it did. -/
def strandManySpec : ChangeSpec := { name := "strandMany", fn := fun _ => fun
  | [d] => { results := [.lit (.bool true)], args := [d] }
  | _ => none }
def strandManyRow : OpenClaim := { program := "ytgbaaemocnjaoaa", sum := "0c671b84620aefb5843ad2525c02c21cb66f0a6d5cabd24ca2f7e4829afafe58", func := "forebay/forebaylaw30.StrandMany", spec := "strandMany", apart := false }
def StrandManySaid : Prop := strandManyRow.holds Try.pinned (OpenSpec.ofChange strandManySpec)

/-- ITS FALSE NEIGHBOUR: 'it returns false'. Refute it at one input. -/
def strandManyWrong : ChangeSpec := { name := "strandMany", fn := fun _ => fun
  | [d] => { results := [.lit (.bool false)], args := [d] }
  | _ => none }
def StrandManyWrongFalsely : Prop := strandManyRow.holds Try.pinned (OpenSpec.ofChange strandManyWrong)

/- THE SECOND FORM. 'bulk': how many values and letters a reading holds, each counted each time it is reached (what is shared counts as often as it is met; a slice's spare places count too). A statement '..UptoSaid' is the law's where the arguments, and the package variables that the reading takes, are together of bulk at most 1048576: NARROWER than '..Said'. Prove '..Said' where nothing that the law and all that it calls make is longer than what came in: it says more and counts as full. Else prove '..UptoSaid'. A law counts once. -/
mutual
def uptoBulk {H : Type} : DataW H → Nat
  | .lit (.string bytes) => bytes.length + 1
  | .lit _ => 1
  | .nil => 1
  | .ptr d => uptoBulk d + 1
  | .slice elems spare => uptoBulkAll elems + uptoBulkAll spare + 1
  | .agg parts => uptoBulkAll parts + 1
  | .iface _ d => uptoBulk d + 1
  | .map entries => uptoBulkEntries entries + 1
  | .held _ => 1
def uptoBulkAll {H : Type} : List (DataW H) → Nat
  | [] => 0
  | d :: r => uptoBulk d + uptoBulkAll r
def uptoBulkEntries {H : Type} : List (Lit × DataW H) → Nat
  | [] => 0
  | x :: r => uptoBulkEntry x + uptoBulkEntries r
def uptoBulkEntry {H : Type} : Lit × DataW H → Nat
  | (.string bytes, d) => bytes.length + uptoBulk d + 1
  | (_, d) => uptoBulk d + 1
 end
def uptoSmall : (H : Type) → List (DataW H) → Bool := fun _ ds => decide (uptoBulkAll ds ≤ 1048576)
def OpenSpec.upto (s : _root_.Go.ChangeSpec) : _root_.Go.OpenSpec := { _root_.Go.OpenSpec.ofChange s with cond := some uptoSmall }

/-- 'forebaylaw30.StrandBuilds', WHERE WHAT IT READS IS OF BULK AT MOST 1048576: true; the input reads as it did. -/
def strandBuildsUptoRow : OpenClaim := { program := "ytgbaaemocnjaoaa", sum := "0c671b84620aefb5843ad2525c02c21cb66f0a6d5cabd24ca2f7e4829afafe58", func := "forebay/forebaylaw30.StrandBuilds", spec := "strandBuilds", recurses := true, apart := false, narrowed := true }
def StrandBuildsUptoSaid : Prop := strandBuildsUptoRow.holds Try.pinned (OpenSpec.upto strandBuildsSpec)

/-- 'forebaylaw30.StrandAhead', WHERE WHAT IT READS IS OF BULK AT MOST 1048576: true; the input reads as it did. -/
def strandAheadUptoRow : OpenClaim := { program := "ytgbaaemocnjaoaa", sum := "0c671b84620aefb5843ad2525c02c21cb66f0a6d5cabd24ca2f7e4829afafe58", func := "forebay/forebaylaw30.StrandAhead", spec := "strandAhead", apart := false, narrowed := true }
def StrandAheadUptoSaid : Prop := strandAheadUptoRow.holds Try.pinned (OpenSpec.upto strandAheadSpec)

/-- 'forebaylaw30.StrandMany', WHERE WHAT IT READS IS OF BULK AT MOST 1048576: true; the input reads as it did. -/
def strandManyUptoRow : OpenClaim := { program := "ytgbaaemocnjaoaa", sum := "0c671b84620aefb5843ad2525c02c21cb66f0a6d5cabd24ca2f7e4829afafe58", func := "forebay/forebaylaw30.StrandMany", spec := "strandMany", apart := false, narrowed := true }
def StrandManyUptoSaid : Prop := strandManyUptoRow.holds Try.pinned (OpenSpec.upto strandManySpec)

end Rows
end Go.Proofs.Ytgbaaemocnjaoaa
