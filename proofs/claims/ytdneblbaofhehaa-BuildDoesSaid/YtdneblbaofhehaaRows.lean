/-
  No cell of these rows narrows 'for every input' (looked for: loops, veiled, ifaces, maps, wideKeys, modest, calm, conditions, laid).
  DERIVED. THE GIVEN ROWS OF THIS SEAT. 3 by the template 'for every input the law returns true; each argument reads behind the call as it read before'; 0 by the template 'total and deterministic' (their statements: YtdneblbaofhehaaTotals.lean).
  GIVEN WITH THE SEED: the statements are not yours to turn. If you find one false, say at which input.
  Laid BY PROGRAM, IN A SANDBOX (cutbox-rows.mjs): the forced cells as the released guide's own fill.sh prints them over the translation 2f95e40709dc240c… (all of the seat's roots in one cut). By AI agents, Wed Nov 11 2026. No macro, syntax, notation, axiom, sorry.
-/
import Derived.Test.YtdneblbaofhehaaChecked
import GoSem.Claim
import GoSem.ClaimJoined
import GoSem.ClaimMapViews
import Derived.JoinedTies
import Derived.KernelRfl
namespace Go.Proofs.Ytdneblbaofhehaa
/- THE CELL 'sum', in the pinned program and in every row, IS THE sha256 OF THE DUMP (.gsa) THAT YtdneblbaofhehaaProg.lean LOADS. Nothing in Lean hashes anything: it is a label: what it is worth is what the hold of that sum in a sandbox is worth. -/
noncomputable def Try.pinned : Pinned := { name := "ytdneblbaofhehaa", sum := "2f95e40709dc240ca3f38d2f5fa24acb4d9f2cae0f5720f1dafad43c46f71af3", checked := Try.checked }
namespace Rows
def none {H : Type} : Left H := { results := [], args := [] }

/-- 'forebaylaw07.BuildDoes': WHATEVER THE INPUT: true; the input reads as it did. -/
def buildDoesSpec : ChangeSpec := { name := "buildDoes", fn := fun _ => fun
  | [d1, d2] => { results := [.lit (.bool true)], args := [d1, d2] }
  | _ => none }
def buildDoesRow : OpenClaim := { program := "ytdneblbaofhehaa", sum := "2f95e40709dc240ca3f38d2f5fa24acb4d9f2cae0f5720f1dafad43c46f71af3", func := "forebay/forebaylaw07.BuildDoes", spec := "buildDoes", apart := false }
def BuildDoesSaid : Prop := buildDoesRow.holds Try.pinned (OpenSpec.ofChange buildDoesSpec)

/-- ITS FALSE NEIGHBOUR: 'it returns false'. Refute it at one input. -/
def buildDoesWrong : ChangeSpec := { name := "buildDoes", fn := fun _ => fun
  | [d1, d2] => { results := [.lit (.bool false)], args := [d1, d2] }
  | _ => none }
def BuildDoesWrongFalsely : Prop := buildDoesRow.holds Try.pinned (OpenSpec.ofChange buildDoesWrong)

/-- 'forebaylaw07.BuildJumps': WHATEVER THE INPUT: true; the input reads as it did. -/
def buildJumpsSpec : ChangeSpec := { name := "buildJumps", fn := fun _ => fun
  | [d1, d2, d3] => { results := [.lit (.bool true)], args := [d1, d2, d3] }
  | _ => none }
def buildJumpsRow : OpenClaim := { program := "ytdneblbaofhehaa", sum := "2f95e40709dc240ca3f38d2f5fa24acb4d9f2cae0f5720f1dafad43c46f71af3", func := "forebay/forebaylaw07.BuildJumps", spec := "buildJumps", apart := false }
def BuildJumpsSaid : Prop := buildJumpsRow.holds Try.pinned (OpenSpec.ofChange buildJumpsSpec)

/-- ITS FALSE NEIGHBOUR: 'it returns false'. Refute it at one input. -/
def buildJumpsWrong : ChangeSpec := { name := "buildJumps", fn := fun _ => fun
  | [d1, d2, d3] => { results := [.lit (.bool false)], args := [d1, d2, d3] }
  | _ => none }
def BuildJumpsWrongFalsely : Prop := buildJumpsRow.holds Try.pinned (OpenSpec.ofChange buildJumpsWrong)

/-- 'forebaylaw07.BuildApart': WHATEVER THE INPUT: true; the input reads as it did. -/
def buildApartSpec : ChangeSpec := { name := "buildApart", fn := fun _ => fun
  | [d] => { results := [.lit (.bool true)], args := [d] }
  | _ => none }
def buildApartRow : OpenClaim := { program := "ytdneblbaofhehaa", sum := "2f95e40709dc240ca3f38d2f5fa24acb4d9f2cae0f5720f1dafad43c46f71af3", func := "forebay/forebaylaw07.BuildApart", spec := "buildApart", apart := false }
def BuildApartSaid : Prop := buildApartRow.holds Try.pinned (OpenSpec.ofChange buildApartSpec)

/-- ITS FALSE NEIGHBOUR: 'it returns false'. Refute it at one input. -/
def buildApartWrong : ChangeSpec := { name := "buildApart", fn := fun _ => fun
  | [d] => { results := [.lit (.bool false)], args := [d] }
  | _ => none }
def BuildApartWrongFalsely : Prop := buildApartRow.holds Try.pinned (OpenSpec.ofChange buildApartWrong)

/- THE SECOND FORM. 'bulk': how many values and letters a reading holds, each counted each time it is reached (what is shared counts as often as it is met; a slice's spare places count too). A statement '..UptoSaid' is the law's where the arguments, and the package variables that the reading takes, are together of bulk at most 1048576: NARROWER than '..Said'. Prove '..Said' where nothing that the law and all that it calls make is longer than what came in: it says more and counts as full. Else prove '..UptoSaid'. A law counts once. -/
mutual
def uptoBulk {H : Type} : DataW H → Nat
  | .lit (.string bytes) => bytes.length + 1
  | .lit _ => 1
  | .nil => 1
  | .ptr d => uptoBulk d + 1
  | .slice elems spare => uptoBulkAll elems + uptoBulkAll spare + 1
  | .agg parts => uptoBulkAll parts + 1
  | .iface _ d => uptoBulk d + 1
  | .map entries => uptoBulkEntries entries + 1
  | .held _ => 1
def uptoBulkAll {H : Type} : List (DataW H) → Nat
  | [] => 0
  | d :: r => uptoBulk d + uptoBulkAll r
def uptoBulkEntries {H : Type} : List (Lit × DataW H) → Nat
  | [] => 0
  | x :: r => uptoBulkEntry x + uptoBulkEntries r
def uptoBulkEntry {H : Type} : Lit × DataW H → Nat
  | (.string bytes, d) => bytes.length + uptoBulk d + 1
  | (_, d) => uptoBulk d + 1
 end
def uptoSmall : (H : Type) → List (DataW H) → Bool := fun _ ds => decide (uptoBulkAll ds ≤ 1048576)
def OpenSpec.upto (s : _root_.Go.ChangeSpec) : _root_.Go.OpenSpec := { _root_.Go.OpenSpec.ofChange s with cond := some uptoSmall }

/-- 'forebaylaw07.BuildDoes', WHERE WHAT IT READS IS OF BULK AT MOST 1048576: true; the input reads as it did. -/
def buildDoesUptoRow : OpenClaim := { program := "ytdneblbaofhehaa", sum := "2f95e40709dc240ca3f38d2f5fa24acb4d9f2cae0f5720f1dafad43c46f71af3", func := "forebay/forebaylaw07.BuildDoes", spec := "buildDoes", apart := false, narrowed := true }
def BuildDoesUptoSaid : Prop := buildDoesUptoRow.holds Try.pinned (OpenSpec.upto buildDoesSpec)

/-- 'forebaylaw07.BuildJumps', WHERE WHAT IT READS IS OF BULK AT MOST 1048576: true; the input reads as it did. -/
def buildJumpsUptoRow : OpenClaim := { program := "ytdneblbaofhehaa", sum := "2f95e40709dc240ca3f38d2f5fa24acb4d9f2cae0f5720f1dafad43c46f71af3", func := "forebay/forebaylaw07.BuildJumps", spec := "buildJumps", apart := false, narrowed := true }
def BuildJumpsUptoSaid : Prop := buildJumpsUptoRow.holds Try.pinned (OpenSpec.upto buildJumpsSpec)

/-- 'forebaylaw07.BuildApart', WHERE WHAT IT READS IS OF BULK AT MOST 1048576: true; the input reads as it did. -/
def buildApartUptoRow : OpenClaim := { program := "ytdneblbaofhehaa", sum := "2f95e40709dc240ca3f38d2f5fa24acb4d9f2cae0f5720f1dafad43c46f71af3", func := "forebay/forebaylaw07.BuildApart", spec := "buildApart", apart := false, narrowed := true }
def BuildApartUptoSaid : Prop := buildApartUptoRow.holds Try.pinned (OpenSpec.upto buildApartSpec)

end Rows
end Go.Proofs.Ytdneblbaofhehaa
