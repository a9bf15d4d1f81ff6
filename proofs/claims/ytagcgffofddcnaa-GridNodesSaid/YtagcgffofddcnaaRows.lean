/-
  No cell of these rows narrows 'for every input' (looked for: loops, veiled, ifaces, maps, wideKeys, modest, calm, conditions, laid).
  DERIVED. THE GIVEN ROWS OF THIS SEAT. 5 by the template 'for every input the law returns true; each argument reads behind the call as it read before'; 0 by the template 'total and deterministic' (their statements: YtagcgffofddcnaaTotals.lean).
  GIVEN WITH THE SEED: the statements are not yours to turn. If you find one false, say at which input.
  Laid BY PROGRAM, IN A SANDBOX (cutbox-rows.mjs): the forced cells as the released guide's own fill.sh prints them over the translation b7aee380eb34b33f… (all of the seat's roots in one cut). By AI agents, Wed Nov 11 2026. No macro, syntax, notation, axiom, sorry.
-/
import Derived.Test.YtagcgffofddcnaaChecked
import GoSem.Claim
import GoSem.ClaimJoined
import GoSem.ClaimMapViews
import Derived.JoinedTies
import Derived.KernelRfl
namespace Go.Proofs.Ytagcgffofddcnaa
/- THE CELL 'sum', in the pinned program and in every row, IS THE sha256 OF THE DUMP (.gsa) THAT YtagcgffofddcnaaProg.lean LOADS. Nothing in Lean hashes anything: it is a label: what it is worth is what the hold of that sum in a sandbox is worth. -/
noncomputable def Try.pinned : Pinned := { name := "ytagcgffofddcnaa", sum := "b7aee380eb34b33f6e800829c2ab5f24bc6c3f1da14a662fc2a0dee98ced0f39", checked := Try.checked }
namespace Rows
def none {H : Type} : Left H := { results := [], args := [] }

/-- 'forebaylaw33.GridNodes': WHATEVER THE INPUT: true; the input reads as it did. -/
def gridNodesSpec : ChangeSpec := { name := "gridNodes", fn := fun _ => fun
  | [d1, d2, d3, d4] => { results := [.lit (.bool true)], args := [d1, d2, d3, d4] }
  | _ => none }
def gridNodesRow : OpenClaim := { program := "ytagcgffofddcnaa", sum := "b7aee380eb34b33f6e800829c2ab5f24bc6c3f1da14a662fc2a0dee98ced0f39", func := "forebay/forebaylaw33.GridNodes", spec := "gridNodes", apart := false }
def GridNodesSaid : Prop := gridNodesRow.holds Try.pinned (OpenSpec.ofChange gridNodesSpec)

/-- ITS FALSE NEIGHBOUR: 'it returns false'. Refute it at one input. -/
def gridNodesWrong : ChangeSpec := { name := "gridNodes", fn := fun _ => fun
  | [d1, d2, d3, d4] => { results := [.lit (.bool false)], args := [d1, d2, d3, d4] }
  | _ => none }
def GridNodesWrongFalsely : Prop := gridNodesRow.holds Try.pinned (OpenSpec.ofChange gridNodesWrong)

/-- 'forebaylaw33.GridEdges': WHATEVER THE INPUT: true; the input reads as it did. -/
def gridEdgesSpec : ChangeSpec := { name := "gridEdges", fn := fun _ => fun
  | [d] => { results := [.lit (.bool true)], args := [d] }
  | _ => none }
def gridEdgesRow : OpenClaim := { program := "ytagcgffofddcnaa", sum := "b7aee380eb34b33f6e800829c2ab5f24bc6c3f1da14a662fc2a0dee98ced0f39", func := "forebay/forebaylaw33.GridEdges", spec := "gridEdges", apart := false }
def GridEdgesSaid : Prop := gridEdgesRow.holds Try.pinned (OpenSpec.ofChange gridEdgesSpec)

/-- ITS FALSE NEIGHBOUR: 'it returns false'. Refute it at one input. -/
def gridEdgesWrong : ChangeSpec := { name := "gridEdges", fn := fun _ => fun
  | [d] => { results := [.lit (.bool false)], args := [d] }
  | _ => none }
def GridEdgesWrongFalsely : Prop := gridEdgesRow.holds Try.pinned (OpenSpec.ofChange gridEdgesWrong)

/-- 'forebaylaw33.GridBefore': WHATEVER THE INPUT: true; the input reads as it did. -/
def gridBeforeSpec : ChangeSpec := { name := "gridBefore", fn := fun _ => fun
  | [d1, d2, d3] => { results := [.lit (.bool true)], args := [d1, d2, d3] }
  | _ => none }
def gridBeforeRow : OpenClaim := { program := "ytagcgffofddcnaa", sum := "b7aee380eb34b33f6e800829c2ab5f24bc6c3f1da14a662fc2a0dee98ced0f39", func := "forebay/forebaylaw33.GridBefore", spec := "gridBefore", recurses := true, apart := false }
def GridBeforeSaid : Prop := gridBeforeRow.holds Try.pinned (OpenSpec.ofChange gridBeforeSpec)

/-- ITS FALSE NEIGHBOUR: 'it returns false'. Refute it at one input. -/
def gridBeforeWrong : ChangeSpec := { name := "gridBefore", fn := fun _ => fun
  | [d1, d2, d3] => { results := [.lit (.bool false)], args := [d1, d2, d3] }
  | _ => none }
def GridBeforeWrongFalsely : Prop := gridBeforeRow.holds Try.pinned (OpenSpec.ofChange gridBeforeWrong)

/-- 'forebaylaw33.GridForth': WHATEVER THE INPUT: true; the input reads as it did. -/
def gridForthSpec : ChangeSpec := { name := "gridForth", fn := fun _ => fun
  | [d] => { results := [.lit (.bool true)], args := [d] }
  | _ => none }
def gridForthRow : OpenClaim := { program := "ytagcgffofddcnaa", sum := "b7aee380eb34b33f6e800829c2ab5f24bc6c3f1da14a662fc2a0dee98ced0f39", func := "forebay/forebaylaw33.GridForth", spec := "gridForth", apart := false }
def GridForthSaid : Prop := gridForthRow.holds Try.pinned (OpenSpec.ofChange gridForthSpec)

/-- ITS FALSE NEIGHBOUR: 'it returns false'. Refute it at one input. -/
def gridForthWrong : ChangeSpec := { name := "gridForth", fn := fun _ => fun
  | [d] => { results := [.lit (.bool false)], args := [d] }
  | _ => none }
def GridForthWrongFalsely : Prop := gridForthRow.holds Try.pinned (OpenSpec.ofChange gridForthWrong)

/-- 'forebaylaw33.GridStrands': WHATEVER THE INPUT: true; the input reads as it did. -/
def gridStrandsSpec : ChangeSpec := { name := "gridStrands", fn := fun _ => fun
  | [d] => { results := [.lit (.bool true)], args := [d] }
  | _ => none }
def gridStrandsRow : OpenClaim := { program := "ytagcgffofddcnaa", sum := "b7aee380eb34b33f6e800829c2ab5f24bc6c3f1da14a662fc2a0dee98ced0f39", func := "forebay/forebaylaw33.GridStrands", spec := "gridStrands", apart := false }
def GridStrandsSaid : Prop := gridStrandsRow.holds Try.pinned (OpenSpec.ofChange gridStrandsSpec)

/-- ITS FALSE NEIGHBOUR: 'it returns false'. Refute it at one input. -/
def gridStrandsWrong : ChangeSpec := { name := "gridStrands", fn := fun _ => fun
  | [d] => { results := [.lit (.bool false)], args := [d] }
  | _ => none }
def GridStrandsWrongFalsely : Prop := gridStrandsRow.holds Try.pinned (OpenSpec.ofChange gridStrandsWrong)

/- THE SECOND FORM. 'bulk': how many values and letters a reading holds, each counted each time it is reached (what is shared counts as often as it is met; a slice's spare places count too). A statement '..UptoSaid' is the law's where the arguments, and the package variables that the reading takes, are together of bulk at most 1048576: NARROWER than '..Said'. Prove '..Said' where nothing that the law and all that it calls make is longer than what came in: it says more and counts as full. Else prove '..UptoSaid'. A law counts once. -/
mutual
def uptoBulk {H : Type} : DataW H → Nat
  | .lit (.string bytes) => bytes.length + 1
  | .lit _ => 1
  | .nil => 1
  | .ptr d => uptoBulk d + 1
  | .slice elems spare => uptoBulkAll elems + uptoBulkAll spare + 1
  | .agg parts => uptoBulkAll parts + 1
  | .iface _ d => uptoBulk d + 1
  | .map entries => uptoBulkEntries entries + 1
  | .held _ => 1
def uptoBulkAll {H : Type} : List (DataW H) → Nat
  | [] => 0
  | d :: r => uptoBulk d + uptoBulkAll r
def uptoBulkEntries {H : Type} : List (Lit × DataW H) → Nat
  | [] => 0
  | x :: r => uptoBulkEntry x + uptoBulkEntries r
def uptoBulkEntry {H : Type} : Lit × DataW H → Nat
  | (.string bytes, d) => bytes.length + uptoBulk d + 1
  | (_, d) => uptoBulk d + 1
 end
def uptoSmall : (H : Type) → List (DataW H) → Bool := fun _ ds => decide (uptoBulkAll ds ≤ 1048576)
def OpenSpec.upto (s : _root_.Go.ChangeSpec) : _root_.Go.OpenSpec := { _root_.Go.OpenSpec.ofChange s with cond := some uptoSmall }

/-- 'forebaylaw33.GridNodes', WHERE WHAT IT READS IS OF BULK AT MOST 1048576: true; the input reads as it did. -/
def gridNodesUptoRow : OpenClaim := { program := "ytagcgffofddcnaa", sum := "b7aee380eb34b33f6e800829c2ab5f24bc6c3f1da14a662fc2a0dee98ced0f39", func := "forebay/forebaylaw33.GridNodes", spec := "gridNodes", apart := false, narrowed := true }
def GridNodesUptoSaid : Prop := gridNodesUptoRow.holds Try.pinned (OpenSpec.upto gridNodesSpec)

/-- 'forebaylaw33.GridEdges', WHERE WHAT IT READS IS OF BULK AT MOST 1048576: true; the input reads as it did. -/
def gridEdgesUptoRow : OpenClaim := { program := "ytagcgffofddcnaa", sum := "b7aee380eb34b33f6e800829c2ab5f24bc6c3f1da14a662fc2a0dee98ced0f39", func := "forebay/forebaylaw33.GridEdges", spec := "gridEdges", apart := false, narrowed := true }
def GridEdgesUptoSaid : Prop := gridEdgesUptoRow.holds Try.pinned (OpenSpec.upto gridEdgesSpec)

/-- 'forebaylaw33.GridBefore', WHERE WHAT IT READS IS OF BULK AT MOST 1048576: true; the input reads as it did. -/
def gridBeforeUptoRow : OpenClaim := { program := "ytagcgffofddcnaa", sum := "b7aee380eb34b33f6e800829c2ab5f24bc6c3f1da14a662fc2a0dee98ced0f39", func := "forebay/forebaylaw33.GridBefore", spec := "gridBefore", recurses := true, apart := false, narrowed := true }
def GridBeforeUptoSaid : Prop := gridBeforeUptoRow.holds Try.pinned (OpenSpec.upto gridBeforeSpec)

/-- 'forebaylaw33.GridForth', WHERE WHAT IT READS IS OF BULK AT MOST 1048576: true; the input reads as it did. -/
def gridForthUptoRow : OpenClaim := { program := "ytagcgffofddcnaa", sum := "b7aee380eb34b33f6e800829c2ab5f24bc6c3f1da14a662fc2a0dee98ced0f39", func := "forebay/forebaylaw33.GridForth", spec := "gridForth", apart := false, narrowed := true }
def GridForthUptoSaid : Prop := gridForthUptoRow.holds Try.pinned (OpenSpec.upto gridForthSpec)

/-- 'forebaylaw33.GridStrands', WHERE WHAT IT READS IS OF BULK AT MOST 1048576: true; the input reads as it did. -/
def gridStrandsUptoRow : OpenClaim := { program := "ytagcgffofddcnaa", sum := "b7aee380eb34b33f6e800829c2ab5f24bc6c3f1da14a662fc2a0dee98ced0f39", func := "forebay/forebaylaw33.GridStrands", spec := "gridStrands", apart := false, narrowed := true }
def GridStrandsUptoSaid : Prop := gridStrandsUptoRow.holds Try.pinned (OpenSpec.upto gridStrandsSpec)

end Rows
end Go.Proofs.Ytagcgffofddcnaa
