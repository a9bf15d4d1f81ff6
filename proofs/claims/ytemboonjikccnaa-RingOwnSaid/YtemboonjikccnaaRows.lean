/-
  No cell of these rows narrows 'for every input' (looked for: loops, veiled, ifaces, maps, wideKeys, modest, calm, conditions, laid).
  DERIVED. THE GIVEN ROWS OF THIS SEAT. 8 by the template 'for every input the law returns true; each argument reads behind the call as it read before'; 0 by the template 'total and deterministic' (their statements: YtemboonjikccnaaTotals.lean).
  GIVEN WITH THE SEED: the statements are not yours to turn. If you find one false, say at which input.
  Laid BY PROGRAM, IN A SANDBOX (cutbox-rows.mjs): the forced cells as the released guide's own fill.sh prints them over the translation 305d94498daf8902… (all of the seat's roots in one cut). By AI agents, Wed Nov 11 2026. No macro, syntax, notation, axiom, sorry.
-/
import Derived.Test.YtemboonjikccnaaChecked
import GoSem.Claim
import GoSem.ClaimJoined
import GoSem.ClaimMapViews
import Derived.JoinedTies
import Derived.KernelRfl
namespace Go.Proofs.Ytemboonjikccnaa
/- THE CELL 'sum', in the pinned program and in every row, IS THE sha256 OF THE DUMP (.gsa) THAT YtemboonjikccnaaProg.lean LOADS. Nothing in Lean hashes anything: it is a label: what it is worth is what the hold of that sum in a sandbox is worth. -/
noncomputable def Try.pinned : Pinned := { name := "ytemboonjikccnaa", sum := "305d94498daf8902602f5b903f92c59656999de13e22ff4e51a0f8cf63a5c32f", checked := Try.checked }
namespace Rows
def none {H : Type} : Left H := { results := [], args := [] }

/-- 'forebaylaw07.BuildDoes': WHATEVER THE INPUT: true; the input reads as it did. -/
def buildDoesSpec : ChangeSpec := { name := "buildDoes", fn := fun _ => fun
  | [d1, d2] => { results := [.lit (.bool true)], args := [d1, d2] }
  | _ => none }
def buildDoesRow : OpenClaim := { program := "ytemboonjikccnaa", sum := "305d94498daf8902602f5b903f92c59656999de13e22ff4e51a0f8cf63a5c32f", func := "forebay/forebaylaw07.BuildDoes", spec := "buildDoes", apart := false }
def BuildDoesSaid : Prop := buildDoesRow.holds Try.pinned (OpenSpec.ofChange buildDoesSpec)

/-- ITS FALSE NEIGHBOUR: 'it returns false'. Refute it at one input. -/
def buildDoesWrong : ChangeSpec := { name := "buildDoes", fn := fun _ => fun
  | [d1, d2] => { results := [.lit (.bool false)], args := [d1, d2] }
  | _ => none }
def BuildDoesWrongFalsely : Prop := buildDoesRow.holds Try.pinned (OpenSpec.ofChange buildDoesWrong)

/-- 'forebaylaw07.BuildJumps': WHATEVER THE INPUT: true; the input reads as it did. -/
def buildJumpsSpec : ChangeSpec := { name := "buildJumps", fn := fun _ => fun
  | [d1, d2, d3] => { results := [.lit (.bool true)], args := [d1, d2, d3] }
  | _ => none }
def buildJumpsRow : OpenClaim := { program := "ytemboonjikccnaa", sum := "305d94498daf8902602f5b903f92c59656999de13e22ff4e51a0f8cf63a5c32f", func := "forebay/forebaylaw07.BuildJumps", spec := "buildJumps", apart := false }
def BuildJumpsSaid : Prop := buildJumpsRow.holds Try.pinned (OpenSpec.ofChange buildJumpsSpec)

/-- ITS FALSE NEIGHBOUR: 'it returns false'. Refute it at one input. -/
def buildJumpsWrong : ChangeSpec := { name := "buildJumps", fn := fun _ => fun
  | [d1, d2, d3] => { results := [.lit (.bool false)], args := [d1, d2, d3] }
  | _ => none }
def BuildJumpsWrongFalsely : Prop := buildJumpsRow.holds Try.pinned (OpenSpec.ofChange buildJumpsWrong)

/-- 'forebaylaw07.BuildApart': WHATEVER THE INPUT: true; the input reads as it did. -/
def buildApartSpec : ChangeSpec := { name := "buildApart", fn := fun _ => fun
  | [d] => { results := [.lit (.bool true)], args := [d] }
  | _ => none }
def buildApartRow : OpenClaim := { program := "ytemboonjikccnaa", sum := "305d94498daf8902602f5b903f92c59656999de13e22ff4e51a0f8cf63a5c32f", func := "forebay/forebaylaw07.BuildApart", spec := "buildApart", apart := false }
def BuildApartSaid : Prop := buildApartRow.holds Try.pinned (OpenSpec.ofChange buildApartSpec)

/-- ITS FALSE NEIGHBOUR: 'it returns false'. Refute it at one input. -/
def buildApartWrong : ChangeSpec := { name := "buildApart", fn := fun _ => fun
  | [d] => { results := [.lit (.bool false)], args := [d] }
  | _ => none }
def BuildApartWrongFalsely : Prop := buildApartRow.holds Try.pinned (OpenSpec.ofChange buildApartWrong)

/-- 'forebaylaw16.FrameMakes': WHATEVER THE INPUT: true; the input reads as it did. -/
def frameMakesSpec : ChangeSpec := { name := "frameMakes", fn := fun _ => fun
  | [d1, d2, d3, d4] => { results := [.lit (.bool true)], args := [d1, d2, d3, d4] }
  | _ => none }
def frameMakesRow : OpenClaim := { program := "ytemboonjikccnaa", sum := "305d94498daf8902602f5b903f92c59656999de13e22ff4e51a0f8cf63a5c32f", func := "forebay/forebaylaw16.FrameMakes", spec := "frameMakes", unfollowed := true, recurses := true, apart := false }
def FrameMakesSaid : Prop := frameMakesRow.holds Try.pinned (OpenSpec.ofChange frameMakesSpec)

/-- ITS FALSE NEIGHBOUR: 'it returns false'. Refute it at one input. -/
def frameMakesWrong : ChangeSpec := { name := "frameMakes", fn := fun _ => fun
  | [d1, d2, d3, d4] => { results := [.lit (.bool false)], args := [d1, d2, d3, d4] }
  | _ => none }
def FrameMakesWrongFalsely : Prop := frameMakesRow.holds Try.pinned (OpenSpec.ofChange frameMakesWrong)

/-- 'forebaylaw16.FrameTable': WHATEVER THE INPUT: true; the input reads as it did. -/
def frameTableSpec : ChangeSpec := { name := "frameTable", fn := fun _ => fun
  | [d1, d2] => { results := [.lit (.bool true)], args := [d1, d2] }
  | _ => none }
def frameTableRow : OpenClaim := { program := "ytemboonjikccnaa", sum := "305d94498daf8902602f5b903f92c59656999de13e22ff4e51a0f8cf63a5c32f", func := "forebay/forebaylaw16.FrameTable", spec := "frameTable", unfollowed := true, recurses := true, apart := false }
def FrameTableSaid : Prop := frameTableRow.holds Try.pinned (OpenSpec.ofChange frameTableSpec)

/-- ITS FALSE NEIGHBOUR: 'it returns false'. Refute it at one input. -/
def frameTableWrong : ChangeSpec := { name := "frameTable", fn := fun _ => fun
  | [d1, d2] => { results := [.lit (.bool false)], args := [d1, d2] }
  | _ => none }
def FrameTableWrongFalsely : Prop := frameTableRow.holds Try.pinned (OpenSpec.ofChange frameTableWrong)

/-- 'forebaylaw16.FrameNone': WHATEVER THE INPUT: true; the input reads as it did. -/
def frameNoneSpec : ChangeSpec := { name := "frameNone", fn := fun _ => fun
  | [d] => { results := [.lit (.bool true)], args := [d] }
  | _ => none }
def frameNoneRow : OpenClaim := { program := "ytemboonjikccnaa", sum := "305d94498daf8902602f5b903f92c59656999de13e22ff4e51a0f8cf63a5c32f", func := "forebay/forebaylaw16.FrameNone", spec := "frameNone", unfollowed := true, recurses := true, apart := false }
def FrameNoneSaid : Prop := frameNoneRow.holds Try.pinned (OpenSpec.ofChange frameNoneSpec)

/-- ITS FALSE NEIGHBOUR: 'it returns false'. Refute it at one input. -/
def frameNoneWrong : ChangeSpec := { name := "frameNone", fn := fun _ => fun
  | [d] => { results := [.lit (.bool false)], args := [d] }
  | _ => none }
def FrameNoneWrongFalsely : Prop := frameNoneRow.holds Try.pinned (OpenSpec.ofChange frameNoneWrong)

/-- 'forebaylaw17.RingOwn': WHATEVER THE INPUT: true; the input reads as it did. -/
def ringOwnSpec : ChangeSpec := { name := "ringOwn", fn := fun _ => fun
  | [d1, d2] => { results := [.lit (.bool true)], args := [d1, d2] }
  | _ => none }
def ringOwnRow : OpenClaim := { program := "ytemboonjikccnaa", sum := "305d94498daf8902602f5b903f92c59656999de13e22ff4e51a0f8cf63a5c32f", func := "forebay/forebaylaw17.RingOwn", spec := "ringOwn", unfollowed := true, recurses := true, apart := false }
def RingOwnSaid : Prop := ringOwnRow.holds Try.pinned (OpenSpec.ofChange ringOwnSpec)

/-- ITS FALSE NEIGHBOUR: 'it returns false'. Refute it at one input. -/
def ringOwnWrong : ChangeSpec := { name := "ringOwn", fn := fun _ => fun
  | [d1, d2] => { results := [.lit (.bool false)], args := [d1, d2] }
  | _ => none }
def RingOwnWrongFalsely : Prop := ringOwnRow.holds Try.pinned (OpenSpec.ofChange ringOwnWrong)

/-- 'forebaylaw17.RingMay': WHATEVER THE INPUT: true; the input reads as it did. -/
def ringMaySpec : ChangeSpec := { name := "ringMay", fn := fun _ => fun
  | [d1, d2, d3, d4] => { results := [.lit (.bool true)], args := [d1, d2, d3, d4] }
  | _ => none }
def ringMayRow : OpenClaim := { program := "ytemboonjikccnaa", sum := "305d94498daf8902602f5b903f92c59656999de13e22ff4e51a0f8cf63a5c32f", func := "forebay/forebaylaw17.RingMay", spec := "ringMay", unfollowed := true, recurses := true, apart := false }
def RingMaySaid : Prop := ringMayRow.holds Try.pinned (OpenSpec.ofChange ringMaySpec)

/-- ITS FALSE NEIGHBOUR: 'it returns false'. Refute it at one input. -/
def ringMayWrong : ChangeSpec := { name := "ringMay", fn := fun _ => fun
  | [d1, d2, d3, d4] => { results := [.lit (.bool false)], args := [d1, d2, d3, d4] }
  | _ => none }
def RingMayWrongFalsely : Prop := ringMayRow.holds Try.pinned (OpenSpec.ofChange ringMayWrong)

/- THE SECOND FORM. 'bulk': how many values and letters a reading holds, each counted each time it is reached (what is shared counts as often as it is met; a slice's spare places count too). A statement '..UptoSaid' is the law's where the arguments, and the package variables that the reading takes, are together of bulk at most 1048576: NARROWER than '..Said'. Prove '..Said' where nothing that the law and all that it calls make is longer than what came in: it says more and counts as full. Else prove '..UptoSaid'. A law counts once. -/
mutual
def uptoBulk {H : Type} : DataW H → Nat
  | .lit (.string bytes) => bytes.length + 1
  | .lit _ => 1
  | .nil => 1
  | .ptr d => uptoBulk d + 1
  | .slice elems spare => uptoBulkAll elems + uptoBulkAll spare + 1
  | .agg parts => uptoBulkAll parts + 1
  | .iface _ d => uptoBulk d + 1
  | .map entries => uptoBulkEntries entries + 1
  | .held _ => 1
def uptoBulkAll {H : Type} : List (DataW H) → Nat
  | [] => 0
  | d :: r => uptoBulk d + uptoBulkAll r
def uptoBulkEntries {H : Type} : List (Lit × DataW H) → Nat
  | [] => 0
  | x :: r => uptoBulkEntry x + uptoBulkEntries r
def uptoBulkEntry {H : Type} : Lit × DataW H → Nat
  | (.string bytes, d) => bytes.length + uptoBulk d + 1
  | (_, d) => uptoBulk d + 1
 end
def uptoSmall : (H : Type) → List (DataW H) → Bool := fun _ ds => decide (uptoBulkAll ds ≤ 1048576)
def OpenSpec.upto (s : _root_.Go.ChangeSpec) : _root_.Go.OpenSpec := { _root_.Go.OpenSpec.ofChange s with cond := some uptoSmall }

/-- 'forebaylaw07.BuildDoes', WHERE WHAT IT READS IS OF BULK AT MOST 1048576: true; the input reads as it did. -/
def buildDoesUptoRow : OpenClaim := { program := "ytemboonjikccnaa", sum := "305d94498daf8902602f5b903f92c59656999de13e22ff4e51a0f8cf63a5c32f", func := "forebay/forebaylaw07.BuildDoes", spec := "buildDoes", apart := false, narrowed := true }
def BuildDoesUptoSaid : Prop := buildDoesUptoRow.holds Try.pinned (OpenSpec.upto buildDoesSpec)

/-- 'forebaylaw07.BuildJumps', WHERE WHAT IT READS IS OF BULK AT MOST 1048576: true; the input reads as it did. -/
def buildJumpsUptoRow : OpenClaim := { program := "ytemboonjikccnaa", sum := "305d94498daf8902602f5b903f92c59656999de13e22ff4e51a0f8cf63a5c32f", func := "forebay/forebaylaw07.BuildJumps", spec := "buildJumps", apart := false, narrowed := true }
def BuildJumpsUptoSaid : Prop := buildJumpsUptoRow.holds Try.pinned (OpenSpec.upto buildJumpsSpec)

/-- 'forebaylaw07.BuildApart', WHERE WHAT IT READS IS OF BULK AT MOST 1048576: true; the input reads as it did. -/
def buildApartUptoRow : OpenClaim := { program := "ytemboonjikccnaa", sum := "305d94498daf8902602f5b903f92c59656999de13e22ff4e51a0f8cf63a5c32f", func := "forebay/forebaylaw07.BuildApart", spec := "buildApart", apart := false, narrowed := true }
def BuildApartUptoSaid : Prop := buildApartUptoRow.holds Try.pinned (OpenSpec.upto buildApartSpec)

/-- 'forebaylaw16.FrameMakes', WHERE WHAT IT READS IS OF BULK AT MOST 1048576: true; the input reads as it did. -/
def frameMakesUptoRow : OpenClaim := { program := "ytemboonjikccnaa", sum := "305d94498daf8902602f5b903f92c59656999de13e22ff4e51a0f8cf63a5c32f", func := "forebay/forebaylaw16.FrameMakes", spec := "frameMakes", unfollowed := true, recurses := true, apart := false, narrowed := true }
def FrameMakesUptoSaid : Prop := frameMakesUptoRow.holds Try.pinned (OpenSpec.upto frameMakesSpec)

/-- 'forebaylaw16.FrameTable', WHERE WHAT IT READS IS OF BULK AT MOST 1048576: true; the input reads as it did. -/
def frameTableUptoRow : OpenClaim := { program := "ytemboonjikccnaa", sum := "305d94498daf8902602f5b903f92c59656999de13e22ff4e51a0f8cf63a5c32f", func := "forebay/forebaylaw16.FrameTable", spec := "frameTable", unfollowed := true, recurses := true, apart := false, narrowed := true }
def FrameTableUptoSaid : Prop := frameTableUptoRow.holds Try.pinned (OpenSpec.upto frameTableSpec)

/-- 'forebaylaw16.FrameNone', WHERE WHAT IT READS IS OF BULK AT MOST 1048576: true; the input reads as it did. -/
def frameNoneUptoRow : OpenClaim := { program := "ytemboonjikccnaa", sum := "305d94498daf8902602f5b903f92c59656999de13e22ff4e51a0f8cf63a5c32f", func := "forebay/forebaylaw16.FrameNone", spec := "frameNone", unfollowed := true, recurses := true, apart := false, narrowed := true }
def FrameNoneUptoSaid : Prop := frameNoneUptoRow.holds Try.pinned (OpenSpec.upto frameNoneSpec)

/-- 'forebaylaw17.RingOwn', WHERE WHAT IT READS IS OF BULK AT MOST 1048576: true; the input reads as it did. -/
def ringOwnUptoRow : OpenClaim := { program := "ytemboonjikccnaa", sum := "305d94498daf8902602f5b903f92c59656999de13e22ff4e51a0f8cf63a5c32f", func := "forebay/forebaylaw17.RingOwn", spec := "ringOwn", unfollowed := true, recurses := true, apart := false, narrowed := true }
def RingOwnUptoSaid : Prop := ringOwnUptoRow.holds Try.pinned (OpenSpec.upto ringOwnSpec)

/-- 'forebaylaw17.RingMay', WHERE WHAT IT READS IS OF BULK AT MOST 1048576: true; the input reads as it did. -/
def ringMayUptoRow : OpenClaim := { program := "ytemboonjikccnaa", sum := "305d94498daf8902602f5b903f92c59656999de13e22ff4e51a0f8cf63a5c32f", func := "forebay/forebaylaw17.RingMay", spec := "ringMay", unfollowed := true, recurses := true, apart := false, narrowed := true }
def RingMayUptoSaid : Prop := ringMayUptoRow.holds Try.pinned (OpenSpec.upto ringMaySpec)

end Rows
end Go.Proofs.Ytemboonjikccnaa
