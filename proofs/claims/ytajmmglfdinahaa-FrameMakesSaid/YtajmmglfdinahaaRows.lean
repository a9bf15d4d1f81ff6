/-
  No cell of these rows narrows 'for every input' (looked for: loops, veiled, ifaces, maps, wideKeys, modest, calm, conditions, laid).
  DERIVED. THE GIVEN ROWS OF THIS SEAT. 8 by the template 'for every input the law returns true; each argument reads behind the call as it read before'; 0 by the template 'total and deterministic' (their statements: YtajmmglfdinahaaTotals.lean).
  GIVEN WITH THE SEED: the statements are not yours to turn. If you find one false, say at which input.
  Laid BY PROGRAM, IN A SANDBOX (cutbox-rows.mjs): the forced cells as the released guide's own fill.sh prints them over the translation 5ddb8c84473ffe87… (all of the seat's roots in one cut). By AI agents, Wed Nov 11 2026. No macro, syntax, notation, axiom, sorry.
-/
import Derived.Test.YtajmmglfdinahaaChecked
import GoSem.Claim
import GoSem.ClaimJoined
import GoSem.ClaimMapViews
import Derived.JoinedTies
import Derived.KernelRfl
namespace Go.Proofs.Ytajmmglfdinahaa
/- THE CELL 'sum', in the pinned program and in every row, IS THE sha256 OF THE DUMP (.gsa) THAT YtajmmglfdinahaaProg.lean LOADS. Nothing in Lean hashes anything: it is a label: what it is worth is what the hold of that sum in a sandbox is worth. -/
noncomputable def Try.pinned : Pinned := { name := "ytajmmglfdinahaa", sum := "5ddb8c84473ffe87a79d8f7e3b966fea16437fafcc48602975b6d8aeff3e6192", checked := Try.checked }
namespace Rows
def none {H : Type} : Left H := { results := [], args := [] }

/-- 'forebaylaw10.ArenaDoes': WHATEVER THE INPUT: true; the input reads as it did. -/
def arenaDoesSpec : ChangeSpec := { name := "arenaDoes", fn := fun _ => fun
  | [d1, d2, d3] => { results := [.lit (.bool true)], args := [d1, d2, d3] }
  | _ => none }
def arenaDoesRow : OpenClaim := { program := "ytajmmglfdinahaa", sum := "5ddb8c84473ffe87a79d8f7e3b966fea16437fafcc48602975b6d8aeff3e6192", func := "forebay/forebaylaw10.ArenaDoes", spec := "arenaDoes", unfollowed := true, recurses := true, apart := false }
def ArenaDoesSaid : Prop := arenaDoesRow.holds Try.pinned (OpenSpec.ofChange arenaDoesSpec)

/-- ITS FALSE NEIGHBOUR: 'it returns false'. Refute it at one input. -/
def arenaDoesWrong : ChangeSpec := { name := "arenaDoes", fn := fun _ => fun
  | [d1, d2, d3] => { results := [.lit (.bool false)], args := [d1, d2, d3] }
  | _ => none }
def ArenaDoesWrongFalsely : Prop := arenaDoesRow.holds Try.pinned (OpenSpec.ofChange arenaDoesWrong)

/-- 'forebaylaw14.ModelDoes': WHATEVER THE INPUT: true; the input reads as it did. -/
def modelDoesSpec : ChangeSpec := { name := "modelDoes", fn := fun _ => fun
  | [d1, d2] => { results := [.lit (.bool true)], args := [d1, d2] }
  | _ => none }
def modelDoesRow : OpenClaim := { program := "ytajmmglfdinahaa", sum := "5ddb8c84473ffe87a79d8f7e3b966fea16437fafcc48602975b6d8aeff3e6192", func := "forebay/forebaylaw14.ModelDoes", spec := "modelDoes", unfollowed := true, recurses := true, apart := false }
def ModelDoesSaid : Prop := modelDoesRow.holds Try.pinned (OpenSpec.ofChange modelDoesSpec)

/-- ITS FALSE NEIGHBOUR: 'it returns false'. Refute it at one input. -/
def modelDoesWrong : ChangeSpec := { name := "modelDoes", fn := fun _ => fun
  | [d1, d2] => { results := [.lit (.bool false)], args := [d1, d2] }
  | _ => none }
def ModelDoesWrongFalsely : Prop := modelDoesRow.holds Try.pinned (OpenSpec.ofChange modelDoesWrong)

/-- 'forebaylaw14.ModelEqual': WHATEVER THE INPUT: true; the input reads as it did. -/
def modelEqualSpec : ChangeSpec := { name := "modelEqual", fn := fun _ => fun
  | [d1, d2] => { results := [.lit (.bool true)], args := [d1, d2] }
  | _ => none }
def modelEqualRow : OpenClaim := { program := "ytajmmglfdinahaa", sum := "5ddb8c84473ffe87a79d8f7e3b966fea16437fafcc48602975b6d8aeff3e6192", func := "forebay/forebaylaw14.ModelEqual", spec := "modelEqual", unfollowed := true, recurses := true, apart := false }
def ModelEqualSaid : Prop := modelEqualRow.holds Try.pinned (OpenSpec.ofChange modelEqualSpec)

/-- ITS FALSE NEIGHBOUR: 'it returns false'. Refute it at one input. -/
def modelEqualWrong : ChangeSpec := { name := "modelEqual", fn := fun _ => fun
  | [d1, d2] => { results := [.lit (.bool false)], args := [d1, d2] }
  | _ => none }
def ModelEqualWrongFalsely : Prop := modelEqualRow.holds Try.pinned (OpenSpec.ofChange modelEqualWrong)

/-- 'forebaylaw14.ModelWalks': WHATEVER THE INPUT: true; the input reads as it did. -/
def modelWalksSpec : ChangeSpec := { name := "modelWalks", fn := fun _ => fun
  | [d1, d2] => { results := [.lit (.bool true)], args := [d1, d2] }
  | _ => none }
def modelWalksRow : OpenClaim := { program := "ytajmmglfdinahaa", sum := "5ddb8c84473ffe87a79d8f7e3b966fea16437fafcc48602975b6d8aeff3e6192", func := "forebay/forebaylaw14.ModelWalks", spec := "modelWalks", unfollowed := true, recurses := true, apart := false }
def ModelWalksSaid : Prop := modelWalksRow.holds Try.pinned (OpenSpec.ofChange modelWalksSpec)

/-- ITS FALSE NEIGHBOUR: 'it returns false'. Refute it at one input. -/
def modelWalksWrong : ChangeSpec := { name := "modelWalks", fn := fun _ => fun
  | [d1, d2] => { results := [.lit (.bool false)], args := [d1, d2] }
  | _ => none }
def ModelWalksWrongFalsely : Prop := modelWalksRow.holds Try.pinned (OpenSpec.ofChange modelWalksWrong)

/-- 'forebaylaw14.ModelEnds': WHATEVER THE INPUT: true; the input reads as it did. -/
def modelEndsSpec : ChangeSpec := { name := "modelEnds", fn := fun _ => fun
  | [d1, d2] => { results := [.lit (.bool true)], args := [d1, d2] }
  | _ => none }
def modelEndsRow : OpenClaim := { program := "ytajmmglfdinahaa", sum := "5ddb8c84473ffe87a79d8f7e3b966fea16437fafcc48602975b6d8aeff3e6192", func := "forebay/forebaylaw14.ModelEnds", spec := "modelEnds", unfollowed := true, recurses := true, apart := false }
def ModelEndsSaid : Prop := modelEndsRow.holds Try.pinned (OpenSpec.ofChange modelEndsSpec)

/-- ITS FALSE NEIGHBOUR: 'it returns false'. Refute it at one input. -/
def modelEndsWrong : ChangeSpec := { name := "modelEnds", fn := fun _ => fun
  | [d1, d2] => { results := [.lit (.bool false)], args := [d1, d2] }
  | _ => none }
def ModelEndsWrongFalsely : Prop := modelEndsRow.holds Try.pinned (OpenSpec.ofChange modelEndsWrong)

/-- 'forebaylaw16.FrameMakes': WHATEVER THE INPUT: true; the input reads as it did. -/
def frameMakesSpec : ChangeSpec := { name := "frameMakes", fn := fun _ => fun
  | [d1, d2, d3, d4] => { results := [.lit (.bool true)], args := [d1, d2, d3, d4] }
  | _ => none }
def frameMakesRow : OpenClaim := { program := "ytajmmglfdinahaa", sum := "5ddb8c84473ffe87a79d8f7e3b966fea16437fafcc48602975b6d8aeff3e6192", func := "forebay/forebaylaw16.FrameMakes", spec := "frameMakes", unfollowed := true, recurses := true, apart := false }
def FrameMakesSaid : Prop := frameMakesRow.holds Try.pinned (OpenSpec.ofChange frameMakesSpec)

/-- ITS FALSE NEIGHBOUR: 'it returns false'. Refute it at one input. -/
def frameMakesWrong : ChangeSpec := { name := "frameMakes", fn := fun _ => fun
  | [d1, d2, d3, d4] => { results := [.lit (.bool false)], args := [d1, d2, d3, d4] }
  | _ => none }
def FrameMakesWrongFalsely : Prop := frameMakesRow.holds Try.pinned (OpenSpec.ofChange frameMakesWrong)

/-- 'forebaylaw16.FrameTable': WHATEVER THE INPUT: true; the input reads as it did. -/
def frameTableSpec : ChangeSpec := { name := "frameTable", fn := fun _ => fun
  | [d1, d2] => { results := [.lit (.bool true)], args := [d1, d2] }
  | _ => none }
def frameTableRow : OpenClaim := { program := "ytajmmglfdinahaa", sum := "5ddb8c84473ffe87a79d8f7e3b966fea16437fafcc48602975b6d8aeff3e6192", func := "forebay/forebaylaw16.FrameTable", spec := "frameTable", unfollowed := true, recurses := true, apart := false }
def FrameTableSaid : Prop := frameTableRow.holds Try.pinned (OpenSpec.ofChange frameTableSpec)

/-- ITS FALSE NEIGHBOUR: 'it returns false'. Refute it at one input. -/
def frameTableWrong : ChangeSpec := { name := "frameTable", fn := fun _ => fun
  | [d1, d2] => { results := [.lit (.bool false)], args := [d1, d2] }
  | _ => none }
def FrameTableWrongFalsely : Prop := frameTableRow.holds Try.pinned (OpenSpec.ofChange frameTableWrong)

/-- 'forebaylaw16.FrameNone': WHATEVER THE INPUT: true; the input reads as it did. -/
def frameNoneSpec : ChangeSpec := { name := "frameNone", fn := fun _ => fun
  | [d] => { results := [.lit (.bool true)], args := [d] }
  | _ => none }
def frameNoneRow : OpenClaim := { program := "ytajmmglfdinahaa", sum := "5ddb8c84473ffe87a79d8f7e3b966fea16437fafcc48602975b6d8aeff3e6192", func := "forebay/forebaylaw16.FrameNone", spec := "frameNone", unfollowed := true, recurses := true, apart := false }
def FrameNoneSaid : Prop := frameNoneRow.holds Try.pinned (OpenSpec.ofChange frameNoneSpec)

/-- ITS FALSE NEIGHBOUR: 'it returns false'. Refute it at one input. -/
def frameNoneWrong : ChangeSpec := { name := "frameNone", fn := fun _ => fun
  | [d] => { results := [.lit (.bool false)], args := [d] }
  | _ => none }
def FrameNoneWrongFalsely : Prop := frameNoneRow.holds Try.pinned (OpenSpec.ofChange frameNoneWrong)

/- THE SECOND FORM. 'bulk': how many values and letters a reading holds, each counted each time it is reached (what is shared counts as often as it is met; a slice's spare places count too). A statement '..UptoSaid' is the law's where the arguments, and the package variables that the reading takes, are together of bulk at most 1048576: NARROWER than '..Said'. Prove '..Said' where nothing that the law and all that it calls make is longer than what came in: it says more and counts as full. Else prove '..UptoSaid'. A law counts once. -/
mutual
def uptoBulk {H : Type} : DataW H → Nat
  | .lit (.string bytes) => bytes.length + 1
  | .lit _ => 1
  | .nil => 1
  | .ptr d => uptoBulk d + 1
  | .slice elems spare => uptoBulkAll elems + uptoBulkAll spare + 1
  | .agg parts => uptoBulkAll parts + 1
  | .iface _ d => uptoBulk d + 1
  | .map entries => uptoBulkEntries entries + 1
  | .held _ => 1
def uptoBulkAll {H : Type} : List (DataW H) → Nat
  | [] => 0
  | d :: r => uptoBulk d + uptoBulkAll r
def uptoBulkEntries {H : Type} : List (Lit × DataW H) → Nat
  | [] => 0
  | x :: r => uptoBulkEntry x + uptoBulkEntries r
def uptoBulkEntry {H : Type} : Lit × DataW H → Nat
  | (.string bytes, d) => bytes.length + uptoBulk d + 1
  | (_, d) => uptoBulk d + 1
 end
def uptoSmall : (H : Type) → List (DataW H) → Bool := fun _ ds => decide (uptoBulkAll ds ≤ 1048576)
def OpenSpec.upto (s : _root_.Go.ChangeSpec) : _root_.Go.OpenSpec := { _root_.Go.OpenSpec.ofChange s with cond := some uptoSmall }

/-- 'forebaylaw10.ArenaDoes', WHERE WHAT IT READS IS OF BULK AT MOST 1048576: true; the input reads as it did. -/
def arenaDoesUptoRow : OpenClaim := { program := "ytajmmglfdinahaa", sum := "5ddb8c84473ffe87a79d8f7e3b966fea16437fafcc48602975b6d8aeff3e6192", func := "forebay/forebaylaw10.ArenaDoes", spec := "arenaDoes", unfollowed := true, recurses := true, apart := false, narrowed := true }
def ArenaDoesUptoSaid : Prop := arenaDoesUptoRow.holds Try.pinned (OpenSpec.upto arenaDoesSpec)

/-- 'forebaylaw14.ModelDoes', WHERE WHAT IT READS IS OF BULK AT MOST 1048576: true; the input reads as it did. -/
def modelDoesUptoRow : OpenClaim := { program := "ytajmmglfdinahaa", sum := "5ddb8c84473ffe87a79d8f7e3b966fea16437fafcc48602975b6d8aeff3e6192", func := "forebay/forebaylaw14.ModelDoes", spec := "modelDoes", unfollowed := true, recurses := true, apart := false, narrowed := true }
def ModelDoesUptoSaid : Prop := modelDoesUptoRow.holds Try.pinned (OpenSpec.upto modelDoesSpec)

/-- 'forebaylaw14.ModelEqual', WHERE WHAT IT READS IS OF BULK AT MOST 1048576: true; the input reads as it did. -/
def modelEqualUptoRow : OpenClaim := { program := "ytajmmglfdinahaa", sum := "5ddb8c84473ffe87a79d8f7e3b966fea16437fafcc48602975b6d8aeff3e6192", func := "forebay/forebaylaw14.ModelEqual", spec := "modelEqual", unfollowed := true, recurses := true, apart := false, narrowed := true }
def ModelEqualUptoSaid : Prop := modelEqualUptoRow.holds Try.pinned (OpenSpec.upto modelEqualSpec)

/-- 'forebaylaw14.ModelWalks', WHERE WHAT IT READS IS OF BULK AT MOST 1048576: true; the input reads as it did. -/
def modelWalksUptoRow : OpenClaim := { program := "ytajmmglfdinahaa", sum := "5ddb8c84473ffe87a79d8f7e3b966fea16437fafcc48602975b6d8aeff3e6192", func := "forebay/forebaylaw14.ModelWalks", spec := "modelWalks", unfollowed := true, recurses := true, apart := false, narrowed := true }
def ModelWalksUptoSaid : Prop := modelWalksUptoRow.holds Try.pinned (OpenSpec.upto modelWalksSpec)

/-- 'forebaylaw14.ModelEnds', WHERE WHAT IT READS IS OF BULK AT MOST 1048576: true; the input reads as it did. -/
def modelEndsUptoRow : OpenClaim := { program := "ytajmmglfdinahaa", sum := "5ddb8c84473ffe87a79d8f7e3b966fea16437fafcc48602975b6d8aeff3e6192", func := "forebay/forebaylaw14.ModelEnds", spec := "modelEnds", unfollowed := true, recurses := true, apart := false, narrowed := true }
def ModelEndsUptoSaid : Prop := modelEndsUptoRow.holds Try.pinned (OpenSpec.upto modelEndsSpec)

/-- 'forebaylaw16.FrameMakes', WHERE WHAT IT READS IS OF BULK AT MOST 1048576: true; the input reads as it did. -/
def frameMakesUptoRow : OpenClaim := { program := "ytajmmglfdinahaa", sum := "5ddb8c84473ffe87a79d8f7e3b966fea16437fafcc48602975b6d8aeff3e6192", func := "forebay/forebaylaw16.FrameMakes", spec := "frameMakes", unfollowed := true, recurses := true, apart := false, narrowed := true }
def FrameMakesUptoSaid : Prop := frameMakesUptoRow.holds Try.pinned (OpenSpec.upto frameMakesSpec)

/-- 'forebaylaw16.FrameTable', WHERE WHAT IT READS IS OF BULK AT MOST 1048576: true; the input reads as it did. -/
def frameTableUptoRow : OpenClaim := { program := "ytajmmglfdinahaa", sum := "5ddb8c84473ffe87a79d8f7e3b966fea16437fafcc48602975b6d8aeff3e6192", func := "forebay/forebaylaw16.FrameTable", spec := "frameTable", unfollowed := true, recurses := true, apart := false, narrowed := true }
def FrameTableUptoSaid : Prop := frameTableUptoRow.holds Try.pinned (OpenSpec.upto frameTableSpec)

/-- 'forebaylaw16.FrameNone', WHERE WHAT IT READS IS OF BULK AT MOST 1048576: true; the input reads as it did. -/
def frameNoneUptoRow : OpenClaim := { program := "ytajmmglfdinahaa", sum := "5ddb8c84473ffe87a79d8f7e3b966fea16437fafcc48602975b6d8aeff3e6192", func := "forebay/forebaylaw16.FrameNone", spec := "frameNone", unfollowed := true, recurses := true, apart := false, narrowed := true }
def FrameNoneUptoSaid : Prop := frameNoneUptoRow.holds Try.pinned (OpenSpec.upto frameNoneSpec)

end Rows
end Go.Proofs.Ytajmmglfdinahaa
