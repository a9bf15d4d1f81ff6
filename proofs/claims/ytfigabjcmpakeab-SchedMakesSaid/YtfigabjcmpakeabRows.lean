/-
  No cell of these rows narrows 'for every input' (looked for: loops, veiled, ifaces, maps, wideKeys, modest, calm, conditions, laid).
  DERIVED. THE GIVEN ROWS OF THIS SEAT. 12 by the template 'for every input the law returns true; each argument reads behind the call as it read before'; 0 by the template 'total and deterministic' (their statements: YtfigabjcmpakeabTotals.lean).
  GIVEN WITH THE SEED: the statements are not yours to turn. If you find one false, say at which input.
  Laid BY PROGRAM, IN A SANDBOX (cutbox-rows.mjs): the forced cells as the released guide's own fill.sh prints them over the translation 8774e440266d78ca… (all of the seat's roots in one cut). By AI agents, Wed Nov 11 2026. No macro, syntax, notation, axiom, sorry.
-/
import Derived.Test.YtfigabjcmpakeabChecked
import GoSem.Claim
import GoSem.ClaimJoined
import GoSem.ClaimMapViews
import Derived.JoinedTies
import Derived.KernelRfl
namespace Go.Proofs.Ytfigabjcmpakeab
/- THE CELL 'sum', in the pinned program and in every row, IS THE sha256 OF THE DUMP (.gsa) THAT YtfigabjcmpakeabProg.lean LOADS. Nothing in Lean hashes anything: it is a label: what it is worth is what the hold of that sum in a sandbox is worth. -/
noncomputable def Try.pinned : Pinned := { name := "ytfigabjcmpakeab", sum := "8774e440266d78ca30ffe283a557377bd4623c3c5a98ded040cad9007ab0bda0", checked := Try.checked }
namespace Rows
def none {H : Type} : Left H := { results := [], args := [] }

/-- 'forebaylaw12.TicketDoes': WHATEVER THE INPUT: true; the input reads as it did. -/
def ticketDoesSpec : ChangeSpec := { name := "ticketDoes", fn := fun _ => fun
  | [d1, d2] => { results := [.lit (.bool true)], args := [d1, d2] }
  | _ => none }
def ticketDoesRow : OpenClaim := { program := "ytfigabjcmpakeab", sum := "8774e440266d78ca30ffe283a557377bd4623c3c5a98ded040cad9007ab0bda0", func := "forebay/forebaylaw12.TicketDoes", spec := "ticketDoes", unfollowed := true, recurses := true, apart := false }
def TicketDoesSaid : Prop := ticketDoesRow.holds Try.pinned (OpenSpec.ofChange ticketDoesSpec)

/-- ITS FALSE NEIGHBOUR: 'it returns false'. Refute it at one input. -/
def ticketDoesWrong : ChangeSpec := { name := "ticketDoes", fn := fun _ => fun
  | [d1, d2] => { results := [.lit (.bool false)], args := [d1, d2] }
  | _ => none }
def TicketDoesWrongFalsely : Prop := ticketDoesRow.holds Try.pinned (OpenSpec.ofChange ticketDoesWrong)

/-- 'forebaylaw12.TicketOrder': WHATEVER THE INPUT: true; the input reads as it did. -/
def ticketOrderSpec : ChangeSpec := { name := "ticketOrder", fn := fun _ => fun
  | [d] => { results := [.lit (.bool true)], args := [d] }
  | _ => none }
def ticketOrderRow : OpenClaim := { program := "ytfigabjcmpakeab", sum := "8774e440266d78ca30ffe283a557377bd4623c3c5a98ded040cad9007ab0bda0", func := "forebay/forebaylaw12.TicketOrder", spec := "ticketOrder", unfollowed := true, recurses := true, apart := false }
def TicketOrderSaid : Prop := ticketOrderRow.holds Try.pinned (OpenSpec.ofChange ticketOrderSpec)

/-- ITS FALSE NEIGHBOUR: 'it returns false'. Refute it at one input. -/
def ticketOrderWrong : ChangeSpec := { name := "ticketOrder", fn := fun _ => fun
  | [d] => { results := [.lit (.bool false)], args := [d] }
  | _ => none }
def TicketOrderWrongFalsely : Prop := ticketOrderRow.holds Try.pinned (OpenSpec.ofChange ticketOrderWrong)

/-- 'forebaylaw12.TicketComes': WHATEVER THE INPUT: true; the input reads as it did. -/
def ticketComesSpec : ChangeSpec := { name := "ticketComes", fn := fun _ => fun
  | [d1, d2] => { results := [.lit (.bool true)], args := [d1, d2] }
  | _ => none }
def ticketComesRow : OpenClaim := { program := "ytfigabjcmpakeab", sum := "8774e440266d78ca30ffe283a557377bd4623c3c5a98ded040cad9007ab0bda0", func := "forebay/forebaylaw12.TicketComes", spec := "ticketComes", unfollowed := true, recurses := true, apart := false }
def TicketComesSaid : Prop := ticketComesRow.holds Try.pinned (OpenSpec.ofChange ticketComesSpec)

/-- ITS FALSE NEIGHBOUR: 'it returns false'. Refute it at one input. -/
def ticketComesWrong : ChangeSpec := { name := "ticketComes", fn := fun _ => fun
  | [d1, d2] => { results := [.lit (.bool false)], args := [d1, d2] }
  | _ => none }
def TicketComesWrongFalsely : Prop := ticketComesRow.holds Try.pinned (OpenSpec.ofChange ticketComesWrong)

/-- 'forebaylaw14.ModelDoes': WHATEVER THE INPUT: true; the input reads as it did. -/
def modelDoesSpec : ChangeSpec := { name := "modelDoes", fn := fun _ => fun
  | [d1, d2] => { results := [.lit (.bool true)], args := [d1, d2] }
  | _ => none }
def modelDoesRow : OpenClaim := { program := "ytfigabjcmpakeab", sum := "8774e440266d78ca30ffe283a557377bd4623c3c5a98ded040cad9007ab0bda0", func := "forebay/forebaylaw14.ModelDoes", spec := "modelDoes", unfollowed := true, recurses := true, apart := false }
def ModelDoesSaid : Prop := modelDoesRow.holds Try.pinned (OpenSpec.ofChange modelDoesSpec)

/-- ITS FALSE NEIGHBOUR: 'it returns false'. Refute it at one input. -/
def modelDoesWrong : ChangeSpec := { name := "modelDoes", fn := fun _ => fun
  | [d1, d2] => { results := [.lit (.bool false)], args := [d1, d2] }
  | _ => none }
def ModelDoesWrongFalsely : Prop := modelDoesRow.holds Try.pinned (OpenSpec.ofChange modelDoesWrong)

/-- 'forebaylaw14.ModelEqual': WHATEVER THE INPUT: true; the input reads as it did. -/
def modelEqualSpec : ChangeSpec := { name := "modelEqual", fn := fun _ => fun
  | [d1, d2] => { results := [.lit (.bool true)], args := [d1, d2] }
  | _ => none }
def modelEqualRow : OpenClaim := { program := "ytfigabjcmpakeab", sum := "8774e440266d78ca30ffe283a557377bd4623c3c5a98ded040cad9007ab0bda0", func := "forebay/forebaylaw14.ModelEqual", spec := "modelEqual", unfollowed := true, recurses := true, apart := false }
def ModelEqualSaid : Prop := modelEqualRow.holds Try.pinned (OpenSpec.ofChange modelEqualSpec)

/-- ITS FALSE NEIGHBOUR: 'it returns false'. Refute it at one input. -/
def modelEqualWrong : ChangeSpec := { name := "modelEqual", fn := fun _ => fun
  | [d1, d2] => { results := [.lit (.bool false)], args := [d1, d2] }
  | _ => none }
def ModelEqualWrongFalsely : Prop := modelEqualRow.holds Try.pinned (OpenSpec.ofChange modelEqualWrong)

/-- 'forebaylaw14.ModelWalks': WHATEVER THE INPUT: true; the input reads as it did. -/
def modelWalksSpec : ChangeSpec := { name := "modelWalks", fn := fun _ => fun
  | [d1, d2] => { results := [.lit (.bool true)], args := [d1, d2] }
  | _ => none }
def modelWalksRow : OpenClaim := { program := "ytfigabjcmpakeab", sum := "8774e440266d78ca30ffe283a557377bd4623c3c5a98ded040cad9007ab0bda0", func := "forebay/forebaylaw14.ModelWalks", spec := "modelWalks", unfollowed := true, recurses := true, apart := false }
def ModelWalksSaid : Prop := modelWalksRow.holds Try.pinned (OpenSpec.ofChange modelWalksSpec)

/-- ITS FALSE NEIGHBOUR: 'it returns false'. Refute it at one input. -/
def modelWalksWrong : ChangeSpec := { name := "modelWalks", fn := fun _ => fun
  | [d1, d2] => { results := [.lit (.bool false)], args := [d1, d2] }
  | _ => none }
def ModelWalksWrongFalsely : Prop := modelWalksRow.holds Try.pinned (OpenSpec.ofChange modelWalksWrong)

/-- 'forebaylaw14.ModelEnds': WHATEVER THE INPUT: true; the input reads as it did. -/
def modelEndsSpec : ChangeSpec := { name := "modelEnds", fn := fun _ => fun
  | [d1, d2] => { results := [.lit (.bool true)], args := [d1, d2] }
  | _ => none }
def modelEndsRow : OpenClaim := { program := "ytfigabjcmpakeab", sum := "8774e440266d78ca30ffe283a557377bd4623c3c5a98ded040cad9007ab0bda0", func := "forebay/forebaylaw14.ModelEnds", spec := "modelEnds", unfollowed := true, recurses := true, apart := false }
def ModelEndsSaid : Prop := modelEndsRow.holds Try.pinned (OpenSpec.ofChange modelEndsSpec)

/-- ITS FALSE NEIGHBOUR: 'it returns false'. Refute it at one input. -/
def modelEndsWrong : ChangeSpec := { name := "modelEnds", fn := fun _ => fun
  | [d1, d2] => { results := [.lit (.bool false)], args := [d1, d2] }
  | _ => none }
def ModelEndsWrongFalsely : Prop := modelEndsRow.holds Try.pinned (OpenSpec.ofChange modelEndsWrong)

/-- 'forebaylaw18.JoinDoes': WHATEVER THE INPUT: true; the input reads as it did. -/
def joinDoesSpec : ChangeSpec := { name := "joinDoes", fn := fun _ => fun
  | [d1, d2, d3] => { results := [.lit (.bool true)], args := [d1, d2, d3] }
  | _ => none }
def joinDoesRow : OpenClaim := { program := "ytfigabjcmpakeab", sum := "8774e440266d78ca30ffe283a557377bd4623c3c5a98ded040cad9007ab0bda0", func := "forebay/forebaylaw18.JoinDoes", spec := "joinDoes", unfollowed := true, recurses := true, apart := false }
def JoinDoesSaid : Prop := joinDoesRow.holds Try.pinned (OpenSpec.ofChange joinDoesSpec)

/-- ITS FALSE NEIGHBOUR: 'it returns false'. Refute it at one input. -/
def joinDoesWrong : ChangeSpec := { name := "joinDoes", fn := fun _ => fun
  | [d1, d2, d3] => { results := [.lit (.bool false)], args := [d1, d2, d3] }
  | _ => none }
def JoinDoesWrongFalsely : Prop := joinDoesRow.holds Try.pinned (OpenSpec.ofChange joinDoesWrong)

/-- 'forebaylaw18.JoinLast': WHATEVER THE INPUT: true; the input reads as it did. -/
def joinLastSpec : ChangeSpec := { name := "joinLast", fn := fun _ => fun
  | [d1, d2] => { results := [.lit (.bool true)], args := [d1, d2] }
  | _ => none }
def joinLastRow : OpenClaim := { program := "ytfigabjcmpakeab", sum := "8774e440266d78ca30ffe283a557377bd4623c3c5a98ded040cad9007ab0bda0", func := "forebay/forebaylaw18.JoinLast", spec := "joinLast", unfollowed := true, recurses := true, apart := false }
def JoinLastSaid : Prop := joinLastRow.holds Try.pinned (OpenSpec.ofChange joinLastSpec)

/-- ITS FALSE NEIGHBOUR: 'it returns false'. Refute it at one input. -/
def joinLastWrong : ChangeSpec := { name := "joinLast", fn := fun _ => fun
  | [d1, d2] => { results := [.lit (.bool false)], args := [d1, d2] }
  | _ => none }
def JoinLastWrongFalsely : Prop := joinLastRow.holds Try.pinned (OpenSpec.ofChange joinLastWrong)

/-- 'forebaylaw18.JoinSums': WHATEVER THE INPUT: true; the input reads as it did. -/
def joinSumsSpec : ChangeSpec := { name := "joinSums", fn := fun _ => fun
  | [d1, d2] => { results := [.lit (.bool true)], args := [d1, d2] }
  | _ => none }
def joinSumsRow : OpenClaim := { program := "ytfigabjcmpakeab", sum := "8774e440266d78ca30ffe283a557377bd4623c3c5a98ded040cad9007ab0bda0", func := "forebay/forebaylaw18.JoinSums", spec := "joinSums", unfollowed := true, recurses := true, apart := false }
def JoinSumsSaid : Prop := joinSumsRow.holds Try.pinned (OpenSpec.ofChange joinSumsSpec)

/-- ITS FALSE NEIGHBOUR: 'it returns false'. Refute it at one input. -/
def joinSumsWrong : ChangeSpec := { name := "joinSums", fn := fun _ => fun
  | [d1, d2] => { results := [.lit (.bool false)], args := [d1, d2] }
  | _ => none }
def JoinSumsWrongFalsely : Prop := joinSumsRow.holds Try.pinned (OpenSpec.ofChange joinSumsWrong)

/-- 'forebaylaw24.LogParts': WHATEVER THE INPUT: true; the input reads as it did. -/
def logPartsSpec : ChangeSpec := { name := "logParts", fn := fun _ => fun
  | [d] => { results := [.lit (.bool true)], args := [d] }
  | _ => none }
def logPartsRow : OpenClaim := { program := "ytfigabjcmpakeab", sum := "8774e440266d78ca30ffe283a557377bd4623c3c5a98ded040cad9007ab0bda0", func := "forebay/forebaylaw24.LogParts", spec := "logParts", unfollowed := true, recurses := true, apart := false }
def LogPartsSaid : Prop := logPartsRow.holds Try.pinned (OpenSpec.ofChange logPartsSpec)

/-- ITS FALSE NEIGHBOUR: 'it returns false'. Refute it at one input. -/
def logPartsWrong : ChangeSpec := { name := "logParts", fn := fun _ => fun
  | [d] => { results := [.lit (.bool false)], args := [d] }
  | _ => none }
def LogPartsWrongFalsely : Prop := logPartsRow.holds Try.pinned (OpenSpec.ofChange logPartsWrong)

/-- 'forebaylaw36.SchedMakes': WHATEVER THE INPUT: true; the input reads as it did. -/
def schedMakesSpec : ChangeSpec := { name := "schedMakes", fn := fun _ => fun
  | [d1, d2, d3, d4] => { results := [.lit (.bool true)], args := [d1, d2, d3, d4] }
  | _ => none }
def schedMakesRow : OpenClaim := { program := "ytfigabjcmpakeab", sum := "8774e440266d78ca30ffe283a557377bd4623c3c5a98ded040cad9007ab0bda0", func := "forebay/forebaylaw36.SchedMakes", spec := "schedMakes", unfollowed := true, recurses := true, apart := false }
def SchedMakesSaid : Prop := schedMakesRow.holds Try.pinned (OpenSpec.ofChange schedMakesSpec)

/-- ITS FALSE NEIGHBOUR: 'it returns false'. Refute it at one input. -/
def schedMakesWrong : ChangeSpec := { name := "schedMakes", fn := fun _ => fun
  | [d1, d2, d3, d4] => { results := [.lit (.bool false)], args := [d1, d2, d3, d4] }
  | _ => none }
def SchedMakesWrongFalsely : Prop := schedMakesRow.holds Try.pinned (OpenSpec.ofChange schedMakesWrong)

/- THE SECOND FORM. 'bulk': how many values and letters a reading holds, each counted each time it is reached (what is shared counts as often as it is met; a slice's spare places count too). A statement '..UptoSaid' is the law's where the arguments, and the package variables that the reading takes, are together of bulk at most 1048576: NARROWER than '..Said'. Prove '..Said' where nothing that the law and all that it calls make is longer than what came in: it says more and counts as full. Else prove '..UptoSaid'. A law counts once. -/
mutual
def uptoBulk {H : Type} : DataW H → Nat
  | .lit (.string bytes) => bytes.length + 1
  | .lit _ => 1
  | .nil => 1
  | .ptr d => uptoBulk d + 1
  | .slice elems spare => uptoBulkAll elems + uptoBulkAll spare + 1
  | .agg parts => uptoBulkAll parts + 1
  | .iface _ d => uptoBulk d + 1
  | .map entries => uptoBulkEntries entries + 1
  | .held _ => 1
def uptoBulkAll {H : Type} : List (DataW H) → Nat
  | [] => 0
  | d :: r => uptoBulk d + uptoBulkAll r
def uptoBulkEntries {H : Type} : List (Lit × DataW H) → Nat
  | [] => 0
  | x :: r => uptoBulkEntry x + uptoBulkEntries r
def uptoBulkEntry {H : Type} : Lit × DataW H → Nat
  | (.string bytes, d) => bytes.length + uptoBulk d + 1
  | (_, d) => uptoBulk d + 1
 end
def uptoSmall : (H : Type) → List (DataW H) → Bool := fun _ ds => decide (uptoBulkAll ds ≤ 1048576)
def OpenSpec.upto (s : _root_.Go.ChangeSpec) : _root_.Go.OpenSpec := { _root_.Go.OpenSpec.ofChange s with cond := some uptoSmall }

/-- 'forebaylaw12.TicketDoes', WHERE WHAT IT READS IS OF BULK AT MOST 1048576: true; the input reads as it did. -/
def ticketDoesUptoRow : OpenClaim := { program := "ytfigabjcmpakeab", sum := "8774e440266d78ca30ffe283a557377bd4623c3c5a98ded040cad9007ab0bda0", func := "forebay/forebaylaw12.TicketDoes", spec := "ticketDoes", unfollowed := true, recurses := true, apart := false, narrowed := true }
def TicketDoesUptoSaid : Prop := ticketDoesUptoRow.holds Try.pinned (OpenSpec.upto ticketDoesSpec)

/-- 'forebaylaw12.TicketOrder', WHERE WHAT IT READS IS OF BULK AT MOST 1048576: true; the input reads as it did. -/
def ticketOrderUptoRow : OpenClaim := { program := "ytfigabjcmpakeab", sum := "8774e440266d78ca30ffe283a557377bd4623c3c5a98ded040cad9007ab0bda0", func := "forebay/forebaylaw12.TicketOrder", spec := "ticketOrder", unfollowed := true, recurses := true, apart := false, narrowed := true }
def TicketOrderUptoSaid : Prop := ticketOrderUptoRow.holds Try.pinned (OpenSpec.upto ticketOrderSpec)

/-- 'forebaylaw12.TicketComes', WHERE WHAT IT READS IS OF BULK AT MOST 1048576: true; the input reads as it did. -/
def ticketComesUptoRow : OpenClaim := { program := "ytfigabjcmpakeab", sum := "8774e440266d78ca30ffe283a557377bd4623c3c5a98ded040cad9007ab0bda0", func := "forebay/forebaylaw12.TicketComes", spec := "ticketComes", unfollowed := true, recurses := true, apart := false, narrowed := true }
def TicketComesUptoSaid : Prop := ticketComesUptoRow.holds Try.pinned (OpenSpec.upto ticketComesSpec)

/-- 'forebaylaw14.ModelDoes', WHERE WHAT IT READS IS OF BULK AT MOST 1048576: true; the input reads as it did. -/
def modelDoesUptoRow : OpenClaim := { program := "ytfigabjcmpakeab", sum := "8774e440266d78ca30ffe283a557377bd4623c3c5a98ded040cad9007ab0bda0", func := "forebay/forebaylaw14.ModelDoes", spec := "modelDoes", unfollowed := true, recurses := true, apart := false, narrowed := true }
def ModelDoesUptoSaid : Prop := modelDoesUptoRow.holds Try.pinned (OpenSpec.upto modelDoesSpec)

/-- 'forebaylaw14.ModelEqual', WHERE WHAT IT READS IS OF BULK AT MOST 1048576: true; the input reads as it did. -/
def modelEqualUptoRow : OpenClaim := { program := "ytfigabjcmpakeab", sum := "8774e440266d78ca30ffe283a557377bd4623c3c5a98ded040cad9007ab0bda0", func := "forebay/forebaylaw14.ModelEqual", spec := "modelEqual", unfollowed := true, recurses := true, apart := false, narrowed := true }
def ModelEqualUptoSaid : Prop := modelEqualUptoRow.holds Try.pinned (OpenSpec.upto modelEqualSpec)

/-- 'forebaylaw14.ModelWalks', WHERE WHAT IT READS IS OF BULK AT MOST 1048576: true; the input reads as it did. -/
def modelWalksUptoRow : OpenClaim := { program := "ytfigabjcmpakeab", sum := "8774e440266d78ca30ffe283a557377bd4623c3c5a98ded040cad9007ab0bda0", func := "forebay/forebaylaw14.ModelWalks", spec := "modelWalks", unfollowed := true, recurses := true, apart := false, narrowed := true }
def ModelWalksUptoSaid : Prop := modelWalksUptoRow.holds Try.pinned (OpenSpec.upto modelWalksSpec)

/-- 'forebaylaw14.ModelEnds', WHERE WHAT IT READS IS OF BULK AT MOST 1048576: true; the input reads as it did. -/
def modelEndsUptoRow : OpenClaim := { program := "ytfigabjcmpakeab", sum := "8774e440266d78ca30ffe283a557377bd4623c3c5a98ded040cad9007ab0bda0", func := "forebay/forebaylaw14.ModelEnds", spec := "modelEnds", unfollowed := true, recurses := true, apart := false, narrowed := true }
def ModelEndsUptoSaid : Prop := modelEndsUptoRow.holds Try.pinned (OpenSpec.upto modelEndsSpec)

/-- 'forebaylaw18.JoinDoes', WHERE WHAT IT READS IS OF BULK AT MOST 1048576: true; the input reads as it did. -/
def joinDoesUptoRow : OpenClaim := { program := "ytfigabjcmpakeab", sum := "8774e440266d78ca30ffe283a557377bd4623c3c5a98ded040cad9007ab0bda0", func := "forebay/forebaylaw18.JoinDoes", spec := "joinDoes", unfollowed := true, recurses := true, apart := false, narrowed := true }
def JoinDoesUptoSaid : Prop := joinDoesUptoRow.holds Try.pinned (OpenSpec.upto joinDoesSpec)

/-- 'forebaylaw18.JoinLast', WHERE WHAT IT READS IS OF BULK AT MOST 1048576: true; the input reads as it did. -/
def joinLastUptoRow : OpenClaim := { program := "ytfigabjcmpakeab", sum := "8774e440266d78ca30ffe283a557377bd4623c3c5a98ded040cad9007ab0bda0", func := "forebay/forebaylaw18.JoinLast", spec := "joinLast", unfollowed := true, recurses := true, apart := false, narrowed := true }
def JoinLastUptoSaid : Prop := joinLastUptoRow.holds Try.pinned (OpenSpec.upto joinLastSpec)

/-- 'forebaylaw18.JoinSums', WHERE WHAT IT READS IS OF BULK AT MOST 1048576: true; the input reads as it did. -/
def joinSumsUptoRow : OpenClaim := { program := "ytfigabjcmpakeab", sum := "8774e440266d78ca30ffe283a557377bd4623c3c5a98ded040cad9007ab0bda0", func := "forebay/forebaylaw18.JoinSums", spec := "joinSums", unfollowed := true, recurses := true, apart := false, narrowed := true }
def JoinSumsUptoSaid : Prop := joinSumsUptoRow.holds Try.pinned (OpenSpec.upto joinSumsSpec)

/-- 'forebaylaw24.LogParts', WHERE WHAT IT READS IS OF BULK AT MOST 1048576: true; the input reads as it did. -/
def logPartsUptoRow : OpenClaim := { program := "ytfigabjcmpakeab", sum := "8774e440266d78ca30ffe283a557377bd4623c3c5a98ded040cad9007ab0bda0", func := "forebay/forebaylaw24.LogParts", spec := "logParts", unfollowed := true, recurses := true, apart := false, narrowed := true }
def LogPartsUptoSaid : Prop := logPartsUptoRow.holds Try.pinned (OpenSpec.upto logPartsSpec)

/-- 'forebaylaw36.SchedMakes', WHERE WHAT IT READS IS OF BULK AT MOST 1048576: true; the input reads as it did. -/
def schedMakesUptoRow : OpenClaim := { program := "ytfigabjcmpakeab", sum := "8774e440266d78ca30ffe283a557377bd4623c3c5a98ded040cad9007ab0bda0", func := "forebay/forebaylaw36.SchedMakes", spec := "schedMakes", unfollowed := true, recurses := true, apart := false, narrowed := true }
def SchedMakesUptoSaid : Prop := schedMakesUptoRow.holds Try.pinned (OpenSpec.upto schedMakesSpec)

end Rows
end Go.Proofs.Ytfigabjcmpakeab
