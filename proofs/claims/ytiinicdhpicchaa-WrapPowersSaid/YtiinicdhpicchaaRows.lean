/-
  No cell of these rows narrows 'for every input' (looked for: loops, veiled, ifaces, maps, wideKeys, modest, calm, conditions, laid).
  DERIVED. THE GIVEN ROWS OF THIS SEAT. 5 by the template 'for every input the law returns true; each argument reads behind the call as it read before'; 0 by the template 'total and deterministic' (their statements: YtiinicdhpicchaaTotals.lean).
  GIVEN WITH THE SEED: the statements are not yours to turn. If you find one false, say at which input.
  Laid BY PROGRAM, IN A SANDBOX (cutbox-rows.mjs): the forced cells as the released guide's own fill.sh prints them over the translation 9ca263e276833fac… (all of the seat's roots in one cut). By AI agents, Wed Nov 11 2026. No macro, syntax, notation, axiom, sorry.
-/
import Derived.Test.YtiinicdhpicchaaChecked
import GoSem.Claim
import GoSem.ClaimJoined
import GoSem.ClaimMapViews
import Derived.JoinedTies
import Derived.KernelRfl
namespace Go.Proofs.Ytiinicdhpicchaa
/- THE CELL 'sum', in the pinned program and in every row, IS THE sha256 OF THE DUMP (.gsa) THAT YtiinicdhpicchaaProg.lean LOADS. Nothing in Lean hashes anything: it is a label: what it is worth is what the hold of that sum in a sandbox is worth. -/
noncomputable def Try.pinned : Pinned := { name := "ytiinicdhpicchaa", sum := "9ca263e276833fac164396e82ff54301bc379c3640cef03982703ee0c016bdcc", checked := Try.checked }
namespace Rows
def none {H : Type} : Left H := { results := [], args := [] }

/-- 'forebaylaw01.WrapDoes': WHATEVER THE INPUT: true; the input reads as it did. -/
def wrapDoesSpec : ChangeSpec := { name := "wrapDoes", fn := fun _ => fun
  | [d1, d2, d3] => { results := [.lit (.bool true)], args := [d1, d2, d3] }
  | _ => none }
def wrapDoesRow : OpenClaim := { program := "ytiinicdhpicchaa", sum := "9ca263e276833fac164396e82ff54301bc379c3640cef03982703ee0c016bdcc", func := "forebay/forebaylaw01.WrapDoes", spec := "wrapDoes", apart := false }
def WrapDoesSaid : Prop := wrapDoesRow.holds Try.pinned (OpenSpec.ofChange wrapDoesSpec)

/-- ITS FALSE NEIGHBOUR: 'it returns false'. Refute it at one input. -/
def wrapDoesWrong : ChangeSpec := { name := "wrapDoes", fn := fun _ => fun
  | [d1, d2, d3] => { results := [.lit (.bool false)], args := [d1, d2, d3] }
  | _ => none }
def WrapDoesWrongFalsely : Prop := wrapDoesRow.holds Try.pinned (OpenSpec.ofChange wrapDoesWrong)

/-- 'forebaylaw01.WrapBack': WHATEVER THE INPUT: true; the input reads as it did. -/
def wrapBackSpec : ChangeSpec := { name := "wrapBack", fn := fun _ => fun
  | [d1, d2] => { results := [.lit (.bool true)], args := [d1, d2] }
  | _ => none }
def wrapBackRow : OpenClaim := { program := "ytiinicdhpicchaa", sum := "9ca263e276833fac164396e82ff54301bc379c3640cef03982703ee0c016bdcc", func := "forebay/forebaylaw01.WrapBack", spec := "wrapBack", apart := false }
def WrapBackSaid : Prop := wrapBackRow.holds Try.pinned (OpenSpec.ofChange wrapBackSpec)

/-- ITS FALSE NEIGHBOUR: 'it returns false'. Refute it at one input. -/
def wrapBackWrong : ChangeSpec := { name := "wrapBack", fn := fun _ => fun
  | [d1, d2] => { results := [.lit (.bool false)], args := [d1, d2] }
  | _ => none }
def WrapBackWrongFalsely : Prop := wrapBackRow.holds Try.pinned (OpenSpec.ofChange wrapBackWrong)

/-- 'forebaylaw01.WrapDivides': WHATEVER THE INPUT: true; the input reads as it did. -/
def wrapDividesSpec : ChangeSpec := { name := "wrapDivides", fn := fun _ => fun
  | [d1, d2] => { results := [.lit (.bool true)], args := [d1, d2] }
  | _ => none }
def wrapDividesRow : OpenClaim := { program := "ytiinicdhpicchaa", sum := "9ca263e276833fac164396e82ff54301bc379c3640cef03982703ee0c016bdcc", func := "forebay/forebaylaw01.WrapDivides", spec := "wrapDivides", apart := false }
def WrapDividesSaid : Prop := wrapDividesRow.holds Try.pinned (OpenSpec.ofChange wrapDividesSpec)

/-- ITS FALSE NEIGHBOUR: 'it returns false'. Refute it at one input. -/
def wrapDividesWrong : ChangeSpec := { name := "wrapDivides", fn := fun _ => fun
  | [d1, d2] => { results := [.lit (.bool false)], args := [d1, d2] }
  | _ => none }
def WrapDividesWrongFalsely : Prop := wrapDividesRow.holds Try.pinned (OpenSpec.ofChange wrapDividesWrong)

/-- 'forebaylaw01.WrapPowers': WHATEVER THE INPUT: true; the input reads as it did. -/
def wrapPowersSpec : ChangeSpec := { name := "wrapPowers", fn := fun _ => fun
  | [d1, d2, d3, d4, d5] => { results := [.lit (.bool true)], args := [d1, d2, d3, d4, d5] }
  | _ => none }
def wrapPowersRow : OpenClaim := { program := "ytiinicdhpicchaa", sum := "9ca263e276833fac164396e82ff54301bc379c3640cef03982703ee0c016bdcc", func := "forebay/forebaylaw01.WrapPowers", spec := "wrapPowers", apart := false }
def WrapPowersSaid : Prop := wrapPowersRow.holds Try.pinned (OpenSpec.ofChange wrapPowersSpec)

/-- ITS FALSE NEIGHBOUR: 'it returns false'. Refute it at one input. -/
def wrapPowersWrong : ChangeSpec := { name := "wrapPowers", fn := fun _ => fun
  | [d1, d2, d3, d4, d5] => { results := [.lit (.bool false)], args := [d1, d2, d3, d4, d5] }
  | _ => none }
def WrapPowersWrongFalsely : Prop := wrapPowersRow.holds Try.pinned (OpenSpec.ofChange wrapPowersWrong)

/-- 'forebaylaw01.WrapOrders': WHATEVER THE INPUT: true; the input reads as it did. -/
def wrapOrdersSpec : ChangeSpec := { name := "wrapOrders", fn := fun _ => fun
  | [d1, d2] => { results := [.lit (.bool true)], args := [d1, d2] }
  | _ => none }
def wrapOrdersRow : OpenClaim := { program := "ytiinicdhpicchaa", sum := "9ca263e276833fac164396e82ff54301bc379c3640cef03982703ee0c016bdcc", func := "forebay/forebaylaw01.WrapOrders", spec := "wrapOrders", apart := false }
def WrapOrdersSaid : Prop := wrapOrdersRow.holds Try.pinned (OpenSpec.ofChange wrapOrdersSpec)

/-- ITS FALSE NEIGHBOUR: 'it returns false'. Refute it at one input. -/
def wrapOrdersWrong : ChangeSpec := { name := "wrapOrders", fn := fun _ => fun
  | [d1, d2] => { results := [.lit (.bool false)], args := [d1, d2] }
  | _ => none }
def WrapOrdersWrongFalsely : Prop := wrapOrdersRow.holds Try.pinned (OpenSpec.ofChange wrapOrdersWrong)

/- THE SECOND FORM. 'bulk': how many values and letters a reading holds, each counted each time it is reached (what is shared counts as often as it is met; a slice's spare places count too). A statement '..UptoSaid' is the law's where the arguments, and the package variables that the reading takes, are together of bulk at most 1048576: NARROWER than '..Said'. Prove '..Said' where nothing that the law and all that it calls make is longer than what came in: it says more and counts as full. Else prove '..UptoSaid'. A law counts once. -/
mutual
def uptoBulk {H : Type} : DataW H → Nat
  | .lit (.string bytes) => bytes.length + 1
  | .lit _ => 1
  | .nil => 1
  | .ptr d => uptoBulk d + 1
  | .slice elems spare => uptoBulkAll elems + uptoBulkAll spare + 1
  | .agg parts => uptoBulkAll parts + 1
  | .iface _ d => uptoBulk d + 1
  | .map entries => uptoBulkEntries entries + 1
  | .held _ => 1
def uptoBulkAll {H : Type} : List (DataW H) → Nat
  | [] => 0
  | d :: r => uptoBulk d + uptoBulkAll r
def uptoBulkEntries {H : Type} : List (Lit × DataW H) → Nat
  | [] => 0
  | x :: r => uptoBulkEntry x + uptoBulkEntries r
def uptoBulkEntry {H : Type} : Lit × DataW H → Nat
  | (.string bytes, d) => bytes.length + uptoBulk d + 1
  | (_, d) => uptoBulk d + 1
 end
def uptoSmall : (H : Type) → List (DataW H) → Bool := fun _ ds => decide (uptoBulkAll ds ≤ 1048576)
def OpenSpec.upto (s : _root_.Go.ChangeSpec) : _root_.Go.OpenSpec := { _root_.Go.OpenSpec.ofChange s with cond := some uptoSmall }

/-- 'forebaylaw01.WrapDoes', WHERE WHAT IT READS IS OF BULK AT MOST 1048576: true; the input reads as it did. -/
def wrapDoesUptoRow : OpenClaim := { program := "ytiinicdhpicchaa", sum := "9ca263e276833fac164396e82ff54301bc379c3640cef03982703ee0c016bdcc", func := "forebay/forebaylaw01.WrapDoes", spec := "wrapDoes", apart := false, narrowed := true }
def WrapDoesUptoSaid : Prop := wrapDoesUptoRow.holds Try.pinned (OpenSpec.upto wrapDoesSpec)

/-- 'forebaylaw01.WrapBack', WHERE WHAT IT READS IS OF BULK AT MOST 1048576: true; the input reads as it did. -/
def wrapBackUptoRow : OpenClaim := { program := "ytiinicdhpicchaa", sum := "9ca263e276833fac164396e82ff54301bc379c3640cef03982703ee0c016bdcc", func := "forebay/forebaylaw01.WrapBack", spec := "wrapBack", apart := false, narrowed := true }
def WrapBackUptoSaid : Prop := wrapBackUptoRow.holds Try.pinned (OpenSpec.upto wrapBackSpec)

/-- 'forebaylaw01.WrapDivides', WHERE WHAT IT READS IS OF BULK AT MOST 1048576: true; the input reads as it did. -/
def wrapDividesUptoRow : OpenClaim := { program := "ytiinicdhpicchaa", sum := "9ca263e276833fac164396e82ff54301bc379c3640cef03982703ee0c016bdcc", func := "forebay/forebaylaw01.WrapDivides", spec := "wrapDivides", apart := false, narrowed := true }
def WrapDividesUptoSaid : Prop := wrapDividesUptoRow.holds Try.pinned (OpenSpec.upto wrapDividesSpec)

/-- 'forebaylaw01.WrapPowers', WHERE WHAT IT READS IS OF BULK AT MOST 1048576: true; the input reads as it did. -/
def wrapPowersUptoRow : OpenClaim := { program := "ytiinicdhpicchaa", sum := "9ca263e276833fac164396e82ff54301bc379c3640cef03982703ee0c016bdcc", func := "forebay/forebaylaw01.WrapPowers", spec := "wrapPowers", apart := false, narrowed := true }
def WrapPowersUptoSaid : Prop := wrapPowersUptoRow.holds Try.pinned (OpenSpec.upto wrapPowersSpec)

/-- 'forebaylaw01.WrapOrders', WHERE WHAT IT READS IS OF BULK AT MOST 1048576: true; the input reads as it did. -/
def wrapOrdersUptoRow : OpenClaim := { program := "ytiinicdhpicchaa", sum := "9ca263e276833fac164396e82ff54301bc379c3640cef03982703ee0c016bdcc", func := "forebay/forebaylaw01.WrapOrders", spec := "wrapOrders", apart := false, narrowed := true }
def WrapOrdersUptoSaid : Prop := wrapOrdersUptoRow.holds Try.pinned (OpenSpec.upto wrapOrdersSpec)

end Rows
end Go.Proofs.Ytiinicdhpicchaa
