/-
  No cell of these rows narrows 'for every input' (looked for: loops, veiled, ifaces, maps, wideKeys, modest, calm, conditions, laid).
  DERIVED. THE GIVEN ROWS OF THIS SEAT. 5 by the template 'for every input the law returns true; each argument reads behind the call as it read before'; 0 by the template 'total and deterministic' (their statements: YthllikmnlnakkaaTotals.lean).
  GIVEN WITH THE SEED: the statements are not yours to turn. If you find one false, say at which input.
  Laid BY PROGRAM, IN A SANDBOX (cutbox-rows.mjs): the forced cells as the released guide's own fill.sh prints them over the translation 90e624240fd8e9d5… (all of the seat's roots in one cut). By AI agents, Wed Nov 11 2026. No macro, syntax, notation, axiom, sorry.
-/
import Derived.Test.YthllikmnlnakkaaChecked
import GoSem.Claim
import GoSem.ClaimJoined
import GoSem.ClaimMapViews
import Derived.JoinedTies
import Derived.KernelRfl
namespace Go.Proofs.Ythllikmnlnakkaa
/- THE CELL 'sum', in the pinned program and in every row, IS THE sha256 OF THE DUMP (.gsa) THAT YthllikmnlnakkaaProg.lean LOADS. Nothing in Lean hashes anything: it is a label: what it is worth is what the hold of that sum in a sandbox is worth. -/
noncomputable def Try.pinned : Pinned := { name := "ythllikmnlnakkaa", sum := "90e624240fd8e9d5b8b29f7f6f976c44e0743ed45dde304aac81b383f16ff01a", checked := Try.checked }
namespace Rows
def none {H : Type} : Left H := { results := [], args := [] }

/-- 'forebaylaw04.ProgPuts': WHATEVER THE INPUT: true; the input reads as it did. -/
def progPutsSpec : ChangeSpec := { name := "progPuts", fn := fun _ => fun
  | [d] => { results := [.lit (.bool true)], args := [d] }
  | _ => none }
def progPutsRow : OpenClaim := { program := "ythllikmnlnakkaa", sum := "90e624240fd8e9d5b8b29f7f6f976c44e0743ed45dde304aac81b383f16ff01a", func := "forebay/forebaylaw04.ProgPuts", spec := "progPuts", apart := false }
def ProgPutsSaid : Prop := progPutsRow.holds Try.pinned (OpenSpec.ofChange progPutsSpec)

/-- ITS FALSE NEIGHBOUR: 'it returns false'. Refute it at one input. -/
def progPutsWrong : ChangeSpec := { name := "progPuts", fn := fun _ => fun
  | [d] => { results := [.lit (.bool false)], args := [d] }
  | _ => none }
def ProgPutsWrongFalsely : Prop := progPutsRow.holds Try.pinned (OpenSpec.ofChange progPutsWrong)

/-- 'forebaylaw04.ProgGets': WHATEVER THE INPUT: true; the input reads as it did. -/
def progGetsSpec : ChangeSpec := { name := "progGets", fn := fun _ => fun
  | [d] => { results := [.lit (.bool true)], args := [d] }
  | _ => none }
def progGetsRow : OpenClaim := { program := "ythllikmnlnakkaa", sum := "90e624240fd8e9d5b8b29f7f6f976c44e0743ed45dde304aac81b383f16ff01a", func := "forebay/forebaylaw04.ProgGets", spec := "progGets", apart := false }
def ProgGetsSaid : Prop := progGetsRow.holds Try.pinned (OpenSpec.ofChange progGetsSpec)

/-- ITS FALSE NEIGHBOUR: 'it returns false'. Refute it at one input. -/
def progGetsWrong : ChangeSpec := { name := "progGets", fn := fun _ => fun
  | [d] => { results := [.lit (.bool false)], args := [d] }
  | _ => none }
def ProgGetsWrongFalsely : Prop := progGetsRow.holds Try.pinned (OpenSpec.ofChange progGetsWrong)

/-- 'forebaylaw04.ProgGrammar': WHATEVER THE INPUT: true; the input reads as it did. -/
def progGrammarSpec : ChangeSpec := { name := "progGrammar", fn := fun _ => fun
  | [d] => { results := [.lit (.bool true)], args := [d] }
  | _ => none }
def progGrammarRow : OpenClaim := { program := "ythllikmnlnakkaa", sum := "90e624240fd8e9d5b8b29f7f6f976c44e0743ed45dde304aac81b383f16ff01a", func := "forebay/forebaylaw04.ProgGrammar", spec := "progGrammar", apart := false }
def ProgGrammarSaid : Prop := progGrammarRow.holds Try.pinned (OpenSpec.ofChange progGrammarSpec)

/-- ITS FALSE NEIGHBOUR: 'it returns false'. Refute it at one input. -/
def progGrammarWrong : ChangeSpec := { name := "progGrammar", fn := fun _ => fun
  | [d] => { results := [.lit (.bool false)], args := [d] }
  | _ => none }
def ProgGrammarWrongFalsely : Prop := progGrammarRow.holds Try.pinned (OpenSpec.ofChange progGrammarWrong)

/-- 'forebaylaw04.ProgOnce': WHATEVER THE INPUT: true; the input reads as it did. -/
def progOnceSpec : ChangeSpec := { name := "progOnce", fn := fun _ => fun
  | [d1, d2] => { results := [.lit (.bool true)], args := [d1, d2] }
  | _ => none }
def progOnceRow : OpenClaim := { program := "ythllikmnlnakkaa", sum := "90e624240fd8e9d5b8b29f7f6f976c44e0743ed45dde304aac81b383f16ff01a", func := "forebay/forebaylaw04.ProgOnce", spec := "progOnce", apart := false }
def ProgOnceSaid : Prop := progOnceRow.holds Try.pinned (OpenSpec.ofChange progOnceSpec)

/-- ITS FALSE NEIGHBOUR: 'it returns false'. Refute it at one input. -/
def progOnceWrong : ChangeSpec := { name := "progOnce", fn := fun _ => fun
  | [d1, d2] => { results := [.lit (.bool false)], args := [d1, d2] }
  | _ => none }
def ProgOnceWrongFalsely : Prop := progOnceRow.holds Try.pinned (OpenSpec.ofChange progOnceWrong)

/-- 'forebaylaw04.ProgSizes': WHATEVER THE INPUT: true; the input reads as it did. -/
def progSizesSpec : ChangeSpec := { name := "progSizes", fn := fun _ => fun
  | [d] => { results := [.lit (.bool true)], args := [d] }
  | _ => none }
def progSizesRow : OpenClaim := { program := "ythllikmnlnakkaa", sum := "90e624240fd8e9d5b8b29f7f6f976c44e0743ed45dde304aac81b383f16ff01a", func := "forebay/forebaylaw04.ProgSizes", spec := "progSizes", apart := false }
def ProgSizesSaid : Prop := progSizesRow.holds Try.pinned (OpenSpec.ofChange progSizesSpec)

/-- ITS FALSE NEIGHBOUR: 'it returns false'. Refute it at one input. -/
def progSizesWrong : ChangeSpec := { name := "progSizes", fn := fun _ => fun
  | [d] => { results := [.lit (.bool false)], args := [d] }
  | _ => none }
def ProgSizesWrongFalsely : Prop := progSizesRow.holds Try.pinned (OpenSpec.ofChange progSizesWrong)

/- THE SECOND FORM. 'bulk': how many values and letters a reading holds, each counted each time it is reached (what is shared counts as often as it is met; a slice's spare places count too). A statement '..UptoSaid' is the law's where the arguments, and the package variables that the reading takes, are together of bulk at most 1048576: NARROWER than '..Said'. Prove '..Said' where nothing that the law and all that it calls make is longer than what came in: it says more and counts as full. Else prove '..UptoSaid'. A law counts once. -/
mutual
def uptoBulk {H : Type} : DataW H → Nat
  | .lit (.string bytes) => bytes.length + 1
  | .lit _ => 1
  | .nil => 1
  | .ptr d => uptoBulk d + 1
  | .slice elems spare => uptoBulkAll elems + uptoBulkAll spare + 1
  | .agg parts => uptoBulkAll parts + 1
  | .iface _ d => uptoBulk d + 1
  | .map entries => uptoBulkEntries entries + 1
  | .held _ => 1
def uptoBulkAll {H : Type} : List (DataW H) → Nat
  | [] => 0
  | d :: r => uptoBulk d + uptoBulkAll r
def uptoBulkEntries {H : Type} : List (Lit × DataW H) → Nat
  | [] => 0
  | x :: r => uptoBulkEntry x + uptoBulkEntries r
def uptoBulkEntry {H : Type} : Lit × DataW H → Nat
  | (.string bytes, d) => bytes.length + uptoBulk d + 1
  | (_, d) => uptoBulk d + 1
 end
def uptoSmall : (H : Type) → List (DataW H) → Bool := fun _ ds => decide (uptoBulkAll ds ≤ 1048576)
def OpenSpec.upto (s : _root_.Go.ChangeSpec) : _root_.Go.OpenSpec := { _root_.Go.OpenSpec.ofChange s with cond := some uptoSmall }

/-- 'forebaylaw04.ProgPuts', WHERE WHAT IT READS IS OF BULK AT MOST 1048576: true; the input reads as it did. -/
def progPutsUptoRow : OpenClaim := { program := "ythllikmnlnakkaa", sum := "90e624240fd8e9d5b8b29f7f6f976c44e0743ed45dde304aac81b383f16ff01a", func := "forebay/forebaylaw04.ProgPuts", spec := "progPuts", apart := false, narrowed := true }
def ProgPutsUptoSaid : Prop := progPutsUptoRow.holds Try.pinned (OpenSpec.upto progPutsSpec)

/-- 'forebaylaw04.ProgGets', WHERE WHAT IT READS IS OF BULK AT MOST 1048576: true; the input reads as it did. -/
def progGetsUptoRow : OpenClaim := { program := "ythllikmnlnakkaa", sum := "90e624240fd8e9d5b8b29f7f6f976c44e0743ed45dde304aac81b383f16ff01a", func := "forebay/forebaylaw04.ProgGets", spec := "progGets", apart := false, narrowed := true }
def ProgGetsUptoSaid : Prop := progGetsUptoRow.holds Try.pinned (OpenSpec.upto progGetsSpec)

/-- 'forebaylaw04.ProgGrammar', WHERE WHAT IT READS IS OF BULK AT MOST 1048576: true; the input reads as it did. -/
def progGrammarUptoRow : OpenClaim := { program := "ythllikmnlnakkaa", sum := "90e624240fd8e9d5b8b29f7f6f976c44e0743ed45dde304aac81b383f16ff01a", func := "forebay/forebaylaw04.ProgGrammar", spec := "progGrammar", apart := false, narrowed := true }
def ProgGrammarUptoSaid : Prop := progGrammarUptoRow.holds Try.pinned (OpenSpec.upto progGrammarSpec)

/-- 'forebaylaw04.ProgOnce', WHERE WHAT IT READS IS OF BULK AT MOST 1048576: true; the input reads as it did. -/
def progOnceUptoRow : OpenClaim := { program := "ythllikmnlnakkaa", sum := "90e624240fd8e9d5b8b29f7f6f976c44e0743ed45dde304aac81b383f16ff01a", func := "forebay/forebaylaw04.ProgOnce", spec := "progOnce", apart := false, narrowed := true }
def ProgOnceUptoSaid : Prop := progOnceUptoRow.holds Try.pinned (OpenSpec.upto progOnceSpec)

/-- 'forebaylaw04.ProgSizes', WHERE WHAT IT READS IS OF BULK AT MOST 1048576: true; the input reads as it did. -/
def progSizesUptoRow : OpenClaim := { program := "ythllikmnlnakkaa", sum := "90e624240fd8e9d5b8b29f7f6f976c44e0743ed45dde304aac81b383f16ff01a", func := "forebay/forebaylaw04.ProgSizes", spec := "progSizes", apart := false, narrowed := true }
def ProgSizesUptoSaid : Prop := progSizesUptoRow.holds Try.pinned (OpenSpec.upto progSizesSpec)

end Rows
end Go.Proofs.Ythllikmnlnakkaa
