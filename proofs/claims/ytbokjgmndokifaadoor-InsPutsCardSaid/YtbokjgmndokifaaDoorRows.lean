/-
  NARROWER THAN 'FOR EVERY INPUT', by the rows' own cells (each row's printed sentence says how): InsNames: laid · InsPuts: laid · InsGets: laid · InsOnce: laid.
  DERIVED. THE GIVEN ROWS OF THIS SEAT. 4 by the template 'for every input the law returns true; each argument reads behind the call as it read before'; 0 by the template 'total and deterministic' (their statements: YtbokjgmndokifaaDoorTotals.lean).
  GIVEN WITH THE SEED: the statements are not yours to turn. If you find one false, say at which input.
  Laid BY PROGRAM, IN A SANDBOX (cutbox-rows.mjs): the forced cells as the released guide's own fill.sh prints them over the translation d719f4bd64a838c5… (all of the seat's roots in one cut). By AI agents, Wed Nov 11 2026. No macro, syntax, notation, axiom, sorry.
-/
import Derived.Test.YtbokjgmndokifaaDoorChecked
import GoSem.Claim
import GoSem.ClaimJoined
import GoSem.ClaimMapViews
import Derived.JoinedTies
import Derived.KernelRfl
namespace Go.Proofs.YtbokjgmndokifaaDoor
/- THE CELL 'sum', in the pinned program and in every row, IS THE sha256 OF THE DUMP (.gsa) THAT YtbokjgmndokifaaDoorProg.lean LOADS. Nothing in Lean hashes anything: it is a label: what it is worth is what the hold of that sum in a sandbox is worth. -/
noncomputable def Tryd.pinned : Pinned := { name := "ytbokjgmndokifaadoor", sum := "d719f4bd64a838c5e686c214e5b4508bcfe62b98872be0763cc3f4eb80b4e617", checked := Tryd.checked }
namespace Rows
def none {H : Type} : Left H := { results := [], args := [] }

/- WHAT THE LISTED PACKAGE-LEVEL VARIABLES READ AS WHEN THE CALL BEGINS. Each datum BY PROGRAM (the guide's laid-datum.mjs) off the statement by which the dump's own 'gosem.cut.vars' lays the variable. In a bare row this is a premise. The card (YtbokjgmndokifaaDoorCards.lean) ties it to the program's text. -/
def laid_forebay_ins_names {H : Type} : DataW H := .agg [.lit (.string [114, 101, 116]), .lit (.string [115, 101, 116]), .lit (.string [109, 111, 118, 101]), .lit (.string [97, 100, 100]), .lit (.string [115, 117, 98]), .lit (.string [109, 117, 108]), .lit (.string [100, 105, 118]), .lit (.string [109, 111, 100]), .lit (.string [108, 101, 115, 115]), .lit (.string [115, 97, 109, 101]), .lit (.string [97, 110, 100]), .lit (.string [111, 114]), .lit (.string [120, 111, 114]), .lit (.string [108, 111, 97, 100]), .lit (.string [115, 116, 111, 114, 101]), .lit (.string [102, 101, 116, 99, 104]), .lit (.string [115, 119, 97, 112]), .lit (.string [101, 109, 105, 116]), .lit (.string [106, 117, 109, 112]), .lit (.string [122, 101, 114, 111]), .lit (.string [115, 112, 97, 119, 110]), .lit (.string [115, 121, 110, 99]), .lit (.string [112, 105, 112, 101]), .lit (.string [119, 97, 105, 116]), .lit (.string [99, 111, 110, 116]), .lit (.string [98, 114, 101, 97, 107])]

/-- 'forebaylaw03.InsNames': WHATEVER THE INPUT: true; the input reads as it did. -/
def insNamesSpec : ChangeSpec := { name := "insNames", fn := fun _ => fun
  | [d1, d2] => { results := [.lit (.bool true)], args := [d1, d2] }
  | _ => none }
def insNamesRow : OpenClaim := { program := "ytbokjgmndokifaadoor", sum := "d719f4bd64a838c5e686c214e5b4508bcfe62b98872be0763cc3f4eb80b4e617", func := "forebay/forebaylaw03.InsNames", spec := "insNames", named := ["forebay/ins.names"], apart := false, laid := [("forebay/ins.names", laid_forebay_ins_names)] }
def InsNamesSaid : Prop := insNamesRow.holds Tryd.pinned (OpenSpec.ofChange insNamesSpec)

/-- ITS FALSE NEIGHBOUR: 'it returns false'. Refute it at one input. -/
def insNamesWrong : ChangeSpec := { name := "insNames", fn := fun _ => fun
  | [d1, d2] => { results := [.lit (.bool false)], args := [d1, d2] }
  | _ => none }
def InsNamesWrongFalsely : Prop := insNamesRow.holds Tryd.pinned (OpenSpec.ofChange insNamesWrong)

/-- 'forebaylaw03.InsPuts': WHATEVER THE INPUT: true; the input reads as it did. -/
def insPutsSpec : ChangeSpec := { name := "insPuts", fn := fun _ => fun
  | [d] => { results := [.lit (.bool true)], args := [d] }
  | _ => none }
def insPutsRow : OpenClaim := { program := "ytbokjgmndokifaadoor", sum := "d719f4bd64a838c5e686c214e5b4508bcfe62b98872be0763cc3f4eb80b4e617", func := "forebay/forebaylaw03.InsPuts", spec := "insPuts", named := ["forebay/ins.names"], apart := false, laid := [("forebay/ins.names", laid_forebay_ins_names)] }
def InsPutsSaid : Prop := insPutsRow.holds Tryd.pinned (OpenSpec.ofChange insPutsSpec)

/-- ITS FALSE NEIGHBOUR: 'it returns false'. Refute it at one input. -/
def insPutsWrong : ChangeSpec := { name := "insPuts", fn := fun _ => fun
  | [d] => { results := [.lit (.bool false)], args := [d] }
  | _ => none }
def InsPutsWrongFalsely : Prop := insPutsRow.holds Tryd.pinned (OpenSpec.ofChange insPutsWrong)

/-- 'forebaylaw03.InsGets': WHATEVER THE INPUT: true; the input reads as it did. -/
def insGetsSpec : ChangeSpec := { name := "insGets", fn := fun _ => fun
  | [d] => { results := [.lit (.bool true)], args := [d] }
  | _ => none }
def insGetsRow : OpenClaim := { program := "ytbokjgmndokifaadoor", sum := "d719f4bd64a838c5e686c214e5b4508bcfe62b98872be0763cc3f4eb80b4e617", func := "forebay/forebaylaw03.InsGets", spec := "insGets", named := ["forebay/ins.names"], apart := false, laid := [("forebay/ins.names", laid_forebay_ins_names)] }
def InsGetsSaid : Prop := insGetsRow.holds Tryd.pinned (OpenSpec.ofChange insGetsSpec)

/-- ITS FALSE NEIGHBOUR: 'it returns false'. Refute it at one input. -/
def insGetsWrong : ChangeSpec := { name := "insGets", fn := fun _ => fun
  | [d] => { results := [.lit (.bool false)], args := [d] }
  | _ => none }
def InsGetsWrongFalsely : Prop := insGetsRow.holds Tryd.pinned (OpenSpec.ofChange insGetsWrong)

/-- 'forebaylaw03.InsOnce': WHATEVER THE INPUT: true; the input reads as it did. -/
def insOnceSpec : ChangeSpec := { name := "insOnce", fn := fun _ => fun
  | [d1, d2] => { results := [.lit (.bool true)], args := [d1, d2] }
  | _ => none }
def insOnceRow : OpenClaim := { program := "ytbokjgmndokifaadoor", sum := "d719f4bd64a838c5e686c214e5b4508bcfe62b98872be0763cc3f4eb80b4e617", func := "forebay/forebaylaw03.InsOnce", spec := "insOnce", named := ["forebay/ins.names"], apart := false, laid := [("forebay/ins.names", laid_forebay_ins_names)] }
def InsOnceSaid : Prop := insOnceRow.holds Tryd.pinned (OpenSpec.ofChange insOnceSpec)

/-- ITS FALSE NEIGHBOUR: 'it returns false'. Refute it at one input. -/
def insOnceWrong : ChangeSpec := { name := "insOnce", fn := fun _ => fun
  | [d1, d2] => { results := [.lit (.bool false)], args := [d1, d2] }
  | _ => none }
def InsOnceWrongFalsely : Prop := insOnceRow.holds Tryd.pinned (OpenSpec.ofChange insOnceWrong)

/- THE SECOND FORM. 'bulk': how many values and letters a reading holds, each counted each time it is reached (what is shared counts as often as it is met; a slice's spare places count too). A statement '..UptoSaid' is the law's where the arguments, and the package variables that the reading takes, are together of bulk at most 1048576: NARROWER than '..Said'. Prove '..Said' where nothing that the law and all that it calls make is longer than what came in: it says more and counts as full. Else prove '..UptoSaid'. A law counts once. -/
mutual
def uptoBulk {H : Type} : DataW H → Nat
  | .lit (.string bytes) => bytes.length + 1
  | .lit _ => 1
  | .nil => 1
  | .ptr d => uptoBulk d + 1
  | .slice elems spare => uptoBulkAll elems + uptoBulkAll spare + 1
  | .agg parts => uptoBulkAll parts + 1
  | .iface _ d => uptoBulk d + 1
  | .map entries => uptoBulkEntries entries + 1
  | .held _ => 1
def uptoBulkAll {H : Type} : List (DataW H) → Nat
  | [] => 0
  | d :: r => uptoBulk d + uptoBulkAll r
def uptoBulkEntries {H : Type} : List (Lit × DataW H) → Nat
  | [] => 0
  | x :: r => uptoBulkEntry x + uptoBulkEntries r
def uptoBulkEntry {H : Type} : Lit × DataW H → Nat
  | (.string bytes, d) => bytes.length + uptoBulk d + 1
  | (_, d) => uptoBulk d + 1
 end
def uptoSmall : (H : Type) → List (DataW H) → Bool := fun _ ds => decide (uptoBulkAll ds ≤ 1048576)
def OpenSpec.upto (s : _root_.Go.ChangeSpec) : _root_.Go.OpenSpec := { _root_.Go.OpenSpec.ofChange s with cond := some uptoSmall }

/-- 'forebaylaw03.InsNames', WHERE WHAT IT READS IS OF BULK AT MOST 1048576: true; the input reads as it did. -/
def insNamesUptoRow : OpenClaim := { program := "ytbokjgmndokifaadoor", sum := "d719f4bd64a838c5e686c214e5b4508bcfe62b98872be0763cc3f4eb80b4e617", func := "forebay/forebaylaw03.InsNames", spec := "insNames", named := ["forebay/ins.names"], apart := false, laid := [("forebay/ins.names", laid_forebay_ins_names)], narrowed := true }
def InsNamesUptoSaid : Prop := insNamesUptoRow.holds Tryd.pinned (OpenSpec.upto insNamesSpec)

/-- 'forebaylaw03.InsPuts', WHERE WHAT IT READS IS OF BULK AT MOST 1048576: true; the input reads as it did. -/
def insPutsUptoRow : OpenClaim := { program := "ytbokjgmndokifaadoor", sum := "d719f4bd64a838c5e686c214e5b4508bcfe62b98872be0763cc3f4eb80b4e617", func := "forebay/forebaylaw03.InsPuts", spec := "insPuts", named := ["forebay/ins.names"], apart := false, laid := [("forebay/ins.names", laid_forebay_ins_names)], narrowed := true }
def InsPutsUptoSaid : Prop := insPutsUptoRow.holds Tryd.pinned (OpenSpec.upto insPutsSpec)

/-- 'forebaylaw03.InsGets', WHERE WHAT IT READS IS OF BULK AT MOST 1048576: true; the input reads as it did. -/
def insGetsUptoRow : OpenClaim := { program := "ytbokjgmndokifaadoor", sum := "d719f4bd64a838c5e686c214e5b4508bcfe62b98872be0763cc3f4eb80b4e617", func := "forebay/forebaylaw03.InsGets", spec := "insGets", named := ["forebay/ins.names"], apart := false, laid := [("forebay/ins.names", laid_forebay_ins_names)], narrowed := true }
def InsGetsUptoSaid : Prop := insGetsUptoRow.holds Tryd.pinned (OpenSpec.upto insGetsSpec)

/-- 'forebaylaw03.InsOnce', WHERE WHAT IT READS IS OF BULK AT MOST 1048576: true; the input reads as it did. -/
def insOnceUptoRow : OpenClaim := { program := "ytbokjgmndokifaadoor", sum := "d719f4bd64a838c5e686c214e5b4508bcfe62b98872be0763cc3f4eb80b4e617", func := "forebay/forebaylaw03.InsOnce", spec := "insOnce", named := ["forebay/ins.names"], apart := false, laid := [("forebay/ins.names", laid_forebay_ins_names)], narrowed := true }
def InsOnceUptoSaid : Prop := insOnceUptoRow.holds Tryd.pinned (OpenSpec.upto insOnceSpec)

end Rows
end Go.Proofs.YtbokjgmndokifaaDoor
