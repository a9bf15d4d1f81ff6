/-
  No cell of these rows narrows 'for every input' (looked for: loops, veiled, ifaces, maps, wideKeys, modest, calm, conditions, laid).
  DERIVED. THE GIVEN ROWS OF THIS SEAT. 7 by the template 'for every input the law returns true; each argument reads behind the call as it read before'; 0 by the template 'total and deterministic' (their statements: YtegbifphekhgkaaTotals.lean).
  GIVEN WITH THE SEED: the statements are not yours to turn. If you find one false, say at which input.
  Laid BY PROGRAM, IN A SANDBOX (cutbox-rows.mjs): the forced cells as the released guide's own fill.sh prints them over the translation d20f2f4865a61164… (all of the seat's roots in one cut). By AI agents, Wed Nov 11 2026. No macro, syntax, notation, axiom, sorry.
-/
import Derived.Test.YtegbifphekhgkaaChecked
import GoSem.Claim
import GoSem.ClaimJoined
import GoSem.ClaimMapViews
import Derived.JoinedTies
import Derived.KernelRfl
namespace Go.Proofs.Ytegbifphekhgkaa
/- THE CELL 'sum', in the pinned program and in every row, IS THE sha256 OF THE DUMP (.gsa) THAT YtegbifphekhgkaaProg.lean LOADS. Nothing in Lean hashes anything: it is a label: what it is worth is what the hold of that sum in a sandbox is worth. -/
noncomputable def Try.pinned : Pinned := { name := "ytegbifphekhgkaa", sum := "d20f2f4865a61164ff7de528de7bfa9ad524527f01b2fb6caebe3452ed72638e", checked := Try.checked }
namespace Rows
def none {H : Type} : Left H := { results := [], args := [] }

/-- 'forebaylaw13.DequeDoes': WHATEVER THE INPUT: true; the input reads as it did. -/
def dequeDoesSpec : ChangeSpec := { name := "dequeDoes", fn := fun _ => fun
  | [d1, d2, d3] => { results := [.lit (.bool true)], args := [d1, d2, d3] }
  | _ => none }
def dequeDoesRow : OpenClaim := { program := "ytegbifphekhgkaa", sum := "d20f2f4865a61164ff7de528de7bfa9ad524527f01b2fb6caebe3452ed72638e", func := "forebay/forebaylaw13.DequeDoes", spec := "dequeDoes", unfollowed := true, recurses := true, apart := false }
def DequeDoesSaid : Prop := dequeDoesRow.holds Try.pinned (OpenSpec.ofChange dequeDoesSpec)

/-- ITS FALSE NEIGHBOUR: 'it returns false'. Refute it at one input. -/
def dequeDoesWrong : ChangeSpec := { name := "dequeDoes", fn := fun _ => fun
  | [d1, d2, d3] => { results := [.lit (.bool false)], args := [d1, d2, d3] }
  | _ => none }
def DequeDoesWrongFalsely : Prop := dequeDoesRow.holds Try.pinned (OpenSpec.ofChange dequeDoesWrong)

/-- 'forebaylaw13.DequeOnce': WHATEVER THE INPUT: true; the input reads as it did. -/
def dequeOnceSpec : ChangeSpec := { name := "dequeOnce", fn := fun _ => fun
  | [d1, d2] => { results := [.lit (.bool true)], args := [d1, d2] }
  | _ => none }
def dequeOnceRow : OpenClaim := { program := "ytegbifphekhgkaa", sum := "d20f2f4865a61164ff7de528de7bfa9ad524527f01b2fb6caebe3452ed72638e", func := "forebay/forebaylaw13.DequeOnce", spec := "dequeOnce", unfollowed := true, recurses := true, apart := false }
def DequeOnceSaid : Prop := dequeOnceRow.holds Try.pinned (OpenSpec.ofChange dequeOnceSpec)

/-- ITS FALSE NEIGHBOUR: 'it returns false'. Refute it at one input. -/
def dequeOnceWrong : ChangeSpec := { name := "dequeOnce", fn := fun _ => fun
  | [d1, d2] => { results := [.lit (.bool false)], args := [d1, d2] }
  | _ => none }
def DequeOnceWrongFalsely : Prop := dequeOnceRow.holds Try.pinned (OpenSpec.ofChange dequeOnceWrong)

/-- 'forebaylaw13.DequeAlone': WHATEVER THE INPUT: true; the input reads as it did. -/
def dequeAloneSpec : ChangeSpec := { name := "dequeAlone", fn := fun _ => fun
  | [d1, d2] => { results := [.lit (.bool true)], args := [d1, d2] }
  | _ => none }
def dequeAloneRow : OpenClaim := { program := "ytegbifphekhgkaa", sum := "d20f2f4865a61164ff7de528de7bfa9ad524527f01b2fb6caebe3452ed72638e", func := "forebay/forebaylaw13.DequeAlone", spec := "dequeAlone", unfollowed := true, recurses := true, apart := false }
def DequeAloneSaid : Prop := dequeAloneRow.holds Try.pinned (OpenSpec.ofChange dequeAloneSpec)

/-- ITS FALSE NEIGHBOUR: 'it returns false'. Refute it at one input. -/
def dequeAloneWrong : ChangeSpec := { name := "dequeAlone", fn := fun _ => fun
  | [d1, d2] => { results := [.lit (.bool false)], args := [d1, d2] }
  | _ => none }
def DequeAloneWrongFalsely : Prop := dequeAloneRow.holds Try.pinned (OpenSpec.ofChange dequeAloneWrong)

/-- 'forebaylaw13.DequeThieves': WHATEVER THE INPUT: true; the input reads as it did. -/
def dequeThievesSpec : ChangeSpec := { name := "dequeThieves", fn := fun _ => fun
  | [d1, d2] => { results := [.lit (.bool true)], args := [d1, d2] }
  | _ => none }
def dequeThievesRow : OpenClaim := { program := "ytegbifphekhgkaa", sum := "d20f2f4865a61164ff7de528de7bfa9ad524527f01b2fb6caebe3452ed72638e", func := "forebay/forebaylaw13.DequeThieves", spec := "dequeThieves", unfollowed := true, recurses := true, apart := false }
def DequeThievesSaid : Prop := dequeThievesRow.holds Try.pinned (OpenSpec.ofChange dequeThievesSpec)

/-- ITS FALSE NEIGHBOUR: 'it returns false'. Refute it at one input. -/
def dequeThievesWrong : ChangeSpec := { name := "dequeThieves", fn := fun _ => fun
  | [d1, d2] => { results := [.lit (.bool false)], args := [d1, d2] }
  | _ => none }
def DequeThievesWrongFalsely : Prop := dequeThievesRow.holds Try.pinned (OpenSpec.ofChange dequeThievesWrong)

/-- 'forebaylaw13.DequeFree': WHATEVER THE INPUT: true; the input reads as it did. -/
def dequeFreeSpec : ChangeSpec := { name := "dequeFree", fn := fun _ => fun
  | [d1, d2, d3] => { results := [.lit (.bool true)], args := [d1, d2, d3] }
  | _ => none }
def dequeFreeRow : OpenClaim := { program := "ytegbifphekhgkaa", sum := "d20f2f4865a61164ff7de528de7bfa9ad524527f01b2fb6caebe3452ed72638e", func := "forebay/forebaylaw13.DequeFree", spec := "dequeFree", unfollowed := true, recurses := true, apart := false }
def DequeFreeSaid : Prop := dequeFreeRow.holds Try.pinned (OpenSpec.ofChange dequeFreeSpec)

/-- ITS FALSE NEIGHBOUR: 'it returns false'. Refute it at one input. -/
def dequeFreeWrong : ChangeSpec := { name := "dequeFree", fn := fun _ => fun
  | [d1, d2, d3] => { results := [.lit (.bool false)], args := [d1, d2, d3] }
  | _ => none }
def DequeFreeWrongFalsely : Prop := dequeFreeRow.holds Try.pinned (OpenSpec.ofChange dequeFreeWrong)

/-- 'forebaylaw19.CrossDoes': WHATEVER THE INPUT: true; the input reads as it did. -/
def crossDoesSpec : ChangeSpec := { name := "crossDoes", fn := fun _ => fun
  | [d] => { results := [.lit (.bool true)], args := [d] }
  | _ => none }
def crossDoesRow : OpenClaim := { program := "ytegbifphekhgkaa", sum := "d20f2f4865a61164ff7de528de7bfa9ad524527f01b2fb6caebe3452ed72638e", func := "forebay/forebaylaw19.CrossDoes", spec := "crossDoes", unfollowed := true, recurses := true, apart := false }
def CrossDoesSaid : Prop := crossDoesRow.holds Try.pinned (OpenSpec.ofChange crossDoesSpec)

/-- ITS FALSE NEIGHBOUR: 'it returns false'. Refute it at one input. -/
def crossDoesWrong : ChangeSpec := { name := "crossDoes", fn := fun _ => fun
  | [d] => { results := [.lit (.bool false)], args := [d] }
  | _ => none }
def CrossDoesWrongFalsely : Prop := crossDoesRow.holds Try.pinned (OpenSpec.ofChange crossDoesWrong)

/-- 'forebaylaw19.CrossOnce': WHATEVER THE INPUT: true; the input reads as it did. -/
def crossOnceSpec : ChangeSpec := { name := "crossOnce", fn := fun _ => fun
  | [d1, d2, d3] => { results := [.lit (.bool true)], args := [d1, d2, d3] }
  | _ => none }
def crossOnceRow : OpenClaim := { program := "ytegbifphekhgkaa", sum := "d20f2f4865a61164ff7de528de7bfa9ad524527f01b2fb6caebe3452ed72638e", func := "forebay/forebaylaw19.CrossOnce", spec := "crossOnce", unfollowed := true, recurses := true, apart := false }
def CrossOnceSaid : Prop := crossOnceRow.holds Try.pinned (OpenSpec.ofChange crossOnceSpec)

/-- ITS FALSE NEIGHBOUR: 'it returns false'. Refute it at one input. -/
def crossOnceWrong : ChangeSpec := { name := "crossOnce", fn := fun _ => fun
  | [d1, d2, d3] => { results := [.lit (.bool false)], args := [d1, d2, d3] }
  | _ => none }
def CrossOnceWrongFalsely : Prop := crossOnceRow.holds Try.pinned (OpenSpec.ofChange crossOnceWrong)

/- THE SECOND FORM. 'bulk': how many values and letters a reading holds, each counted each time it is reached (what is shared counts as often as it is met; a slice's spare places count too). A statement '..UptoSaid' is the law's where the arguments, and the package variables that the reading takes, are together of bulk at most 1048576: NARROWER than '..Said'. Prove '..Said' where nothing that the law and all that it calls make is longer than what came in: it says more and counts as full. Else prove '..UptoSaid'. A law counts once. -/
mutual
def uptoBulk {H : Type} : DataW H → Nat
  | .lit (.string bytes) => bytes.length + 1
  | .lit _ => 1
  | .nil => 1
  | .ptr d => uptoBulk d + 1
  | .slice elems spare => uptoBulkAll elems + uptoBulkAll spare + 1
  | .agg parts => uptoBulkAll parts + 1
  | .iface _ d => uptoBulk d + 1
  | .map entries => uptoBulkEntries entries + 1
  | .held _ => 1
def uptoBulkAll {H : Type} : List (DataW H) → Nat
  | [] => 0
  | d :: r => uptoBulk d + uptoBulkAll r
def uptoBulkEntries {H : Type} : List (Lit × DataW H) → Nat
  | [] => 0
  | x :: r => uptoBulkEntry x + uptoBulkEntries r
def uptoBulkEntry {H : Type} : Lit × DataW H → Nat
  | (.string bytes, d) => bytes.length + uptoBulk d + 1
  | (_, d) => uptoBulk d + 1
 end
def uptoSmall : (H : Type) → List (DataW H) → Bool := fun _ ds => decide (uptoBulkAll ds ≤ 1048576)
def OpenSpec.upto (s : _root_.Go.ChangeSpec) : _root_.Go.OpenSpec := { _root_.Go.OpenSpec.ofChange s with cond := some uptoSmall }

/-- 'forebaylaw13.DequeDoes', WHERE WHAT IT READS IS OF BULK AT MOST 1048576: true; the input reads as it did. -/
def dequeDoesUptoRow : OpenClaim := { program := "ytegbifphekhgkaa", sum := "d20f2f4865a61164ff7de528de7bfa9ad524527f01b2fb6caebe3452ed72638e", func := "forebay/forebaylaw13.DequeDoes", spec := "dequeDoes", unfollowed := true, recurses := true, apart := false, narrowed := true }
def DequeDoesUptoSaid : Prop := dequeDoesUptoRow.holds Try.pinned (OpenSpec.upto dequeDoesSpec)

/-- 'forebaylaw13.DequeOnce', WHERE WHAT IT READS IS OF BULK AT MOST 1048576: true; the input reads as it did. -/
def dequeOnceUptoRow : OpenClaim := { program := "ytegbifphekhgkaa", sum := "d20f2f4865a61164ff7de528de7bfa9ad524527f01b2fb6caebe3452ed72638e", func := "forebay/forebaylaw13.DequeOnce", spec := "dequeOnce", unfollowed := true, recurses := true, apart := false, narrowed := true }
def DequeOnceUptoSaid : Prop := dequeOnceUptoRow.holds Try.pinned (OpenSpec.upto dequeOnceSpec)

/-- 'forebaylaw13.DequeAlone', WHERE WHAT IT READS IS OF BULK AT MOST 1048576: true; the input reads as it did. -/
def dequeAloneUptoRow : OpenClaim := { program := "ytegbifphekhgkaa", sum := "d20f2f4865a61164ff7de528de7bfa9ad524527f01b2fb6caebe3452ed72638e", func := "forebay/forebaylaw13.DequeAlone", spec := "dequeAlone", unfollowed := true, recurses := true, apart := false, narrowed := true }
def DequeAloneUptoSaid : Prop := dequeAloneUptoRow.holds Try.pinned (OpenSpec.upto dequeAloneSpec)

/-- 'forebaylaw13.DequeThieves', WHERE WHAT IT READS IS OF BULK AT MOST 1048576: true; the input reads as it did. -/
def dequeThievesUptoRow : OpenClaim := { program := "ytegbifphekhgkaa", sum := "d20f2f4865a61164ff7de528de7bfa9ad524527f01b2fb6caebe3452ed72638e", func := "forebay/forebaylaw13.DequeThieves", spec := "dequeThieves", unfollowed := true, recurses := true, apart := false, narrowed := true }
def DequeThievesUptoSaid : Prop := dequeThievesUptoRow.holds Try.pinned (OpenSpec.upto dequeThievesSpec)

/-- 'forebaylaw13.DequeFree', WHERE WHAT IT READS IS OF BULK AT MOST 1048576: true; the input reads as it did. -/
def dequeFreeUptoRow : OpenClaim := { program := "ytegbifphekhgkaa", sum := "d20f2f4865a61164ff7de528de7bfa9ad524527f01b2fb6caebe3452ed72638e", func := "forebay/forebaylaw13.DequeFree", spec := "dequeFree", unfollowed := true, recurses := true, apart := false, narrowed := true }
def DequeFreeUptoSaid : Prop := dequeFreeUptoRow.holds Try.pinned (OpenSpec.upto dequeFreeSpec)

/-- 'forebaylaw19.CrossDoes', WHERE WHAT IT READS IS OF BULK AT MOST 1048576: true; the input reads as it did. -/
def crossDoesUptoRow : OpenClaim := { program := "ytegbifphekhgkaa", sum := "d20f2f4865a61164ff7de528de7bfa9ad524527f01b2fb6caebe3452ed72638e", func := "forebay/forebaylaw19.CrossDoes", spec := "crossDoes", unfollowed := true, recurses := true, apart := false, narrowed := true }
def CrossDoesUptoSaid : Prop := crossDoesUptoRow.holds Try.pinned (OpenSpec.upto crossDoesSpec)

/-- 'forebaylaw19.CrossOnce', WHERE WHAT IT READS IS OF BULK AT MOST 1048576: true; the input reads as it did. -/
def crossOnceUptoRow : OpenClaim := { program := "ytegbifphekhgkaa", sum := "d20f2f4865a61164ff7de528de7bfa9ad524527f01b2fb6caebe3452ed72638e", func := "forebay/forebaylaw19.CrossOnce", spec := "crossOnce", unfollowed := true, recurses := true, apart := false, narrowed := true }
def CrossOnceUptoSaid : Prop := crossOnceUptoRow.holds Try.pinned (OpenSpec.upto crossOnceSpec)

end Rows
end Go.Proofs.Ytegbifphekhgkaa
