/-
  No cell of these rows narrows 'for every input' (looked for: loops, veiled, ifaces, maps, wideKeys, modest, calm, conditions, laid).
  DERIVED. THE GIVEN ROWS OF THIS SEAT. 4 by the template 'for every input the law returns true; each argument reads behind the call as it read before'; 0 by the template 'total and deterministic' (their statements: YtpflimnngilhnaaTotals.lean).
  GIVEN WITH THE SEED: the statements are not yours to turn. If you find one false, say at which input.
  Laid BY PROGRAM, IN A SANDBOX (cutbox-rows.mjs): the forced cells as the released guide's own fill.sh prints them over the translation ec0d6ddfd517d223… (all of the seat's roots in one cut). By AI agents, Wed Nov 11 2026. No macro, syntax, notation, axiom, sorry.
-/
import Derived.Test.YtpflimnngilhnaaChecked
import GoSem.Claim
import GoSem.ClaimJoined
import GoSem.ClaimMapViews
import Derived.JoinedTies
import Derived.KernelRfl
namespace Go.Proofs.Ytpflimnngilhnaa
/- THE CELL 'sum', in the pinned program and in every row, IS THE sha256 OF THE DUMP (.gsa) THAT YtpflimnngilhnaaProg.lean LOADS. Nothing in Lean hashes anything: it is a label: what it is worth is what the hold of that sum in a sandbox is worth. -/
noncomputable def Try.pinned : Pinned := { name := "ytpflimnngilhnaa", sum := "ec0d6ddfd517d2237eafb05a654f462a525dc399e536d83ab320b927f6bf5247", checked := Try.checked }
namespace Rows
def none {H : Type} : Left H := { results := [], args := [] }

/-- 'forebaylaw37.AuditLooks': WHATEVER THE INPUT: true; the input reads as it did. -/
def auditLooksSpec : ChangeSpec := { name := "auditLooks", fn := fun _ => fun
  | [d1, d2, d3] => { results := [.lit (.bool true)], args := [d1, d2, d3] }
  | _ => none }
def auditLooksRow : OpenClaim := { program := "ytpflimnngilhnaa", sum := "ec0d6ddfd517d2237eafb05a654f462a525dc399e536d83ab320b927f6bf5247", func := "forebay/forebaylaw37.AuditLooks", spec := "auditLooks", unfollowed := true, recurses := true, apart := false }
def AuditLooksSaid : Prop := auditLooksRow.holds Try.pinned (OpenSpec.ofChange auditLooksSpec)

/-- ITS FALSE NEIGHBOUR: 'it returns false'. Refute it at one input. -/
def auditLooksWrong : ChangeSpec := { name := "auditLooks", fn := fun _ => fun
  | [d1, d2, d3] => { results := [.lit (.bool false)], args := [d1, d2, d3] }
  | _ => none }
def AuditLooksWrongFalsely : Prop := auditLooksRow.holds Try.pinned (OpenSpec.ofChange auditLooksWrong)

/-- 'forebaylaw41.SpanTells': WHATEVER THE INPUT: true; the input reads as it did. -/
def spanTellsSpec : ChangeSpec := { name := "spanTells", fn := fun _ => fun
  | [d1, d2] => { results := [.lit (.bool true)], args := [d1, d2] }
  | _ => none }
def spanTellsRow : OpenClaim := { program := "ytpflimnngilhnaa", sum := "ec0d6ddfd517d2237eafb05a654f462a525dc399e536d83ab320b927f6bf5247", func := "forebay/forebaylaw41.SpanTells", spec := "spanTells", recurses := true, apart := false }
def SpanTellsSaid : Prop := spanTellsRow.holds Try.pinned (OpenSpec.ofChange spanTellsSpec)

/-- ITS FALSE NEIGHBOUR: 'it returns false'. Refute it at one input. -/
def spanTellsWrong : ChangeSpec := { name := "spanTells", fn := fun _ => fun
  | [d1, d2] => { results := [.lit (.bool false)], args := [d1, d2] }
  | _ => none }
def SpanTellsWrongFalsely : Prop := spanTellsRow.holds Try.pinned (OpenSpec.ofChange spanTellsWrong)

/-- 'forebaylaw41.SpanPlans': WHATEVER THE INPUT: true; the input reads as it did. -/
def spanPlansSpec : ChangeSpec := { name := "spanPlans", fn := fun _ => fun
  | [d1, d2] => { results := [.lit (.bool true)], args := [d1, d2] }
  | _ => none }
def spanPlansRow : OpenClaim := { program := "ytpflimnngilhnaa", sum := "ec0d6ddfd517d2237eafb05a654f462a525dc399e536d83ab320b927f6bf5247", func := "forebay/forebaylaw41.SpanPlans", spec := "spanPlans", recurses := true, apart := false }
def SpanPlansSaid : Prop := spanPlansRow.holds Try.pinned (OpenSpec.ofChange spanPlansSpec)

/-- ITS FALSE NEIGHBOUR: 'it returns false'. Refute it at one input. -/
def spanPlansWrong : ChangeSpec := { name := "spanPlans", fn := fun _ => fun
  | [d1, d2] => { results := [.lit (.bool false)], args := [d1, d2] }
  | _ => none }
def SpanPlansWrongFalsely : Prop := spanPlansRow.holds Try.pinned (OpenSpec.ofChange spanPlansWrong)

/-- 'forebaylaw41.SpanGreedy': WHATEVER THE INPUT: true; the input reads as it did. -/
def spanGreedySpec : ChangeSpec := { name := "spanGreedy", fn := fun _ => fun
  | [d1, d2] => { results := [.lit (.bool true)], args := [d1, d2] }
  | _ => none }
def spanGreedyRow : OpenClaim := { program := "ytpflimnngilhnaa", sum := "ec0d6ddfd517d2237eafb05a654f462a525dc399e536d83ab320b927f6bf5247", func := "forebay/forebaylaw41.SpanGreedy", spec := "spanGreedy", apart := false }
def SpanGreedySaid : Prop := spanGreedyRow.holds Try.pinned (OpenSpec.ofChange spanGreedySpec)

/-- ITS FALSE NEIGHBOUR: 'it returns false'. Refute it at one input. -/
def spanGreedyWrong : ChangeSpec := { name := "spanGreedy", fn := fun _ => fun
  | [d1, d2] => { results := [.lit (.bool false)], args := [d1, d2] }
  | _ => none }
def SpanGreedyWrongFalsely : Prop := spanGreedyRow.holds Try.pinned (OpenSpec.ofChange spanGreedyWrong)

/- THE SECOND FORM. 'bulk': how many values and letters a reading holds, each counted each time it is reached (what is shared counts as often as it is met; a slice's spare places count too). A statement '..UptoSaid' is the law's where the arguments, and the package variables that the reading takes, are together of bulk at most 1048576: NARROWER than '..Said'. Prove '..Said' where nothing that the law and all that it calls make is longer than what came in: it says more and counts as full. Else prove '..UptoSaid'. A law counts once. -/
mutual
def uptoBulk {H : Type} : DataW H → Nat
  | .lit (.string bytes) => bytes.length + 1
  | .lit _ => 1
  | .nil => 1
  | .ptr d => uptoBulk d + 1
  | .slice elems spare => uptoBulkAll elems + uptoBulkAll spare + 1
  | .agg parts => uptoBulkAll parts + 1
  | .iface _ d => uptoBulk d + 1
  | .map entries => uptoBulkEntries entries + 1
  | .held _ => 1
def uptoBulkAll {H : Type} : List (DataW H) → Nat
  | [] => 0
  | d :: r => uptoBulk d + uptoBulkAll r
def uptoBulkEntries {H : Type} : List (Lit × DataW H) → Nat
  | [] => 0
  | x :: r => uptoBulkEntry x + uptoBulkEntries r
def uptoBulkEntry {H : Type} : Lit × DataW H → Nat
  | (.string bytes, d) => bytes.length + uptoBulk d + 1
  | (_, d) => uptoBulk d + 1
 end
def uptoSmall : (H : Type) → List (DataW H) → Bool := fun _ ds => decide (uptoBulkAll ds ≤ 1048576)
def OpenSpec.upto (s : _root_.Go.ChangeSpec) : _root_.Go.OpenSpec := { _root_.Go.OpenSpec.ofChange s with cond := some uptoSmall }

/-- 'forebaylaw37.AuditLooks', WHERE WHAT IT READS IS OF BULK AT MOST 1048576: true; the input reads as it did. -/
def auditLooksUptoRow : OpenClaim := { program := "ytpflimnngilhnaa", sum := "ec0d6ddfd517d2237eafb05a654f462a525dc399e536d83ab320b927f6bf5247", func := "forebay/forebaylaw37.AuditLooks", spec := "auditLooks", unfollowed := true, recurses := true, apart := false, narrowed := true }
def AuditLooksUptoSaid : Prop := auditLooksUptoRow.holds Try.pinned (OpenSpec.upto auditLooksSpec)

/-- 'forebaylaw41.SpanTells', WHERE WHAT IT READS IS OF BULK AT MOST 1048576: true; the input reads as it did. -/
def spanTellsUptoRow : OpenClaim := { program := "ytpflimnngilhnaa", sum := "ec0d6ddfd517d2237eafb05a654f462a525dc399e536d83ab320b927f6bf5247", func := "forebay/forebaylaw41.SpanTells", spec := "spanTells", recurses := true, apart := false, narrowed := true }
def SpanTellsUptoSaid : Prop := spanTellsUptoRow.holds Try.pinned (OpenSpec.upto spanTellsSpec)

/-- 'forebaylaw41.SpanPlans', WHERE WHAT IT READS IS OF BULK AT MOST 1048576: true; the input reads as it did. -/
def spanPlansUptoRow : OpenClaim := { program := "ytpflimnngilhnaa", sum := "ec0d6ddfd517d2237eafb05a654f462a525dc399e536d83ab320b927f6bf5247", func := "forebay/forebaylaw41.SpanPlans", spec := "spanPlans", recurses := true, apart := false, narrowed := true }
def SpanPlansUptoSaid : Prop := spanPlansUptoRow.holds Try.pinned (OpenSpec.upto spanPlansSpec)

/-- 'forebaylaw41.SpanGreedy', WHERE WHAT IT READS IS OF BULK AT MOST 1048576: true; the input reads as it did. -/
def spanGreedyUptoRow : OpenClaim := { program := "ytpflimnngilhnaa", sum := "ec0d6ddfd517d2237eafb05a654f462a525dc399e536d83ab320b927f6bf5247", func := "forebay/forebaylaw41.SpanGreedy", spec := "spanGreedy", apart := false, narrowed := true }
def SpanGreedyUptoSaid : Prop := spanGreedyUptoRow.holds Try.pinned (OpenSpec.upto spanGreedySpec)

end Rows
end Go.Proofs.Ytpflimnngilhnaa
