/- What is added and taken away again, or turned twice bit by bit, is as it was: the law WrapBack answers true. No condition. -/
import Derived.Test.YtiinicdhpicchaaBase
namespace Go.Proofs.Ytiinicdhpicchaa.wrapBack
open Go.ChangeShapes Go.WideShapes Go.ChangeAt Go.RowKit
set_option linter.unusedVariables false

theorem walk (a0 : Int) (a1 : Int) (w : World) (w0 : (Lit.int .i64 a0).wf = true) (w1 : (Lit.int .i64 a1).wf = true) :
    Calls Try.prog 4 #[.int .i64 a0, .int .i64 a1] w fun e w' => e = .returned (.bool true) ∧ Below w.heap.size w w' := by
  have ha := wf_lo w0
  have h1 := wrap64_comm a0 a1
  have h2 := wrap64_sub_add a0 a1 ha.1 ha.2
  have h3 := xor_back a0 a1 ha.1 ha.2
  have H := Lib.hid (And.intro h1 (And.intro h2 h3))
  clear h1 h2 h3 ha
  go_enter Try.func4, Try.ntmps4
  go_wp2_with (first | (go_at_call 10; refine (works_any _).mono ?_; rintro e w' ⟨rfl, hb1⟩) | (go_at_call 8; go_in))
  all_goals first
    | exact absurd H.out.1 ‹_›
    | exact absurd H.out.2.1 ‹_›
    | exact absurd H.out.2.2 ‹_›
    | (go_ret; exact ⟨rfl, hb1⟩)
end Go.Proofs.Ytiinicdhpicchaa.wrapBack
