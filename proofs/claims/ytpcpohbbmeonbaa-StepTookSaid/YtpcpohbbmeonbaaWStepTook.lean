/- Registers behind any effect, and which effects ask memory, and which need that all has returned: the law StepTook answers true. No condition. -/
import Derived.Test.YtpcpohbbmeonbaaTm1
import Derived.Test.YtpcpohbbmeonbaaTm2
import Derived.Test.YtpcpohbbmeonbaaTm3
import Derived.Test.YtpcpohbbmeonbaaTk4
import Derived.Test.YtpcpohbbmeonbaaTk5
namespace Go.Proofs.Ytpcpohbbmeonbaa.stepTook
open Go.ChangeShapes Go.WideShapes Go.ChangeAt Go.RowKit
open Go.Proofs.Ytpcpohbbmeonbaa.step
attribute [local go_sem ↓] Go.wp_at_zero Go.wp_at_succ
set_option linter.unusedVariables false
set_option linter.unusedSimpArgs false
theorem walk (a0_0 a0_1 a0_2 a0_3 a0_4 a0_5 a0_6 a0_7 : Int) (a1 : Int) (a2_0 a2_1 a2_2 a2_3 : Int) (a3 : Int) (w : World) (w0_0 : (Lit.int .i64 a0_0).wf = true) (w0_1 : (Lit.int .i64 a0_1).wf = true) (w0_2 : (Lit.int .i64 a0_2).wf = true) (w0_3 : (Lit.int .i64 a0_3).wf = true) (w0_4 : (Lit.int .i64 a0_4).wf = true) (w0_5 : (Lit.int .i64 a0_5).wf = true) (w0_6 : (Lit.int .i64 a0_6).wf = true) (w0_7 : (Lit.int .i64 a0_7).wf = true) (w1 : (Lit.int .i64 a1).wf = true) (w2_0 : (Lit.int .i64 a2_0).wf = true) (w2_1 : (Lit.int .i64 a2_1).wf = true) (w2_2 : (Lit.int .i64 a2_2).wf = true) (w2_3 : (Lit.int .i64 a2_3).wf = true) (w3 : (Lit.int .i64 a3).wf = true) :
    Calls Try.prog 8 #[.agg #[.int .i64 a0_0, .int .i64 a0_1, .int .i64 a0_2, .int .i64 a0_3, .int .i64 a0_4, .int .i64 a0_5, .int .i64 a0_6, .int .i64 a0_7], .int .i64 a1, .agg #[.int .i64 a2_0, .int .i64 a2_1, .int .i64 a2_2, .int .i64 a2_3], .int .i64 a3] w fun e w' => e = .returned (.bool true) ∧ Below w.heap.size w w' := by
  rcases show a1 < 1 ∨ (1 ≤ a1 ∧ a1 ≤ 4) ∨ (4 < a1 ∧ a1 < 7) ∨ (7 ≤ a1 ∧ a1 ≤ 12) ∨ 12 < a1 by omega with h | h | h | h | h
  · exact c1 a0_0 a0_1 a0_2 a0_3 a0_4 a0_5 a0_6 a0_7 a1 a2_0 a2_1 a2_2 a2_3 a3 w (by simp; omega) (by simp; omega) (by simp; omega) (by simp; omega)
  · exact c2 a0_0 a0_1 a0_2 a0_3 a0_4 a0_5 a0_6 a0_7 a1 a2_0 a2_1 a2_2 a2_3 a3 w (by simp; omega) (by simp; omega) (by simp; omega) (by simp; omega)
  · exact c3 a0_0 a0_1 a0_2 a0_3 a0_4 a0_5 a0_6 a0_7 a1 a2_0 a2_1 a2_2 a2_3 a3 w (by simp; omega) (by simp; omega) (by simp; omega) (by simp; omega)
  · exact c4 a0_0 a0_1 a0_2 a0_3 a0_4 a0_5 a0_6 a0_7 a1 a2_0 a2_1 a2_2 a2_3 a3 w (by simp; omega) (by simp; omega) (by simp; omega) (by simp; omega)
  · exact c5 a0_0 a0_1 a0_2 a0_3 a0_4 a0_5 a0_6 a0_7 a1 a2_0 a2_1 a2_2 a2_3 a3 w (by simp; omega) (by simp; omega) (by simp; omega) (by simp; omega)
end Go.Proofs.Ytpcpohbbmeonbaa.stepTook
