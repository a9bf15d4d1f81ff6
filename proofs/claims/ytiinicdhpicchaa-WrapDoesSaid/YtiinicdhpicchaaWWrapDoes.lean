/- What any operation makes of any two numbers, or its fault, is as the chapter says: the law WrapDoes answers true. No condition. -/
import Derived.Test.YtiinicdhpicchaaBase
import Derived.Test.YtiinicdhpicchaaDo01
namespace Go.Proofs.Ytiinicdhpicchaa.wrapDoes
open Go.ChangeShapes Go.WideShapes Go.ChangeAt Go.RowKit
open Go.Proofs.Ytiinicdhpicchaa.ref01
set_option linter.unusedVariables false
set_option maxHeartbeats 1000000 in
theorem walk (a0 : Int) (a1 : Int) (a2 : Int) (w : World) (w0 : (Lit.int .i64 a0).wf = true) (w1 : (Lit.int .i64 a1).wf = true) (w2 : (Lit.int .i64 a2).wf = true) :
    Calls Try.prog 3 #[.int .i64 a0, .int .i64 a1, .int .i64 a2] w fun e w' => e = .returned (.bool true) ∧ Below w.heap.size w w' := by
  have h1 := wf_lo w1
  have h2 := wf_lo w2
  obtain ⟨n, f, h⟩ : ∃ n f, Hid (doV a0 a1 a2 = (n, f)) := ⟨_, _, Lib.hid rfl⟩
  go_enter Try.func3, Try.ntmps3
  go_wp2_with (first | (go_at_call 10; refine (works_any _).mono ?_; rintro e w' ⟨rfl, hb1⟩) | (go_at_call 8; refine (pdo_v a0 a1 a2 n f _ h).mono ?_; rintro e w' ⟨rfl, rfl⟩) | (go_at_call 9; refine (rdo_v a0 a1 a2 n f _ h1.1 h1.2 h2.1 h2.2 h).mono ?_; rintro e w' ⟨rfl, rfl⟩) | (go_at_call 11; refine (known_v a0 _).mono ?_; rintro e w' ⟨rfl, rfl⟩))
  all_goals
    go_ret
    exact ⟨ret_bool (by simp [*]), hb1⟩
end Go.Proofs.Ytiinicdhpicchaa.wrapDoes
