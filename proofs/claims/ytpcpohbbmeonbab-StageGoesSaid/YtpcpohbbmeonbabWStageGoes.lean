/- Which stage may be gone to, and which is past, is as the chapter says: the law StageGoes answers true. No condition. -/
import Derived.Test.YtpcpohbbmeonbabStage
namespace Go.Proofs.Ytpcpohbbmeonbab.stageGoes
open Go.ChangeShapes Go.WideShapes Go.ChangeAt Go.RowKit
set_option linter.unusedVariables false
theorem no1 (a b c : Int) (w : World) (h : b ≤ a) (H : Hid (b ≤ a ∨ 1048575 < b)) :
    Calls Try.prog 3 #[.int .i64 a, .int .i64 b, .int .i64 c] w fun e w' => e = .returned (.bool true) ∧ Below w.heap.size w w' := by
  go_enter Try.func3, Try.ntmps3
  go_wp2_with (first | (go_at_call 11; refine (works21 _).mono ?_; rintro e w' ⟨rfl, hb1⟩) | (go_at_call 13; go_in) | (go_at_call 12; refine (go_bad a b _ H.out).mono ?_; rintro e w' ⟨rfl, rfl⟩))
  go_ret
  exact ⟨rfl, hb1⟩
theorem no2 (a b c : Int) (w : World) (h0 : a < b) (h : 1048575 < b) (H : Hid (b ≤ a ∨ 1048575 < b)) :
    Calls Try.prog 3 #[.int .i64 a, .int .i64 b, .int .i64 c] w fun e w' => e = .returned (.bool true) ∧ Below w.heap.size w w' := by
  go_enter Try.func3, Try.ntmps3
  go_wp2_with (first | (go_at_call 11; refine (works21 _).mono ?_; rintro e w' ⟨rfl, hb1⟩) | (go_at_call 13; go_in) | (go_at_call 12; refine (go_bad a b _ H.out).mono ?_; rintro e w' ⟨rfl, rfl⟩))
  go_ret
  exact ⟨rfl, hb1⟩
theorem yes1 (a b c : Int) (w : World) (h0 : a < b) (h1 : b ≤ 1048575) (H : Hid (c ≤ b ∨ 1048575 < c)) :
    Calls Try.prog 3 #[.int .i64 a, .int .i64 b, .int .i64 c] w fun e w' => e = .returned (.bool true) ∧ Below w.heap.size w w' := by
  go_enter Try.func3, Try.ntmps3
  go_wp2_with (first | (go_at_call 11; refine (works21 _).mono ?_; rintro e w' ⟨rfl, hb1⟩) | (go_at_call 13; go_in) | (go_at_call_of 12 (Value.int IntKind.i64 a); refine (go_good a b _ h0 h1).mono ?_; rintro e w' ⟨rfl, rfl⟩)| (go_at_call_of 12 (Value.int IntKind.i64 c); refine (go_bad b c _ H.out).mono ?_; rintro e w' ⟨rfl, rfl⟩))
  go_ret
  exact ⟨rfl, hb1⟩
theorem yes2 (a b c : Int) (w : World) (h0 : a < b) (h1 : b ≤ 1048575) (h2 : b < c) (h3 : c ≤ 1048575) (h4 : a < c) :
    Calls Try.prog 3 #[.int .i64 a, .int .i64 b, .int .i64 c] w fun e w' => e = .returned (.bool true) ∧ Below w.heap.size w w' := by
  go_enter Try.func3, Try.ntmps3
  go_wp2_with (first | (go_at_call 11; refine (works21 _).mono ?_; rintro e w' ⟨rfl, hb1⟩) | (go_at_call 13; go_in) | (go_at_call 12; refine (go_good _ _ _ (by assumption) (by assumption)).mono ?_; rintro e w' ⟨rfl, rfl⟩))
  go_ret
  exact ⟨rfl, hb1⟩
theorem walk (a0 : Int) (a1 : Int) (a2 : Int) (w : World) (w0 : (Lit.int .i64 a0).wf = true) (w1 : (Lit.int .i64 a1).wf = true) (w2 : (Lit.int .i64 a2).wf = true) :
    Calls Try.prog 3 #[.int .i64 a0, .int .i64 a1, .int .i64 a2] w fun e w' => e = .returned (.bool true) ∧ Below w.heap.size w w' := by
  by_cases h : a1 ≤ a0
  · exact no1 a0 a1 a2 w h (.inl h)
  by_cases h1 : 1048575 < a1
  · exact no2 a0 a1 a2 w (by omega) h1 (.inr h1)
  by_cases h2 : a2 ≤ a1 ∨ 1048575 < a2
  · exact yes1 a0 a1 a2 w (by omega) (by omega) h2
  · exact yes2 a0 a1 a2 w (by omega) (by omega) (by omega) (by omega) (by omega)
end Go.Proofs.Ytpcpohbbmeonbab.stageGoes
