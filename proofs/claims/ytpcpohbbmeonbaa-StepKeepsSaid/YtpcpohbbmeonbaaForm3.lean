/- The forms of operations as the document has them, and what is told of an instruction by its check. -/
import Derived.Test.YtpcpohbbmeonbaaKit
import Derived.Handy
import Derived.Outline
namespace Go.Proofs.Ytpcpohbbmeonbaa.step
open Go.ChangeShapes Go.WideShapes Go.ChangeAt Go.RowKit
set_option linter.unusedVariables false
set_option linter.unusedSimpArgs false
theorem form_0 (w : World) : Calls Try.prog 54 #[.int .i64 0] w fun e w' => e = .returned (.string ⟨#[]⟩) ∧ Below w.heap.size w w' := by
  go_enter Try.func54, Try.ntmps54
  go_wp2_with (go_at_call 66; go_in)
  go_ret
  exact ⟨rfl, by go_grown⟩
theorem form_1 (w : World) : Calls Try.prog 54 #[.int .i64 1] w fun e w' => e = .returned (.string ⟨#[114, 110]⟩) ∧ Below w.heap.size w w' := by
  go_enter Try.func54, Try.ntmps54
  go_wp2_with (go_at_call 66; go_in)
  go_ret
  exact ⟨rfl, by go_grown⟩
theorem form_2 (w : World) : Calls Try.prog 54 #[.int .i64 2] w fun e w' => e = .returned (.string ⟨#[114, 114]⟩) ∧ Below w.heap.size w w' := by
  go_enter Try.func54, Try.ntmps54
  go_wp2_with (go_at_call 66; go_in)
  go_ret
  exact ⟨rfl, by go_grown⟩
theorem form_3 (w : World) : Calls Try.prog 54 #[.int .i64 3] w fun e w' => e = .returned (.string ⟨#[114, 114, 114]⟩) ∧ Below w.heap.size w w' := by
  go_enter Try.func54, Try.ntmps54
  go_wp2_with (go_at_call 66; go_in)
  go_ret
  exact ⟨rfl, by go_grown⟩
theorem form_4 (w : World) : Calls Try.prog 54 #[.int .i64 4] w fun e w' => e = .returned (.string ⟨#[114, 114, 114]⟩) ∧ Below w.heap.size w w' := by
  go_enter Try.func54, Try.ntmps54
  go_wp2_with (go_at_call 66; go_in)
  go_ret
  exact ⟨rfl, by go_grown⟩
theorem form_5 (w : World) : Calls Try.prog 54 #[.int .i64 5] w fun e w' => e = .returned (.string ⟨#[114, 114, 114]⟩) ∧ Below w.heap.size w w' := by
  go_enter Try.func54, Try.ntmps54
  go_wp2_with (go_at_call 66; go_in)
  go_ret
  exact ⟨rfl, by go_grown⟩
theorem form_6 (w : World) : Calls Try.prog 54 #[.int .i64 6] w fun e w' => e = .returned (.string ⟨#[114, 114, 114]⟩) ∧ Below w.heap.size w w' := by
  go_enter Try.func54, Try.ntmps54
  go_wp2_with (go_at_call 66; go_in)
  go_ret
  exact ⟨rfl, by go_grown⟩
theorem form_7 (w : World) : Calls Try.prog 54 #[.int .i64 7] w fun e w' => e = .returned (.string ⟨#[114, 114, 114]⟩) ∧ Below w.heap.size w w' := by
  go_enter Try.func54, Try.ntmps54
  go_wp2_with (go_at_call 66; go_in)
  go_ret
  exact ⟨rfl, by go_grown⟩
theorem form_8 (w : World) : Calls Try.prog 54 #[.int .i64 8] w fun e w' => e = .returned (.string ⟨#[114, 114, 114]⟩) ∧ Below w.heap.size w w' := by
  go_enter Try.func54, Try.ntmps54
  go_wp2_with (go_at_call 66; go_in)
  go_ret
  exact ⟨rfl, by go_grown⟩
theorem form_9 (w : World) : Calls Try.prog 54 #[.int .i64 9] w fun e w' => e = .returned (.string ⟨#[114, 114, 114]⟩) ∧ Below w.heap.size w w' := by
  go_enter Try.func54, Try.ntmps54
  go_wp2_with (go_at_call 66; go_in)
  go_ret
  exact ⟨rfl, by go_grown⟩
theorem form_10 (w : World) : Calls Try.prog 54 #[.int .i64 10] w fun e w' => e = .returned (.string ⟨#[114, 114, 114]⟩) ∧ Below w.heap.size w w' := by
  go_enter Try.func54, Try.ntmps54
  go_wp2_with (go_at_call 66; go_in)
  go_ret
  exact ⟨rfl, by go_grown⟩
theorem form_11 (w : World) : Calls Try.prog 54 #[.int .i64 11] w fun e w' => e = .returned (.string ⟨#[114, 114, 114]⟩) ∧ Below w.heap.size w w' := by
  go_enter Try.func54, Try.ntmps54
  go_wp2_with (go_at_call 66; go_in)
  go_ret
  exact ⟨rfl, by go_grown⟩
theorem form_12 (w : World) : Calls Try.prog 54 #[.int .i64 12] w fun e w' => e = .returned (.string ⟨#[114, 114, 114]⟩) ∧ Below w.heap.size w w' := by
  go_enter Try.func54, Try.ntmps54
  go_wp2_with (go_at_call 66; go_in)
  go_ret
  exact ⟨rfl, by go_grown⟩
theorem form_13 (w : World) : Calls Try.prog 54 #[.int .i64 13] w fun e w' => e = .returned (.string ⟨#[114, 114]⟩) ∧ Below w.heap.size w w' := by
  go_enter Try.func54, Try.ntmps54
  go_wp2_with (go_at_call 66; go_in)
  go_ret
  exact ⟨rfl, by go_grown⟩
theorem form_14 (w : World) : Calls Try.prog 54 #[.int .i64 14] w fun e w' => e = .returned (.string ⟨#[114, 114]⟩) ∧ Below w.heap.size w w' := by
  go_enter Try.func54, Try.ntmps54
  go_wp2_with (go_at_call 66; go_in)
  go_ret
  exact ⟨rfl, by go_grown⟩
theorem form_15 (w : World) : Calls Try.prog 54 #[.int .i64 15] w fun e w' => e = .returned (.string ⟨#[114, 114, 114]⟩) ∧ Below w.heap.size w w' := by
  go_enter Try.func54, Try.ntmps54
  go_wp2_with (go_at_call 66; go_in)
  go_ret
  exact ⟨rfl, by go_grown⟩
theorem form_16 (w : World) : Calls Try.prog 54 #[.int .i64 16] w fun e w' => e = .returned (.string ⟨#[114, 114, 114]⟩) ∧ Below w.heap.size w w' := by
  go_enter Try.func54, Try.ntmps54
  go_wp2_with (go_at_call 66; go_in)
  go_ret
  exact ⟨rfl, by go_grown⟩
theorem form_17 (w : World) : Calls Try.prog 54 #[.int .i64 17] w fun e w' => e = .returned (.string ⟨#[114]⟩) ∧ Below w.heap.size w w' := by
  go_enter Try.func54, Try.ntmps54
  go_wp2_with (go_at_call 66; go_in)
  go_ret
  exact ⟨rfl, by go_grown⟩
theorem form_18 (w : World) : Calls Try.prog 54 #[.int .i64 18] w fun e w' => e = .returned (.string ⟨#[116]⟩) ∧ Below w.heap.size w w' := by
  go_enter Try.func54, Try.ntmps54
  go_wp2_with (go_at_call 66; go_in)
  go_ret
  exact ⟨rfl, by go_grown⟩
theorem form_19 (w : World) : Calls Try.prog 54 #[.int .i64 19] w fun e w' => e = .returned (.string ⟨#[114, 116]⟩) ∧ Below w.heap.size w w' := by
  go_enter Try.func54, Try.ntmps54
  go_wp2_with (go_at_call 66; go_in)
  go_ret
  exact ⟨rfl, by go_grown⟩
theorem form_20 (w : World) : Calls Try.prog 54 #[.int .i64 20] w fun e w' => e = .returned (.string ⟨#[102]⟩) ∧ Below w.heap.size w w' := by
  go_enter Try.func54, Try.ntmps54
  go_wp2_with (go_at_call 66; go_in)
  go_ret
  exact ⟨rfl, by go_grown⟩
theorem form_21 (w : World) : Calls Try.prog 54 #[.int .i64 21] w fun e w' => e = .returned (.string ⟨#[]⟩) ∧ Below w.heap.size w w' := by
  go_enter Try.func54, Try.ntmps54
  go_wp2_with (go_at_call 66; go_in)
  go_ret
  exact ⟨rfl, by go_grown⟩
theorem form_22 (w : World) : Calls Try.prog 54 #[.int .i64 22] w fun e w' => e = .returned (.string ⟨#[102]⟩) ∧ Below w.heap.size w w' := by
  go_enter Try.func54, Try.ntmps54
  go_wp2_with (go_at_call 66; go_in)
  go_ret
  exact ⟨rfl, by go_grown⟩
theorem form_23 (w : World) : Calls Try.prog 54 #[.int .i64 23] w fun e w' => e = .returned (.string ⟨#[114]⟩) ∧ Below w.heap.size w w' := by
  go_enter Try.func54, Try.ntmps54
  go_wp2_with (go_at_call 66; go_in)
  go_ret
  exact ⟨rfl, by go_grown⟩
theorem form_24 (w : World) : Calls Try.prog 54 #[.int .i64 24] w fun e w' => e = .returned (.string ⟨#[114]⟩) ∧ Below w.heap.size w w' := by
  go_enter Try.func54, Try.ntmps54
  go_wp2_with (go_at_call 66; go_in)
  go_ret
  exact ⟨rfl, by go_grown⟩
theorem form_25 (w : World) : Calls Try.prog 54 #[.int .i64 25] w fun e w' => e = .returned (.string ⟨#[]⟩) ∧ Below w.heap.size w w' := by
  go_enter Try.func54, Try.ntmps54
  go_wp2_with (go_at_call 66; go_in)
  go_ret
  exact ⟨rfl, by go_grown⟩
theorem ends_r (w : World) : Calls Try.prog 55 #[.string ⟨#[114]⟩] w fun e w' => e = .returned (.tuple #[.int .i64 0, .int .i64 7]) ∧ w = w' := by
  go_enter Try.func55, Try.ntmps55
  go_wp2
  go_ret2
  exact ⟨rfl, rfl⟩
theorem ends_f (w : World) : Calls Try.prog 55 #[.string ⟨#[102]⟩] w fun e w' => e = .returned (.tuple #[.int .i64 0, .int .i64 15]) ∧ w = w' := by
  go_enter Try.func55, Try.ntmps55
  go_wp2
  go_ret2
  exact ⟨rfl, rfl⟩
theorem ends_t (w : World) : Calls Try.prog 55 #[.string ⟨#[116]⟩] w fun e w' => e = .returned (.tuple #[.int .i64 0, .int .i64 199]) ∧ w = w' := by
  go_enter Try.func55, Try.ntmps55
  go_wp2
  go_ret2
  exact ⟨rfl, rfl⟩
theorem ends_n (w : World) : Calls Try.prog 55 #[.string ⟨#[110]⟩] w fun e w' => e = .returned (.tuple #[.int .i64 (-32768), .int .i64 32767]) ∧ w = w' := by
  go_enter Try.func55, Try.ntmps55
  go_wp2
  go_ret2
  exact ⟨rfl, rfl⟩
end Go.Proofs.Ytpcpohbbmeonbaa.step
