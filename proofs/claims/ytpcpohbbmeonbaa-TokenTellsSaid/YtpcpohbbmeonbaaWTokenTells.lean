/- The token of any three numbers, the numbers of any token and whether it is one are as the chapter says: the law TokenTells answers true. No condition. -/
import Derived.Test.YtpcpohbbmeonbaaTok
namespace Go.Proofs.Ytpcpohbbmeonbaa.tokenTells
open Go.ChangeShapes Go.WideShapes Go.ChangeAt Go.RowKit
set_option linter.unusedVariables false
theorem lo (a b c t : Int) (w : World) (h : t < 1099511627776) (hd : decide (1099511627776 ≤ t) = false) (hi : Hid (tIs t = false)) :
    Calls Try.prog 11 #[.int .i64 a, .int .i64 b, .int .i64 c, .int .i64 t] w fun e w' => e = .returned (.bool true) ∧ Below w.heap.size w w' := by
  go_enter Try.func11, Try.ntmps11
  go_wp2_with (first | (go_at_call 36; refine (works15 _).mono ?_; rintro e w' ⟨rfl, rfl⟩) | (go_at_call 37; refine (rparts_any _ _).mono ?_; rintro e w' ⟨rfl, hb1⟩))
  have hz : w.heap.size ≤ w'.heap.size := hb1.size
  go_quiet ((first | (go_at_call 38; exact quiet_eq (of_any _ _ _ _)) | (go_at_call 39; exact quiet_eq (rof_any _ _ _ _)) | (go_at_call 40; exact quiet_eq (loop_any _ _)) | (go_at_call 41; exact quiet_eq (iter_any _ _)) | (go_at_call 42; exact quiet_eq (stage_any _ _)) | (go_at_call 43; exact quiet_eq (is_val _ false _ hi.out))))
  go_wp2
  go_ret
  exact ⟨rfl, below_drewN (hb1.alloc hz _) _⟩
theorem mid (a b c t : Int) (w : World) (h1 : 1099511627776 ≤ t) (h2 : t ≤ 1152921504606846975) (hi : Hid (tIs t = true)) :
    Calls Try.prog 11 #[.int .i64 a, .int .i64 b, .int .i64 c, .int .i64 t] w fun e w' => e = .returned (.bool true) ∧ Below w.heap.size w w' := by
  go_enter Try.func11, Try.ntmps11
  go_wp2_with (first | (go_at_call 36; refine (works15 _).mono ?_; rintro e w' ⟨rfl, rfl⟩) | (go_at_call 37; refine (rparts_any _ _).mono ?_; rintro e w' ⟨rfl, hb1⟩))
  have hz : w.heap.size ≤ w'.heap.size := hb1.size
  go_quiet ((first | (go_at_call 38; exact quiet_eq (of_any _ _ _ _)) | (go_at_call 39; exact quiet_eq (rof_any _ _ _ _)) | (go_at_call 40; exact quiet_eq (loop_any _ _)) | (go_at_call 41; exact quiet_eq (iter_any _ _)) | (go_at_call 42; exact quiet_eq (stage_any _ _)) | (go_at_call 43; exact quiet_eq (is_val _ true _ hi.out))))
  go_wp2
  go_ret
  exact ⟨rfl, below_drewN (hb1.alloc hz _) _⟩
theorem hi (a b c t : Int) (w : World) (h1 : 1099511627776 ≤ t) (h2 : 1152921504606846975 < t) (hd : decide (t ≤ 1152921504606846975) = false) (hi : Hid (tIs t = false)) :
    Calls Try.prog 11 #[.int .i64 a, .int .i64 b, .int .i64 c, .int .i64 t] w fun e w' => e = .returned (.bool true) ∧ Below w.heap.size w w' := by
  go_enter Try.func11, Try.ntmps11
  go_wp2_with (first | (go_at_call 36; refine (works15 _).mono ?_; rintro e w' ⟨rfl, rfl⟩) | (go_at_call 37; refine (rparts_any _ _).mono ?_; rintro e w' ⟨rfl, hb1⟩))
  have hz : w.heap.size ≤ w'.heap.size := hb1.size
  go_quiet ((first | (go_at_call 38; exact quiet_eq (of_any _ _ _ _)) | (go_at_call 39; exact quiet_eq (rof_any _ _ _ _)) | (go_at_call 40; exact quiet_eq (loop_any _ _)) | (go_at_call 41; exact quiet_eq (iter_any _ _)) | (go_at_call 42; exact quiet_eq (stage_any _ _)) | (go_at_call 43; exact quiet_eq (is_val _ false _ hi.out))))
  go_wp2
  go_ret
  exact ⟨rfl, below_drewN (hb1.alloc hz _) _⟩
theorem walk (a0 : Int) (a1 : Int) (a2 : Int) (a3 : Int) (w : World) (w0 : (Lit.int .i64 a0).wf = true) (w1 : (Lit.int .i64 a1).wf = true) (w2 : (Lit.int .i64 a2).wf = true) (w3 : (Lit.int .i64 a3).wf = true) :
    Calls Try.prog 11 #[.int .i64 a0, .int .i64 a1, .int .i64 a2, .int .i64 a3] w fun e w' => e = .returned (.bool true) ∧ Below w.heap.size w w' := by
  by_cases h1 : a3 < 1099511627776
  · exact lo a0 a1 a2 a3 w h1 (by simpa using h1) (tIs_no (.inl h1))
  by_cases h2 : 1152921504606846975 < a3
  · exact hi a0 a1 a2 a3 w (by omega) h2 (by simpa using h2) (tIs_no (.inr h2))
  · exact mid a0 a1 a2 a3 w (by omega) (by omega) (tIs_yes (by omega) (by omega))
end Go.Proofs.Ytpcpohbbmeonbaa.tokenTells
