/- Who waits may go on just if what it waits with is a token and the iteration ahead has come past its stage: the law TokenNext answers true. No condition. -/
import Derived.Test.YtpcpohbbmeonbaaTok
namespace Go.Proofs.Ytpcpohbbmeonbaa.tokenNext
open Go.ChangeShapes Go.WideShapes Go.ChangeAt Go.RowKit
set_option linter.unusedVariables false
theorem no1 (t c : Int) (w : World) (h : t < 1099511627776) (hd : decide (1099511627776 ≤ t) = false) (hn : Hid (tIs t = false ∨ c ≤ tPart t 1)) :
    Calls Try.prog 13 #[.int .i64 t, .int .i64 c] w fun e w' => e = .returned (.bool true) ∧ Below w.heap.size w w' := by
  go_enter Try.func13, Try.ntmps13
  go_wp2_with (first | (go_at_call 36; refine (works15 _).mono ?_; rintro e w' ⟨rfl, rfl⟩) | (go_at_call 37; refine (rparts_any _ _).mono ?_; rintro e w' ⟨rfl, hb1⟩) | (go_at_call 44; refine (next_no _ _ _ hn.out).mono ?_; rintro e w' ⟨rfl, rfl⟩))
  have hz : w.heap.size ≤ w'.heap.size := hb1.size
  go_ret
  exact ⟨rfl, hb1.alloc hz _⟩
theorem no2 (t c : Int) (w : World) (h1 : 1099511627776 ≤ t) (h : 1152921504606846975 < t) (hd : decide (t ≤ 1152921504606846975) = false) (hn : Hid (tIs t = false ∨ c ≤ tPart t 1)) :
    Calls Try.prog 13 #[.int .i64 t, .int .i64 c] w fun e w' => e = .returned (.bool true) ∧ Below w.heap.size w w' := by
  go_enter Try.func13, Try.ntmps13
  go_wp2_with (first | (go_at_call 36; refine (works15 _).mono ?_; rintro e w' ⟨rfl, rfl⟩) | (go_at_call 37; refine (rparts_any _ _).mono ?_; rintro e w' ⟨rfl, hb1⟩) | (go_at_call 44; refine (next_no _ _ _ hn.out).mono ?_; rintro e w' ⟨rfl, rfl⟩))
  have hz : w.heap.size ≤ w'.heap.size := hb1.size
  go_ret
  exact ⟨rfl, hb1.alloc hz _⟩
theorem no3 (t c : Int) (w : World) (h1 : 1099511627776 ≤ t) (h : t ≤ 1152921504606846975) (hd : decide (tPart t 1 < c) = false) (hn : Hid (tIs t = false ∨ c ≤ tPart t 1)) :
    Calls Try.prog 13 #[.int .i64 t, .int .i64 c] w fun e w' => e = .returned (.bool true) ∧ Below w.heap.size w w' := by
  go_enter Try.func13, Try.ntmps13
  go_wp2_with (first | (go_at_call 36; refine (works15 _).mono ?_; rintro e w' ⟨rfl, rfl⟩) | (go_at_call 37; refine (rparts_any _ _).mono ?_; rintro e w' ⟨rfl, hb1⟩) | (go_at_call 44; refine (next_no _ _ _ hn.out).mono ?_; rintro e w' ⟨rfl, rfl⟩))
  have hz : w.heap.size ≤ w'.heap.size := hb1.size
  go_ret
  exact ⟨rfl, hb1.alloc hz _⟩
theorem yes (t c : Int) (w : World) (h1 : 1099511627776 ≤ t) (h : t ≤ 1152921504606846975) (hd : decide (tPart t 1 < c) = true) (hi : Hid (tIs t = true)) (hc : Hid (tPart t 1 < c)) :
    Calls Try.prog 13 #[.int .i64 t, .int .i64 c] w fun e w' => e = .returned (.bool true) ∧ Below w.heap.size w w' := by
  go_enter Try.func13, Try.ntmps13
  go_wp2_with (first | (go_at_call 36; refine (works15 _).mono ?_; rintro e w' ⟨rfl, rfl⟩) | (go_at_call 37; refine (rparts_any _ _).mono ?_; rintro e w' ⟨rfl, hb1⟩) | (go_at_call 44; refine (next_yes _ _ _ hi.out hc.out).mono ?_; rintro e w' ⟨rfl, rfl⟩))
  have hz : w.heap.size ≤ w'.heap.size := hb1.size
  go_ret
  exact ⟨rfl, hb1.alloc hz _⟩
theorem walk (a0 : Int) (a1 : Int) (w : World) (w0 : (Lit.int .i64 a0).wf = true) (w1 : (Lit.int .i64 a1).wf = true) :
    Calls Try.prog 13 #[.int .i64 a0, .int .i64 a1] w fun e w' => e = .returned (.bool true) ∧ Below w.heap.size w w' := by
  by_cases h1 : a0 < 1099511627776
  · exact no1 a0 a1 w h1 (by simpa using h1) (.inl (tIs_no (.inl h1)))
  by_cases h2 : 1152921504606846975 < a0
  · exact no2 a0 a1 w (by omega) h2 (by simpa using h2) (.inl (tIs_no (.inr h2)))
  by_cases h3 : tPart a0 1 < a1
  · exact yes a0 a1 w (by omega) (by omega) (by simpa using h3) (tIs_yes (by omega) (by omega)) h3
  · exact no3 a0 a1 w (by omega) (by omega) (by simpa using h3) (.inr (by omega))
end Go.Proofs.Ytpcpohbbmeonbaa.tokenNext
