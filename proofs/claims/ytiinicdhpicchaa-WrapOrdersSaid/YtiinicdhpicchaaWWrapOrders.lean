/- Of two numbers just one is less, or they are the same; what both have in their bits and what either has are together both: the law WrapOrders answers true. No condition. -/
import Derived.Test.YtiinicdhpicchaaBase
namespace Go.Proofs.Ytiinicdhpicchaa.wrapOrders
open Go.ChangeShapes Go.WideShapes Go.ChangeAt Go.RowKit
set_option linter.unusedVariables false

set_option maxHeartbeats 400000 in
theorem walk_lt (a0 : Int) (a1 : Int) (w : World) (hlt : a0 < a1) (hn : ¬ a1 < a0) (he : (a0 == a1) = false) (hd : decide (a1 < a0) = false) :
    Calls Try.prog 7 #[.int .i64 a0, .int .i64 a1] w fun e w' => e = .returned (.bool true) ∧ Below w.heap.size w w' := by
  have H := Lib.hid (And.intro (and_or_sum a0 a1) (or_sub_and a0 a1))
  go_enter Try.func7, Try.ntmps7
  go_wp2_with (first | (go_at_call 10; refine (works_any _).mono ?_; rintro e w' ⟨rfl, hb1⟩) | (go_at_call 8; go_in) | (go_at_call 14; go_in))
  refine (sum2 _ (bits .and .i64 a0 a1) (bits .or .i64 a0 a1) _ (by go_simp) (by go_simp)).mono ?_
  rintro e w' ⟨rfl, rfl⟩
  go_wp2_with fail
  refine (sum2 _ a0 a1 _ (by go_simp) (by go_simp)).mono ?_
  rintro e w' ⟨rfl, rfl⟩
  go_wp2_with fail
  all_goals first
    | exact absurd H.out.1 ‹_›
    | exact absurd H.out.2 ‹_›
    | (go_ret; exact ⟨rfl, (hb1.alloc hb1.size _).alloc (Nat.le_trans hb1.size (by simp)) _⟩)

set_option maxHeartbeats 400000 in
theorem walk_gt (a0 : Int) (a1 : Int) (w : World) (hlt : a1 < a0) (hn : ¬ a0 < a1) (he : (a0 == a1) = false) (hd : decide (a0 < a1) = false) :
    Calls Try.prog 7 #[.int .i64 a0, .int .i64 a1] w fun e w' => e = .returned (.bool true) ∧ Below w.heap.size w w' := by
  have H := Lib.hid (And.intro (and_or_sum a0 a1) (or_sub_and a0 a1))
  go_enter Try.func7, Try.ntmps7
  go_wp2_with (first | (go_at_call 10; refine (works_any _).mono ?_; rintro e w' ⟨rfl, hb1⟩) | (go_at_call 8; go_in) | (go_at_call 14; go_in))
  refine (sum2 _ (bits .and .i64 a0 a1) (bits .or .i64 a0 a1) _ (by go_simp) (by go_simp)).mono ?_
  rintro e w' ⟨rfl, rfl⟩
  go_wp2_with fail
  refine (sum2 _ a0 a1 _ (by go_simp) (by go_simp)).mono ?_
  rintro e w' ⟨rfl, rfl⟩
  go_wp2_with fail
  all_goals first
    | exact absurd H.out.1 ‹_›
    | exact absurd H.out.2 ‹_›
    | (go_ret; exact ⟨rfl, (hb1.alloc hb1.size _).alloc (Nat.le_trans hb1.size (by simp)) _⟩)

set_option maxHeartbeats 400000 in
theorem walk_eq (a0 : Int) (w : World) :
    Calls Try.prog 7 #[.int .i64 a0, .int .i64 a0] w fun e w' => e = .returned (.bool true) ∧ Below w.heap.size w w' := by
  have H := Lib.hid (And.intro (and_or_sum a0 a0) (or_sub_and a0 a0))
  go_enter Try.func7, Try.ntmps7
  go_wp2_with (first | (go_at_call 10; refine (works_any _).mono ?_; rintro e w' ⟨rfl, hb1⟩) | (go_at_call 8; go_in) | (go_at_call 14; go_in))
  refine (sum2 _ (bits .and .i64 a0 a0) (bits .or .i64 a0 a0) _ (by go_simp) (by go_simp)).mono ?_
  rintro e w' ⟨rfl, rfl⟩
  go_wp2_with fail
  refine (sum2 _ a0 a0 _ (by go_simp) (by go_simp)).mono ?_
  rintro e w' ⟨rfl, rfl⟩
  go_wp2_with fail
  all_goals first
    | exact absurd H.out.1 ‹_›
    | exact absurd H.out.2 ‹_›
    | (go_ret; exact ⟨rfl, (hb1.alloc hb1.size _).alloc (Nat.le_trans hb1.size (by simp)) _⟩)

theorem walk (a0 : Int) (a1 : Int) (w : World) (w0 : (Lit.int .i64 a0).wf = true) (w1 : (Lit.int .i64 a1).wf = true) :
    Calls Try.prog 7 #[.int .i64 a0, .int .i64 a1] w fun e w' => e = .returned (.bool true) ∧ Below w.heap.size w w' := by
  rcases Int.lt_trichotomy a0 a1 with h | h | h
  · exact walk_lt a0 a1 w h (by omega) (by simp; omega) (by simp; omega)
  · subst h; exact walk_eq a0 w
  · exact walk_gt a0 a1 w h (by omega) (by simp; omega) (by simp; omega)
end Go.Proofs.Ytiinicdhpicchaa.wrapOrders
