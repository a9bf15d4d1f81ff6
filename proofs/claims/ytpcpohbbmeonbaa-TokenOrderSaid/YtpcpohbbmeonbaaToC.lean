/- Tokens stand in the order of their nodes, and who waits at a later stage may go on no earlier: the law TokenOrder answers true. No condition. -/
import Derived.Test.YtpcpohbbmeonbaaTok
namespace Go.Proofs.Ytpcpohbbmeonbaa.tokenOrder
open Go.ChangeShapes Go.WideShapes Go.ChangeAt Go.RowKit
set_option linter.unusedVariables false
set_option maxHeartbeats 4000000 in
theorem cD (a0_0 a0_1 a0_2 : Int) (a1_0 a1_1 a1_2 : Int) (c : Int) (w : World) (w0_0 : 0 ≤ a0_0 ∧ a0_0 ≤ 4294967295) (w0_1 : 0 ≤ a0_1 ∧ a0_1 ≤ 4294967295) (w0_2 : 0 ≤ a0_2 ∧ a0_2 ≤ 4294967295) (w1_0 : 0 ≤ a1_0 ∧ a1_0 ≤ 4294967295) (w1_1 : 0 ≤ a1_1 ∧ a1_1 ≤ 4294967295) (w1_2 : 0 ≤ a1_2 ∧ a1_2 ≤ 4294967295)
    (x0 x1 x2 y1 y2 : Int) (hx0 : Hid (a0_0 % 1048575 + 1 = x0)) (hx1 : Hid (a0_1 % 1048575 + 1 = x1)) (hx2 : Hid (a0_2 % 1048575 + 1 = x2)) (hy0 : Hid (a1_0 % 1048575 + 1 = x0)) (hy1 : Hid (a1_1 % 1048575 + 1 = y1)) (hy2 : Hid (a1_2 % 1048575 + 1 = y2))
    (d1 : decide (x1 < y1) = false) (e1 : (x1 == y1) = false)
    (hl : Hid (decide (tOf x0 x1 x2 < tOf x0 y1 y2) = false))
    (H : Hid (decide (y2 < x2) = true ∨ (decide (y2 < x2) = false ∧ tNextB (tOf x0 y1 y2) c = false) ∨ (decide (y2 < x2) = false ∧ tNextB (tOf x0 y1 y2) c = true ∧ tNextB (tOf x0 x1 x2) c = true)))
    (hb : 0 ≤ tOf x0 x1 x2 ∧ tOf x0 x1 x2 ≤ 1152921504606846975) (hx : 1 ≤ x2 ∧ x2 ≤ 1048575)
    (M : Hid ((x2 < 1048574 ∧ tOf x0 x1 (x2 + 1) = tOf x0 x1 x2 + 1 ∧ (tOf x0 x1 x2 + 1 - tOf x0 x1 x2 == 1) = true) ∨ ((x2 ≤ 1048574 ∧ 1048574 ≤ x2) ∧ tOf x0 x1 (x2 + 1) = tOf x0 x1 x2 + 1 ∧ (tOf x0 x1 x2 + 1 - tOf x0 x1 x2 == 1048575 - x2) = true) ∨ (1048575 ≤ x2 ∧ tOf x0 x1 (x2 + 1) = tOf x0 x1 x2 ∧ ((0 : Int) == 1048575 - x2) = true))) :
    Calls Try.prog 14 #[.agg #[.int .u32 a0_0, .int .u32 a0_1, .int .u32 a0_2], .agg #[.int .u32 a1_0, .int .u32 a1_1, .int .u32 a1_2], .int .i64 c] w fun e w' => e = .returned (.bool true) ∧ Below w.heap.size w w' := by
  go_enter Try.func14, Try.ntmps14
  go_wp2_with (first | (go_at_call 36; refine (works15 _).mono ?_; rintro e w' ⟨rfl, rfl⟩))
  refine wp_loop_rounds 4 ?_
  rw [rounds_succ]
  go_wp2_with fail
  rw [rounds_succ]
  go_wp2_with fail
  rw [rounds_succ]
  go_wp2_with fail
  rw [rounds_succ]
  go_wp2_with fail
  rw [hx0.out, hx1.out, hx2.out, hy0.out, hy1.out, hy2.out]
  clear w0_0 w0_1 w0_2 w1_0 w1_1 w1_2
  go_quiet ((first | (go_at_call 38; exact quiet_eq (of_any _ _ _ _))))
  go_wp2_with (first | (go_at_call 44; refine (next_any _ _ _).mono ?_; rintro e w' ⟨rfl, rfl⟩))
  have gl := hl.out
  rcases H.out with g1 | ⟨g1, g2⟩ | ⟨g1, g2, g3⟩ <;> rcases M.out with ⟨m1, m2, m3⟩ | ⟨⟨m1, m4⟩, m2, m3⟩ | ⟨m1, m2, m3⟩ <;> (
    clear H M hl hx0 hx1 hx2 hy0 hy1 hy2
    go_quiet ((first | (go_at_call 38; exact quiet_eq2 (of_any _ _ _ _))))
    go_wp2
    go_ret
    exact ⟨rfl, by repeat (first | exact Below.refl _ _ | refine below_drewN ?_ _ | refine Below.alloc ?_ (by first | exact Nat.le_refl _ | (simp; done) | (simp; omega)) _)⟩)
set_option maxHeartbeats 4000000 in
theorem cE (a0_0 a0_1 a0_2 : Int) (a1_0 a1_1 a1_2 : Int) (c : Int) (w : World) (w0_0 : 0 ≤ a0_0 ∧ a0_0 ≤ 4294967295) (w0_1 : 0 ≤ a0_1 ∧ a0_1 ≤ 4294967295) (w0_2 : 0 ≤ a0_2 ∧ a0_2 ≤ 4294967295) (w1_0 : 0 ≤ a1_0 ∧ a1_0 ≤ 4294967295) (w1_1 : 0 ≤ a1_1 ∧ a1_1 ≤ 4294967295) (w1_2 : 0 ≤ a1_2 ∧ a1_2 ≤ 4294967295)
    (x0 x1 x2 y0 y1 y2 : Int) (hx0 : Hid (a0_0 % 1048575 + 1 = x0)) (hx1 : Hid (a0_1 % 1048575 + 1 = x1)) (hx2 : Hid (a0_2 % 1048575 + 1 = x2)) (hy0 : Hid (a1_0 % 1048575 + 1 = y0)) (hy1 : Hid (a1_1 % 1048575 + 1 = y1)) (hy2 : Hid (a1_2 % 1048575 + 1 = y2))
    (d0 : decide (x0 < y0) = false) (e0 : (x0 == y0) = false)
    (hl : Hid (decide (tOf x0 x1 x2 < tOf y0 y1 y2) = false))
    (H : Hid (decide (y2 < x2) = true ∨ (decide (y2 < x2) = false ∧ tNextB (tOf y0 y1 y2) c = false) ∨ (decide (y2 < x2) = false ∧ tNextB (tOf y0 y1 y2) c = true ∧ tNextB (tOf x0 x1 x2) c = true)))
    (hb : 0 ≤ tOf x0 x1 x2 ∧ tOf x0 x1 x2 ≤ 1152921504606846975) (hx : 1 ≤ x2 ∧ x2 ≤ 1048575)
    (M : Hid ((x2 < 1048574 ∧ tOf x0 x1 (x2 + 1) = tOf x0 x1 x2 + 1 ∧ (tOf x0 x1 x2 + 1 - tOf x0 x1 x2 == 1) = true) ∨ ((x2 ≤ 1048574 ∧ 1048574 ≤ x2) ∧ tOf x0 x1 (x2 + 1) = tOf x0 x1 x2 + 1 ∧ (tOf x0 x1 x2 + 1 - tOf x0 x1 x2 == 1048575 - x2) = true) ∨ (1048575 ≤ x2 ∧ tOf x0 x1 (x2 + 1) = tOf x0 x1 x2 ∧ ((0 : Int) == 1048575 - x2) = true))) :
    Calls Try.prog 14 #[.agg #[.int .u32 a0_0, .int .u32 a0_1, .int .u32 a0_2], .agg #[.int .u32 a1_0, .int .u32 a1_1, .int .u32 a1_2], .int .i64 c] w fun e w' => e = .returned (.bool true) ∧ Below w.heap.size w w' := by
  go_enter Try.func14, Try.ntmps14
  go_wp2_with (first | (go_at_call 36; refine (works15 _).mono ?_; rintro e w' ⟨rfl, rfl⟩))
  refine wp_loop_rounds 4 ?_
  rw [rounds_succ]
  go_wp2_with fail
  rw [rounds_succ]
  go_wp2_with fail
  rw [rounds_succ]
  go_wp2_with fail
  rw [rounds_succ]
  go_wp2_with fail
  rw [hx0.out, hx1.out, hx2.out, hy0.out, hy1.out, hy2.out]
  clear w0_0 w0_1 w0_2 w1_0 w1_1 w1_2
  go_quiet ((first | (go_at_call 38; exact quiet_eq (of_any _ _ _ _))))
  go_wp2_with (first | (go_at_call 44; refine (next_any _ _ _).mono ?_; rintro e w' ⟨rfl, rfl⟩))
  have gl := hl.out
  rcases H.out with g1 | ⟨g1, g2⟩ | ⟨g1, g2, g3⟩ <;> rcases M.out with ⟨m1, m2, m3⟩ | ⟨⟨m1, m4⟩, m2, m3⟩ | ⟨m1, m2, m3⟩ <;> (
    clear H M hl hx0 hx1 hx2 hy0 hy1 hy2
    go_quiet ((first | (go_at_call 38; exact quiet_eq2 (of_any _ _ _ _))))
    go_wp2
    go_ret
    exact ⟨rfl, by repeat (first | exact Below.refl _ _ | refine below_drewN ?_ _ | refine Below.alloc ?_ (by first | exact Nat.le_refl _ | (simp; done) | (simp; omega)) _)⟩)
end Go.Proofs.Ytpcpohbbmeonbaa.tokenOrder
