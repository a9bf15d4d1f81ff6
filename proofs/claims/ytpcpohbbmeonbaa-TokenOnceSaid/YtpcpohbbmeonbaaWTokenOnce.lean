/- Two tokens are the same just if loop, iteration and stage are, and what a token is made of is what it was made of: the law TokenOnce answers true. No condition. -/
import Derived.Test.YtpcpohbbmeonbaaTok
namespace Go.Proofs.Ytpcpohbbmeonbaa.tokenOnce
open Go.ChangeShapes Go.WideShapes Go.ChangeAt Go.RowKit
set_option linter.unusedVariables false
set_option maxHeartbeats 1000000 in
theorem core (a0_0 a0_1 a0_2 : Int) (a1_0 a1_1 a1_2 : Int) (w : World) (w0_0 : 0 ≤ a0_0 ∧ a0_0 ≤ 4294967295) (w0_1 : 0 ≤ a0_1 ∧ a0_1 ≤ 4294967295) (w0_2 : 0 ≤ a0_2 ∧ a0_2 ≤ 4294967295) (w1_0 : 0 ≤ a1_0 ∧ a1_0 ≤ 4294967295) (w1_1 : 0 ≤ a1_1 ∧ a1_1 ≤ 4294967295) (w1_2 : 0 ≤ a1_2 ∧ a1_2 ≤ 4294967295) (x0 x1 x2 y0 y1 y2 : Int) (hx0 : Hid (a0_0 % 1048576 = x0)) (hx1 : Hid (a0_1 % 1048576 = x1)) (hx2 : Hid (a0_2 % 1048576 = x2)) (hy0 : Hid (a1_0 % 1048576 = y0)) (hy1 : Hid (a1_1 % 1048576 = y1)) (hy2 : Hid (a1_2 % 1048576 = y2))
    (hs : Hid ((tOf x0 x1 x2 == tOf y0 y1 y2) = (x0 == y0 && (x1 == y1 && x2 == y2)))) (h1 : Hid (tPart (tOf x0 x1 x2) 1099511627776 = x0)) (h2 : Hid (tPart (tOf x0 x1 x2) 1048576 = x1)) (h3 : Hid (tPart (tOf x0 x1 x2) 1 = x2)) (h4 : Hid (tIs (tOf x0 x1 x2) = decide (0 < x0))) :
    Calls Try.prog 12 #[.agg #[.int .u32 a0_0, .int .u32 a0_1, .int .u32 a0_2], .agg #[.int .u32 a1_0, .int .u32 a1_1, .int .u32 a1_2]] w fun e w' => e = .returned (.bool true) ∧ Below w.heap.size w w' := by
  go_enter Try.func12, Try.ntmps12
  go_wp2_with (first | (go_at_call 36; refine (works15 _).mono ?_; rintro e w' ⟨rfl, rfl⟩))
  refine wp_loop_rounds 4 ?_
  rw [rounds_succ]
  go_wp2_with fail
  rw [rounds_succ]
  go_wp2_with fail
  rw [rounds_succ]
  go_wp2_with fail
  rw [rounds_succ]
  go_wp2_with fail
  rw [hx0.out, hx1.out, hx2.out, hy0.out, hy1.out, hy2.out]
  clear w0_0 w0_1 w0_2 w1_0 w1_1 w1_2
  have g0 := hs.out
  have g1 := h1.out
  have g2 := h2.out
  have g3 := h3.out
  have g4 := h4.out
  go_quiet ((first | (go_at_call 38; exact quiet_eq (of_any _ _ _ _))))
  go_wp2_with fail
  have hq := fun w => run_equal_arr3 x0 x1 x2 y0 y1 y2 w
  go_quiet ((first | (go_at_call 40; exact quiet_eq2 (loop_any _ _)) | (go_at_call 41; exact quiet_eq2 (iter_any _ _)) | (go_at_call 42; exact quiet_eq2 (stage_any _ _)) | (go_at_call 43; exact quiet_eq2 (is_any _ _))))
  go_wp2
  go_ret
  exact ⟨rfl, below_drewN (below_drewN (((((Below.refl _ _).alloc (Nat.le_refl _) _).alloc (by simp) _).alloc (by simp; omega) _).alloc (by simp; omega) _) _) _⟩

theorem key (x0 x1 x2 y0 y1 y2 : Int) (h0 : 0 ≤ x0 ∧ x0 ≤ 1048575) (h1 : 0 ≤ x1 ∧ x1 ≤ 1048575) (h2 : 0 ≤ x2 ∧ x2 ≤ 1048575) (k0 : 0 ≤ y0 ∧ y0 ≤ 1048575) (k1 : 0 ≤ y1 ∧ y1 ≤ 1048575) (k2 : 0 ≤ y2 ∧ y2 ≤ 1048575) :
    (tOf x0 x1 x2 == tOf y0 y1 y2) = (x0 == y0 && (x1 == y1 && x2 == y2)) := by
  rw [(tPart_loop x0 x1 x2 h0.1 h0.2 h1.1 h1.2 h2.1 h2.2).1, (tPart_loop y0 y1 y2 k0.1 k0.2 k1.1 k1.2 k2.1 k2.2).1]
  rw [Bool.eq_iff_iff]
  simp only [Bool.and_eq_true, beq_iff_eq]
  omega
theorem walk (a0_0 a0_1 a0_2 : Int) (a1_0 a1_1 a1_2 : Int) (w : World) (w0_0 : (Lit.int .u32 a0_0).wf = true) (w0_1 : (Lit.int .u32 a0_1).wf = true) (w0_2 : (Lit.int .u32 a0_2).wf = true) (w1_0 : (Lit.int .u32 a1_0).wf = true) (w1_1 : (Lit.int .u32 a1_1).wf = true) (w1_2 : (Lit.int .u32 a1_2).wf = true) :
    Calls Try.prog 12 #[.agg #[.int .u32 a0_0, .int .u32 a0_1, .int .u32 a0_2], .agg #[.int .u32 a1_0, .int .u32 a1_1, .int .u32 a1_2]] w fun e w' => e = .returned (.bool true) ∧ Below w.heap.size w w' := by
  have b0 := bounds_u32 w0_0
  have b1 := bounds_u32 w0_1
  have b2 := bounds_u32 w0_2
  have c0 := bounds_u32 w1_0
  have c1 := bounds_u32 w1_1
  have c2 := bounds_u32 w1_2
  obtain ⟨_, g1, g2, g3, g4⟩ := tPart_loop (a0_0 % 1048576) (a0_1 % 1048576) (a0_2 % 1048576) (by omega) (by omega) (by omega) (by omega) (by omega) (by omega)
  exact core a0_0 a0_1 a0_2 a1_0 a1_1 a1_2 w b0 b1 b2 c0 c1 c2 _ _ _ _ _ _ rfl rfl rfl rfl rfl rfl (key _ _ _ _ _ _ (by omega) (by omega) (by omega) (by omega) (by omega) (by omega)) g1 g2 g3 g4
end Go.Proofs.Ytpcpohbbmeonbaa.tokenOnce
