/- With more instructions, workers, or a wider window no fewer steps are needed, and at least one for each instruction in each window: the law BoundMore answers true. No condition. -/
import Derived.Test.YtpcpohbbmeonbabSteps
namespace Go.Proofs.Ytpcpohbbmeonbab.boundMore
open Go.ChangeShapes Go.WideShapes Go.ChangeAt Go.RowKit
set_option linter.unusedVariables false
theorem raw_mono (N P W N' P' W' : Int) (n0 : 0 ≤ N) (n1 : N ≤ N') (p0 : 1 ≤ P) (p1 : P ≤ P') (w0 : 1 ≤ W) (w1 : W ≤ W') : stRaw N P W ≤ stRaw N' P' W' := by
  unfold stRaw
  have h1 : 16 * W * (P + 1) ≤ 16 * W' * (P' + 1) := Int.mul_le_mul (by omega) (by omega) (by omega) (by omega)
  have z1 : 0 ≤ 16 * W * (P + 1) := Int.mul_nonneg (by omega) (by omega)
  have h2 : 16 * W * (P + 1) * (P + 1) ≤ 16 * W' * (P' + 1) * (P' + 1) := Int.mul_le_mul h1 (by omega) (by omega) (by omega)
  have z2 : 0 ≤ 16 * W' * (P' + 1) * (P' + 1) := Int.mul_nonneg (Int.mul_nonneg (by omega) (by omega)) (by omega)
  exact Int.mul_le_mul h2 (by omega) (by omega) z2
theorem hd_mono (n n' a b : Int) (h : n ≤ n') (hab : a ≤ b) : hd n a b ≤ hd n' a b := by
  unfold hd
  by_cases h1 : n < a
  · rw [if_pos h1]; split <;> (try split) <;> omega
  · rw [if_neg h1]
    by_cases h2 : b < n
    · rw [if_pos h2, if_neg (by omega), if_pos (by omega)]; omega
    · rw [if_neg h2]; split <;> (try split) <;> omega
theorem stV_mono (n p w n' p' w' : Int) (h1 : n ≤ n') (h2 : p ≤ p') (h3 : w ≤ w') : stV n p w ≤ stV n' p' w' := by
  have b1 := hd_bd n 0 1048576 (by decide)
  have b2 := hd_bd p 1 64 (by decide)
  have b3 := hd_bd w 1 1024 (by decide)
  have m := raw_mono _ _ _ _ _ _ b1.1 (hd_mono n n' 0 1048576 h1 (by decide)) b2.1 (hd_mono p p' 1 64 h2 (by decide)) b3.1 (hd_mono w w' 1 1024 h3 (by decide))
  unfold stV
  split <;> split <;> omega
theorem stV_ge (n p w : Int) (n0 : 0 ≤ n) (n1 : n ≤ 1048575) (p0 : 1 ≤ p) (p1 : p ≤ 64) (w0 : 1 ≤ w) (w1 : w ≤ 1024) : (0 ≤ n * w ∧ n * w ≤ 1073741824) ∧ n * w ≤ stV n p w := by
  have hb : 0 ≤ n * w ∧ n * w ≤ 1048576 * 1024 := mul_bd n0 (by omega) (by omega) (by omega)
  refine ⟨⟨hb.1, by omega⟩, ?_⟩
  have e1 : hd n 0 1048576 = n := by unfold hd; rw [if_neg (by omega), if_neg (by omega)]
  have e2 : hd p 1 64 = p := by unfold hd; rw [if_neg (by omega), if_neg (by omega)]
  have e3 : hd w 1 1024 = w := by unfold hd; rw [if_neg (by omega), if_neg (by omega)]
  have hr : n * w ≤ stRaw n p w := by
    unfold stRaw
    have z : w ≤ 16 * w * (p + 1) := by
      have := Int.mul_le_mul (show w ≤ 16 * w by omega) (show (1 : Int) ≤ p + 1 by omega) (by omega) (by omega)
      omega
    have z2 : w ≤ 16 * w * (p + 1) * (p + 1) := by
      have := Int.mul_le_mul z (show (1 : Int) ≤ p + 1 by omega) (by omega) (by omega)
      omega
    have z3 := Int.mul_le_mul z2 (show n ≤ 64 * (n + 2) + 1 by omega) n0 (by omega)
    rw [Int.mul_comm n w]
    exact z3
  unfold stV
  rw [e1, e2, e3]
  split
  · exact hr
  · omega
set_option maxHeartbeats 16000000 in
theorem core (a0_0 a0_1 : Int) (a1_0 a1_1 : Int) (a2_0 a2_1 : Int) (w : World) (w0_0 : 0 ≤ a0_0 ∧ a0_0 ≤ 4294967295) (w0_1 : 0 ≤ a0_1 ∧ a0_1 ≤ 4294967295) (w1_0 : 0 ≤ a1_0 ∧ a1_0 ≤ 255) (w1_1 : 0 ≤ a1_1 ∧ a1_1 ≤ 255) (w2_0 : 0 ≤ a2_0 ∧ a2_0 ≤ 65535) (w2_1 : 0 ≤ a2_1 ∧ a2_1 ≤ 65535)
    (g0 : 0 ≤ (a0_0 % 1048576) * (a2_0 % 1024 + 1) ∧ (a0_0 % 1048576) * (a2_0 % 1024 + 1) ≤ 1073741824) (g1 : 0 ≤ (a0_1 % 1048576) * (a2_1 % 1024 + 1) ∧ (a0_1 % 1048576) * (a2_1 % 1024 + 1) ≤ 1073741824) (k0 : decide (stV (a0_0 % 1048576) (a1_0 % 64 + 1) (a2_0 % 1024 + 1) < (a0_0 % 1048576) * (a2_0 % 1024 + 1)) = false) (k1 : decide (stV (a0_1 % 1048576) (a1_1 % 64 + 1) (a2_1 % 1024 + 1) < (a0_1 % 1048576) * (a2_1 % 1024 + 1)) = false) :
    Calls Try.prog 10 #[.agg #[.int .u32 a0_0, .int .u32 a0_1], .agg #[.int .u8 a1_0, .int .u8 a1_1], .agg #[.int .u16 a2_0, .int .u16 a2_1]] w fun e w' => e = .returned (.bool true) ∧ Below w.heap.size w w' := by
  go_enter Try.func10, Try.ntmps10
  go_wp2_with fail
  obtain ⟨W, hW⟩ : ∃ W, W = (((w.alloc (.cells #[.int .u32 a0_0, .int .u32 a0_1] 61)).alloc (.cells #[.int .u8 a1_0, .int .u8 a1_1] 62)).alloc (.cells #[.int .u16 a2_0, .int .u16 a2_1] 64)) := ⟨_, rfl⟩
  have c00 : W.cell? ⟨w.heap.size, 0, none⟩ = some (.int .u32 a0_0) := by rw [hW]; go_simp
  have c01 : W.cell? ⟨w.heap.size, 1, none⟩ = some (.int .u32 a0_1) := by rw [hW]; go_simp
  have c10 : W.cell? ⟨w.heap.size + 1, 0, none⟩ = some (.int .u8 a1_0) := by rw [hW]; go_simp
  have c11 : W.cell? ⟨w.heap.size + 1, 1, none⟩ = some (.int .u8 a1_1) := by rw [hW]; go_simp
  have c20 : W.cell? ⟨w.heap.size + 1 + 1, 0, none⟩ = some (.int .u16 a2_0) := by rw [hW]; go_simp
  have c21 : W.cell? ⟨w.heap.size + 1 + 1, 1, none⟩ = some (.int .u16 a2_1) := by rw [hW]; go_simp
  have hbW : Below w.heap.size w W := by rw [hW]; go_grown
  rw [← hW]
  clear hW
  refine (works35 _).mono ?_
  rintro e w1 ⟨rfl, hb1⟩
  have c00 := keepc c00 hb1
  have c01 := keepc c01 hb1
  have c10 := keepc c10 hb1
  have c11 := keepc c11 hb1
  have c20 := keepc c20 hb1
  have c21 := keepc c21 hb1
  have hbw := hbW.trans (hb1.mono hbW.size)
  clear hb1 hbW
  have x0 := World.block_lt_of_cell? w1 _ c00
  have x1 := World.block_lt_of_cell? w1 _ c10
  have x2 := World.block_lt_of_cell? w1 _ c20
  have y0 : w.heap.size < w1.heap.size := by omega
  have y1 : w.heap.size < w1.heap.size + 1 := by omega
  have y2 : w.heap.size < w1.heap.size + 1 + 1 := by omega
  have y3 : w.heap.size + 1 < w1.heap.size := by omega
  have y4 : w.heap.size + 1 < w1.heap.size + 1 := by omega
  have y5 : w.heap.size + 1 < w1.heap.size + 1 + 1 := by omega
  have y6 : w.heap.size + 1 + 1 < w1.heap.size := by omega
  have y7 : w.heap.size + 1 + 1 < w1.heap.size + 1 := by omega
  have y8 : w.heap.size + 1 + 1 < w1.heap.size + 1 + 1 := by omega
  go_wp2_with fail
  refine wp_loop_rounds 3 ?_
  rw [rounds_succ]
  go_wp2_with fail
  rw [rounds_succ]
  go_wp2_with fail
  rw [rounds_succ]
  go_wp2_with fail
  all_goals
    refine (steps_any _ _ _ _).mono ?_
    rintro e w2 ⟨rfl, rfl⟩
    generalize hL : stV _ _ _ = L
    have l0 : L ≤ stV (a0_0 % 1048576) (a1_0 % 64 + 1) (a2_0 % 1024 + 1) := by rw [← hL]; exact stV_mono _ _ _ _ _ _ (by omega) (by omega) (by omega)
    have l1 : L ≤ stV (a0_1 % 1048576) (a1_1 % 64 + 1) (a2_1 % 1024 + 1) := by rw [← hL]; exact stV_mono _ _ _ _ _ _ (by omega) (by omega) (by omega)
    have d0 : decide (stV (a0_0 % 1048576) (a1_0 % 64 + 1) (a2_0 % 1024 + 1) < L) = false := decide_eq_false (by omega)
    have d1 : decide (stV (a0_1 % 1048576) (a1_1 % 64 + 1) (a2_1 % 1024 + 1) < L) = false := decide_eq_false (by omega)
    have D := Lib.hid (And.intro d0 d1)
    clear hL l0 l1 d0 d1
    go_wp2_with fail
    all_goals
      refine (steps_any _ _ _ _).mono ?_
      rintro e w2 ⟨rfl, rfl⟩
      generalize hM : stV _ _ _ = M
      have l0 : stV (a0_0 % 1048576) (a1_0 % 64 + 1) (a2_0 % 1024 + 1) ≤ M := by rw [← hM]; exact stV_mono _ _ _ _ _ _ (by omega) (by omega) (by omega)
      have l1 : stV (a0_1 % 1048576) (a1_1 % 64 + 1) (a2_1 % 1024 + 1) ≤ M := by rw [← hM]; exact stV_mono _ _ _ _ _ _ (by omega) (by omega) (by omega)
      have d2 : decide (M < stV (a0_0 % 1048576) (a1_0 % 64 + 1) (a2_0 % 1024 + 1)) = false := decide_eq_false (by omega)
      have d3 : decide (M < stV (a0_1 % 1048576) (a1_1 % 64 + 1) (a2_1 % 1024 + 1)) = false := decide_eq_false (by omega)
      have d0 := D.out.1
      have d1 := D.out.2
      clear hM l0 l1 D
      go_wp2_with fail
      refine wp_loop_rounds 3 ?_
      rw [rounds_succ]
      go_wp2_with fail
      go_quiet ((first | (go_at_call 31; exact quiet_eq (steps_any _ _ _ _))))
      go_wp2_with fail
      go_quiet ((first | (go_at_call 31; exact quiet_eq2 (steps_any _ _ _ _))))
      go_wp2_with fail
      rw [rounds_succ]
      go_wp2_with fail
      go_quiet ((first | (go_at_call 31; exact quiet_eq2 (steps_any _ _ _ _))))
      go_wp2_with fail
      go_quiet ((first | (go_at_call 31; exact quiet_eq2 (steps_any _ _ _ _))))
      go_wp2_with fail
      rw [rounds_succ]
      go_wp2_with fail
      go_ret
      exact ⟨rfl, below_drewN (by have hz := hbw.size; go_grown) _⟩
theorem walk (a0_0 a0_1 : Int) (a1_0 a1_1 : Int) (a2_0 a2_1 : Int) (w : World) (w0_0 : (Lit.int .u32 a0_0).wf = true) (w0_1 : (Lit.int .u32 a0_1).wf = true) (w1_0 : (Lit.int .u8 a1_0).wf = true) (w1_1 : (Lit.int .u8 a1_1).wf = true) (w2_0 : (Lit.int .u16 a2_0).wf = true) (w2_1 : (Lit.int .u16 a2_1).wf = true) :
    Calls Try.prog 10 #[.agg #[.int .u32 a0_0, .int .u32 a0_1], .agg #[.int .u8 a1_0, .int .u8 a1_1], .agg #[.int .u16 a2_0, .int .u16 a2_1]] w fun e w' => e = .returned (.bool true) ∧ Below w.heap.size w w' := by
  have b0 := bounds_u32 w0_0
  have b1 := bounds_u32 w0_1
  have b2 := bounds_u8 w1_0
  have b3 := bounds_u8 w1_1
  have b4 := bounds_u16 w2_0
  have b5 := bounds_u16 w2_1
  have e0 := stV_ge (a0_0 % 1048576) (a1_0 % 64 + 1) (a2_0 % 1024 + 1) (by omega) (by omega) (by omega) (by omega) (by omega) (by omega)
  have e1 := stV_ge (a0_1 % 1048576) (a1_1 % 64 + 1) (a2_1 % 1024 + 1) (by omega) (by omega) (by omega) (by omega) (by omega) (by omega)
  exact core a0_0 a0_1 a1_0 a1_1 a2_0 a2_1 w b0 b1 b2 b3 b4 b5 e0.1 e1.1 (decide_eq_false (Int.not_lt.2 e0.2)) (decide_eq_false (Int.not_lt.2 e1.2))
end Go.Proofs.Ytpcpohbbmeonbab.boundMore
