/- Tokens stand in the order of their nodes, and who waits at a later stage may go on no earlier: the law TokenOrder answers true. No condition. -/
import Derived.Test.YtpcpohbbmeonbaaToA
import Derived.Test.YtpcpohbbmeonbaaToB
import Derived.Test.YtpcpohbbmeonbaaToC
namespace Go.Proofs.Ytpcpohbbmeonbaa.tokenOrder
open Go.ChangeShapes Go.WideShapes Go.ChangeAt Go.RowKit
set_option linter.unusedVariables false
theorem hnext (x0 x1 x2 y0 y1 y2 c : Int) (h0 : 1 ≤ x0 ∧ x0 ≤ 1048575) (h1 : 1 ≤ x1 ∧ x1 ≤ 1048575) (h2 : 1 ≤ x2 ∧ x2 ≤ 1048575) (k0 : 1 ≤ y0 ∧ y0 ≤ 1048575) (k1 : 1 ≤ y1 ∧ y1 ≤ 1048575) (k2 : 1 ≤ y2 ∧ y2 ≤ 1048575) :
    decide (y2 < x2) = true ∨ (decide (y2 < x2) = false ∧ tNextB (tOf y0 y1 y2) c = false) ∨ (decide (y2 < x2) = false ∧ tNextB (tOf y0 y1 y2) c = true ∧ tNextB (tOf x0 x1 x2) c = true) := by
  obtain ⟨_, _, _, p1, q1⟩ := tPart_loop x0 x1 x2 (by omega) (by omega) (by omega) (by omega) (by omega) (by omega)
  obtain ⟨_, _, _, p2, q2⟩ := tPart_loop y0 y1 y2 (by omega) (by omega) (by omega) (by omega) (by omega) (by omega)
  unfold tNextB
  rw [p1, q1, p2, q2]
  by_cases a : y2 < x2
  · exact .inl (decide_eq_true a)
  · by_cases b : y2 < c
    · refine .inr (.inr ⟨decide_eq_false a, ?_, ?_⟩) <;> simp <;> omega
    · refine .inr (.inl ⟨decide_eq_false a, ?_⟩); simp; omega
theorem hmin (x0 x1 x2 : Int) (h2 : 1 ≤ x2 ∧ x2 ≤ 1048575) :
    (x2 < 1048574 ∧ tOf x0 x1 (x2 + 1) = tOf x0 x1 x2 + 1 ∧ (tOf x0 x1 x2 + 1 - tOf x0 x1 x2 == 1) = true) ∨ ((x2 ≤ 1048574 ∧ 1048574 ≤ x2) ∧ tOf x0 x1 (x2 + 1) = tOf x0 x1 x2 + 1 ∧ (tOf x0 x1 x2 + 1 - tOf x0 x1 x2 == 1048575 - x2) = true) ∨ (1048575 ≤ x2 ∧ tOf x0 x1 (x2 + 1) = tOf x0 x1 x2 ∧ ((0 : Int) == 1048575 - x2) = true) := by
  by_cases h : x2 < 1048575
  · have e : tOf x0 x1 (x2 + 1) = tOf x0 x1 x2 + 1 := by
      unfold tOf
      rw [tHeld_in (x2 + 1) (by omega) (by omega), tHeld_in x2 (by omega) (by omega)]
      omega
    by_cases h' : x2 < 1048574
    · exact .inl ⟨h', e, by rw [beq_iff_eq]; omega⟩
    · exact .inr (.inl ⟨⟨by omega, by omega⟩, e, by rw [beq_iff_eq]; omega⟩)
  · refine .inr (.inr ⟨by omega, ?_, by rw [beq_iff_eq]; omega⟩)
    have e : tHeld (x2 + 1) = 1048575 := by unfold tHeld; rw [if_neg (by omega), if_pos (by omega)]
    unfold tOf
    rw [e, tHeld_in x2 (by omega) (by omega)]
    omega
theorem less_of (x0 x1 x2 y0 y1 y2 : Int) (b : Prop) [Decidable b] (h0 : 1 ≤ x0 ∧ x0 ≤ 1048575) (h1 : 1 ≤ x1 ∧ x1 ≤ 1048575) (h2 : 1 ≤ x2 ∧ x2 ≤ 1048575) (k0 : 1 ≤ y0 ∧ y0 ≤ 1048575) (k1 : 1 ≤ y1 ∧ y1 ≤ 1048575) (k2 : 1 ≤ y2 ∧ y2 ≤ 1048575)
    (h : (x0 * 1048576 + x1) * 1048576 + x2 < (y0 * 1048576 + y1) * 1048576 + y2 ↔ b) : decide (tOf x0 x1 x2 < tOf y0 y1 y2) = decide b := by
  rw [(tPart_loop x0 x1 x2 (by omega) (by omega) (by omega) (by omega) (by omega) (by omega)).1, (tPart_loop y0 y1 y2 (by omega) (by omega) (by omega) (by omega) (by omega) (by omega)).1]
  exact decide_eq_decide.2 h
theorem bnd (x0 x1 x2 : Int) (h0 : 1 ≤ x0 ∧ x0 ≤ 1048575) (h1 : 1 ≤ x1 ∧ x1 ≤ 1048575) (h2 : 1 ≤ x2 ∧ x2 ≤ 1048575) : 0 ≤ tOf x0 x1 x2 ∧ tOf x0 x1 x2 ≤ 1152921504606846975 := by
  rw [(tPart_loop x0 x1 x2 (by omega) (by omega) (by omega) (by omega) (by omega) (by omega)).1]
  omega
theorem walk (a0_0 a0_1 a0_2 : Int) (a1_0 a1_1 a1_2 : Int) (a2 : Int) (w : World) (w0_0 : (Lit.int .u32 a0_0).wf = true) (w0_1 : (Lit.int .u32 a0_1).wf = true) (w0_2 : (Lit.int .u32 a0_2).wf = true) (w1_0 : (Lit.int .u32 a1_0).wf = true) (w1_1 : (Lit.int .u32 a1_1).wf = true) (w1_2 : (Lit.int .u32 a1_2).wf = true) (w2 : (Lit.int .i64 a2).wf = true) :
    Calls Try.prog 14 #[.agg #[.int .u32 a0_0, .int .u32 a0_1, .int .u32 a0_2], .agg #[.int .u32 a1_0, .int .u32 a1_1, .int .u32 a1_2], .int .i64 a2] w fun e w' => e = .returned (.bool true) ∧ Below w.heap.size w w' := by
  have b0 := bounds_u32 w0_0
  have b1 := bounds_u32 w0_1
  have b2 := bounds_u32 w0_2
  have c0 := bounds_u32 w1_0
  have c1 := bounds_u32 w1_1
  have c2 := bounds_u32 w1_2
  obtain ⟨x0, hx0⟩ : ∃ x, a0_0 % 1048575 + 1 = x := ⟨_, rfl⟩
  obtain ⟨x1, hx1⟩ : ∃ x, a0_1 % 1048575 + 1 = x := ⟨_, rfl⟩
  obtain ⟨x2, hx2⟩ : ∃ x, a0_2 % 1048575 + 1 = x := ⟨_, rfl⟩
  obtain ⟨y0, hy0⟩ : ∃ x, a1_0 % 1048575 + 1 = x := ⟨_, rfl⟩
  obtain ⟨y1, hy1⟩ : ∃ x, a1_1 % 1048575 + 1 = x := ⟨_, rfl⟩
  obtain ⟨y2, hy2⟩ : ∃ x, a1_2 % 1048575 + 1 = x := ⟨_, rfl⟩
  have p0 : 1 ≤ x0 ∧ x0 ≤ 1048575 := by omega
  have p1 : 1 ≤ x1 ∧ x1 ≤ 1048575 := by omega
  have p2 : 1 ≤ x2 ∧ x2 ≤ 1048575 := by omega
  have q0 : 1 ≤ y0 ∧ y0 ≤ 1048575 := by omega
  have q1 : 1 ≤ y1 ∧ y1 ≤ 1048575 := by omega
  have q2 : 1 ≤ y2 ∧ y2 ≤ 1048575 := by omega
  have H := hnext x0 x1 x2 y0 y1 y2 a2 p0 p1 p2 q0 q1 q2
  have M := hmin x0 x1 x2 p2
  have B := bnd x0 x1 x2 p0 p1 p2
  have L := fun (b : Prop) (_ : Decidable b) => less_of x0 x1 x2 y0 y1 y2 b p0 p1 p2 q0 q1 q2
  rcases Int.lt_trichotomy x0 y0 with h | h | h
  · exact cA a0_0 a0_1 a0_2 a1_0 a1_1 a1_2 a2 w b0 b1 b2 c0 c1 c2 x0 x1 x2 y0 y1 y2 hx0 hx1 hx2 hy0 hy1 hy2 (decide_eq_true h) (L True inferInstance ⟨fun _ => trivial, fun _ => by omega⟩) H B p2 M
  · subst h
    rcases Int.lt_trichotomy x1 y1 with h | h | h
    · exact cB a0_0 a0_1 a0_2 a1_0 a1_1 a1_2 a2 w b0 b1 b2 c0 c1 c2 x0 x1 x2 y1 y2 hx0 hx1 hx2 hy0 hy1 hy2 (decide_eq_true h) (L True inferInstance ⟨fun _ => trivial, fun _ => by omega⟩) H B p2 M
    · subst h
      exact cC a0_0 a0_1 a0_2 a1_0 a1_1 a1_2 a2 w b0 b1 b2 c0 c1 c2 x0 x1 x2 y2 hx0 hx1 hx2 hy0 hy1 hy2 (L (x2 < y2) inferInstance (by omega)) H B p2 M
    · exact cD a0_0 a0_1 a0_2 a1_0 a1_1 a1_2 a2 w b0 b1 b2 c0 c1 c2 x0 x1 x2 y1 y2 hx0 hx1 hx2 hy0 hy1 hy2 (decide_eq_false (by omega)) (by simp; omega) (L False inferInstance ⟨fun h => by omega, False.elim⟩) H B p2 M
  · exact cE a0_0 a0_1 a0_2 a1_0 a1_1 a1_2 a2 w b0 b1 b2 c0 c1 c2 x0 x1 x2 y0 y1 y2 hx0 hx1 hx2 hy0 hy1 hy2 (decide_eq_false (by omega)) (by simp; omega) (L False inferInstance ⟨fun h => by omega, False.elim⟩) H B p2 M
end Go.Proofs.Ytpcpohbbmeonbaa.tokenOrder
