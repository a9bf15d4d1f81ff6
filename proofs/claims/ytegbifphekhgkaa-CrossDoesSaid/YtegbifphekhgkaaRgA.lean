/- The document's words of a loop: where they are, and what a step answers (layers 17, 19). -/
import Derived.Test.YtegbifphekhgkaaCgA
import Derived.Test.YtegbifphekhgkaaCdZ
namespace Go.Proofs.Ytegbifphekhgkaa.cg
open Go.ChangeShapes Go.WideShapes Go.ChangeAt Go.RowKit
attribute [local go_sem ↓] Go.wp_at_zero Go.wp_at_succ
set_option linter.unusedVariables false
set_option linter.unusedSimpArgs false
set_option maxRecDepth 20000 in
set_option maxHeartbeats 4000000 in
theorem rword_at (kd wh iter n q : Int) (w : World) (hk : kd = 0 ∧ wh = 0 ∨ kd = 1 ∧ wh = 0 ∨ kd = 2 ∧ wh = 1 ∨ kd = 3 ∧ wh = 1 ∨ kd = 4 ∧ wh = 1 ∨ kd = 5 ∧ wh = 2 ∨ kd = 6 ∧ wh = 2) (hq : HQ 3 iter q) :
    Calls Try.prog 35 #[.agg #[.int .i64 1, .int .i64 3, .int .i64 3, .int .i64 3], .int .i64 2, .agg #[.int .i64 kd, .int .i64 iter, .int .i64 n]] w fun e w' => e = .returned (.int .i64 (25 + 2 + q * 4 + wh)) ∧ Below w.heap.size w w' := by
  have hq4 : 0 ≤ q ∧ q ≤ 3 := by
    rcases hq.out with ⟨_, h⟩ | ⟨h1, h⟩
    · simp at h; omega
    · rw [← h, Int.tmod_eq_emod_of_nonneg h1]; omega
  have hs : (0 < iter ∧ iter.tmod 4 = q) ∨ (¬ 0 < iter ∧ q = 0) := by
    rcases hq.out with ⟨h1, h⟩ | ⟨h1, h⟩
    · simp at h; omega
    · by_cases e : 0 < iter
      · exact .inl ⟨e, h⟩
      · obtain rfl : iter = 0 := by omega
        simp at h
        exact .inr ⟨e, h.symm⟩
  clear hq
  rcases hs with ⟨h1, h2⟩ | ⟨h1, h2⟩
  · rcases hk with ⟨rfl, rfl⟩ | ⟨rfl, rfl⟩ | ⟨rfl, rfl⟩ | ⟨rfl, rfl⟩ | ⟨rfl, rfl⟩ | ⟨rfl, rfl⟩ | ⟨rfl, rfl⟩ <;>
    · have hd : decide (0 < iter) = true := by simp; exact h1
      first | rw [show (25 + 2 + q * 4 + 0 : Int) = 27 + 4 * q by omega] | rw [show (25 + 2 + q * 4 + 1 : Int) = 27 + 4 * q + 1 by omega] | rw [show (25 + 2 + q * 4 + 2 : Int) = 27 + 4 * q + 2 by omega]
      have ha : IntKind.i64.wrap (4 * q) = 4 * q := by rw [IntKind.wrap_i64]; omega
      have ha2 : IntKind.i64.wrap (27 + 4 * q) = 27 + 4 * q := by rw [IntKind.wrap_i64]; omega
      have ha3 : IntKind.i64.wrap (27 + 4 * q + 1) = 27 + 4 * q + 1 := by rw [IntKind.wrap_i64]; omega
      have ha4 : IntKind.i64.wrap (27 + 4 * q + 2) = 27 + 4 * q + 2 := by rw [IntKind.wrap_i64]; omega
      go_enter Try.func35, Try.ntmps35
      go_wp2_with fail
      go_ret
      exact ⟨rfl, by go_grown⟩
  · subst h2
    rcases hk with ⟨rfl, rfl⟩ | ⟨rfl, rfl⟩ | ⟨rfl, rfl⟩ | ⟨rfl, rfl⟩ | ⟨rfl, rfl⟩ | ⟨rfl, rfl⟩ | ⟨rfl, rfl⟩ <;>
    · have hd : decide (0 < iter) = false := by simp; omega
      go_enter Try.func35, Try.ntmps35
      go_wp2_with fail
      go_ret
      exact ⟨by rfl, by go_grown⟩
/-- what a step of a word answers, and what it is then. -/
def doV (word sr kd it n : Int) : Int × Int :=
  if kd = 0 ∨ kd = 2 ∨ kd = 5 then (word, word)
  else if kd = 1 ∨ kd = 6 then (0, n)
  else if kd = 3 then (0, tOf sr it n)
  else if word = tOf sr it n then (1, 0) else (0, word)
set_option maxRecDepth 20000 in
set_option maxHeartbeats 4000000 in
theorem rdo_of (word sr kd it n a b : Int) (w : World) (hk : kd = 0 ∨ kd = 1 ∨ kd = 2 ∨ kd = 3 ∨ kd = 4 ∨ kd = 5 ∨ kd = 6) (ha : doV word sr kd it n = (a, b)) :
    Calls Try.prog 36 #[.int .i64 word, .int .i64 sr, .agg #[.int .i64 kd, .int .i64 it, .int .i64 n]] w fun e w' => e = .returned (.tuple #[.int .i64 a, .int .i64 b]) ∧ Below w.heap.size w w' := by
  have C : Hid (∀ l i s w, Calls Try.prog 59 #[.int .i64 l, .int .i64 i, .int .i64 s] w fun e w' => e = .returned (.int .i64 (tOf l i s)) ∧ w = w') := Lib.hid (fun l i s w => rof_any l i s w)
  by_cases h4 : kd = 4
  · subst h4
    by_cases he : word = tOf sr it n
    · subst he
      have e2 : a = 1 ∧ b = 0 := by simpa [doV, eq_comm] using ha
      rw [e2.1, e2.2]
      clear e2
      generalize hT : tOf sr it n = T at *
      have HT := Lib.hid hT
      clear hT ha hk
      go_enter Try.func36, Try.ntmps36
      go_wp2_with (first | (go_at_call 59; refine (C.out _ _ _ _).mono ?_; rintro e w' ⟨rfl, rfl⟩; try rw [HT.out]))
      go_ret2
      exact ⟨rfl, by go_grown⟩
    · have e2 : a = 0 ∧ b = word := by simpa [doV, he, eq_comm] using ha
      rw [e2.1, e2.2]
      clear e2
      have hne : (word == tOf sr it n) = false := by simpa using he
      generalize hT : tOf sr it n = T at *
      have HT := Lib.hid hT
      clear hT ha hk he
      go_enter Try.func36, Try.ntmps36
      go_wp2_with (first | (go_at_call 59; refine (C.out _ _ _ _).mono ?_; rintro e w' ⟨rfl, rfl⟩; try rw [HT.out]))
      go_ret2
      exact ⟨rfl, by go_grown⟩
  · have hk2 : kd = 0 ∨ kd = 1 ∨ kd = 2 ∨ kd = 3 ∨ kd = 5 ∨ kd = 6 := by omega
    clear hk h4
    rcases hk2 with rfl | rfl | rfl | rfl | rfl | rfl <;>
    · simp [doV] at ha
      rw [← ha.1, ← ha.2]
      clear ha
      go_enter Try.func36, Try.ntmps36
      go_wp2_with (first | (go_at_call 59; refine (C.out _ _ _ _).mono ?_; rintro e w' ⟨rfl, rfl⟩))
      (try (go_quiet (fail); go_wp2_with fail))
      go_ret2
      exact ⟨rfl, by first | (go_grown; done) | exact below_drewN (by go_grown) _⟩
end Go.Proofs.Ytegbifphekhgkaa.cg
