/- works of layer 8. -/
import Derived.Test.YtpcpohbbmeonbaaPair08
import Derived.Test.YtpcpohbbmeonbaaEq8
import Derived.Deep.Cut
namespace Go.Proofs.Ytpcpohbbmeonbaa.step
open Go.ChangeShapes Go.WideShapes Go.ChangeAt Go.RowKit
open Go.Proofs.Ytpcpohbbmeonbaa.ref01
set_option linter.unusedVariables false
set_option linter.unusedSimpArgs false
theorem do_w1 (w : World) : Calls Try.prog 29 #[.agg #[.int .i64 1, .int .i64 2, .int .i64 5, .int .i64 0], .int .i64 7, .agg #[.int .i64 0, .int .i64 0, .int .i64 0, .int .i64 0, .int .i64 0, .int .i64 0, .int .i64 0, .int .i64 0]] w fun e w' => e = .returned (.tuple #[.int .i64 8, .agg #[.int .i64 0, .int .i64 0, .int .i64 5, .int .i64 0, .int .i64 0, .int .i64 0, .int .i64 0, .int .i64 0], .agg #[.int .i64 0, .int .i64 0, .int .i64 0, .int .i64 0, .int .i64 0], .int .i64 0]) ∧ Below w.heap.size w w' :=
  sdo_set 0 0 0 0 0 2 5 0 7 (fun _ => 0) 2 5 0 w (Lib.hid (by decide)) (Lib.hid (by decide)) (Lib.hid (by decide)) (by decide) (by decide) (by decide) (by decide) (by decide) (Lib.hid (by decide)) (Lib.hid (by simp [effF]))
theorem do_w2 (w : World) : Calls Try.prog 29 #[.agg #[.int .i64 23, .int .i64 2, .int .i64 0, .int .i64 0], .int .i64 0, .agg #[.int .i64 0, .int .i64 0, .int .i64 5, .int .i64 0, .int .i64 0, .int .i64 0, .int .i64 0, .int .i64 0]] w fun e w' => e = .returned (.tuple #[.int .i64 1, .agg #[.int .i64 0, .int .i64 0, .int .i64 5, .int .i64 0, .int .i64 0, .int .i64 0, .int .i64 0, .int .i64 0], .agg #[.int .i64 9, .int .i64 0, .int .i64 5, .int .i64 0, .int .i64 0], .int .i64 0]) ∧ Below w.heap.size w w' :=
  sdo_other 23 9 0 5 0 0 2 0 0 0 (fun i => if i = 2 then 5 else 0) 2 0 0 w (Lib.hid (by decide)) (Lib.hid (by decide)) (Lib.hid (by decide)) (by decide) (by decide) (by decide) (by decide) (by decide) (by decide) (by decide) (by decide) (by decide) (Lib.hid (by decide)) (Lib.hid (by simp [effF]))
set_option maxHeartbeats 4000000 in
theorem works_v (w : World) : Calls Try.prog 28 #[] w fun e w' => e = .returned (.bool true) ∧ Below w.heap.size w w' := by
  go_enter Try.func28, Try.ntmps28
  go_wp2_with fail
  refine (do_w1 w).mono ?_
  rintro e w1 ⟨rfl, hb1⟩
  go_wp2_with fail
  refine (do_w2 _).mono ?_
  rintro e w2 ⟨rfl, hb2⟩
  have hb : Below w.heap.size w w2 := Below.trans (by have := hb1.size; go_grown) (hb2.mono (by have := hb1.size; simp; omega))
  have q0 : w2.cell? ⟨w1.heap.size, 0, none⟩ = some (.int .i64 0) := keepc (by go_simp) hb2
  have q1 : w2.cell? ⟨w1.heap.size, 1, none⟩ = some (.int .i64 0) := keepc (by go_simp) hb2
  have q2 : w2.cell? ⟨w1.heap.size, 2, none⟩ = some (.int .i64 5) := keepc (by go_simp) hb2
  have q3 : w2.cell? ⟨w1.heap.size, 3, none⟩ = some (.int .i64 0) := keepc (by go_simp) hb2
  have q4 : w2.cell? ⟨w1.heap.size, 4, none⟩ = some (.int .i64 0) := keepc (by go_simp) hb2
  have q5 : w2.cell? ⟨w1.heap.size, 5, none⟩ = some (.int .i64 0) := keepc (by go_simp) hb2
  have q6 : w2.cell? ⟨w1.heap.size, 6, none⟩ = some (.int .i64 0) := keepc (by go_simp) hb2
  have q7 : w2.cell? ⟨w1.heap.size, 7, none⟩ = some (.int .i64 0) := keepc (by go_simp) hb2
  have y0 : w2.cell? ⟨w1.heap.size + 1, 0, none⟩ = some (.int .i64 0) := keepc (by go_simp) hb2
  have y1 : w2.cell? ⟨w1.heap.size + 1, 1, none⟩ = some (.int .i64 0) := keepc (by go_simp) hb2
  have y2 : w2.cell? ⟨w1.heap.size + 1, 2, none⟩ = some (.int .i64 0) := keepc (by go_simp) hb2
  have y3 : w2.cell? ⟨w1.heap.size + 1, 3, none⟩ = some (.int .i64 0) := keepc (by go_simp) hb2
  have y4 : w2.cell? ⟨w1.heap.size + 1, 4, none⟩ = some (.int .i64 0) := keepc (by go_simp) hb2
  have heq := eq_same
  have hef := eff_same
  have hlt : w1.heap.size + 1 < w2.heap.size := by have := hb2.size; simp at this; omega
  clear hb1 hb2
  go_upto_region 3 with fail
  obtain ⟨W3, hW3⟩ : ∃ W3, W3 = (w2.alloc (.cells #[.int .i64 0, .int .i64 0, .int .i64 5, .int .i64 0, .int .i64 0, .int .i64 0, .int .i64 0, .int .i64 0] 40)).alloc (.cells #[.int .i64 9, .int .i64 0, .int .i64 5, .int .i64 0, .int .i64 0] 42) := ⟨_, rfl⟩
  have hb3 : Below w2.heap.size w2 W3 := by rw [hW3]; go_grown
  have q0 := keepc q0 hb3
  have q1 := keepc q1 hb3
  have q2 := keepc q2 hb3
  have q3 := keepc q3 hb3
  have q4 := keepc q4 hb3
  have q5 := keepc q5 hb3
  have q6 := keepc q6 hb3
  have q7 := keepc q7 hb3
  have y0 := keepc y0 hb3
  have y1 := keepc y1 hb3
  have y2 := keepc y2 hb3
  have y3 := keepc y3 hb3
  have y4 := keepc y4 hb3
  have hbf : Below w.heap.size w W3 := hb.trans (hb3.mono hb.size)
  have z0 : W3.cell? ⟨w2.heap.size + 1, 0, none⟩ = some (.int .i64 9) := by rw [hW3]; go_simp
  have z1 : W3.cell? ⟨w2.heap.size + 1, 1, none⟩ = some (.int .i64 0) := by rw [hW3]; go_simp
  have z2 : W3.cell? ⟨w2.heap.size + 1, 2, none⟩ = some (.int .i64 5) := by rw [hW3]; go_simp
  have z3 : W3.cell? ⟨w2.heap.size + 1, 3, none⟩ = some (.int .i64 0) := by rw [hW3]; go_simp
  have z4 : W3.cell? ⟨w2.heap.size + 1, 4, none⟩ = some (.int .i64 0) := by rw [hW3]; go_simp
  rw [← hW3]
  clear hW3 hb3 hb hlt
  go_wp2_with fail
  go_ret
  exact ⟨rfl, hbf⟩
end Go.Proofs.Ytpcpohbbmeonbaa.step
