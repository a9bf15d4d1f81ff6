/- Registers behind any effect, and which effects ask memory, and which need that all has returned: the law StepTook answers true. No condition. -/
import Derived.Test.YtpcpohbbmeonbaaTkA
namespace Go.Proofs.Ytpcpohbbmeonbaa.stepTook
open Go.ChangeShapes Go.WideShapes Go.ChangeAt Go.RowKit
open Go.Proofs.Ytpcpohbbmeonbaa.step
attribute [local go_sem ↓] Go.wp_at_zero Go.wp_at_succ
set_option linter.unusedVariables false
set_option linter.unusedSimpArgs false
set_option maxHeartbeats 80000000 in
set_option maxRecDepth 20000 in
theorem c3 (a0_0 a0_1 a0_2 a0_3 a0_4 a0_5 a0_6 a0_7 a1 a2_0 a2_1 a2_2 a2_3 a3 : Int) (w : World) (k1 : decide (1 ≤ a1) = true) (k2 : decide (a1 ≤ 4) = false) (k3 : decide (7 ≤ a1) = false) (k4 : decide (a1 ≤ 12) = true) :
    Calls Try.prog 8 #[.agg #[.int .i64 a0_0, .int .i64 a0_1, .int .i64 a0_2, .int .i64 a0_3, .int .i64 a0_4, .int .i64 a0_5, .int .i64 a0_6, .int .i64 a0_7], .int .i64 a1, .agg #[.int .i64 a2_0, .int .i64 a2_1, .int .i64 a2_2, .int .i64 a2_3], .int .i64 a3] w fun e w' => e = .returned (.bool true) ∧ Below w.heap.size w w' := by
  obtain ⟨s0, s1, s2, s3, s4, s5, s6, s7, hs⟩ := eight (tookF_len [a0_0, a0_1, a0_2, a0_3, a0_4, a0_5, a0_6, a0_7] a1 a2_1 a3 (rg a2_3))
  replace hs := Lib.hid hs
  have hA : Hid ((decide (1 ≤ a1) && decide (a1 ≤ 4)) = false) := Lib.hid (by rw [k1, k2]; rfl)
  have hB : Hid ((decide (7 ≤ a1) && decide (a1 ≤ 12)) = false) := Lib.hid (by rw [k3, k4]; rfl)
  go_enter Try.func8, Try.ntmps8
  go_wp2_with fail
  refine (works_v _).mono ?_
  rintro e w1 ⟨rfl, hb1⟩
  have c0 : w1.cell? ⟨w.heap.size, 0, none⟩ = some (.int .i64 a0_0) := keepc (by go_simp) hb1
  have c1 : w1.cell? ⟨w.heap.size, 1, none⟩ = some (.int .i64 a0_1) := keepc (by go_simp) hb1
  have c2 : w1.cell? ⟨w.heap.size, 2, none⟩ = some (.int .i64 a0_2) := keepc (by go_simp) hb1
  have c3 : w1.cell? ⟨w.heap.size, 3, none⟩ = some (.int .i64 a0_3) := keepc (by go_simp) hb1
  have c4 : w1.cell? ⟨w.heap.size, 4, none⟩ = some (.int .i64 a0_4) := keepc (by go_simp) hb1
  have c5 : w1.cell? ⟨w.heap.size, 5, none⟩ = some (.int .i64 a0_5) := keepc (by go_simp) hb1
  have c6 : w1.cell? ⟨w.heap.size, 6, none⟩ = some (.int .i64 a0_6) := keepc (by go_simp) hb1
  have c7 : w1.cell? ⟨w.heap.size, 7, none⟩ = some (.int .i64 a0_7) := keepc (by go_simp) hb1
  have d0 : w1.cell? ⟨(w.heap.size + 1), 0, none⟩ = some (.int .i64 a2_0) := keepc (by go_simp) hb1
  have d1 : w1.cell? ⟨(w.heap.size + 1), 1, none⟩ = some (.int .i64 a2_1) := keepc (by go_simp) hb1
  have d2 : w1.cell? ⟨(w.heap.size + 1), 2, none⟩ = some (.int .i64 a2_2) := keepc (by go_simp) hb1
  have d3 : w1.cell? ⟨(w.heap.size + 1), 3, none⟩ = some (.int .i64 a2_3) := keepc (by go_simp) hb1
  have hw1 : Below w.heap.size w w1 := Below.trans (by go_grown) (hb1.mono (by simp; omega))
  clear hb1
  go_upto_region 4 with fail
  obtain ⟨W2, hW2⟩ : ∃ W2, W2 = w1.alloc (.cells #[.int .i64 a1, .int .i64 a2_0, .int .i64 a2_1, .int .i64 a2_2, .int .i64 a2_3] 42) := ⟨_, rfl⟩
  have hbx : Below w1.heap.size w1 W2 := by rw [hW2]; go_grown
  have hw2 : Below w.heap.size w W2 := hw1.trans (hbx.mono hw1.size)
  have c0 := keepc c0 hbx
  have c1 := keepc c1 hbx
  have c2 := keepc c2 hbx
  have c3 := keepc c3 hbx
  have c4 := keepc c4 hbx
  have c5 := keepc c5 hbx
  have c6 := keepc c6 hbx
  have c7 := keepc c7 hbx
  have d0 := keepc d0 hbx
  have d1 := keepc d1 hbx
  have d2 := keepc d2 hbx
  have d3 := keepc d3 hbx
  have y0 : W2.cell? ⟨w1.heap.size, 0, none⟩ = some (.int .i64 a1) := by rw [hW2]; go_simp
  have y1 : W2.cell? ⟨w1.heap.size, 1, none⟩ = some (.int .i64 a2_0) := by rw [hW2]; go_simp
  have y2 : W2.cell? ⟨w1.heap.size, 2, none⟩ = some (.int .i64 a2_1) := by rw [hW2]; go_simp
  have y3 : W2.cell? ⟨w1.heap.size, 3, none⟩ = some (.int .i64 a2_2) := by rw [hW2]; go_simp
  have y4 : W2.cell? ⟨w1.heap.size, 4, none⟩ = some (.int .i64 a2_3) := by rw [hW2]; go_simp
  rw [← hW2]
  generalize w1.heap.size = b9 at *
  clear hW2 hbx hw1
  go_wp2_with fail
  refine (rtook_v a0_0 a0_1 a0_2 a0_3 a0_4 a0_5 a0_6 a0_7 a1 a2_0 a2_1 a2_2 a2_3 a3 s0 s1 s2 s3 s4 s5 s6 s7 _ hs).mono ?_
  rintro e w3 ⟨rfl, hb3⟩
  have c0 := keepc c0 hb3
  have c1 := keepc c1 hb3
  have c2 := keepc c2 hb3
  have c3 := keepc c3 hb3
  have c4 := keepc c4 hb3
  have c5 := keepc c5 hb3
  have c6 := keepc c6 hb3
  have c7 := keepc c7 hb3
  have y0 := keepc y0 hb3
  have y1 := keepc y1 hb3
  have y2 := keepc y2 hb3
  have y3 := keepc y3 hb3
  have y4 := keepc y4 hb3
  have hw3 : Below w.heap.size w w3 := hw2.trans (hb3.mono hw2.size)
  clear hb3 hw2 d0 d1 d2 d3
  go_upto_region 5 with fail
  obtain ⟨W4, hW4⟩ : ∃ W4, W4 = w3.alloc (.cells #[.int .i64 s0, .int .i64 s1, .int .i64 s2, .int .i64 s3, .int .i64 s4, .int .i64 s5, .int .i64 s6, .int .i64 s7] 40) := ⟨_, rfl⟩
  have hbx : Below w3.heap.size w3 W4 := by rw [hW4]; go_grown
  have hw4 : Below w.heap.size w W4 := hw3.trans (hbx.mono hw3.size)
  have c0 := keepc c0 hbx
  have c1 := keepc c1 hbx
  have c2 := keepc c2 hbx
  have c3 := keepc c3 hbx
  have c4 := keepc c4 hbx
  have c5 := keepc c5 hbx
  have c6 := keepc c6 hbx
  have c7 := keepc c7 hbx
  have y0 := keepc y0 hbx
  have y1 := keepc y1 hbx
  have y2 := keepc y2 hbx
  have y3 := keepc y3 hbx
  have y4 := keepc y4 hbx
  have u0 : W4.cell? ⟨w3.heap.size, 0, none⟩ = some (.int .i64 s0) := by rw [hW4]; go_simp
  have u1 : W4.cell? ⟨w3.heap.size, 1, none⟩ = some (.int .i64 s1) := by rw [hW4]; go_simp
  have u2 : W4.cell? ⟨w3.heap.size, 2, none⟩ = some (.int .i64 s2) := by rw [hW4]; go_simp
  have u3 : W4.cell? ⟨w3.heap.size, 3, none⟩ = some (.int .i64 s3) := by rw [hW4]; go_simp
  have u4 : W4.cell? ⟨w3.heap.size, 4, none⟩ = some (.int .i64 s4) := by rw [hW4]; go_simp
  have u5 : W4.cell? ⟨w3.heap.size, 5, none⟩ = some (.int .i64 s5) := by rw [hW4]; go_simp
  have u6 : W4.cell? ⟨w3.heap.size, 6, none⟩ = some (.int .i64 s6) := by rw [hW4]; go_simp
  have u7 : W4.cell? ⟨w3.heap.size, 7, none⟩ = some (.int .i64 s7) := by rw [hW4]; go_simp
  rw [← hW4]
  generalize w3.heap.size = b10 at *
  clear hW4 hbx hw3
  have hS : Below w.heap.size w W4 ∧ W4.cell? ⟨w.heap.size, 0, none⟩ = some (.int .i64 a0_0) ∧ W4.cell? ⟨w.heap.size, 1, none⟩ = some (.int .i64 a0_1) ∧ W4.cell? ⟨w.heap.size, 2, none⟩ = some (.int .i64 a0_2) ∧ W4.cell? ⟨w.heap.size, 3, none⟩ = some (.int .i64 a0_3) ∧ W4.cell? ⟨w.heap.size, 4, none⟩ = some (.int .i64 a0_4) ∧ W4.cell? ⟨w.heap.size, 5, none⟩ = some (.int .i64 a0_5) ∧ W4.cell? ⟨w.heap.size, 6, none⟩ = some (.int .i64 a0_6) ∧ W4.cell? ⟨w.heap.size, 7, none⟩ = some (.int .i64 a0_7) ∧ W4.cell? ⟨b9, 0, none⟩ = some (.int .i64 a1) ∧ W4.cell? ⟨b9, 1, none⟩ = some (.int .i64 a2_0) ∧ W4.cell? ⟨b9, 2, none⟩ = some (.int .i64 a2_1) ∧ W4.cell? ⟨b9, 3, none⟩ = some (.int .i64 a2_2) ∧ W4.cell? ⟨b9, 4, none⟩ = some (.int .i64 a2_3) ∧ W4.cell? ⟨b10, 0, none⟩ = some (.int .i64 s0) ∧ W4.cell? ⟨b10, 1, none⟩ = some (.int .i64 s1) ∧ W4.cell? ⟨b10, 2, none⟩ = some (.int .i64 s2) ∧ W4.cell? ⟨b10, 3, none⟩ = some (.int .i64 s3) ∧ W4.cell? ⟨b10, 4, none⟩ = some (.int .i64 s4) ∧ W4.cell? ⟨b10, 5, none⟩ = some (.int .i64 s5) ∧ W4.cell? ⟨b10, 6, none⟩ = some (.int .i64 s6) ∧ W4.cell? ⟨b10, 7, none⟩ = some (.int .i64 s7) := ⟨hw4, c0, c1, c2, c3, c4, c5, c6, c7, y0, y1, y2, y3, y4, u0, u1, u2, u3, u4, u5, u6, u7⟩
  have hSd := keepQ hS (W' := W4.drew) (Below.drew (Below.refl _ _))
  have heq := eq_same
  clear hS c0 c1 c2 c3 c4 c5 c6 c7 y0 y1 y2 y3 y4 u0 u1 u2 u3 u4 u5 u6 u7 hw4
  refine wp_region_held_drew (S := (fun w' => Below w.heap.size w w' ∧ w'.cell? ⟨w.heap.size, 0, none⟩ = some (.int .i64 a0_0) ∧ w'.cell? ⟨w.heap.size, 1, none⟩ = some (.int .i64 a0_1) ∧ w'.cell? ⟨w.heap.size, 2, none⟩ = some (.int .i64 a0_2) ∧ w'.cell? ⟨w.heap.size, 3, none⟩ = some (.int .i64 a0_3) ∧ w'.cell? ⟨w.heap.size, 4, none⟩ = some (.int .i64 a0_4) ∧ w'.cell? ⟨w.heap.size, 5, none⟩ = some (.int .i64 a0_5) ∧ w'.cell? ⟨w.heap.size, 6, none⟩ = some (.int .i64 a0_6) ∧ w'.cell? ⟨w.heap.size, 7, none⟩ = some (.int .i64 a0_7) ∧ w'.cell? ⟨b9, 0, none⟩ = some (.int .i64 a1) ∧ w'.cell? ⟨b9, 1, none⟩ = some (.int .i64 a2_0) ∧ w'.cell? ⟨b9, 2, none⟩ = some (.int .i64 a2_1) ∧ w'.cell? ⟨b9, 3, none⟩ = some (.int .i64 a2_2) ∧ w'.cell? ⟨b9, 4, none⟩ = some (.int .i64 a2_3) ∧ w'.cell? ⟨b10, 0, none⟩ = some (.int .i64 s0) ∧ w'.cell? ⟨b10, 1, none⟩ = some (.int .i64 s1) ∧ w'.cell? ⟨b10, 2, none⟩ = some (.int .i64 s2) ∧ w'.cell? ⟨b10, 3, none⟩ = some (.int .i64 s3) ∧ w'.cell? ⟨b10, 4, none⟩ = some (.int .i64 s4) ∧ w'.cell? ⟨b10, 5, none⟩ = some (.int .i64 s5) ∧ w'.cell? ⟨b10, 6, none⟩ = some (.int .i64 s6) ∧ w'.cell? ⟨b10, 7, none⟩ = some (.int .i64 s7))) (by kernel_rfl) hSd (fun hHeld => ?_)
  refine wpAnyH_take (i := 0) (v := ?_) rfl (by kernel_rfl) (by kernel_rfl) (by kernel_rfl) (fun _ _ _ h => h) (Or.inl ⟨by rfl, ?_⟩) (by with_reducible assumption) ?_
  rotate_left
  · (intro w' hSw; (try dsimp only at hSw); go_simp <;> (with_reducible rfl))
  try simp only [Act.put, List.setIfInBounds_toArray, List.set_cons_zero, List.set_cons_succ, List.getElem_toArray, List.getElem_cons_zero, List.getElem_cons_succ]
  refine wpAnyH_take (i := 1) (v := ?_) rfl (by kernel_rfl) (by kernel_rfl) (by kernel_rfl) (fun _ _ _ h => h) (Or.inl ⟨by rfl, ?_⟩) (by with_reducible assumption) ?_
  rotate_left
  · (intro w' hSw; (try dsimp only at hSw); go_simp <;> (with_reducible rfl))
  try simp only [Act.put, List.setIfInBounds_toArray, List.set_cons_zero, List.set_cons_succ, List.getElem_toArray, List.getElem_cons_zero, List.getElem_cons_succ]
  refine wpAnyH_take (i := 2) (v := ?_) rfl (by kernel_rfl) (by kernel_rfl) (by kernel_rfl) (fun _ _ _ h => h) (Or.inl ⟨by rfl, ?_⟩) (by with_reducible assumption) ?_
  rotate_left
  · (intro w' hSw; (try dsimp only at hSw); go_simp <;> (with_reducible rfl))
  try simp only [Act.put, List.setIfInBounds_toArray, List.set_cons_zero, List.set_cons_succ, List.getElem_toArray, List.getElem_cons_zero, List.getElem_cons_succ]
  refine wpAnyH_take (i := 4) (v := ?_) rfl (by kernel_rfl) (by kernel_rfl) (by kernel_rfl) (fun _ _ _ h => h) (Or.inl ⟨by rfl, ?_⟩) (by with_reducible assumption) ?_
  rotate_left
  · (intro w' hSw; (try dsimp only at hSw); go_simp <;> (with_reducible rfl))
  try simp only [Act.put, List.setIfInBounds_toArray, List.set_cons_zero, List.set_cons_succ, List.getElem_toArray, List.getElem_cons_zero, List.getElem_cons_succ]
  refine wpAnyH_ready (rs := [3]) (by kernel_rfl) (by simp) ?_
  refine AllReadyH.cons rfl (fun K hK => ?_) AllReadyH.nil
  go_simp
  go_at_call 32
  refine (took_v a0_0 a0_1 a0_2 a0_3 a0_4 a0_5 a0_6 a0_7 a1 a2_0 a2_1 a2_2 a2_3 a3 s0 s1 s2 s3 s4 s5 s6 s7 _ hs).mono ?_
  rintro e x1 ⟨rfl, hb1⟩
  have hS1 := keepQ (by with_reducible assumption) hb1
  try (go_wp2_with fail)
  refine hK.out _ _ hS1 (fun hHeld1 => ?_)
  clear hK K hS1 hb1
  try simp only [Act.put, List.setIfInBounds_toArray, List.set_cons_zero, List.set_cons_succ, List.getElem_toArray, List.getElem_cons_zero, List.getElem_cons_succ]
  refine wpAnyH_take (i := 5) (v := ?_) rfl (by kernel_rfl) (by kernel_rfl) (by kernel_rfl) (fun _ _ _ h => h) (Or.inl ⟨by rfl, ?_⟩) (by with_reducible assumption) ?_
  rotate_left
  · (intro w' hSw; (try dsimp only at hSw); go_simp <;> (with_reducible rfl))
  try simp only [Act.put, List.setIfInBounds_toArray, List.set_cons_zero, List.set_cons_succ, List.getElem_toArray, List.getElem_cons_zero, List.getElem_cons_succ]
  refine wpAnyH_take (i := 6) (v := ?_) rfl (by kernel_rfl) (by kernel_rfl) (by kernel_rfl) (fun _ _ _ h => h) (Or.inl ⟨by rfl, ?_⟩) (by with_reducible assumption) ?_
  rotate_left
  · (intro w' hSw; (try dsimp only at hSw); go_simp <;> (with_reducible rfl))
  try simp only [Act.put, List.setIfInBounds_toArray, List.set_cons_zero, List.set_cons_succ, List.getElem_toArray, List.getElem_cons_zero, List.getElem_cons_succ]
  refine wpAnyH_take (i := 7) (v := ?_) rfl (by kernel_rfl) (by kernel_rfl) (by kernel_rfl) (fun _ _ _ h => h) (Or.inl ⟨by rfl, ?_⟩) (by with_reducible assumption) ?_
  rotate_left
  · (intro w' hSw; (try dsimp only at hSw); go_simp <;> (with_reducible rfl))
  try simp only [Act.put, List.setIfInBounds_toArray, List.set_cons_zero, List.set_cons_succ, List.getElem_toArray, List.getElem_cons_zero, List.getElem_cons_succ]
  refine wpAnyH_take (i := 9) (v := ?_) rfl (by kernel_rfl) (by kernel_rfl) (by kernel_rfl) (fun _ _ _ h => h) (Or.inl ⟨by rfl, ?_⟩) (by with_reducible assumption) ?_
  rotate_left
  · (intro w' hSw; (try dsimp only at hSw); go_simp <;> (with_reducible rfl))
  try simp only [Act.put, List.setIfInBounds_toArray, List.set_cons_zero, List.set_cons_succ, List.getElem_toArray, List.getElem_cons_zero, List.getElem_cons_succ]
  refine wpAnyH_take (i := 10) (v := ?_) rfl (by kernel_rfl) (by kernel_rfl) (by kernel_rfl) (fun _ _ _ h => h) (Or.inl ⟨by rfl, ?_⟩) (by with_reducible assumption) ?_
  rotate_left
  · (intro w' hSw; (try dsimp only at hSw); go_simp <;> (with_reducible rfl))
  try simp only [Act.put, List.setIfInBounds_toArray, List.set_cons_zero, List.set_cons_succ, List.getElem_toArray, List.getElem_cons_zero, List.getElem_cons_succ]
  refine wpAnyH_ready (rs := [8]) (by kernel_rfl) (by simp) ?_
  refine AllReadyH.cons rfl (fun K hK => ?_) AllReadyH.nil
  go_simp
  go_at_call 33
  refine (asks_b a1 _ _ _ _ false _ hA).mono ?_
  rintro e x2 ⟨rfl, hb2⟩
  have hS2 := keepQ (by with_reducible assumption) hb2
  try (go_wp2_with fail)
  refine hK.out _ _ hS2 (fun hHeld2 => ?_)
  clear hK K hS2 hb2
  try simp only [Act.put, List.setIfInBounds_toArray, List.set_cons_zero, List.set_cons_succ, List.getElem_toArray, List.getElem_cons_zero, List.getElem_cons_succ]
  refine wpAnyH_take (i := 11) (v := ?_) rfl (by kernel_rfl) (by kernel_rfl) (by kernel_rfl) (fun _ _ _ h => h) (Or.inl ⟨by rfl, ?_⟩) (by with_reducible assumption) ?_
  rotate_left
  · (intro w' hSw; (try dsimp only at hSw); go_simp <;> (with_reducible rfl))
  try simp only [Act.put, List.setIfInBounds_toArray, List.set_cons_zero, List.set_cons_succ, List.getElem_toArray, List.getElem_cons_zero, List.getElem_cons_succ]
  refine wpAnyH_take (i := 12) (v := ?_) rfl (by kernel_rfl) (by kernel_rfl) (by kernel_rfl) (fun _ _ _ h => h) (Or.inl ⟨by rfl, ?_⟩) (by with_reducible assumption) ?_
  rotate_left
  · (intro w' hSw; (try dsimp only at hSw); go_simp <;> (with_reducible rfl))
  try simp only [Act.put, List.setIfInBounds_toArray, List.set_cons_zero, List.set_cons_succ, List.getElem_toArray, List.getElem_cons_zero, List.getElem_cons_succ]
  refine wpAnyH_take (i := 13) (v := ?_) rfl (by kernel_rfl) (by kernel_rfl) (by kernel_rfl) (fun _ _ _ h => h) (Or.inl ⟨by rfl, ?_⟩) (by with_reducible assumption) ?_
  rotate_left
  · (intro w' hSw; (try dsimp only at hSw); go_simp <;> (with_reducible rfl))
  try simp only [Act.put, List.setIfInBounds_toArray, List.set_cons_zero, List.set_cons_succ, List.getElem_toArray, List.getElem_cons_zero, List.getElem_cons_succ]
  refine wpAnyH_take (i := 14) (v := ?_) rfl (by kernel_rfl) (by kernel_rfl) (by kernel_rfl) (fun _ _ _ h => h) (Or.inl ⟨by rfl, ?_⟩) (by with_reducible assumption) ?_
  rotate_left
  · (intro w' hSw; (try dsimp only at hSw); go_simp <;> (with_reducible rfl))
  try simp only [Act.put, List.setIfInBounds_toArray, List.set_cons_zero, List.set_cons_succ, List.getElem_toArray, List.getElem_cons_zero, List.getElem_cons_succ]
  refine wpAnyH_take (i := 15) (v := ?_) rfl (by kernel_rfl) (by kernel_rfl) (by kernel_rfl) (fun _ _ _ h => h) (Or.inl ⟨by rfl, ?_⟩) (by with_reducible assumption) ?_
  rotate_left
  · (intro w' hSw; (try dsimp only at hSw); go_simp <;> (with_reducible rfl))
  try simp only [Act.put, List.setIfInBounds_toArray, List.set_cons_zero, List.set_cons_succ, List.getElem_toArray, List.getElem_cons_zero, List.getElem_cons_succ]
  refine wpAnyH_take (i := 16) (v := ?_) rfl (by kernel_rfl) (by kernel_rfl) (by kernel_rfl) (fun _ _ _ h => h) (Or.inl ⟨by rfl, ?_⟩) (by with_reducible assumption) ?_
  rotate_left
  · (intro w' hSw; (try dsimp only at hSw); go_simp <;> (with_reducible rfl))
  try simp only [Act.put, List.setIfInBounds_toArray, List.set_cons_zero, List.set_cons_succ, List.getElem_toArray, List.getElem_cons_zero, List.getElem_cons_succ]
  refine wpAnyH_take (i := 17) (v := ?_) rfl (by kernel_rfl) (by kernel_rfl) (by kernel_rfl) (fun _ _ _ h => h) (Or.inl ⟨by rfl, ?_⟩) (by with_reducible assumption) ?_
  rotate_left
  · (intro w' hSw; (try dsimp only at hSw); go_simp <;> (with_reducible rfl))
  try simp only [Act.put, List.setIfInBounds_toArray, List.set_cons_zero, List.set_cons_succ, List.getElem_toArray, List.getElem_cons_zero, List.getElem_cons_succ]
  refine wpAnyH_take (i := 18) (v := ?_) rfl (by kernel_rfl) (by kernel_rfl) (by kernel_rfl) (fun _ _ _ h => h) (Or.inl ⟨by rfl, ?_⟩) (by with_reducible assumption) ?_
  rotate_left
  · (intro w' hSw; (try dsimp only at hSw); go_simp <;> (with_reducible rfl))
  try simp only [Act.put, List.setIfInBounds_toArray, List.set_cons_zero, List.set_cons_succ, List.getElem_toArray, List.getElem_cons_zero, List.getElem_cons_succ]
  refine wpAnyH_take (i := 20) (v := ?_) rfl (by kernel_rfl) (by kernel_rfl) (by kernel_rfl) (fun _ _ _ h => h) (Or.inl ⟨by rfl, ?_⟩) (by with_reducible assumption) ?_
  rotate_left
  · (intro w' hSw; (try dsimp only at hSw); go_simp <;> (with_reducible rfl))
  try simp only [Act.put, List.setIfInBounds_toArray, List.set_cons_zero, List.set_cons_succ, List.getElem_toArray, List.getElem_cons_zero, List.getElem_cons_succ]
  refine wpAnyH_take (i := 21) (v := ?_) rfl (by kernel_rfl) (by kernel_rfl) (by kernel_rfl) (fun _ _ _ h => h) (Or.inl ⟨by rfl, ?_⟩) (by with_reducible assumption) ?_
  rotate_left
  · (intro w' hSw; (try dsimp only at hSw); go_simp <;> (with_reducible rfl))
  try simp only [Act.put, List.setIfInBounds_toArray, List.set_cons_zero, List.set_cons_succ, List.getElem_toArray, List.getElem_cons_zero, List.getElem_cons_succ]
  refine wpAnyH_ready (rs := [19]) (by kernel_rfl) (by simp) ?_
  refine AllReadyH.cons rfl (fun K hK => ?_) AllReadyH.nil
  go_simp
  go_at_call 34
  refine (ends_b a1 _ _ _ _ false _ hB).mono ?_
  rintro e x3 ⟨rfl, hb3⟩
  have hS3 := keepQ (by with_reducible assumption) hb3
  try (go_wp2_with fail)
  refine hK.out _ _ hS3 (fun hHeld3 => ?_)
  clear hK K hS3 hb3
  try simp only [Act.put, List.setIfInBounds_toArray, List.set_cons_zero, List.set_cons_succ, List.getElem_toArray, List.getElem_cons_zero, List.getElem_cons_succ]
  refine wpAnyH_take (i := 22) (v := ?_) rfl (by kernel_rfl) (by kernel_rfl) (by kernel_rfl) (fun _ _ _ h => h) (Or.inl ⟨by rfl, ?_⟩) (by with_reducible assumption) ?_
  rotate_left
  · (intro w' hSw; (try dsimp only at hSw); go_simp <;> (with_reducible rfl))
  try simp only [Act.put, List.setIfInBounds_toArray, List.set_cons_zero, List.set_cons_succ, List.getElem_toArray, List.getElem_cons_zero, List.getElem_cons_succ]
  refine wpAnyH_take (i := 23) (v := undef) rfl (by kernel_rfl) (by kernel_rfl) (by kernel_rfl) (fun _ _ _ h => h) (Or.inr ⟨by rfl, rfl⟩) (by with_reducible assumption) ?_
  try simp only [Act.put, List.setIfInBounds_toArray, List.set_cons_zero, List.set_cons_succ, List.getElem_toArray, List.getElem_cons_zero, List.getElem_cons_succ]
  refine wpAnyH_take (i := 24) (v := undef) rfl (by kernel_rfl) (by kernel_rfl) (by kernel_rfl) (fun _ _ _ h => h) (Or.inr ⟨by rfl, rfl⟩) (by with_reducible assumption) ?_
  try simp only [Act.put, List.setIfInBounds_toArray, List.set_cons_zero, List.set_cons_succ, List.getElem_toArray, List.getElem_cons_zero, List.getElem_cons_succ]
  refine wpAnyH_take (i := 25) (v := ?_) rfl (by kernel_rfl) (by kernel_rfl) (by kernel_rfl) (fun _ _ _ h => h) (Or.inl ⟨by rfl, ?_⟩) (by with_reducible assumption) ?_
  rotate_left
  · (intro w' hSw; (try dsimp only at hSw); go_simp <;> (with_reducible rfl))
  try simp only [Act.put, List.setIfInBounds_toArray, List.set_cons_zero, List.set_cons_succ, List.getElem_toArray, List.getElem_cons_zero, List.getElem_cons_succ]
  refine wpAnyH_take (i := 26) (v := ?_) rfl (by kernel_rfl) (by kernel_rfl) (by kernel_rfl) (fun _ _ _ h => h) (Or.inl ⟨by rfl, ?_⟩) (by with_reducible assumption) ?_
  rotate_left
  · (intro w' hSw; (try dsimp only at hSw); go_simp <;> (with_reducible rfl))
  try simp only [Act.put, List.setIfInBounds_toArray, List.set_cons_zero, List.set_cons_succ, List.getElem_toArray, List.getElem_cons_zero, List.getElem_cons_succ]
  refine wpAnyH_take (i := 27) (v := ?_) rfl (by kernel_rfl) (by kernel_rfl) (by kernel_rfl) (fun _ _ _ h => h) (Or.inl ⟨by rfl, ?_⟩) (by with_reducible assumption) ?_
  rotate_left
  · (intro w' hSw; (try dsimp only at hSw); go_simp <;> (with_reducible rfl))
  try simp only [Act.put, List.setIfInBounds_toArray, List.set_cons_zero, List.set_cons_succ, List.getElem_toArray, List.getElem_cons_zero, List.getElem_cons_succ]
  refine wpAnyH_take (i := 28) (v := ?_) rfl (by kernel_rfl) (by kernel_rfl) (by kernel_rfl) (fun _ _ _ h => h) (Or.inl ⟨by rfl, ?_⟩) (by with_reducible assumption) ?_
  rotate_left
  · (intro w' hSw; (try dsimp only at hSw); go_simp <;> (with_reducible rfl))
  try simp only [Act.put, List.setIfInBounds_toArray, List.set_cons_zero, List.set_cons_succ, List.getElem_toArray, List.getElem_cons_zero, List.getElem_cons_succ]
  refine wpAnyH_done (by kernel_rfl) ?_ _
  all_goals
    go_wp2_with fail
    go_ret
    exact ⟨ret_bool (by simp [*]), And.left (by with_reducible assumption)⟩
end Go.Proofs.Ytpcpohbbmeonbaa.stepTook
