/- What any instruction does with any registers, where it goes on, what it asks, and its fault, are as the chapter says: the law StepDoes answers true. No condition. -/
import Derived.Test.YtpcpohbbmeonbaaWks08
namespace Go.Proofs.Ytpcpohbbmeonbaa.stepDoes
open Go.ChangeShapes Go.WideShapes Go.ChangeAt Go.RowKit
open Go.Proofs.Ytpcpohbbmeonbaa.step
set_option linter.unusedVariables false
set_option linter.unusedSimpArgs false
theorem big (a0_0 a0_1 a0_2 a0_3 a1 a2_0 a2_1 a2_2 a2_3 a2_4 a2_5 a2_6 a2_7 : Int) (w : World) (h : 4611686018427387904 < a1) :
    Calls Try.prog 7 #[.agg #[.int .i64 a0_0, .int .i64 a0_1, .int .i64 a0_2, .int .i64 a0_3], .int .i64 a1, .agg #[.int .i64 a2_0, .int .i64 a2_1, .int .i64 a2_2, .int .i64 a2_3, .int .i64 a2_4, .int .i64 a2_5, .int .i64 a2_6, .int .i64 a2_7]] w fun e w' => e = .returned (.bool true) ∧ Below w.heap.size w w' := by
  go_enter Try.func7, Try.ntmps7
  go_wp2_with fail
  refine (works_v _).mono ?_
  rintro e w1 ⟨rfl, hb1⟩
  go_wp2_with fail
  go_ret
  exact ⟨rfl, Below.trans (by go_grown) (hb1.mono (by simp; omega))⟩
set_option maxHeartbeats 8000000 in
set_option maxRecDepth 20000 in
theorem core (a0_0 a0_1 a0_2 a0_3 a1 : Int) (r : Nat → Int) (w : World) (h : a1 ≤ 4611686018427387904) (h0 : -9223372036854775808 ≤ a1) (hr : ∀ i, -9223372036854775808 ≤ r i ∧ r i ≤ 9223372036854775807) :
    Calls Try.prog 7 #[.agg #[.int .i64 a0_0, .int .i64 a0_1, .int .i64 a0_2, .int .i64 a0_3], .int .i64 a1, .agg #[.int .i64 (r 0), .int .i64 (r 1), .int .i64 (r 2), .int .i64 (r 3), .int .i64 (r 4), .int .i64 (r 5), .int .i64 (r 6), .int .i64 (r 7)]] w fun e w' => e = .returned (.bool true) ∧ Below w.heap.size w w' := by
  obtain ⟨n, s, e0, e1, e2, e3, e4, f, hp, hq, hk⟩ := pair a0_0 a0_1 a0_2 a0_3 a1 r hr h h0
  have HP := Lib.hid hp
  have HQ := Lib.hid hq
  clear hp hq hk hr
  obtain ⟨s0, hs0⟩ : ∃ x, x = s 0 := ⟨_, rfl⟩
  obtain ⟨s1, hs1⟩ : ∃ x, x = s 1 := ⟨_, rfl⟩
  obtain ⟨s2, hs2⟩ : ∃ x, x = s 2 := ⟨_, rfl⟩
  obtain ⟨s3, hs3⟩ : ∃ x, x = s 3 := ⟨_, rfl⟩
  obtain ⟨s4, hs4⟩ : ∃ x, x = s 4 := ⟨_, rfl⟩
  obtain ⟨s5, hs5⟩ : ∃ x, x = s 5 := ⟨_, rfl⟩
  obtain ⟨s6, hs6⟩ : ∃ x, x = s 6 := ⟨_, rfl⟩
  obtain ⟨s7, hs7⟩ : ∃ x, x = s 7 := ⟨_, rfl⟩
  rw [← hs0, ← hs1, ← hs2, ← hs3, ← hs4, ← hs5, ← hs6, ← hs7] at HP HQ
  clear hs0 hs1 hs2 hs3 hs4 hs5 hs6 hs7
  go_enter Try.func7, Try.ntmps7
  go_wp2_with fail
  refine (works_v _).mono ?_
  rintro e w1 ⟨rfl, hb1⟩
  have x0 : w1.cell? ⟨w.heap.size, 0, none⟩ = some (.int .i64 a0_0) := keepc (by go_simp) hb1
  have x1 : w1.cell? ⟨w.heap.size, 1, none⟩ = some (.int .i64 a0_1) := keepc (by go_simp) hb1
  have x2 : w1.cell? ⟨w.heap.size, 2, none⟩ = some (.int .i64 a0_2) := keepc (by go_simp) hb1
  have x3 : w1.cell? ⟨w.heap.size, 3, none⟩ = some (.int .i64 a0_3) := keepc (by go_simp) hb1
  have r0 : w1.cell? ⟨w.heap.size + 1, 0, none⟩ = some (.int .i64 (r 0)) := keepc (by go_simp) hb1
  have r1 : w1.cell? ⟨w.heap.size + 1, 1, none⟩ = some (.int .i64 (r 1)) := keepc (by go_simp) hb1
  have r2 : w1.cell? ⟨w.heap.size + 1, 2, none⟩ = some (.int .i64 (r 2)) := keepc (by go_simp) hb1
  have r3 : w1.cell? ⟨w.heap.size + 1, 3, none⟩ = some (.int .i64 (r 3)) := keepc (by go_simp) hb1
  have r4 : w1.cell? ⟨w.heap.size + 1, 4, none⟩ = some (.int .i64 (r 4)) := keepc (by go_simp) hb1
  have r5 : w1.cell? ⟨w.heap.size + 1, 5, none⟩ = some (.int .i64 (r 5)) := keepc (by go_simp) hb1
  have r6 : w1.cell? ⟨w.heap.size + 1, 6, none⟩ = some (.int .i64 (r 6)) := keepc (by go_simp) hb1
  have r7 : w1.cell? ⟨w.heap.size + 1, 7, none⟩ = some (.int .i64 (r 7)) := keepc (by go_simp) hb1
  have hlt1 : w.heap.size + 1 < w1.heap.size := by have := hb1.size; simp at this; omega
  have hw1 : Below w.heap.size w w1 := Below.trans (by go_grown) (hb1.mono (by simp; omega))
  clear hb1
  go_wp2_with fail
  refine (HP.out _).mono ?_
  rintro e w2 ⟨rfl, hb2⟩
  have x0 := keepc x0 hb2
  have x1 := keepc x1 hb2
  have x2 := keepc x2 hb2
  have x3 := keepc x3 hb2
  have r0 := keepc r0 hb2
  have r1 := keepc r1 hb2
  have r2 := keepc r2 hb2
  have r3 := keepc r3 hb2
  have r4 := keepc r4 hb2
  have r5 := keepc r5 hb2
  have r6 := keepc r6 hb2
  have r7 := keepc r7 hb2
  have hlt2 : w.heap.size + 1 < w2.heap.size := Nat.lt_of_lt_of_le hlt1 hb2.size
  have hw2 : Below w.heap.size w w2 := hw1.trans (hb2.mono hw1.size)
  clear hlt1
  clear hb2 hw1
  go_upto_region 6 with fail
  obtain ⟨W3, hW3⟩ : ∃ W3, W3 = (w2.alloc (.cells #[.int .i64 s0, .int .i64 s1, .int .i64 s2, .int .i64 s3, .int .i64 s4, .int .i64 s5, .int .i64 s6, .int .i64 s7] 40)).alloc (.cells #[.int .i64 e0, .int .i64 e1, .int .i64 e2, .int .i64 e3, .int .i64 e4] 42) := ⟨_, rfl⟩
  have hbx : Below w2.heap.size w2 W3 := by rw [hW3]; go_grown
  have hw3' : Below w.heap.size w W3 := hw2.trans (hbx.mono hw2.size)
  have x0 := keepc x0 hbx
  have x1 := keepc x1 hbx
  have x2 := keepc x2 hbx
  have x3 := keepc x3 hbx
  have r0 := keepc r0 hbx
  have r1 := keepc r1 hbx
  have r2 := keepc r2 hbx
  have r3 := keepc r3 hbx
  have r4 := keepc r4 hbx
  have r5 := keepc r5 hbx
  have r6 := keepc r6 hbx
  have r7 := keepc r7 hbx
  have q0 : W3.cell? ⟨w2.heap.size, 0, none⟩ = some (.int .i64 s0) := by rw [hW3]; go_simp
  have q1 : W3.cell? ⟨w2.heap.size, 1, none⟩ = some (.int .i64 s1) := by rw [hW3]; go_simp
  have q2 : W3.cell? ⟨w2.heap.size, 2, none⟩ = some (.int .i64 s2) := by rw [hW3]; go_simp
  have q3 : W3.cell? ⟨w2.heap.size, 3, none⟩ = some (.int .i64 s3) := by rw [hW3]; go_simp
  have q4 : W3.cell? ⟨w2.heap.size, 4, none⟩ = some (.int .i64 s4) := by rw [hW3]; go_simp
  have q5 : W3.cell? ⟨w2.heap.size, 5, none⟩ = some (.int .i64 s5) := by rw [hW3]; go_simp
  have q6 : W3.cell? ⟨w2.heap.size, 6, none⟩ = some (.int .i64 s6) := by rw [hW3]; go_simp
  have q7 : W3.cell? ⟨w2.heap.size, 7, none⟩ = some (.int .i64 s7) := by rw [hW3]; go_simp
  have y0 : W3.cell? ⟨w2.heap.size + 1, 0, none⟩ = some (.int .i64 e0) := by rw [hW3]; go_simp
  have y1 : W3.cell? ⟨w2.heap.size + 1, 1, none⟩ = some (.int .i64 e1) := by rw [hW3]; go_simp
  have y2 : W3.cell? ⟨w2.heap.size + 1, 2, none⟩ = some (.int .i64 e2) := by rw [hW3]; go_simp
  have y3 : W3.cell? ⟨w2.heap.size + 1, 3, none⟩ = some (.int .i64 e3) := by rw [hW3]; go_simp
  have y4 : W3.cell? ⟨w2.heap.size + 1, 4, none⟩ = some (.int .i64 e4) := by rw [hW3]; go_simp
  rw [← hW3]
  generalize w2.heap.size = B2 at *
  clear hW3 hbx hw2
  go_wp2_with fail
  refine (HQ.out _).mono ?_
  rintro e w3 ⟨rfl, hb3⟩
  have q0 := keepc q0 hb3
  have q1 := keepc q1 hb3
  have q2 := keepc q2 hb3
  have q3 := keepc q3 hb3
  have q4 := keepc q4 hb3
  have q5 := keepc q5 hb3
  have q6 := keepc q6 hb3
  have q7 := keepc q7 hb3
  have y0 := keepc y0 hb3
  have y1 := keepc y1 hb3
  have y2 := keepc y2 hb3
  have y3 := keepc y3 hb3
  have y4 := keepc y4 hb3
  have hw3 : Below w.heap.size w w3 := hw3'.trans (hb3.mono hw3'.size)
  clear hb3 hw3' hlt2 x0 x1 x2 x3 r0 r1 r2 r3 r4 r5 r6 r7
  go_upto_region 7 with fail
  obtain ⟨W4, hW4⟩ : ∃ W4, W4 = (w3.alloc (.cells #[.int .i64 s0, .int .i64 s1, .int .i64 s2, .int .i64 s3, .int .i64 s4, .int .i64 s5, .int .i64 s6, .int .i64 s7] 40)).alloc (.cells #[.int .i64 e0, .int .i64 e1, .int .i64 e2, .int .i64 e3, .int .i64 e4] 45) := ⟨_, rfl⟩
  have hbx : Below w3.heap.size w3 W4 := by rw [hW4]; go_grown
  have hw4 : Below w.heap.size w W4 := hw3.trans (hbx.mono hw3.size)
  have q0 := keepc q0 hbx
  have q1 := keepc q1 hbx
  have q2 := keepc q2 hbx
  have q3 := keepc q3 hbx
  have q4 := keepc q4 hbx
  have q5 := keepc q5 hbx
  have q6 := keepc q6 hbx
  have q7 := keepc q7 hbx
  have y0 := keepc y0 hbx
  have y1 := keepc y1 hbx
  have y2 := keepc y2 hbx
  have y3 := keepc y3 hbx
  have y4 := keepc y4 hbx
  have u0 : W4.cell? ⟨w3.heap.size, 0, none⟩ = some (.int .i64 s0) := by rw [hW4]; go_simp
  have u1 : W4.cell? ⟨w3.heap.size, 1, none⟩ = some (.int .i64 s1) := by rw [hW4]; go_simp
  have u2 : W4.cell? ⟨w3.heap.size, 2, none⟩ = some (.int .i64 s2) := by rw [hW4]; go_simp
  have u3 : W4.cell? ⟨w3.heap.size, 3, none⟩ = some (.int .i64 s3) := by rw [hW4]; go_simp
  have u4 : W4.cell? ⟨w3.heap.size, 4, none⟩ = some (.int .i64 s4) := by rw [hW4]; go_simp
  have u5 : W4.cell? ⟨w3.heap.size, 5, none⟩ = some (.int .i64 s5) := by rw [hW4]; go_simp
  have u6 : W4.cell? ⟨w3.heap.size, 6, none⟩ = some (.int .i64 s6) := by rw [hW4]; go_simp
  have u7 : W4.cell? ⟨w3.heap.size, 7, none⟩ = some (.int .i64 s7) := by rw [hW4]; go_simp
  have v0 : W4.cell? ⟨w3.heap.size + 1, 0, none⟩ = some (.int .i64 e0) := by rw [hW4]; go_simp
  have v1 : W4.cell? ⟨w3.heap.size + 1, 1, none⟩ = some (.int .i64 e1) := by rw [hW4]; go_simp
  have v2 : W4.cell? ⟨w3.heap.size + 1, 2, none⟩ = some (.int .i64 e2) := by rw [hW4]; go_simp
  have v3 : W4.cell? ⟨w3.heap.size + 1, 3, none⟩ = some (.int .i64 e3) := by rw [hW4]; go_simp
  have v4 : W4.cell? ⟨w3.heap.size + 1, 4, none⟩ = some (.int .i64 e4) := by rw [hW4]; go_simp
  have heq := eq_same
  have hef := eff_same
  rw [← hW4]
  clear hW4 hbx hw3
  go_wp2_with fail
  go_ret
  exact ⟨ret_bool (by simp), hw4⟩
theorem walk (a0_0 a0_1 a0_2 a0_3 : Int) (a1 : Int) (a2_0 a2_1 a2_2 a2_3 a2_4 a2_5 a2_6 a2_7 : Int) (w : World) (w0_0 : (Lit.int .i64 a0_0).wf = true) (w0_1 : (Lit.int .i64 a0_1).wf = true) (w0_2 : (Lit.int .i64 a0_2).wf = true) (w0_3 : (Lit.int .i64 a0_3).wf = true) (w1 : (Lit.int .i64 a1).wf = true) (w2_0 : (Lit.int .i64 a2_0).wf = true) (w2_1 : (Lit.int .i64 a2_1).wf = true) (w2_2 : (Lit.int .i64 a2_2).wf = true) (w2_3 : (Lit.int .i64 a2_3).wf = true) (w2_4 : (Lit.int .i64 a2_4).wf = true) (w2_5 : (Lit.int .i64 a2_5).wf = true) (w2_6 : (Lit.int .i64 a2_6).wf = true) (w2_7 : (Lit.int .i64 a2_7).wf = true) :
    Calls Try.prog 7 #[.agg #[.int .i64 a0_0, .int .i64 a0_1, .int .i64 a0_2, .int .i64 a0_3], .int .i64 a1, .agg #[.int .i64 a2_0, .int .i64 a2_1, .int .i64 a2_2, .int .i64 a2_3, .int .i64 a2_4, .int .i64 a2_5, .int .i64 a2_6, .int .i64 a2_7]] w fun e w' => e = .returned (.bool true) ∧ Below w.heap.size w w' := by
  by_cases h : a1 ≤ 4611686018427387904
  · exact core a0_0 a0_1 a0_2 a0_3 a1 (fun i => match i with | 0 => a2_0 | 1 => a2_1 | 2 => a2_2 | 3 => a2_3 | 4 => a2_4 | 5 => a2_5 | 6 => a2_6 | 7 => a2_7 | _ => 0) w h (wf_lo w1).1 (fun i => by
      match i with
      | 0 => exact wf_lo w2_0
      | 1 => exact wf_lo w2_1
      | 2 => exact wf_lo w2_2
      | 3 => exact wf_lo w2_3
      | 4 => exact wf_lo w2_4
      | 5 => exact wf_lo w2_5
      | 6 => exact wf_lo w2_6
      | 7 => exact wf_lo w2_7
      | n + 8 => exact ⟨(by decide : (-9223372036854775808 : Int) ≤ 0), (by decide : (0 : Int) ≤ 9223372036854775807)⟩)
  · exact big a0_0 a0_1 a0_2 a0_3 a1 a2_0 a2_1 a2_2 a2_3 a2_4 a2_5 a2_6 a2_7 w (by omega)
end Go.Proofs.Ytpcpohbbmeonbaa.stepDoes
