/- That the laws of layer 17 begin. -/
import Derived.Test.YtemboonjikccnaaRing
namespace Go.Proofs.Ytemboonjikccnaa
open Go.ChangeShapes Go.WideShapes Go.ChangeAt Go.RowKit
set_option linter.unusedVariables false
set_option linter.unusedSimpArgs false
theorem F17 (id : Int) : Hid ((2 : Int) * (4 + 4) + (id - 1) * (2 + (3 + 1) * 4) = 16 + (id - 1) * 18) := Lib.hid (by omega)
set_option maxHeartbeats 1000000 in
set_option maxRecDepth 20000 in
theorem works17 (w : World) : Calls Try.prog 48 #[] w fun e w' => e = .returned (.bool true) ∧ Below w.heap.size w w' := by
  have hF : Hid ((2 : Int) * (4 + 4) + (2 - 1) * (2 + (3 + 1) * 4) = 34) := Lib.hid (by decide)
  go_enter Try.func48, Try.ntmps48
  go_wp2_with fail
  refine (plan17 w).mono ?_
  rintro e w1 ⟨rfl, hb1⟩
  go_wp2_with fail
  obtain ⟨W, hW⟩ : ∃ W, W = w1.alloc (Obj.cells #[Value.int IntKind.i64 2, Value.int IntKind.i64 4, Value.int IntKind.i64 3, Value.int IntKind.i64 4] 63) := ⟨_, rfl⟩
  have p0 : W.cell? ⟨w1.heap.size, 0, none⟩ = some (.int .i64 2) := by rw [hW]; go_simp
  have p1 : W.cell? ⟨w1.heap.size, 1, none⟩ = some (.int .i64 4) := by rw [hW]; go_simp
  have p2 : W.cell? ⟨w1.heap.size, 2, none⟩ = some (.int .i64 3) := by rw [hW]; go_simp
  have p3 : W.cell? ⟨w1.heap.size, 3, none⟩ = some (.int .i64 4) := by rw [hW]; go_simp
  have hb : Below w.heap.size w W := by rw [hW]; exact btr hb1 (by go_grown)
  have hPl : w1.heap.size < W.heap.size := by rw [hW]; simp
  rw [← hW]
  clear hW hb1
  generalize w1.heap.size = P at *
  refine (size_of 2 4 3 4 16 72 _ okay17 (Lib.hid (by decide)) (Lib.hid (by decide))).mono ?_
  rintro e w2 ⟨rfl, hb2⟩
  replace p0 := keepc p0 hb2
  replace p1 := keepc p1 hb2
  replace p2 := keepc p2 hb2
  replace p3 := keepc p3 hb2
  replace hb := btr hb hb2
  replace hPl := Nat.lt_of_lt_of_le hPl hb2.size
  clear hb2
  go_wp2_with fail
  refine (new_n 88 w2 (by decide)).mono ?_
  rintro e w3 ⟨rfl, hs, hb2⟩
  have h : J w w3 (w2.heap.size + 1) w2.heap.size (List.replicate 88 0) := ⟨hs, btr hb hb2, hb.size⟩
  replace p0 := keepc p0 hb2
  replace p1 := keepc p1 hb2
  replace p2 := keepc p2 hb2
  replace p3 := keepc p3 hb2
  have hP0 : P ≠ w2.heap.size := by omega
  have hP := Lib.hid hP0
  clear hb hb2 hs hP0 hPl
  generalize w2.heap.size + 1 = S at *
  generalize w2.heap.size = g at *
  go_wp2_with fail
  refine (new17 2 7 w3).mono ?_
  rintro e w4 ⟨rfl, hb2⟩
  replace p0 := keepc p0 hb2
  replace p1 := keepc p1 hb2
  replace p2 := keepc p2 hb2
  replace p3 := keepc p3 hb2
  replace h := h.below' hb2
  clear hb2
  go_wp2_with fail
  obtain ⟨W, hW⟩ : ∃ W, W = w4.alloc (Obj.cells #[Value.int IntKind.i64 2, Value.int IntKind.i64 4, Value.int IntKind.i64 3, Value.int IntKind.i64 4, Value.int IntKind.i64 2, Value.int IntKind.i64 7] 94) := ⟨_, rfl⟩
  have r0 : W.cell? ⟨w4.heap.size, 0, none⟩ = some (.int .i64 2) := by rw [hW]; go_simp
  have r1 : W.cell? ⟨w4.heap.size, 1, none⟩ = some (.int .i64 4) := by rw [hW]; go_simp
  have r2 : W.cell? ⟨w4.heap.size, 2, none⟩ = some (.int .i64 3) := by rw [hW]; go_simp
  have r3 : W.cell? ⟨w4.heap.size, 3, none⟩ = some (.int .i64 4) := by rw [hW]; go_simp
  have r4 : W.cell? ⟨w4.heap.size, 4, none⟩ = some (.int .i64 2) := by rw [hW]; go_simp
  have r5 : W.cell? ⟨w4.heap.size, 5, none⟩ = some (.int .i64 7) := by rw [hW]; go_simp
  have hb : Below w4.heap.size w4 W := by rw [hW]; go_grown
  rw [← hW]
  clear hW
  replace p0 := keepc p0 hb
  replace p1 := keepc p1 hb
  replace p2 := keepc p2 hb
  replace p3 := keepc p3 hb
  have hR0 : w4.heap.size ≠ g := by have := h.1.facts.2.2.2.2.2; omega
  have hR := Lib.hid hR0
  replace h := h.below' hb
  clear hb hR0
  generalize w4.heap.size = R at *
  obtain ⟨t1, ht1⟩ : ∃ t, tOf 7 5 3 = t := ⟨_, rfl⟩
  obtain ⟨t2, ht2⟩ : ∃ t, tOf 7 6 0 = t := ⟨_, rfl⟩
  obtain ⟨t3, ht3⟩ : ∃ t, tOf 7 1 0 = t := ⟨_, rfl⟩
  have n1 : t1 = 7 * 1099511627776 + 5 * 1048576 + 3 := by rw [← ht1]; decide
  have n2 : t2 = 7 * 1099511627776 + 6 * 1048576 := by rw [← ht2]; decide
  have n3 : t3 = 7 * 1099511627776 + 1 * 1048576 := by rw [← ht3]; decide
  have n4 : tOf 7 2 0 = 7 * 1099511627776 + 2 * 1048576 := by decide
  refine (rgo_j S g 40 (List.replicate 88 0) 2 7 5 34 1 9 w _ h (by decide) (by decide) hF (by decide) (Lib.hid (by decide)) (Lib.hid (by decide)) (by simp) (by simp)).mono ?_
  rintro e wz ⟨rfl, hj, hk⟩
  replace h : J w wz S g ((List.replicate 88 0).set 40 9) := hj
  replace p0 := hk.cell p0 hP.out
  replace p1 := hk.cell p1 hP.out
  replace p2 := hk.cell p2 hP.out
  replace p3 := hk.cell p3 hP.out
  replace r0 := hk.cell r0 hR.out
  replace r1 := hk.cell r1 hR.out
  replace r2 := hk.cell r2 hR.out
  replace r3 := hk.cell r3 hR.out
  replace r4 := hk.cell r4 hR.out
  replace r5 := hk.cell r5 hR.out
  clear hj hk
  go_wp2_with fail
  refine (rwait_j S g 41 ((List.replicate 88 0).set 40 9) 2 7 5 34 1 3 w _ h (by decide) (by decide) hF (by decide) (Lib.hid (by decide)) (Lib.hid (by decide)) (by simp) (by simp)).mono ?_
  rintro e wz ⟨rfl, hj, hk⟩
  rw [ht1] at hj
  replace h : J w wz S g (((List.replicate 88 0).set 40 9).set 41 t1) := hj
  replace p0 := hk.cell p0 hP.out
  replace p1 := hk.cell p1 hP.out
  replace p2 := hk.cell p2 hP.out
  replace p3 := hk.cell p3 hP.out
  replace r0 := hk.cell r0 hR.out
  replace r1 := hk.cell r1 hR.out
  replace r2 := hk.cell r2 hR.out
  replace r3 := hk.cell r3 hR.out
  replace r4 := hk.cell r4 hR.out
  replace r5 := hk.cell r5 hR.out
  clear hj hk
  go_wp2_with fail
  refine (rend_j S g 47 (((List.replicate 88 0).set 40 9).set 41 t1) 2 7 6 34 2 w _ h (by decide) (by decide) hF (by decide) (Lib.hid (by decide)) (Lib.hid (by decide)) (by simp) (by simp)).mono ?_
  rintro e wz ⟨rfl, hj, hk⟩
  rw [ht2] at hj
  replace h : J w wz S g ((((List.replicate 88 0).set 40 9).set 41 t1).set 47 t2) := hj
  replace p0 := hk.cell p0 hP.out
  replace p1 := hk.cell p1 hP.out
  replace p2 := hk.cell p2 hP.out
  replace p3 := hk.cell p3 hP.out
  replace r0 := hk.cell r0 hR.out
  replace r1 := hk.cell r1 hR.out
  replace r2 := hk.cell r2 hR.out
  replace r3 := hk.cell r3 hR.out
  replace r4 := hk.cell r4 hR.out
  replace r5 := hk.cell r5 hR.out
  clear hj hk
  go_wp2_with fail
  refine (rsleep_j S g 35 ((((List.replicate 88 0).set 40 9).set 41 t1).set 47 t2) 2 7 1 34 0 w _ h (by decide) (by decide) hF (Lib.hid (by decide)) (by simp) (by simp)).mono ?_
  rintro e wz ⟨rfl, hj, hk⟩
  rw [ht3] at hj
  replace h : J w wz S g (((((List.replicate 88 0).set 40 9).set 41 t1).set 47 t2).set 35 t3) := hj
  replace p0 := hk.cell p0 hP.out
  replace p1 := hk.cell p1 hP.out
  replace p2 := hk.cell p2 hP.out
  replace p3 := hk.cell p3 hP.out
  replace r0 := hk.cell r0 hR.out
  replace r1 := hk.cell r1 hR.out
  replace r2 := hk.cell r2 hR.out
  replace r3 := hk.cell r3 hR.out
  replace r4 := hk.cell r4 hR.out
  replace r5 := hk.cell r5 hR.out
  clear hj hk
  go_wp2_with fail
  refine (size_of 2 4 3 4 16 72 _ okay17 (Lib.hid (by decide)) (Lib.hid (by decide))).mono ?_
  rintro e wz ⟨rfl, hb2⟩
  replace p0 := keepc p0 hb2
  replace p1 := keepc p1 hb2
  replace p2 := keepc p2 hb2
  replace p3 := keepc p3 hb2
  replace r0 := keepc r0 hb2
  replace r1 := keepc r1 hb2
  replace r2 := keepc r2 hb2
  replace r3 := keepc r3 hb2
  replace r4 := keepc r4 hb2
  replace r5 := keepc r5 hb2
  replace h := h.below' hb2
  clear hb2
  go_wp2_with fail
  refine (rcome_j S g 40 _ 2 7 5 34 1 9 w _ h (by decide) (by decide) hF (by decide) (Lib.hid (by decide)) (Lib.hid (by decide)) (Lib.hid rfl) (by simp) (by simp)).mono ?_
  rintro e wz ⟨rfl, hj, hk⟩
  replace h := hj
  replace p0 := hk.cell p0 hP.out
  replace p1 := hk.cell p1 hP.out
  replace p2 := hk.cell p2 hP.out
  replace p3 := hk.cell p3 hP.out
  replace r0 := hk.cell r0 hR.out
  replace r1 := hk.cell r1 hR.out
  replace r2 := hk.cell r2 hR.out
  replace r3 := hk.cell r3 hR.out
  replace r4 := hk.cell r4 hR.out
  replace r5 := hk.cell r5 hR.out
  clear hj hk
  go_wp2_with fail
  refine (rwaits_j S g 41 _ 2 7 5 34 1 t1 w _ h (by decide) (by decide) hF (by decide) (Lib.hid (by decide)) (Lib.hid (by decide)) (Lib.hid rfl) (by simp) (by simp)).mono ?_
  rintro e wz ⟨rfl, hj, hk⟩
  replace h := hj
  replace p0 := hk.cell p0 hP.out
  replace p1 := hk.cell p1 hP.out
  replace p2 := hk.cell p2 hP.out
  replace p3 := hk.cell p3 hP.out
  replace r0 := hk.cell r0 hR.out
  replace r1 := hk.cell r1 hR.out
  replace r2 := hk.cell r2 hR.out
  replace r3 := hk.cell r3 hR.out
  replace r4 := hk.cell r4 hR.out
  replace r5 := hk.cell r5 hR.out
  clear hj hk
  have hpos : (0 : Int) < t1 := by omega
  go_wp2_with fail
  refine (rfree_yes S g 41 _ 2 7 5 34 1 3 w _ h (by decide) (by decide) hF (by decide) (Lib.hid (by decide)) (Lib.hid (by decide)) (Lib.hid (by rw [ht1]; rfl)) (by simp) (by simp)).mono ?_
  rintro e wz ⟨rfl, hj, hk⟩
  replace h : J w wz S g ((((((List.replicate 88 0).set 40 9).set 41 t1).set 47 t2).set 35 t3).set 41 0) := hj
  replace p0 := hk.cell p0 hP.out
  replace p1 := hk.cell p1 hP.out
  replace p2 := hk.cell p2 hP.out
  replace p3 := hk.cell p3 hP.out
  replace r0 := hk.cell r0 hR.out
  replace r1 := hk.cell r1 hR.out
  replace r2 := hk.cell r2 hR.out
  replace r3 := hk.cell r3 hR.out
  replace r4 := hk.cell r4 hR.out
  replace r5 := hk.cell r5 hR.out
  clear hj hk
  go_wp2_with fail
  refine (rfree_no S g 41 _ 2 7 5 34 1 3 0 w _ h (by decide) (by decide) hF (by decide) (Lib.hid (by decide)) (Lib.hid (by decide)) (Lib.hid rfl) (Lib.hid (by rw [ht1]; omega)) (by simp) (by simp)).mono ?_
  rintro e wz ⟨rfl, hj, hk⟩
  replace h := hj
  replace p0 := hk.cell p0 hP.out
  replace p1 := hk.cell p1 hP.out
  replace p2 := hk.cell p2 hP.out
  replace p3 := hk.cell p3 hP.out
  replace r0 := hk.cell r0 hR.out
  replace r1 := hk.cell r1 hR.out
  replace r2 := hk.cell r2 hR.out
  replace r3 := hk.cell r3 hR.out
  replace r4 := hk.cell r4 hR.out
  replace r5 := hk.cell r5 hR.out
  clear hj hk
  go_wp2_with fail
  refine (rended_j S g 47 _ 2 7 6 34 2 t2 true w _ h (by decide) (by decide) hF (by decide) (Lib.hid (by decide)) (Lib.hid (by decide)) (Lib.hid rfl) (Lib.hid (by rw [ht2]; simp)) (by simp) (by simp)).mono ?_
  rintro e wz ⟨rfl, hj, hk⟩
  replace h := hj
  replace p0 := hk.cell p0 hP.out
  replace p1 := hk.cell p1 hP.out
  replace p2 := hk.cell p2 hP.out
  replace p3 := hk.cell p3 hP.out
  replace r0 := hk.cell r0 hR.out
  replace r1 := hk.cell r1 hR.out
  replace r2 := hk.cell r2 hR.out
  replace r3 := hk.cell r3 hR.out
  replace r4 := hk.cell r4 hR.out
  replace r5 := hk.cell r5 hR.out
  clear hj hk
  go_wp2_with fail
  refine (rended_j S g 47 _ 2 7 2 34 2 t2 false w _ h (by decide) (by decide) hF (by decide) (Lib.hid (by decide)) (Lib.hid (by decide)) (Lib.hid rfl) (Lib.hid (by rw [n4]; simp; omega)) (by simp) (by simp)).mono ?_
  rintro e wz ⟨rfl, hj, hk⟩
  replace h := hj
  replace p0 := hk.cell p0 hP.out
  replace p1 := hk.cell p1 hP.out
  replace p2 := hk.cell p2 hP.out
  replace p3 := hk.cell p3 hP.out
  replace r0 := hk.cell r0 hR.out
  replace r1 := hk.cell r1 hR.out
  replace r2 := hk.cell r2 hR.out
  replace r3 := hk.cell r3 hR.out
  replace r4 := hk.cell r4 hR.out
  replace r5 := hk.cell r5 hR.out
  clear hj hk
  go_wp2_with fail
  refine (rsleeps_j S g 35 _ 2 7 1 34 0 t3 true w _ h (by decide) (by decide) hF (Lib.hid (by decide)) (Lib.hid rfl) (Lib.hid (by rw [ht3]; simp)) (by simp) (by simp)).mono ?_
  rintro e wz ⟨rfl, hj, hk⟩
  replace h := hj
  replace p0 := hk.cell p0 hP.out
  replace p1 := hk.cell p1 hP.out
  replace p2 := hk.cell p2 hP.out
  replace p3 := hk.cell p3 hP.out
  replace r0 := hk.cell r0 hR.out
  replace r1 := hk.cell r1 hR.out
  replace r2 := hk.cell r2 hR.out
  replace r3 := hk.cell r3 hR.out
  replace r4 := hk.cell r4 hR.out
  replace r5 := hk.cell r5 hR.out
  clear hj hk
  go_wp2_with fail
  refine (rrouse_yes S g 35 _ 2 7 1 34 0 w _ h (by decide) (by decide) hF (Lib.hid (by decide)) (Lib.hid (by rw [ht3]; rfl)) (by simp) (by simp)).mono ?_
  rintro e wz ⟨rfl, hj, hk⟩
  replace h : J w wz S g (((((((List.replicate 88 0).set 40 9).set 41 t1).set 47 t2).set 35 t3).set 41 0).set 35 0) := hj
  replace p0 := hk.cell p0 hP.out
  replace p1 := hk.cell p1 hP.out
  replace p2 := hk.cell p2 hP.out
  replace p3 := hk.cell p3 hP.out
  replace r0 := hk.cell r0 hR.out
  replace r1 := hk.cell r1 hR.out
  replace r2 := hk.cell r2 hR.out
  replace r3 := hk.cell r3 hR.out
  replace r4 := hk.cell r4 hR.out
  replace r5 := hk.cell r5 hR.out
  clear hj hk
  go_wp2_with fail
  refine (rrouse_no S g 35 _ 2 7 1 34 0 0 w _ h (by decide) (by decide) hF (Lib.hid (by decide)) (Lib.hid rfl) (Lib.hid (by rw [ht3]; omega)) (by simp) (by simp)).mono ?_
  rintro e wz ⟨rfl, hj, hk⟩
  replace h := hj
  replace p0 := hk.cell p0 hP.out
  replace p1 := hk.cell p1 hP.out
  replace p2 := hk.cell p2 hP.out
  replace p3 := hk.cell p3 hP.out
  replace r0 := hk.cell r0 hR.out
  replace r1 := hk.cell r1 hR.out
  replace r2 := hk.cell r2 hR.out
  replace r3 := hk.cell r3 hR.out
  replace r4 := hk.cell r4 hR.out
  replace r5 := hk.cell r5 hR.out
  clear hj hk
  go_wp2_with fail
  go_ret
  exact ⟨rfl, h.2.1⟩
end Go.Proofs.Ytemboonjikccnaa
