/- That the laws of layer 20 begin. -/
import Derived.Test.YtemboonjikccnabThrN
namespace Go.Proofs.Ytemboonjikccnab
open Go.ChangeShapes Go.WideShapes Go.ChangeAt Go.RowKit
set_option linter.unusedVariables false
set_option linter.unusedSimpArgs false
theorem Keep2.cell {g B : Nat} {w w' : World} {C i : Nat} {v : Value} (h : Keep2 g B w w') (hc : w.cell? ⟨C, i, none⟩ = some v) (hg : C ≠ g) (hB : C ≠ B) : w'.cell? ⟨C, i, none⟩ = some v :=
  (cell_heap (h.2 C (World.block_lt_of_cell? w _ hc) hg hB)).trans hc
theorem Keep2.block {g B : Nat} {w w' : World} {C : Nat} {o : Obj} (h : Keep2 g B w w') (hb : w.heap[C]? = some o) (hg : C ≠ g) (hB : C ≠ B) : w'.heap[C]? = some o :=
  (h.2 C (lt_of_heap hb) hg hB).trans hb
set_option maxHeartbeats 1000000 in
set_option maxRecDepth 20000 in
theorem works20 (w : World) : Calls Try.prog 18 #[] w fun e w' => e = .returned (.bool true) ∧ Below w.heap.size w w' := by
  have hF : Hid ((1 : Int) * (4 + 2) + (1 - 1) * (2 + (2 + 1) * 4) = 6) := Lib.hid (by decide)
  have hq : Hid ((0 : Int).tmod (2 + 1) = 0) := Lib.hid (by decide)
  go_enter Try.func18, Try.ntmps18
  go_wp2_with fail
  refine (plan17 w).mono ?_
  rintro e w1 ⟨rfl, hb1⟩
  go_wp2_with fail
  obtain ⟨W, hW⟩ : ∃ W, W = w1.alloc (Obj.cells #[Value.int IntKind.i64 1, Value.int IntKind.i64 2, Value.int IntKind.i64 2, Value.int IntKind.i64 2] 26) := ⟨_, rfl⟩
  have p0 : W.cell? ⟨w1.heap.size, 0, none⟩ = some (.int .i64 1) := by rw [hW]; go_simp
  have p1 : W.cell? ⟨w1.heap.size, 1, none⟩ = some (.int .i64 2) := by rw [hW]; go_simp
  have p2 : W.cell? ⟨w1.heap.size, 2, none⟩ = some (.int .i64 2) := by rw [hW]; go_simp
  have p3 : W.cell? ⟨w1.heap.size, 3, none⟩ = some (.int .i64 2) := by rw [hW]; go_simp
  have hb : Below w.heap.size w W := by rw [hW]; exact btr hb1 (by go_grown)
  have hPl : w1.heap.size < W.heap.size := by rw [hW]; simp
  rw [← hW]
  clear hW hb1
  generalize w1.heap.size = P at *
  refine (size_of 1 2 2 2 6 28 _ okay17 (Lib.hid (by decide)) (Lib.hid (by decide))).mono ?_
  rintro e w2 ⟨rfl, hb2⟩
  replace p0 := keepc p0 hb2
  replace p1 := keepc p1 hb2
  replace p2 := keepc p2 hb2
  replace p3 := keepc p3 hb2
  replace hb := btr hb hb2
  replace hPl := Nat.lt_of_lt_of_le hPl hb2.size
  clear hb2
  go_wp2_with fail
  refine (new_n 34 w2 (by decide)).mono ?_
  rintro e w3 ⟨rfl, hs, hb2⟩
  have h : J w w3 (w2.heap.size + 1) w2.heap.size (List.replicate 34 0) := ⟨hs, btr hb hb2, hb.size⟩
  replace p0 := keepc p0 hb2
  replace p1 := keepc p1 hb2
  replace p2 := keepc p2 hb2
  replace p3 := keepc p3 hb2
  have hP0 : P ≠ w2.heap.size := by omega
  have hP := Lib.hid hP0
  have hSl0 := h.1.facts.2.2.2.2.1
  clear hb hb2 hs hP0
  generalize w2.heap.size + 1 = S at *
  generalize w2.heap.size = g at *
  go_wp2_with fail
  refine (new17 1 1 w3).mono ?_
  rintro e w4 ⟨rfl, hb2⟩
  replace p0 := keepc p0 hb2
  replace p1 := keepc p1 hb2
  replace p2 := keepc p2 hb2
  replace p3 := keepc p3 hb2
  replace h := h.below' hb2
  have hw03 := h.2.1.size
  clear hb2 hSl0
  go_wp2_with fail
  obtain ⟨W, hW⟩ : ∃ W, W = w4.alloc (Obj.cells #[Value.int IntKind.i64 1, Value.int IntKind.i64 2, Value.int IntKind.i64 2, Value.int IntKind.i64 2, Value.int IntKind.i64 1, Value.int IntKind.i64 1] 32) := ⟨_, rfl⟩
  have r0 : W.cell? ⟨w4.heap.size, 0, none⟩ = some (.int .i64 1) := by rw [hW]; go_simp
  have r1 : W.cell? ⟨w4.heap.size, 1, none⟩ = some (.int .i64 2) := by rw [hW]; go_simp
  have r2 : W.cell? ⟨w4.heap.size, 2, none⟩ = some (.int .i64 2) := by rw [hW]; go_simp
  have r3 : W.cell? ⟨w4.heap.size, 3, none⟩ = some (.int .i64 2) := by rw [hW]; go_simp
  have r4 : W.cell? ⟨w4.heap.size, 4, none⟩ = some (.int .i64 1) := by rw [hW]; go_simp
  have r5 : W.cell? ⟨w4.heap.size, 5, none⟩ = some (.int .i64 1) := by rw [hW]; go_simp
  have hb : Below w4.heap.size w4 W := by rw [hW]; go_grown
  rw [← hW]
  clear hW
  replace p0 := keepc p0 hb
  replace p1 := keepc p1 hb
  replace p2 := keepc p2 hb
  replace p3 := keepc p3 hb
  have hR0 : w4.heap.size ≠ g := by have := h.1.facts.2.2.2.2.2; omega
  have hR := Lib.hid hR0
  replace h := h.below' hb
  clear hb hR0 hw03
  generalize w4.heap.size = R at *
  have hF2 := hF
  refine (tsleep_new 1 1 0 _).mono ?_
  rintro e w5 ⟨A, rfl, hA, hnap, hb⟩
  have hAg : Hid (A ≠ g) := Lib.hid (by have := h.1.facts.2.2.2.2.2; omega)
  have hAS : Hid (A ≠ S) := Lib.hid (by have := h.1.facts.2.2.2.2.1; omega)
  have hA0 : Hid (w.heap.size ≤ A) := Lib.hid (by have := h.2.1.size; omega)
  have hPA : Hid (P ≠ A) := Lib.hid (by have := World.block_lt_of_cell? _ _ p0; simp at this; omega)
  have hRA : Hid (R ≠ A) := Lib.hid (by have := World.block_lt_of_cell? _ _ r0; simp at this; omega)
  replace p0 := keepc p0 hb
  replace p1 := keepc p1 hb
  replace p2 := keepc p2 hb
  replace p3 := keepc p3 hb
  replace r0 := keepc r0 hb
  replace r1 := keepc r1 hb
  replace r2 := keepc r2 hb
  replace r3 := keepc r3 hb
  replace r4 := keepc r4 hb
  replace r5 := keepc r5 hb
  replace h := h.below' hb
  clear hb hA
  go_wp2_with fail
  refine (nap_tells S g A 7 _ 1 1 0 6 0 false w _ h hnap hAg hAS hA0 (by decide) (by decide) hF (by decide) hq (by simp) (by simp) (Lib.hid (by decide))).mono ?_
  rintro e wz ⟨rfl, hj, hob, hk⟩
  replace h := hj
  replace p0 := hk.cell p0 hP.out hPA.out
  replace p1 := hk.cell p1 hP.out hPA.out
  replace p2 := hk.cell p2 hP.out hPA.out
  replace p3 := hk.cell p3 hP.out hPA.out
  replace r0 := hk.cell r0 hR.out hRA.out
  replace r1 := hk.cell r1 hR.out hRA.out
  replace r2 := hk.cell r2 hR.out hRA.out
  replace r3 := hk.cell r3 hR.out hRA.out
  replace r4 := hk.cell r4 hR.out hRA.out
  replace r5 := hk.cell r5 hR.out hRA.out
  replace hnap := hob
  clear hj hob hk
  go_wp2_with fail
  have hd11 : Hid ((((List.replicate 34 (0 : Int)).set 7 (tOf 1 0 0))).getD 11 0 = 0) := Lib.hid rfl
  refine (nap_looks_no S g A 11 _ 1 1 0 6 0 false w _ h hnap hAg hAS hA0 (by decide) (by decide) hF (by decide) hq (by simp) (by simp) (Lib.hid (by decide)) 0 hd11 (Lib.hid (by decide))).mono ?_
  rintro e wz ⟨rfl, hj, hob, hk⟩
  replace h := hj
  replace p0 := hk.cell p0 hP.out hPA.out
  replace p1 := hk.cell p1 hP.out hPA.out
  replace p2 := hk.cell p2 hP.out hPA.out
  replace p3 := hk.cell p3 hP.out hPA.out
  replace r0 := hk.cell r0 hR.out hRA.out
  replace r1 := hk.cell r1 hR.out hRA.out
  replace r2 := hk.cell r2 hR.out hRA.out
  replace r3 := hk.cell r3 hR.out hRA.out
  replace r4 := hk.cell r4 hR.out hRA.out
  replace r5 := hk.cell r5 hR.out hRA.out
  replace hnap := hob
  clear hj hob hk
  go_wp2_with fail
  refine (tclose_new 1 1 0 _).mono ?_
  rintro e w6 ⟨C, rfl, hC, hwake, hb⟩
  have hCg : Hid (C ≠ g) := Lib.hid (by have := h.1.facts.2.2.2.2.2; omega)
  have hCS : Hid (C ≠ S) := Lib.hid (by have := h.1.facts.2.2.2.2.1; omega)
  have hC0 : Hid (w.heap.size ≤ C) := Lib.hid (by have := h.2.1.size; omega)
  have hPC : Hid (P ≠ C) := Lib.hid (by have := World.block_lt_of_cell? _ _ p0; simp at this; omega)
  have hRC : Hid (R ≠ C) := Lib.hid (by have := World.block_lt_of_cell? _ _ r0; simp at this; omega)
  have hAC : Hid (A ≠ C) := Lib.hid (by have := lt_of_heap hnap; omega)
  replace p0 := keepc p0 hb
  replace p1 := keepc p1 hb
  replace p2 := keepc p2 hb
  replace p3 := keepc p3 hb
  replace r0 := keepc r0 hb
  replace r1 := keepc r1 hb
  replace r2 := keepc r2 hb
  replace r3 := keepc r3 hb
  replace r4 := keepc r4 hb
  replace r5 := keepc r5 hb
  replace hnap : NapAt w6 A 1 1 0 3 false := (hb.block A (lt_of_heap hnap)).trans hnap
  replace h := h.below' hb
  clear hb hC
  go_wp2_with fail
  refine (wake_tells S g C 11 _ 1 1 0 6 0 false w _ h hwake hCg hCS hC0 (by decide) (by decide) hF (by decide) hq (by simp) (by simp) (Lib.hid (by decide))).mono ?_
  rintro e wz ⟨rfl, hj, hob, hk⟩
  replace h := hj
  replace p0 := hk.cell p0 hP.out hPC.out
  replace p1 := hk.cell p1 hP.out hPC.out
  replace p2 := hk.cell p2 hP.out hPC.out
  replace p3 := hk.cell p3 hP.out hPC.out
  replace r0 := hk.cell r0 hR.out hRC.out
  replace r1 := hk.cell r1 hR.out hRC.out
  replace r2 := hk.cell r2 hR.out hRC.out
  replace r3 := hk.cell r3 hR.out hRC.out
  replace r4 := hk.cell r4 hR.out hRC.out
  replace r5 := hk.cell r5 hR.out hRC.out
  replace hwake := hob
  replace hnap : NapAt wz A 1 1 0 3 false := hk.block hnap hAg.out hAC.out
  clear hj hob hk
  go_wp2_with fail
  have hd7 : Hid ((((List.replicate 34 (0 : Int)).set 7 (tOf 1 0 0)).set 11 (tOf 1 0 0)).getD 7 0 = tOf 1 0 0) := Lib.hid rfl
  refine (wake_looks_yes S g C 7 _ 1 1 0 6 0 false w _ h hwake hCg hCS hC0 (by decide) (by decide) hF (by decide) hq (by simp) (by simp) (Lib.hid (by decide)) _ hd7 (Lib.hid (by simp))).mono ?_
  rintro e wz ⟨rfl, hj, hob, hk⟩
  replace h := hj
  replace p0 := hk.cell p0 hP.out hPC.out
  replace p1 := hk.cell p1 hP.out hPC.out
  replace p2 := hk.cell p2 hP.out hPC.out
  replace p3 := hk.cell p3 hP.out hPC.out
  replace r0 := hk.cell r0 hR.out hRC.out
  replace r1 := hk.cell r1 hR.out hRC.out
  replace r2 := hk.cell r2 hR.out hRC.out
  replace r3 := hk.cell r3 hR.out hRC.out
  replace r4 := hk.cell r4 hR.out hRC.out
  replace r5 := hk.cell r5 hR.out hRC.out
  replace hwake := hob
  replace hnap : NapAt wz A 1 1 0 3 false := hk.block hnap hAg.out hAC.out
  clear hj hob hk
  go_wp2_with fail
  refine (wake_rouses_yes S g C 7 _ 1 1 0 6 0 false w _ h hwake hCg hCS hC0 (by decide) (by decide) hF (by decide) hq (by simp) (by simp) (Lib.hid (by decide)) hd7).mono ?_
  rintro e wz ⟨rfl, hj, hob, hk⟩
  replace h := hj
  replace p0 := hk.cell p0 hP.out hPC.out
  replace p1 := hk.cell p1 hP.out hPC.out
  replace p2 := hk.cell p2 hP.out hPC.out
  replace p3 := hk.cell p3 hP.out hPC.out
  replace r0 := hk.cell r0 hR.out hRC.out
  replace r1 := hk.cell r1 hR.out hRC.out
  replace r2 := hk.cell r2 hR.out hRC.out
  replace r3 := hk.cell r3 hR.out hRC.out
  replace r4 := hk.cell r4 hR.out hRC.out
  replace r5 := hk.cell r5 hR.out hRC.out
  replace hwake := hob
  replace hnap : NapAt wz A 1 1 0 3 false := hk.block hnap hAg.out hAC.out
  clear hj hob hk
  go_wp2_with fail
  refine (size_of 1 2 2 2 6 28 _ okay17 (Lib.hid (by decide)) (Lib.hid (by decide))).mono ?_
  rintro e wz ⟨rfl, hb2⟩
  replace hnap : NapAt wz A 1 1 0 3 false := (hb2.block A (lt_of_heap hnap)).trans hnap
  replace hwake : WakeAt wz C 1 1 0 3 true := (hb2.block C (lt_of_heap hwake)).trans hwake
  replace h := h.below' hb2
  clear hb2
  go_wp2_with (first | (go_at_call 24; refine (nap_back A 1 1 0 3 false _ hnap).mono ?_; rintro e w7 ⟨rfl, rfl⟩) | (go_at_call 26; refine (wake_got C 1 1 0 3 true _ hwake).mono ?_; rintro e w7 ⟨rfl, rfl⟩))
  refine (may_of 3 4 0 _ true (by decide) (by decide) (by decide) (by decide) (Lib.hid (by decide))).mono ?_
  rintro e w8 ⟨rfl, rfl⟩
  go_wp2_with fail
  refine (may_of 4 4 0 _ false (by decide) (by decide) (by decide) (by decide) (Lib.hid (by decide))).mono ?_
  rintro e w9 ⟨rfl, rfl⟩
  go_wp2_with fail
  go_ret
  exact ⟨rfl, h.2.1⟩
end Go.Proofs.Ytemboonjikccnab
