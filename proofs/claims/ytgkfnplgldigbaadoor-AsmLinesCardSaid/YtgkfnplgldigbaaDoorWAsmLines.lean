/- Instructions in writing (layer 6): the walk of the law. -/
import Derived.Test.YtgkfnplgldigbaaDoorAsW
import Derived.Test.YtgkfnplgldigbaaDoorAsL
namespace Go.Proofs.YtgkfnplgldigbaaDoor.asmLines
open Go.ChangeShapes Go.WideShapes Go.ChangeAt Go.RowKit
open Go.Proofs.YtgkfnplgldigbaaDoor.st Go.Proofs.YtgkfnplgldigbaaDoor.wd Go.Proofs.YtgkfnplgldigbaaDoor.asm
set_option linter.unusedVariables false
set_option linter.unusedSimpArgs false
set_option maxRecDepth 20000 in
set_option maxHeartbeats 1600000 in
theorem walk (a0 a1 a2 a3 : Int) (l1 : ByteArray) (w : World) (w0_0 : (Lit.int .i64 a0).wf = true) (w0_1 : (Lit.int .i64 a1).wf = true) (w0_2 : (Lit.int .i64 a2).wf = true) (w0_3 : (Lit.int .i64 a3).wf = true) (w1 : l1.size ≤ maxLen) (hNM : ins.NM w ∧ wd.NM w) :
    Calls Tryd.prog 3 #[.agg #[.int .i64 a0, .int .i64 a1, .int .i64 a2, .int .i64 a3], .string l1] w fun e w' => e = .returned (.bool true) ∧ Below w.heap.size w w' := by
  obtain ⟨s, hs⟩ : ∃ s : List UInt8, l1 = ⟨s.toArray⟩ := ⟨l1.data.toList, by simp⟩
  subst hs
  have hfs := str_size s
  rw [hfs] at w1
  unfold maxLen at w1
  obtain ⟨hN, hM⟩ := hNM
  have hI1 : I64 a1 := bounds_i64 w0_1
  have hI2 : I64 a2 := bounds_i64 w0_2
  have hI3 : I64 a3 := bounds_i64 w0_3
  obtain ⟨W0, hW0⟩ : ∃ W0, w.alloc (.cells #[.int .i64 a0, .int .i64 a1, .int .i64 a2, .int .i64 a3] 23) = W0 := ⟨_, rfl⟩
  have k0 : W0.heap[w.heap.size]? = some (.cells #[.int .i64 a0, .int .i64 a1, .int .i64 a2, .int .i64 a3] 23 (0, 0)) := by rw [← hW0]; exact heap_new w _ _
  have b0 : Below w.heap.size w W0 := by rw [← hW0]; exact (Below.refl _ _).alloc (Nat.le_refl _) _
  have CW := Lib.hid (works06 W0 (hN.below b0) (hM.below b0))
  have HW0 := Lib.hid hW0
  have HK0 := Lib.hid k0
  have HB0 := Lib.hid b0
  have HN := Lib.hid hN
  have HM := Lib.hid hM
  clear hW0 k0 b0 hN hM w0_0 w0_1 w0_2 w0_3
  by_cases hbig : 1000 < s.length
  · have hbi : (1000 : Int) < s.length := by omega
    clear hI1 hI2 hI3
    go_enter Tryd.func3, Tryd.ntmps3
    go_wp2_with fail
    rw [HW0.out]
    refine CW.out.mono ?_
    rintro e w1 ⟨rfl, hb1⟩
    have HB1 := Lib.hid (tr3 HB0.out hb1)
    clear hb1
    go_wp2_with fail
    go_ret
    exact ⟨rfl, HB1.out⟩
  · have hbi : ¬ (1000 : Int) < s.length := by omega
    have C1 := Lib.hid (fun w hN hM => parse_v s w (by omega) hN hM)
    have C2 := Lib.hid (fun w => rparse_v s w (by omega))
    have C3 := Lib.hid (fun w hN hM => line_v a0 a1 a2 a3 w hI1 hI2 hI3 hN hM)
    have C5 := Lib.hid (fun w => rline_v a0 a1 a2 a3 w hI1 hI2 hI3)
    obtain ⟨⟨⟨p0, p1, p2, p3⟩, pe⟩, hp⟩ : ∃ r, parV s = r := ⟨_, rfl⟩
    rw [hp] at C1 C2
    unfold PV IV at C1 C2
    dsimp only at C1 C2
    have HEQ : ∀ w : World, (binOp .eql 23 (.agg #[.int .i64 p0, .int .i64 p1, .int .i64 p2, .int .i64 p3]) (.agg #[.int .i64 p0, .int .i64 p1, .int .i64 p2, .int .i64 p3])).run Tryd.prog w = .ok (.bool true) w := fun w => ins.ins_eq p0 p1 p2 p3 p0 p1 p2 p3 true w (by simp)
    have hee : (pe == pe) = true := by simp
    obtain ⟨U, hU⟩ : ∃ U, lineV (a0, a1, a2, a3) = U := ⟨_, rfl⟩
    rw [hU] at C3 C5
    have hUU : (U == U) = true := by simp
    clear hp
    by_cases hck : chk (a0, a1, a2, a3) = 0
    · obtain ⟨hq1, hq2, _⟩ := par_line hck
      have hql := line_len hck
      rw [hU] at hq1 hq2 hql
      have hUn : (U == []) = false := by
        rw [beq_eq_false_iff_ne]
        rintro rfl
        exact hq2 rfl
      have hUe : ¬ U = [] := by
        rintro rfl
        exact hq2 rfl
      have C4 := Lib.hid (fun w hN hM => parse_v U w (by omega) hN hM)
      rw [hq1] at C4
      unfold PV IV at C4
      dsimp only at C4
      have HEX : ∀ w : World, (binOp .eql 23 (.agg #[.int .i64 a0, .int .i64 a1, .int .i64 a2, .int .i64 a3]) (.agg #[.int .i64 a0, .int .i64 a1, .int .i64 a2, .int .i64 a3])).run Tryd.prog w = .ok (.bool true) w := fun w => ins.ins_eq a0 a1 a2 a3 a0 a1 a2 a3 true w (by simp)
      clear hq1 hq2 hql hck hU hI1 hI2 hI3
      go_enter Tryd.func3, Tryd.ntmps3
      go_wp2_with fail
      rw [HW0.out]
      refine CW.out.mono ?_
      rintro e w1 ⟨rfl, hb1⟩
      have HK1 := Lib.hid (kb HK0.out hb1)
      have HB1 := Lib.hid (tr3 HB0.out hb1)
      clear hb1 CW HK0 HB0 HW0
      go_wp2_with fail
      refine (C1.out _ (HN.out.below HB1.out) (HM.out.below HB1.out)).mono ?_
      rintro e w2 ⟨rfl, hb2⟩
      obtain ⟨W2, hW2⟩ : ∃ W2, w2.alloc (.cells #[.int .i64 p0, .int .i64 p1, .int .i64 p2, .int .i64 p3] 23) = W2 := ⟨_, rfl⟩
      have k2 : W2.heap[w2.heap.size]? = some (.cells #[.int .i64 p0, .int .i64 p1, .int .i64 p2, .int .i64 p3] 23 (0, 0)) := by rw [← hW2]; exact heap_new w2 _ _
      have b2 : Below w2.heap.size w2 W2 := by rw [← hW2]; exact (Below.refl _ _).alloc (Nat.le_refl _) _
      have HK2 := Lib.hid (kb HK1.out (tr3 hb2 b2))
      have HB2 := Lib.hid (tr3 HB1.out (tr3 hb2 b2))
      have HY2 := Lib.hid k2
      have HW2 := Lib.hid hW2
      clear hb2 k2 b2 hW2 C1 HK1 HB1
      go_wp2_with fail
      rw [HW2.out]
      refine (C2.out _).mono ?_
      rintro e w3 ⟨rfl, hb3⟩
      obtain ⟨W3, hW3⟩ : ∃ W3, w3.alloc (.cells #[.int .i64 p0, .int .i64 p1, .int .i64 p2, .int .i64 p3] 23) = W3 := ⟨_, rfl⟩
      have k3 : W3.heap[w3.heap.size]? = some (.cells #[.int .i64 p0, .int .i64 p1, .int .i64 p2, .int .i64 p3] 23 (0, 0)) := by rw [← hW3]; exact heap_new w3 _ _
      have b3 : Below w3.heap.size w3 W3 := by rw [← hW3]; exact (Below.refl _ _).alloc (Nat.le_refl _) _
      have HB3 := Lib.hid (tr3 HB2.out (tr3 hb3 b3))
      have hn3 := kb HK2.out (tr3 hb3 b3)
      have HK3 := Lib.hid hn3
      have HY3 := Lib.hid (kb HY2.out (tr3 hb3 b3))
      have HZ3 := Lib.hid k3
      have x0 : W3.cell? ⟨w.heap.size, 0, none⟩ = some (.int .i64 a0) := cel hn3 0
      have x1 : W3.cell? ⟨w.heap.size, 1, none⟩ = some (.int .i64 a1) := cel hn3 1
      have x2 : W3.cell? ⟨w.heap.size, 2, none⟩ = some (.int .i64 a2) := cel hn3 2
      have x3 : W3.cell? ⟨w.heap.size, 3, none⟩ = some (.int .i64 a3) := cel hn3 3
      have C3b := C3.out W3 (HN.out.below HB3.out) (HM.out.below HB3.out)
      rw [← hW3] at C3b x0 x1 x2 x3
      have HW3 := Lib.hid hW3
      replace C3b := Lib.hid C3b
      clear hb3 k3 b3 hn3 C2 C3 HK2 HB2 HY2 HW2 hW3
      go_wp2_with fail
      refine C3b.out.mono ?_
      rw [HW3.out]
      rintro e w4 ⟨rfl, hb4⟩
      have HB4 := Lib.hid (tr3 HB3.out hb4)
      have HK4 := Lib.hid (kb HK3.out hb4)
      have HY4 := Lib.hid (kb HY3.out hb4)
      have HZ4 := Lib.hid (kb HZ3.out hb4)
      clear hb4 x0 x1 x2 x3 C3b HB3 HK3 HY3 HZ3 HW3
      go_wp2_with fail
      refine (C4.out _ (HN.out.below HB4.out) (HM.out.below HB4.out)).mono ?_
      rintro e w5 ⟨rfl, hb5⟩
      obtain ⟨W5, hW5⟩ : ∃ W5, w5.alloc (.cells #[.int .i64 a0, .int .i64 a1, .int .i64 a2, .int .i64 a3] 23) = W5 := ⟨_, rfl⟩
      have k5 : W5.heap[w5.heap.size]? = some (.cells #[.int .i64 a0, .int .i64 a1, .int .i64 a2, .int .i64 a3] 23 (0, 0)) := by rw [← hW5]; exact heap_new w5 _ _
      have b5 : Below w5.heap.size w5 W5 := by rw [← hW5]; exact (Below.refl _ _).alloc (Nat.le_refl _) _
      have HB5 := Lib.hid (tr3 HB4.out (tr3 hb5 b5))
      have hn5 := kb HK4.out (tr3 hb5 b5)
      have hy5 := kb HY4.out (tr3 hb5 b5)
      have hz5 := kb HZ4.out (tr3 hb5 b5)
      have x0 : W5.cell? ⟨w.heap.size, 0, none⟩ = some (.int .i64 a0) := cel hn5 0
      have x1 : W5.cell? ⟨w.heap.size, 1, none⟩ = some (.int .i64 a1) := cel hn5 1
      have x2 : W5.cell? ⟨w.heap.size, 2, none⟩ = some (.int .i64 a2) := cel hn5 2
      have x3 : W5.cell? ⟨w.heap.size, 3, none⟩ = some (.int .i64 a3) := cel hn5 3
      have y0 : W5.cell? ⟨w2.heap.size, 0, none⟩ = some (.int .i64 p0) := cel hy5 0
      have y1 : W5.cell? ⟨w2.heap.size, 1, none⟩ = some (.int .i64 p1) := cel hy5 1
      have y2 : W5.cell? ⟨w2.heap.size, 2, none⟩ = some (.int .i64 p2) := cel hy5 2
      have y3 : W5.cell? ⟨w2.heap.size, 3, none⟩ = some (.int .i64 p3) := cel hy5 3
      have z0 : W5.cell? ⟨w3.heap.size, 0, none⟩ = some (.int .i64 p0) := cel hz5 0
      have z1 : W5.cell? ⟨w3.heap.size, 1, none⟩ = some (.int .i64 p1) := cel hz5 1
      have z2 : W5.cell? ⟨w3.heap.size, 2, none⟩ = some (.int .i64 p2) := cel hz5 2
      have z3 : W5.cell? ⟨w3.heap.size, 3, none⟩ = some (.int .i64 p3) := cel hz5 3
      have C5b := C5.out W5
      have HWS := Lib.hid (fun (w' : World) (hb : Below W5.heap.size W5 w') => And.intro (kb hn5 hb) (And.intro (kb k5 hb) (tr3 HB5.out hb)))
      rw [← hW5] at C5b HWS x0 x1 x2 x3 y0 y1 y2 y3 z0 z1 z2 z3
      replace C5b := Lib.hid C5b
      clear hb5 k5 b5 hW5 hn5 hy5 hz5 C4 C5 HB4 HK4 HY4 HZ4
      go_wp2_with (go_at_call 11; (refine C5b.out.mono ?_); rintro e w6 ⟨rfl, hb6⟩; have hq := HWS.out _ hb6; (obtain ⟨q1, q2, q3⟩ := hq); have q10 := cel q1 0; have q11 := cel q1 1; have q12 := cel q1 2; have q13 := cel q1 3; have q20 := cel q2 0; have q21 := cel q2 1; have q22 := cel q2 2; have q23 := cel q2 3; simp at q10 q11 q12 q13 q20 q21 q22 q23)
      go_ret
      exact ⟨rfl, q3⟩
    · have hU0 : U = [] := by rw [← hU]; exact if_neg hck
      subst hU0
      have C4 := Lib.hid (fun w hN hM => parse_v [] w (by simp) hN hM)
      rw [show parV [] = (zero4, 7) from rfl] at C4
      unfold PV IV at C4
      dsimp only [zero4] at C4
      clear hck hU hI1 hI2 hI3
      go_enter Tryd.func3, Tryd.ntmps3
      go_wp2_with fail
      rw [HW0.out]
      refine CW.out.mono ?_
      rintro e w1 ⟨rfl, hb1⟩
      have HK1 := Lib.hid (kb HK0.out hb1)
      have HB1 := Lib.hid (tr3 HB0.out hb1)
      clear hb1 CW HK0 HB0 HW0
      go_wp2_with fail
      refine (C1.out _ (HN.out.below HB1.out) (HM.out.below HB1.out)).mono ?_
      rintro e w2 ⟨rfl, hb2⟩
      obtain ⟨W2, hW2⟩ : ∃ W2, w2.alloc (.cells #[.int .i64 p0, .int .i64 p1, .int .i64 p2, .int .i64 p3] 23) = W2 := ⟨_, rfl⟩
      have k2 : W2.heap[w2.heap.size]? = some (.cells #[.int .i64 p0, .int .i64 p1, .int .i64 p2, .int .i64 p3] 23 (0, 0)) := by rw [← hW2]; exact heap_new w2 _ _
      have b2 : Below w2.heap.size w2 W2 := by rw [← hW2]; exact (Below.refl _ _).alloc (Nat.le_refl _) _
      have HK2 := Lib.hid (kb HK1.out (tr3 hb2 b2))
      have HB2 := Lib.hid (tr3 HB1.out (tr3 hb2 b2))
      have HY2 := Lib.hid k2
      have HW2 := Lib.hid hW2
      clear hb2 k2 b2 hW2 C1 HK1 HB1
      go_wp2_with fail
      rw [HW2.out]
      refine (C2.out _).mono ?_
      rintro e w3 ⟨rfl, hb3⟩
      obtain ⟨W3, hW3⟩ : ∃ W3, w3.alloc (.cells #[.int .i64 p0, .int .i64 p1, .int .i64 p2, .int .i64 p3] 23) = W3 := ⟨_, rfl⟩
      have k3 : W3.heap[w3.heap.size]? = some (.cells #[.int .i64 p0, .int .i64 p1, .int .i64 p2, .int .i64 p3] 23 (0, 0)) := by rw [← hW3]; exact heap_new w3 _ _
      have b3 : Below w3.heap.size w3 W3 := by rw [← hW3]; exact (Below.refl _ _).alloc (Nat.le_refl _) _
      have HB3 := Lib.hid (tr3 HB2.out (tr3 hb3 b3))
      have hn3 := kb HK2.out (tr3 hb3 b3)
      have HK3 := Lib.hid hn3
      have HY3 := Lib.hid (kb HY2.out (tr3 hb3 b3))
      have HZ3 := Lib.hid k3
      have x0 : W3.cell? ⟨w.heap.size, 0, none⟩ = some (.int .i64 a0) := cel hn3 0
      have x1 : W3.cell? ⟨w.heap.size, 1, none⟩ = some (.int .i64 a1) := cel hn3 1
      have x2 : W3.cell? ⟨w.heap.size, 2, none⟩ = some (.int .i64 a2) := cel hn3 2
      have x3 : W3.cell? ⟨w.heap.size, 3, none⟩ = some (.int .i64 a3) := cel hn3 3
      have C3b := C3.out W3 (HN.out.below HB3.out) (HM.out.below HB3.out)
      rw [← hW3] at C3b x0 x1 x2 x3
      have HW3 := Lib.hid hW3
      replace C3b := Lib.hid C3b
      clear hb3 k3 b3 hn3 C2 C3 HK2 HB2 HY2 HW2 hW3
      go_wp2_with fail
      refine C3b.out.mono ?_
      rw [HW3.out]
      rintro e w4 ⟨rfl, hb4⟩
      have HB4 := Lib.hid (tr3 HB3.out hb4)
      have HK4 := Lib.hid (kb HK3.out hb4)
      have HY4 := Lib.hid (kb HY3.out hb4)
      have HZ4 := Lib.hid (kb HZ3.out hb4)
      clear hb4 x0 x1 x2 x3 C3b HB3 HK3 HY3 HZ3 HW3
      go_wp2_with fail
      refine (C4.out _ (HN.out.below HB4.out) (HM.out.below HB4.out)).mono ?_
      rintro e w5 ⟨rfl, hb5⟩
      obtain ⟨W5, hW5⟩ : ∃ W5, w5.alloc (.cells #[.int .i64 0, .int .i64 0, .int .i64 0, .int .i64 0] 23) = W5 := ⟨_, rfl⟩
      have k5 : W5.heap[w5.heap.size]? = some (.cells #[.int .i64 0, .int .i64 0, .int .i64 0, .int .i64 0] 23 (0, 0)) := by rw [← hW5]; exact heap_new w5 _ _
      have b5 : Below w5.heap.size w5 W5 := by rw [← hW5]; exact (Below.refl _ _).alloc (Nat.le_refl _) _
      have HB5 := Lib.hid (tr3 HB4.out (tr3 hb5 b5))
      have hn5 := kb HK4.out (tr3 hb5 b5)
      have hy5 := kb HY4.out (tr3 hb5 b5)
      have hz5 := kb HZ4.out (tr3 hb5 b5)
      have x0 : W5.cell? ⟨w.heap.size, 0, none⟩ = some (.int .i64 a0) := cel hn5 0
      have x1 : W5.cell? ⟨w.heap.size, 1, none⟩ = some (.int .i64 a1) := cel hn5 1
      have x2 : W5.cell? ⟨w.heap.size, 2, none⟩ = some (.int .i64 a2) := cel hn5 2
      have x3 : W5.cell? ⟨w.heap.size, 3, none⟩ = some (.int .i64 a3) := cel hn5 3
      have y0 : W5.cell? ⟨w2.heap.size, 0, none⟩ = some (.int .i64 p0) := cel hy5 0
      have y1 : W5.cell? ⟨w2.heap.size, 1, none⟩ = some (.int .i64 p1) := cel hy5 1
      have y2 : W5.cell? ⟨w2.heap.size, 2, none⟩ = some (.int .i64 p2) := cel hy5 2
      have y3 : W5.cell? ⟨w2.heap.size, 3, none⟩ = some (.int .i64 p3) := cel hy5 3
      have z0 : W5.cell? ⟨w3.heap.size, 0, none⟩ = some (.int .i64 p0) := cel hz5 0
      have z1 : W5.cell? ⟨w3.heap.size, 1, none⟩ = some (.int .i64 p1) := cel hz5 1
      have z2 : W5.cell? ⟨w3.heap.size, 2, none⟩ = some (.int .i64 p2) := cel hz5 2
      have z3 : W5.cell? ⟨w3.heap.size, 3, none⟩ = some (.int .i64 p3) := cel hz5 3
      have C5b := C5.out W5
      have HWS := Lib.hid (fun (w' : World) (hb : Below W5.heap.size W5 w') => And.intro (kb hn5 hb) (And.intro (kb k5 hb) (tr3 HB5.out hb)))
      rw [← hW5] at C5b HWS x0 x1 x2 x3 y0 y1 y2 y3 z0 z1 z2 z3
      replace C5b := Lib.hid C5b
      clear hb5 k5 b5 hW5 hn5 hy5 hz5 C4 C5 HB4 HK4 HY4 HZ4
      go_wp2_with (go_at_call 11; (refine C5b.out.mono ?_); rintro e w6 ⟨rfl, hb6⟩; have hq := HWS.out _ hb6; (obtain ⟨q1, q2, q3⟩ := hq); have q10 := cel q1 0; have q11 := cel q1 1; have q12 := cel q1 2; have q13 := cel q1 3; have q20 := cel q2 0; have q21 := cel q2 1; have q22 := cel q2 2; have q23 := cel q2 3; simp at q10 q11 q12 q13 q20 q21 q22 q23)
      go_ret
      exact ⟨rfl, q3⟩
end Go.Proofs.YtgkfnplgldigbaaDoor.asmLines
