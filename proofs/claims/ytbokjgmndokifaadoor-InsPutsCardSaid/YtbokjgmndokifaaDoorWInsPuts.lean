/- InsPuts, the walk (layer 3). -/
import Derived.Test.YtbokjgmndokifaaDoorInW
namespace Go.Proofs.YtbokjgmndokifaaDoor.insPuts
open Go.ChangeShapes Go.WideShapes Go.ChangeAt Go.RowKit
open Go.Proofs.YtbokjgmndokifaaDoor.bin Go.Proofs.YtbokjgmndokifaaDoor.bits Go.Proofs.YtbokjgmndokifaaDoor.ins
set_option linter.unusedVariables false
set_option linter.unusedSimpArgs false
theorem wf3 {A B C : Int} (h1 : (Lit.int .i64 A).wf = true) (h2 : (Lit.int .i64 B).wf = true) (h3 : (Lit.int .i64 C).wf = true) : Hid (∀ i, i < 3 → -9223372036854775808 ≤ (three A B C).getD i 0 ∧ (three A B C).getD i 0 ≤ 9223372036854775807) := Lib.hid fun i hi => by
  match i, hi with
  | 0, _ => exact bounds_i64 h1
  | 1, _ => exact bounds_i64 h2
  | 2, _ => exact bounds_i64 h3
set_option maxRecDepth 20000 in
set_option maxHeartbeats 4000000 in
theorem walk (a0_0 a0_1 a0_2 a0_3 : Int) (w : World) (w0_0 : (Lit.int .i64 a0_0).wf = true) (w0_1 : (Lit.int .i64 a0_1).wf = true) (w0_2 : (Lit.int .i64 a0_2).wf = true) (w0_3 : (Lit.int .i64 a0_3).wf = true) (hN : NM w) :
    Calls Tryd.prog 4 #[.agg #[.int .i64 a0_0, .int .i64 a0_1, .int .i64 a0_2, .int .i64 a0_3]] w fun e w' => e = .returned (.bool true) ∧ Below w.heap.size w w' := by
  have HW := wf3 w0_1 w0_2 w0_3
  obtain ⟨c, hc⟩ : ∃ c, chkI a0_0 a0_1 a0_2 a0_3 = c := ⟨_, rfl⟩
  have C1 := Lib.hid (fun w => pput_of a0_0 a0_1 a0_2 a0_3 c w hc)
  have C2 := Lib.hid (fun w => rput_of a0_0 a0_1 a0_2 a0_3 c w HW hc)
  have C4 := Lib.hid (fun w => pchk_of a0_0 a0_1 a0_2 a0_3 c w hc)
  have HEQ : ∀ w : World, (binOp .eql 30 (.agg #[.int .i64 a0_0, .int .i64 a0_1, .int .i64 a0_2, .int .i64 a0_3]) (.agg #[.int .i64 a0_0, .int .i64 a0_1, .int .i64 a0_2, .int .i64 a0_3])).run Tryd.prog w = .ok (.bool true) w := fun w => ins_eq _ _ _ _ _ _ _ _ true w (by simp)
  obtain ⟨s, hs⟩ : ∃ s, (if c = 0 then encI a0_0 a0_1 a0_2 a0_3 else []) = s := ⟨_, rfl⟩
  rw [hs] at C1 C2
  have hb0 : Below w.heap.size w (w.alloc (.cells #[.int .i64 a0_0, .int .i64 a0_1, .int .i64 a0_2, .int .i64 a0_3] 30)) := by go_grown
  have CW := Lib.hid (works03 _ (hN.below hb0))
  have C3 : Hid (∃ y0 y1 y2 y3 g : Int, (∀ w, Calls Tryd.prog 15 #[.string ⟨s.toArray⟩] w fun e w' => e = .returned (.tuple #[.agg #[.int .i64 y0, .int .i64 y1, .int .i64 y2, .int .i64 y3], .int .i64 g]) ∧ Below w.heap.size w w') ∧ (c = 0 → y0 = a0_0 ∧ y1 = a0_1 ∧ y2 = a0_2 ∧ y3 = a0_3 ∧ g = 0)) := Lib.hid (by
    by_cases h0 : c = 0
    · subst h0
      rw [if_pos rfl] at hs
      subst hs
      exact ⟨a0_0, a0_1, a0_2, a0_3, 0, fun w => by rw [← get_put _ _ _ _ hc]; exact pget_of _ w, fun _ => ⟨rfl, rfl, rfl, rfl, rfl⟩⟩
    · rw [if_neg h0] at hs
      subst hs
      exact ⟨0, 0, 0, 0, 1, fun w => by rw [← gv_nil]; exact pget_of _ w, fun h => absurd h h0⟩)
  obtain ⟨y0, y1, y2, y3, g, HG, hy⟩ := C3.out
  replace HG := Lib.hid HG
  have HX := Lib.hid (heap_new w #[.int .i64 a0_0, .int .i64 a0_1, .int .i64 a0_2, .int .i64 a0_3] 30)
  have HB0 := Lib.hid hb0
  clear C3 hs hc hb0 hN w0_0 w0_1 w0_2 w0_3
  go_enter Tryd.func4, Tryd.ntmps4
  go_wp2_with fail
  refine CW.out.mono ?_
  rintro e w1 ⟨rfl, hb1⟩
  have hx1 := kb HX.out hb1
  obtain ⟨p0, p1, p2, p3⟩ := cel4 hx1
  have HX1 := Lib.hid hx1
  have HB1 := Lib.hid (tr3 HB0.out hb1)
  clear CW hb1 hx1 HX HB0
  go_wp2_with fail
  refine (C1.out _).mono ?_
  rintro e w2 ⟨rfl, hb2⟩
  have hx2 := kb HX1.out hb2
  obtain ⟨q0, q1, q2, q3⟩ := cel4 hx2
  have HX2 := Lib.hid hx2
  have HB2 := Lib.hid (tr3 HB1.out hb2)
  clear hb2 hx2 HX1 HB1 p0 p1 p2 p3
  go_wp2_with fail
  refine (C2.out _).mono ?_
  rintro e w3 ⟨rfl, hb3⟩
  have HX3 := Lib.hid (kb HX2.out hb3)
  have HB3 := Lib.hid (tr3 HB2.out hb3)
  clear hb3 HX2 HB2 q0 q1 q2 q3
  go_wp2_with fail
  refine (HG.out _).mono ?_
  rintro e w4 ⟨rfl, hb4⟩
  obtain ⟨W5, hW5⟩ : ∃ W5, w4.alloc (.cells #[.int .i64 y0, .int .i64 y1, .int .i64 y2, .int .i64 y3] 30) = W5 := ⟨_, rfl⟩
  have hb5 : Below w4.heap.size w4 W5 := by rw [← hW5]; go_grown
  have hx5 := kb (kb HX3.out hb4) hb5
  obtain ⟨p0, p1, p2, p3⟩ := cel4 hx5
  have hy5 : W5.heap[w4.heap.size]? = some (.cells #[.int .i64 y0, .int .i64 y1, .int .i64 y2, .int .i64 y3] 30 (0, 0)) := by rw [← hW5]; exact heap_new _ _ _
  have HB5 := Lib.hid (tr3 (tr3 HB3.out hb4) hb5)
  have HX5 := Lib.hid hx5
  have HY5 := Lib.hid hy5
  have HW5 := Lib.hid hW5
  clear hb4 hb5 hx5 hy5 HX3 HB3 hW5
  by_cases h0 : c = 0
  · subst h0
    obtain ⟨rfl, rfl, rfl, rfl, rfl⟩ := hy rfl
    rw [← HW5.out] at p0 p1 p2 p3
    go_wp2_with fail
    rw [HW5.out]
    refine (C4.out _).mono ?_
    rintro e w6 ⟨rfl, hb6⟩
    obtain ⟨q0, q1, q2, q3⟩ := cel4 (kb HX5.out hb6)
    obtain ⟨r0, r1, r2, r3⟩ := cel4 (kb HY5.out hb6)
    have HB6 := Lib.hid (tr3 HB5.out hb6)
    clear hb6
    go_wp2_with fail
    go_ret
    exact ⟨rfl, HB6.out⟩
  · have hcb : (c == 0) = false := by simpa using h0
    have hcn : (c != 0) = true := by simpa using h0
    rw [← HW5.out] at p0 p1 p2 p3
    clear hy
    go_wp2_with fail
    rw [HW5.out]
    refine (C4.out _).mono ?_
    rintro e w6 ⟨rfl, hb6⟩
    have HB6 := Lib.hid (tr3 HB5.out hb6)
    clear hb6
    go_wp2_with fail
    go_ret
    exact ⟨rfl, HB6.out⟩
end Go.Proofs.YtbokjgmndokifaaDoor.insPuts
