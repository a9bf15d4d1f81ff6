/- Of a plan that may not be there are no frames: the law FrameNone answers true. No condition. -/
import Derived.Test.YtajmmglfdinahaaFrW
namespace Go.Proofs.Ytajmmglfdinahaa.frameNone
open Go.ChangeShapes Go.WideShapes Go.ChangeAt Go.RowKit
open Go.Proofs.Ytajmmglfdinahaa.ar Go.Proofs.Ytajmmglfdinahaa.fr
attribute [local go_sem ↓] Go.wp_at_zero Go.wp_at_succ
set_option linter.unusedVariables false
set_option linter.unusedSimpArgs false
set_option maxRecDepth 20000 in
theorem make0 (T S A L n : Nat) (a b c d : Int) (Sx : Nat → Prop) (B : Nat) (w : World) (ht : TAt w T a b c d S A L n) (ha : AS Sx B A w 0 0 0 (.slice none 0 0) (.slice none 0 0) (.slice none 0 0) (.slice none 0 0) [] []) : Calls Try.prog 49 #[.pointer (some ⟨T, 0, none⟩), (.agg #[.int .i64 1, .int .i64 0, .int .i64 0, .int .i64 0, .int .i64 0, .int .i64 0, .int .i64 0, .int .i64 0, .int .i64 0, .int .i64 0, .int .i64 0, .int .i64 0, .bool false, .bool false, .int .i64 0, .int .i64 0, .int .i64 0, .int .i64 0, .int .i64 0])] w fun e w' => e = .returned (.tuple #[.int .i64 0, .bool false]) ∧ Below w.heap.size w w' := by
  have hb0 : Below w.heap.size w (w.alloc (Obj.cells #[.int .i64 1, .int .i64 0, .int .i64 0, .int .i64 0, .int .i64 0, .int .i64 0, .int .i64 0, .int .i64 0, .int .i64 0, .int .i64 0, .int .i64 0, .int .i64 0, .bool false, .bool false, .int .i64 0, .int .i64 0, .int .i64 0, .int .i64 0, .int .i64 0] 67)) := by go_grown
  have C := Lib.hid (take_no (w.alloc (Obj.cells #[.int .i64 1, .int .i64 0, .int .i64 0, .int .i64 0, .int .i64 0, .int .i64 0, .int .i64 0, .int .i64 0, .int .i64 0, .int .i64 0, .int .i64 0, .int .i64 0, .bool false, .bool false, .int .i64 0, .int .i64 0, .int .i64 0, .int .i64 0, .int .i64 0] 67)) (ha.below hb0))
  have ht2 : TAt (w.alloc (Obj.cells #[.int .i64 1, .int .i64 0, .int .i64 0, .int .i64 0, .int .i64 0, .int .i64 0, .int .i64 0, .int .i64 0, .int .i64 0, .int .i64 0, .int .i64 0, .int .i64 0, .bool false, .bool false, .int .i64 0, .int .i64 0, .int .i64 0, .int .i64 0, .int .i64 0] 67)) T a b c d S A L n := (hb0.block _ (lt_of_heap ht)).trans ht
  obtain ⟨t0, t1, t2, t3, t4, t5, t6⟩ := ht2.cells
  clear ht ht2 ha
  go_enter Try.func49, Try.ntmps49
  go_wp2_with fail
  refine C.out.mono ?_
  rintro e w1 ⟨rfl, hA, hb⟩
  have hb2 : Below w.heap.size w w1 := btn hb0 (hb.mono hb0.size)
  clear t0 t1 t2 t3 t4 t5 t6 hA hb
  go_wp2_with fail
  go_ret2
  exact ⟨rfl, hb2⟩
set_option maxRecDepth 20000 in
theorem at0 (T S A L n : Nat) (a b c d : Int) (Sx : Nat → Prop) (B : Nat) (w : World) (ht : TAt w T a b c d S A L n) (ha : AS Sx B A w 0 0 0 (.slice none 0 0) (.slice none 0 0) (.slice none 0 0) (.slice none 0 0) [] []) : Calls Try.prog 53 #[.pointer (some ⟨T, 0, none⟩), .int .i64 1] w fun e w' => e = .returned (.pointer none) ∧ w' = w := by
  have C := held_of (hs := []) (m := 0) (p := 0) (bk := []) w 1 ha (by simp)
  rw [show heldB [] 1 = false by decide] at C
  have C := Lib.hid C
  obtain ⟨t0, t1, t2, t3, t4, t5, t6⟩ := ht.cells
  clear ht ha
  go_enter Try.func53, Try.ntmps53
  go_wp2_with (first | (go_at_call 20; refine C.out.mono ?_; rintro e w1 ⟨rfl, rfl⟩))
  go_ret
  exact ⟨rfl, rfl⟩
set_option maxRecDepth 20000 in
theorem used0 (T S A L n : Nat) (a b c d : Int) (Sx : Nat → Prop) (B : Nat) (w : World) (ht : TAt w T a b c d S A L n) (ha : AS Sx B A w 0 0 0 (.slice none 0 0) (.slice none 0 0) (.slice none 0 0) (.slice none 0 0) [] []) : Calls Try.prog 55 #[.pointer (some ⟨T, 0, none⟩)] w fun e w' => e = .returned (.int .i64 0) ∧ Below w.heap.size w w' := by
  have C := Lib.hid (used_of Sx B A 0 0 _ _ [] [] w (by simp) ha)
  obtain ⟨t0, t1, t2, t3, t4, t5, t6⟩ := ht.cells
  clear ht ha
  go_enter Try.func55, Try.ntmps55
  go_wp2_with fail
  refine C.out.mono ?_
  rintro e w1 ⟨rfl, hb⟩
  clear t0 t1 t2 t3 t4 t5 t6
  go_wp2_with fail
  go_ret
  exact ⟨rfl, hb⟩
theorem peak0 (T S A L n : Nat) (a b c d : Int) (Sx : Nat → Prop) (B : Nat) (w : World) (ht : TAt w T a b c d S A L n) (ha : AS Sx B A w 0 0 0 (.slice none 0 0) (.slice none 0 0) (.slice none 0 0) (.slice none 0 0) [] []) : Calls Try.prog 56 #[.pointer (some ⟨T, 0, none⟩)] w fun e w' => e = .returned (.int .i64 0) ∧ w' = w := by
  have C := Lib.hid (peak_of w ha)
  obtain ⟨t0, t1, t2, t3, t4, t5, t6⟩ := ht.cells
  clear ht ha
  go_enter Try.func56, Try.ntmps56
  go_wp2_with fail
  refine C.out.mono ?_
  rintro e w1 ⟨rfl, rfl⟩
  go_wp2_with fail
  go_ret
  exact ⟨rfl, rfl⟩
set_option maxHeartbeats 2000000 in
set_option maxRecDepth 20000 in
theorem okay (a b c d : Int) (w : World) (hO : Hid (Okay a b c d)) : Calls Try.prog 10 #[.agg #[.int .i64 a, .int .i64 b, .int .i64 c, .int .i64 d]] w fun e w' => e = .returned (.bool true) ∧ Below w.heap.size w w' := by
  go_enter Try.func10, Try.ntmps10
  go_wp2_with fail
  refine (works16 _).mono ?_
  rintro e w1 ⟨rfl, hb⟩
  obtain ⟨p0, p1, p2, p3, hbw⟩ : w1.cell? ⟨w.heap.size, 0, none⟩ = some (.int .i64 a) ∧ w1.cell? ⟨w.heap.size, 1, none⟩ = some (.int .i64 b) ∧ w1.cell? ⟨w.heap.size, 2, none⟩ = some (.int .i64 c) ∧ w1.cell? ⟨w.heap.size, 3, none⟩ = some (.int .i64 d) ∧ Below w.heap.size w w1 := fr.keep4 hb
  clear hb
  go_wp2_with fail
  refine (check_ok a b c d _ hO).mono ?_
  rintro e w2 ⟨rfl, hb⟩
  replace hbw := btn hbw (hb.mono hbw.size)
  clear hb p0 p1 p2 p3
  go_wp2_with fail
  go_ret
  exact ⟨rfl, hbw⟩
set_option maxHeartbeats 2000000 in
set_option maxRecDepth 20000 in
theorem bad (a b c d : Int) (w : World) (hO : Hid (¬ Okay a b c d)) : Calls Try.prog 10 #[.agg #[.int .i64 a, .int .i64 b, .int .i64 c, .int .i64 d]] w fun e w' => e = .returned (.bool true) ∧ Below w.heap.size w w' := by
  go_enter Try.func10, Try.ntmps10
  go_wp2_with fail
  refine (works16 _).mono ?_
  rintro e w1 ⟨rfl, hb⟩
  obtain ⟨p0, p1, p2, p3, hbw⟩ : w1.cell? ⟨w.heap.size, 0, none⟩ = some (.int .i64 a) ∧ w1.cell? ⟨w.heap.size, 1, none⟩ = some (.int .i64 b) ∧ w1.cell? ⟨w.heap.size, 2, none⟩ = some (.int .i64 c) ∧ w1.cell? ⟨w.heap.size, 3, none⟩ = some (.int .i64 d) ∧ Below w.heap.size w w1 := fr.keep4 hb
  clear hb
  go_wp2_with fail
  refine (check_no a b c d _ hO).mono ?_
  rintro e w2 ⟨rfl, hb⟩
  replace hbw := btn hbw (hb.mono hbw.size)
  replace p0 := keepc p0 hb
  replace p1 := keepc p1 hb
  replace p2 := keepc p2 hb
  replace p3 := keepc p3 hb
  clear hb
  go_wp2_with fail
  go_region_held3 (fun w' => Below w2.heap.size w2 w' ∧ w'.cell? ⟨w.heap.size, 0, none⟩ = some (.int .i64 a) ∧ w'.cell? ⟨w.heap.size, 1, none⟩ = some (.int .i64 b) ∧ w'.cell? ⟨w.heap.size, 2, none⟩ = some (.int .i64 c) ∧ w'.cell? ⟨w.heap.size, 3, none⟩ = some (.int .i64 d)) (first | (with_reducible assumption) | exact ⟨Below.refl _ _, p0, p1, p2, p3⟩ | (refine fr.keepB ⟨Below.refl _ _, p0, p1, p2, p3⟩ ?_; go_grown; done) | (refine fr.keepB ⟨Below.refl _ _, p0, p1, p2, p3⟩ ?_; exact hb4) | (refine fr.keepB (by with_reducible assumption) ?_; first | (with_reducible assumption) | (go_grown; done)))
    (first | (go_at_call 33; refine (new_n 100 _ (by decide)).mono ?_; rintro e w3 ⟨rfl, hs, hb3⟩; have hb4 : Below w2.heap.size w2 w3 := btn (by go_grown) hb3) | (go_at_call 48; refine (tab_none _ a b c d hO 0 _ (by omega)).mono ?_; rintro e w5 ⟨T, A, L, rfl, ht, hl, ha, hd, hb5⟩))
  have HT := Lib.hid ht
  have HA := Lib.hid ha
  replace hbw := btn hbw ((btn hb4 (hb5.mono hb4.size)).mono hbw.size)
  clear ht ha hl hd hb3 hb4 hb5 hs p0 p1 p2 p3
  go_wp2_with fail
  refine (root_of _).mono ?_
  rintro e w6 ⟨rfl, hb⟩
  replace HT : Hid (TAt w6 T a b c d (w2.heap.size + 1) A L 0) := Lib.hid ((hb.block _ (lt_of_heap HT.out)).trans HT.out)
  replace HA := Lib.hid (HA.out.below hb)
  replace hbw := btn hbw (hb.mono hbw.size)
  clear hb
  go_wp2_with fail
  refine (make0 T (w2.heap.size + 1) A L 0 a b c d _ 0 _ HT.out HA.out).mono ?_
  rintro e w7 ⟨rfl, hb⟩
  replace HT : Hid (TAt w7 T a b c d (w2.heap.size + 1) A L 0) := Lib.hid ((hb.block _ (lt_of_heap HT.out)).trans HT.out)
  replace HA := Lib.hid (HA.out.below hb)
  replace hbw := btn hbw (hb.mono hbw.size)
  clear hb
  go_wp2_with fail
  refine (at0 T (w2.heap.size + 1) A L 0 a b c d _ 0 _ HT.out HA.out).mono ?_
  rintro e w8 ⟨rfl, rfl⟩
  go_wp2_with fail
  refine (used0 T (w2.heap.size + 1) A L 0 a b c d _ 0 _ HT.out HA.out).mono ?_
  rintro e w9 ⟨rfl, hb⟩
  replace HT : Hid (TAt w9 T a b c d (w2.heap.size + 1) A L 0) := Lib.hid ((hb.block _ (lt_of_heap HT.out)).trans HT.out)
  replace HA := Lib.hid (HA.out.below hb)
  replace hbw := btn hbw (hb.mono hbw.size)
  clear hb
  go_wp2_with fail
  refine (peak0 T (w2.heap.size + 1) A L 0 a b c d _ 0 _ HT.out HA.out).mono ?_
  rintro e wx ⟨rfl, rfl⟩
  go_wp2_with fail
  go_ret
  exact ⟨rfl, hbw⟩
theorem walk (a0_0 a0_1 a0_2 a0_3 : Int) (w : World) (w0_0 : (Lit.int .i64 a0_0).wf = true) (w0_1 : (Lit.int .i64 a0_1).wf = true) (w0_2 : (Lit.int .i64 a0_2).wf = true) (w0_3 : (Lit.int .i64 a0_3).wf = true) :
    Calls Try.prog 10 #[.agg #[.int .i64 a0_0, .int .i64 a0_1, .int .i64 a0_2, .int .i64 a0_3]] w fun e w' => e = .returned (.bool true) ∧ Below w.heap.size w w' := by
  by_cases h : Okay a0_0 a0_1 a0_2 a0_3
  · exact okay _ _ _ _ w (Lib.hid h)
  · exact bad _ _ _ _ w (Lib.hid h)
end Go.Proofs.Ytajmmglfdinahaa.frameNone
