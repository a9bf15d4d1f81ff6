/- That the laws of layer 12 begin. -/
import Derived.Test.YtfigabjcmpakeabTicket
namespace Go.Proofs.Ytfigabjcmpakeab
open Go.ChangeShapes Go.WideShapes Go.ChangeAt Go.RowKit
set_option linter.unusedVariables false
set_option linter.unusedSimpArgs false
theorem tnumber_j (S g : Nat) (xs : List Int) (a n : Int) (w0 w : World) (h : J w0 w S g xs) : Calls Try.prog 19 #[.agg #[.int .i64 a, .int .i64 n]] w fun e w' => e = .returned (.int .i64 n) ∧ J w0 w' S g xs ∧ Keep g w w' := by
  have H := Lib.hid h
  clear h
  go_enter Try.func19, Try.ntmps19
  go_wp2_with fail
  go_ret
  have hb : Below w.heap.size w (w.alloc (Obj.cells #[Value.int IntKind.i64 a, Value.int IntKind.i64 n] 33)) := by go_grown
  exact ⟨rfl, H.out.below' hb, Keep.of_below hb⟩
theorem works12 (w : World) : Calls Try.prog 15 #[] w fun e w' => e = .returned (.bool true) ∧ Below w.heap.size w w' := by
  go_enter Try.func15, Try.ntmps15
  go_wp2_with fail
  refine (new_j 4 w _ (Below.refl _ _) (by decide)).mono ?_
  rintro e w1 ⟨S, g, rfl, h0⟩
  go_wp2_with fail
  refine (task_j S g _ 1 0 w _ h0 (Lib.hid rfl) (by decide) (by decide)).mono ?_
  rintro e w2 ⟨rfl, h1, hk1⟩
  rw [show wrap64 (0 + 1) = 1 from by unfold wrap64; omega] at h1
  replace h1 : J w w2 S g [0, 1, 0, 0] := h1
  clear h0 hk1
  go_wp2_with fail
  refine (task_j S g _ 1 1 w _ h1 (Lib.hid rfl) (by decide) (by decide)).mono ?_
  rintro e w3 ⟨rfl, h2, hk2⟩
  rw [show wrap64 (1 + 1) = 2 from by unfold wrap64; omega] at h2
  replace h2 : J w w3 S g [0, 2, 0, 0] := h2
  clear h1 hk2
  go_wp2_with fail
  obtain ⟨W, hW⟩ : ∃ W, W = (w3.alloc (Obj.cells #[Value.int IntKind.i64 1, Value.int IntKind.i64 0] 33)).alloc (Obj.cells #[Value.int IntKind.i64 1, Value.int IntKind.i64 1] 33) := ⟨_, rfl⟩
  have c0 : W.cell? ⟨w3.heap.size, 0, none⟩ = some (.int .i64 1) := by rw [hW]; go_simp
  have c1 : W.cell? ⟨w3.heap.size, 1, none⟩ = some (.int .i64 0) := by rw [hW]; go_simp
  have c2 : W.cell? ⟨w3.heap.size + 1, 0, none⟩ = some (.int .i64 1) := by rw [hW]; go_simp
  have c3 : W.cell? ⟨w3.heap.size + 1, 1, none⟩ = some (.int .i64 1) := by rw [hW]; go_simp
  have hb : Below w3.heap.size w3 W := by rw [hW]; go_grown
  rw [← hW]
  clear hW
  have h := h2.below' hb
  have hne : w3.heap.size ≠ g ∧ w3.heap.size + 1 ≠ g := by have := h2.1.facts.2.2.2.2.2; omega
  obtain ⟨n0, n1⟩ := hne
  have N0 := Lib.hid n0
  have N1 := Lib.hid n1
  clear h2 hb n0 n1
  generalize w3.heap.size = A at *
  refine (tnumber_j S g _ 1 0 w _ h).mono ?_
  rintro e wz ⟨rfl, hj, hk⟩
  replace h : J w wz S g [0, 2, 0, 0] := hj
  replace c0 := hk.cell c0 N0.out
  replace c1 := hk.cell c1 N0.out
  replace c2 := hk.cell c2 N1.out
  replace c3 := hk.cell c3 N1.out
  clear hj hk
  go_wp2_with fail
  refine (tnumber_j S g _ 1 1 w _ h).mono ?_
  rintro e wz ⟨rfl, hj, hk⟩
  replace h : J w wz S g [0, 2, 0, 0] := hj
  replace c0 := hk.cell c0 N0.out
  replace c1 := hk.cell c1 N0.out
  replace c2 := hk.cell c2 N1.out
  replace c3 := hk.cell c3 N1.out
  clear hj hk
  go_wp2_with fail
  refine (tmine_j S g 2 _ 1 0 0 true w _ h (Lib.hid rfl) (Lib.hid rfl) (Lib.hid (by decide)) (by decide) (by decide)).mono ?_
  rintro e wz ⟨rfl, hj, hk⟩
  replace h : J w wz S g [0, 2, 0, 0] := hj
  replace c0 := hk.cell c0 N0.out
  replace c1 := hk.cell c1 N0.out
  replace c2 := hk.cell c2 N1.out
  replace c3 := hk.cell c3 N1.out
  clear hj hk
  go_wp2_with fail
  refine (tmine_j S g 2 _ 1 1 0 false w _ h (Lib.hid rfl) (Lib.hid rfl) (Lib.hid (by decide)) (by decide) (by decide)).mono ?_
  rintro e wz ⟨rfl, hj, hk⟩
  replace h : J w wz S g [0, 2, 0, 0] := hj
  replace c0 := hk.cell c0 N0.out
  replace c1 := hk.cell c1 N0.out
  replace c2 := hk.cell c2 N1.out
  replace c3 := hk.cell c3 N1.out
  clear hj hk
  go_wp2_with fail
  refine (tleave_j S g 2 _ 1 0 1 w _ h (Lib.hid rfl) (Lib.hid (by unfold wrap64; omega)) (by decide) (by decide)).mono ?_
  rintro e wz ⟨rfl, hj, hk⟩
  replace h : J w wz S g [0, 2, 1, 0] := hj
  replace c0 := hk.cell c0 N0.out
  replace c1 := hk.cell c1 N0.out
  replace c2 := hk.cell c2 N1.out
  replace c3 := hk.cell c3 N1.out
  clear hj hk
  go_wp2_with fail
  refine (tmine_j S g 2 _ 1 1 1 true w _ h (Lib.hid rfl) (Lib.hid rfl) (Lib.hid (by decide)) (by decide) (by decide)).mono ?_
  rintro e wz ⟨rfl, hj, hk⟩
  replace h : J w wz S g [0, 2, 1, 0] := hj
  replace c0 := hk.cell c0 N0.out
  replace c1 := hk.cell c1 N0.out
  replace c2 := hk.cell c2 N1.out
  replace c3 := hk.cell c3 N1.out
  clear hj hk
  go_wp2_with fail
  refine (tmine_j S g 2 _ 1 0 1 false w _ h (Lib.hid rfl) (Lib.hid rfl) (Lib.hid (by decide)) (by decide) (by decide)).mono ?_
  rintro e wz ⟨rfl, hj, hk⟩
  replace h : J w wz S g [0, 2, 1, 0] := hj
  replace c0 := hk.cell c0 N0.out
  replace c1 := hk.cell c1 N0.out
  replace c2 := hk.cell c2 N1.out
  replace c3 := hk.cell c3 N1.out
  clear hj hk
  go_wp2_with fail
  go_ret
  exact ⟨rfl, h.2.1⟩
end Go.Proofs.Ytfigabjcmpakeab
