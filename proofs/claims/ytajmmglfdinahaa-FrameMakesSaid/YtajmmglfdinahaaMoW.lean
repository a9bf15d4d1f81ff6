/- That the laws of layer 14 begin. -/
import Derived.Test.YtajmmglfdinahaaMoC
namespace Go.Proofs.Ytajmmglfdinahaa.mo
open Go.ChangeShapes Go.WideShapes Go.ChangeAt Go.RowKit
set_option linter.unusedVariables false
set_option linter.unusedSimpArgs false
theorem btn {B : Nat} {w w1 w2 : World} (h1 : Below B w w1) (h2 : Below B w1 w2) : Below B w w2 := h1.trans h2
set_option maxRecDepth 20000 in
set_option maxHeartbeats 2000000 in
theorem works14 (w : World) : Calls Try.prog 25 #[] w fun e w' => e = .returned (.bool true) ∧ Below w.heap.size w w' := by
  go_enter Try.func25, Try.ntmps25
  go_wp2_with fail
  refine (new_of 3 w.heap.size w (Nat.le_refl _)).mono ?_
  rintro e w1 ⟨rfl, h, hb⟩
  rw [show min (max (3 : Int) 0) 1000 = 3 by decide] at h
  obtain ⟨M, hM⟩ : ∃ M, M = w.heap.size := ⟨_, rfl⟩
  have HE := Lib.hid hM
  rw [← hM] at h ⊢
  obtain ⟨B, hB⟩ : ∃ B, B = M := ⟨_, rfl⟩
  have hb : Below B w w1 := by rw [hB, hM]; exact hb
  have h : MS B M w1 3 (.slice none 0 0) [] := by rw [hB]; exact h
  have HB := Lib.hid (hB.trans hM)
  clear hM hB
  have H := Lib.hid h
  clear h
  go_wp2_with fail
  refine (push_yes B M 3 _ [] 1 _ H.out (by simp) (by simp)).mono ?_
  rintro e w2 ⟨rfl, v2, h, hb2, _, _⟩
  replace hb := btn hb hb2
  replace H := Lib.hid h
  clear h hb2
  go_wp2_with fail
  refine (push_yes B M 3 _ _ 2 _ H.out (by simp) (by simp)).mono ?_
  rintro e w3 ⟨rfl, v3, h, hb2, _, _⟩
  replace hb := btn hb hb2
  replace H := Lib.hid h
  clear h hb2
  go_wp2_with fail
  refine (push_yes B M 3 _ _ 3 _ H.out (by simp) (by simp)).mono ?_
  rintro e w4 ⟨rfl, v4, h, hb2, _, _⟩
  replace hb := btn hb hb2
  replace H := Lib.hid h
  clear h hb2
  go_wp2_with fail
  refine (push_no B M 3 _ _ 4 _ H.out (by simp)).mono ?_
  rintro e w5 ⟨rfl, n, rfl⟩
  have hb2 : Below w4.heap.size w4 (w4.drewN n) := below_drewN (Below.refl _ _) n
  replace H := Lib.hid (H.out.below hb2)
  replace hb := btn hb (hb2.mono (by have := HB.out; have := H.out.base; have := H.out.lt; have : (w4.drewN n).heap.size = w4.heap.size := rfl; omega))
  clear hb2
  generalize w4.drewN n = w5 at *
  have h : MS B M w5 3 v4 [1, 2, 3] := H.out
  go_wp2_with fail
  refine (steal_yes B M 3 _ [2, 3] 1 _ h (by simp)).mono ?_
  rintro e w6 ⟨rfl, v6, h6, hb2, _, _⟩
  replace hb := btn hb hb2
  have h7 : MS B M w6 3 v6 ([2] ++ [3]) := h6
  have H := Lib.hid h7
  clear h6 h7 h hb2
  go_wp2_with fail
  refine (pop_yes B M 3 _ [2] 3 _ H.out (by simp)).mono ?_
  rintro e w7 ⟨rfl, v7, h, hb2, _, _⟩
  replace hb := btn hb hb2
  replace H := Lib.hid h
  clear h hb2
  go_wp2_with fail
  refine (all_of B M 3 _ [2] _ H.out (by simp)).mono ?_
  rintro e w8 ⟨v8, rfl, hr, hb2⟩
  replace H := Lib.hid (H.out.below hb2)
  have hsz : B ≤ w8.heap.size := by have := H.out.base; have := H.out.lt; omega
  replace hb := btn hb (hb2.mono (by have := HB.out; have := H.out.base; have h1 := hb2.size; have := H.out.lt; have := hb.size; omega))
  have hv1 : View (w8.alloc (.cells #[.int .i64 2] 3)) v8 [2] := (view_of_own hr).below ((Below.refl _ _).alloc (Nat.le_refl _) _)
  have HV := Lib.hid hv1
  have H2 := Lib.hid (H.out.below ((Below.refl _ _).alloc (Nat.le_refl _) (.cells #[.int .i64 2] 3)))
  clear hr hb2 hv1
  go_wp2_with fail
  refine (ints_any v8 _ [2] [2] _ HV.out (view1 _ 2 _ (by go_simp))).mono ?_
  rintro e w9 ⟨rfl, n, rfl⟩
  rw [show (([2] : List Int) == [2]) = true from rfl]
  have b9 : Below (w8.alloc (.cells #[.int .i64 2] 3)).heap.size (w8.alloc (.cells #[.int .i64 2] 3)) ((w8.alloc (.cells #[.int .i64 2] 3)).drewN n) := below_drewN (Below.refl _ _) n
  have H3 := Lib.hid (H2.out.below b9)
  replace hb : Below B w ((w8.alloc (.cells #[.int .i64 2] 3)).drewN n) := below_drewN (hb.alloc hsz _) n
  have hsz9 : w.heap.size ≤ ((w8.alloc (.cells #[.int .i64 2] 3)).drewN n).heap.size := by have := hb.size; exact this
  generalize (w8.alloc (Obj.cells #[Value.int IntKind.i64 2] 3)).drewN n = w9 at *
  clear H2 HV b9
  go_wp2_with fail
  refine (equal_of B M B M 3 3 _ _ [2] [2] _ H3.out H3.out rfl (by simp)).mono ?_
  rintro e wA ⟨rfl, hb2⟩
  rw [show (([2] : List Int) == [2]) = true from rfl]
  replace hb := btn hb (hb2.mono (by have := HB.out; omega))
  go_wp2_with fail
  go_ret
  exact ⟨rfl, by rw [← HB.out]; exact hb⟩
end Go.Proofs.Ytajmmglfdinahaa.mo
