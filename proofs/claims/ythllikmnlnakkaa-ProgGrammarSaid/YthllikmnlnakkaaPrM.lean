/- What works: a program put and got (layer 4). -/
import Derived.Test.YthllikmnlnakkaaPrL
namespace Go.Proofs.Ythllikmnlnakkaa.pr
open Go.ChangeShapes Go.WideShapes Go.ChangeAt Go.RowKit
open Go.Proofs.Ythllikmnlnakkaa.bin Go.Proofs.Ythllikmnlnakkaa.bits Go.Proofs.Ythllikmnlnakkaa.ins
set_option linter.unusedVariables false
set_option linter.unusedSimpArgs false
def wkL : List (List I4) := [[(17, 1, 0, 0), (0, 0, 0, 0)]]
def wkB : List UInt8 := [72, 82, 1, 1, 0, 2, 0, 2, 17, 1, 0, 0, 0, 0, 0, 0]
theorem wk_pr : prE 2 wkL = 0 := by decide +kernel
theorem wk_put : prB 2 wkL = wkB := by decide +kernel
theorem wk_get : getP wkB = (0, 2, wkL) := by kernel_rfl
theorem wk_pm (w : World) : PM ((w.alloc (.cells #[.int .i64 17, .int .i64 1, .int .i64 0, .int .i64 0, .int .i64 0, .int .i64 0, .int .i64 0, .int .i64 0] 40)).alloc (.cells #[.slice (some ⟨w.heap.size, 0, none⟩) 2 2] 38)) (.slice (some ⟨w.heap.size + 1, 0, none⟩) 1 1) wkL := by
  have r0 := heap_new w #[.int .i64 17, .int .i64 1, .int .i64 0, .int .i64 0, .int .i64 0, .int .i64 0, .int .i64 0, .int .i64 0] 40
  have r1 := heap_new (w.alloc (.cells #[.int .i64 17, .int .i64 1, .int .i64 0, .int .i64 0, .int .i64 0, .int .i64 0, .int .i64 0, .int .i64 0] 40)) #[.slice (some ⟨w.heap.size, 0, none⟩) 2 2] 38
  have r0' := kb r0 (W' := (w.alloc (.cells #[.int .i64 17, .int .i64 1, .int .i64 0, .int .i64 0, .int .i64 0, .int .i64 0, .int .i64 0, .int .i64 0] 40)).alloc (.cells #[.slice (some ⟨w.heap.size, 0, none⟩) 2 2] 38)) (by go_grown)
  rw [show (w.alloc (.cells #[.int .i64 17, .int .i64 1, .int .i64 0, .int .i64 0, .int .i64 0, .int .i64 0, .int .i64 0, .int .i64 0] 40)).heap.size = w.heap.size + 1 by simp] at r1
  refine ⟨_, 1, rfl, Nat.le_refl _, by simp [maxLen], fun i hi => ?_⟩
  obtain rfl : i = 0 := by simp [wkL] at hi; omega
  refine ⟨_, 0, _, rfl, by simp, cel r1 0, ?_⟩
  refine ⟨_, 2, rfl, Nat.le_refl _, by simp [maxLen], (fun e => by simp at e), fun i x hx => ⟨_, 0, rfl, by simp; omega, fun j u hu => ?_⟩⟩
  rw [Nat.zero_add, cel r0']
  have hi2 : i < 2 := (List.getElem?_eq_some_iff.1 hx).1
  match i, hi2 with
  | 0, _ =>
    simp [wkL] at hx
    subst hx
    have hj : j < 4 := (List.getElem?_eq_some_iff.1 hu).1
    match j, hj with
    | 0, _ => simpa [enI] using hu
    | 1, _ => simpa [enI] using hu
    | 2, _ => simpa [enI] using hu
    | 3, _ => simpa [enI] using hu
  | 1, _ =>
    simp [wkL] at hx
    subst hx
    have hj : j < 4 := (List.getElem?_eq_some_iff.1 hu).1
    match j, hj with
    | 0, _ => simpa [enI] using hu
    | 1, _ => simpa [enI] using hu
    | 2, _ => simpa [enI] using hu
    | 3, _ => simpa [enI] using hu
set_option maxRecDepth 20000 in
set_option maxHeartbeats 800000 in
theorem works_v (w : World) : Calls Try.prog 8 #[] w fun e w' => e = .returned (.bool true) ∧ Below w.heap.size w w' := by
  obtain ⟨W, hW⟩ : ∃ W, (w.alloc (.cells #[.int .i64 17, .int .i64 1, .int .i64 0, .int .i64 0, .int .i64 0, .int .i64 0, .int .i64 0, .int .i64 0] 40)).alloc (.cells #[.slice (some ⟨w.heap.size, 0, none⟩) 2 2] 38) = W := ⟨_, rfl⟩
  have hp := wk_pm w
  rw [hW] at hp
  have hb : Below w.heap.size w W := by rw [← hW]; go_grown
  have CP := Lib.hid (put_ok 2 _ _ _ wkL W hp wk_pr)
  rw [wk_put] at CP
  have CG := Lib.hid (fun w => get_v wkB w _ (by decide) wk_get)
  have HW := Lib.hid hW
  have HB := Lib.hid hb
  clear hp hW hb
  unfold wkB at CP CG
  go_enter Try.func8, Try.ntmps8
  go_wp2_with fail
  rw [HW.out]
  refine CP.out.mono ?_
  rintro e w1 ⟨rfl, hb1⟩
  have HB1 := Lib.hid (tr3 HB.out hb1)
  clear hb1 HW CP
  go_wp2_with fail
  refine (CG.out _).mono ?_
  rintro e w2 ⟨⟨v, rfl, hv⟩, hb2⟩
  obtain ⟨va, vc, rfl, _⟩ := hv.form
  rw [show (wkL : List (List I4)).length = 1 from rfl]
  have HB2 := Lib.hid (tr3 HB1.out hb2)
  clear hv hb2 CG
  go_wp2_with fail
  go_ret
  exact ⟨rfl, tr3 HB2.out (by go_grown)⟩
end Go.Proofs.Ythllikmnlnakkaa.pr
