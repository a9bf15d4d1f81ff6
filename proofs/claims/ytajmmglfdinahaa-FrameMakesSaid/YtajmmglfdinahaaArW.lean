/- The anchor of layer 10's laws: its works comes out true (layer 10). -/
import Derived.Test.YtajmmglfdinahaaArT
namespace Go.Proofs.Ytajmmglfdinahaa.ar
open Go.ChangeShapes Go.WideShapes Go.ChangeAt Go.RowKit
set_option linter.unusedVariables false
set_option linter.unusedSimpArgs false
theorem btn {B : Nat} {w w1 w2 : World} (h1 : Below B w w1) (h2 : Below B w1 w2) : Below B w w2 := h1.trans h2
set_option maxRecDepth 20000 in
set_option maxHeartbeats 2000000 in
theorem works10 (w : World) : Calls Try.prog 11 #[] w fun e w' => e = .returned (.bool true) ∧ Below w.heap.size w w' := by
  obtain ⟨S, hS⟩ : ∃ S : Nat → Prop, S = fun _ => False := ⟨_, rfl⟩
  have hS0 : ∀ k, S k → k < w.heap.size := fun k hk => by rw [hS] at hk; exact hk.elim
  have HS := Lib.hid hS0
  clear hS0 hS
  go_enter Try.func11, Try.ntmps11
  go_wp2_with fail
  refine (new_of S w.heap.size 2 2 2 _ (by decide) (by decide) (Nat.le_refl _) HS.out).mono ?_
  rintro e w1 ⟨rfl, hA, hb⟩
  obtain ⟨A, hAe⟩ : ∃ A, A = w.heap.size := ⟨_, rfl⟩
  rw [← hAe] at hA ⊢
  have HE := Lib.hid hAe
  clear hAe
  have H := Lib.hid hA
  clear hA
  go_wp2_with fail
  refine (take_yes (m := 2) (p := 0) (hs := []) (bk := []) _ 0 [false] [] 1 (by simpa using H.out) (.inr ⟨rfl, by simp, rfl, rfl, rfl⟩) (by simp) (by simp) (by simp) (by simp) (by decide)).mono ?_
  rintro e w2 ⟨hv, bv, rfl, hA, hb2, _⟩
  rw [HE.out] at hb2
  replace hb := btn hb hb2
  clear hb2 H
  have H := Lib.hid hA
  clear hA
  go_wp2_with fail
  refine (take_yes (m := 2) (p := 1) (hs := [true]) (bk := []) _ 1 [true, false] [] 2 (by simpa using H.out) (.inr ⟨rfl, by simp, rfl, rfl, rfl⟩) (by simp) (by simp) (by simp) (by simp) (by decide)).mono ?_
  rintro e w3 ⟨hv', bv', rfl, hA, hb2, _⟩
  rw [HE.out] at hb2
  replace hb := btn hb hb2
  clear hb2 H
  have H := Lib.hid hA
  clear hA
  go_wp2_with fail
  refine (take_no _ (m := 2) (p := 2) (hs := [true, true]) (by simpa using H.out)).mono ?_
  rintro e w4 ⟨rfl, hA, hb2⟩
  replace hb := btn hb (hb2.mono hb.size)
  clear hb2 H
  have H := Lib.hid hA
  clear hA
  go_wp2_with fail
  refine (give_yes (m := 2) (p := 2) (hs := [true, true]) (bk := []) _ 0 (by simpa using H.out) (by simp) (by simp) (by simp)).mono ?_
  rintro e w5 ⟨hv'', bv'', rfl, hA, hb2, _⟩
  rw [HE.out] at hb2
  replace hb := btn hb hb2
  clear hb2 H
  have H := Lib.hid hA
  clear hA
  go_wp2_with fail
  refine (give_no (m := 2) (p := 2) (hs := [false, true]) (bk := [1]) _ 1 (by simpa using H.out) (by simp) (by decide)).mono ?_
  rintro e w6 ⟨rfl, rfl⟩
  go_wp2_with fail
  refine (held_of (m := 2) (p := 2) (hs := [false, true]) (bk := [1]) _ 2 (by simpa using H.out) (by simp)).mono ?_
  rintro e w6 ⟨rfl, rfl⟩
  have hh : heldB [false, true] 2 = true := by decide
  go_wp2_with fail
  refine (used_of _ _ _ 2 2 _ _ [false, true] [1] _ (by simp) (by simpa using H.out)).mono ?_
  rintro e w6 ⟨rfl, hb2⟩
  have hA := H.out.below hb2
  replace hb := btn hb (hb2.mono hb.size)
  clear hb2 H
  have H := Lib.hid hA
  clear hA
  go_wp2_with fail
  refine (peak_of (m := 2) (f := 2) (p := 2) (hs := [false, true]) (bk := [1]) _ (by simpa using H.out)).mono ?_
  rintro e w6 ⟨rfl, rfl⟩
  go_wp2_with fail
  go_ret
  exact ⟨rfl, hb⟩
end Go.Proofs.Ytajmmglfdinahaa.ar
