/- More contracts of a store: all its words; and that the laws of layer 9 begin. -/
import Derived.Test.YtfigabjcmpakeaaStore
import Derived.Test.YtfigabjcmpakeaaView
namespace Go.Proofs.Ytfigabjcmpakeaa
open Go.ChangeShapes Go.WideShapes Go.ChangeAt Go.RowKit
set_option linter.unusedVariables false
theorem StoreAt.view {w : World} {S g : Nat} {xs : List Int} (h : StoreAt w S g xs) (hm : xs.length ≤ maxLen) : View w (.slice (some ⟨g, 0, none⟩) xs.length xs.length) xs := by
  obtain ⟨_, _, h2, _, _, hg⟩ := h.facts
  exact ⟨_, _, rfl, ⟨Nat.le_refl _, hm⟩, (fun h => by cases h), fun _ => ⟨g, 0, rfl, hg, Nat.le_refl _, fun i hi => by rw [Nat.zero_add]; exact h2 i hi⟩⟩
theorem all_any (S g : Nat) (xs : List Int) (w : World) (h : StoreAt w S g xs) (hsm : xs.length ≤ 100000) : Calls Try.prog 21 #[.pointer (some ⟨S, 0, none⟩)] w (RowPost w.heap.size xs w) := by
  obtain ⟨h0, _, _, _, _, _⟩ := h.facts
  have hV := h.view (by unfold maxLen; omega)
  clear h
  go_enter Try.func21, Try.ntmps21
  go_wp2_with fail
  refine (clone_any _ xs _ hV hsm).mono ?_
  rintro e w' ⟨v', rfl, h1, h2⟩
  clear hV h0
  go_wp2_with fail
  go_ret
  exact ⟨_, rfl, h1, h2⟩
theorem view3 (n : Nat) (a b c : Int) (w : World) (h0 : w.cell? ⟨n, 0, none⟩ = some (.int .i64 a)) (h1 : w.cell? ⟨n, 1, none⟩ = some (.int .i64 b)) (h2 : w.cell? ⟨n, 2, none⟩ = some (.int .i64 c)) : View w (.slice (some ⟨n, 0, none⟩) 3 3) [a, b, c] :=
  view_of_cells (xs := [a, b, c]) (c := 3) (fun i hi => by match i, hi with | 0, _ => exact h0 | 1, _ => exact h1 | 2, _ => exact h2) (World.block_lt_of_cell? w _ h0) (Nat.le_refl _) (by decide)
set_option maxHeartbeats 1000000 in
theorem works09 (w : World) : Calls Try.prog 15 #[] w fun e w' => e = .returned (.bool true) ∧ Below w.heap.size w w' := by
  go_enter Try.func15, Try.ntmps15
  go_wp2_with fail
  refine (new_n 3 _ (by decide)).mono ?_
  rintro e w0 ⟨rfl, hs0, hb0⟩
  go_wp2_with fail
  refine (swap_yes _ _ _ 1 0 5 _ hs0 (by decide) (by decide) rfl).mono ?_
  rintro e w1 ⟨rfl, hw1⟩
  have hs1 := hs0.set 1 5
  rw [hw1] at hs1
  have hb1 : Below w.heap.size w w1 := by rw [← hw1]; exact hb0.setCell (Nat.le_refl _) _
  clear hw1 hs0 hb0
  go_wp2_with fail
  refine (swap_no _ _ _ 1 5 0 6 _ hs1 (by decide) (by decide) rfl (by decide)).mono ?_
  rintro e w2 ⟨rfl, rfl⟩
  go_wp2_with fail
  refine (add_in _ _ _ 1 2 _ hs1 (by decide) (by decide)).mono ?_
  rintro e w2 ⟨rfl, hw2⟩
  have hs2 := hs1.set 1 (wrap64 (((List.replicate 3 (0 : Int)).set 1 5).getD 1 0 + 2))
  rw [hw2] at hs2
  have hb2 : Below w.heap.size w w2 := by rw [← hw2]; exact hb1.setCell (Nat.le_refl _) _
  have e7 : wrap64 (((List.replicate 3 (0 : Int)).set 1 5).getD 1 0 + 2) = 7 := by show wrap64 (5 + 2) = 7; unfold wrap64; omega
  rw [e7] at hs2
  have e5 : ((List.replicate 3 (0 : Int)).set 1 5).getD 1 0 = 5 := rfl
  rw [e5]
  clear hw2 hs1 hb1 e7 e5
  go_wp2_with fail
  refine (size_any _ _ _ _ hs2).mono ?_
  rintro e w3 ⟨rfl, rfl⟩
  rw [show (((List.replicate 3 (0 : Int)).set 1 5).set 1 7).length = 3 from rfl]
  go_wp2_with fail
  refine (all_any _ _ _ _ hs2 (by decide)).mono ?_
  rintro e w3 ⟨v3, rfl, h3, hb3⟩
  have hV := view_of_own h3
  have hb3' := hb2.trans (hb3.mono hb2.size)
  clear h3 hb3 hs2 hb2
  go_wp2_with fail
  refine (ints_any _ _ ((([0, 0, 0] : List Int).set 1 5).set 1 7) [0, 7, 0] _ (hV.below ((Below.refl _ _).alloc (Nat.le_refl _) _)) (view3 _ 0 7 0 _ (by go_simp) (by go_simp) (by go_simp))).mono ?_
  rintro e w4 ⟨rfl, n4, rfl⟩
  rw [show ((([0, 0, 0] : List Int).set 1 5).set 1 7 == [0, 7, 0]) = true from by decide]
  go_wp2_with fail
  go_ret
  exact ⟨rfl, below_drewN (hb3'.alloc hb3'.size _) _⟩
end Go.Proofs.Ytfigabjcmpakeaa
