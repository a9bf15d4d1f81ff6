/- More contracts of a store: all its words; and that the laws of layer 9 begin. -/
import Derived.Test.YtfigabjcmpakeabStore
import Derived.Test.YtfigabjcmpakeabView
namespace Go.Proofs.Ytfigabjcmpakeab
open Go.ChangeShapes Go.WideShapes Go.ChangeAt Go.RowKit
set_option linter.unusedVariables false
theorem StoreAt.view {w : World} {S g : Nat} {xs : List Int} (h : StoreAt w S g xs) (hm : xs.length ≤ maxLen) : View w (.slice (some ⟨g, 0, none⟩) xs.length xs.length) xs := by
  obtain ⟨_, _, h2, _, _, hg⟩ := h.facts
  exact ⟨_, _, rfl, ⟨Nat.le_refl _, hm⟩, (fun h => by cases h), fun _ => ⟨g, 0, rfl, hg, Nat.le_refl _, fun i hi => by rw [Nat.zero_add]; exact h2 i hi⟩⟩
theorem all_any (S g : Nat) (xs : List Int) (w : World) (h : StoreAt w S g xs) (hsm : xs.length ≤ 100000) : Calls Try.prog 23 #[.pointer (some ⟨S, 0, none⟩)] w (RowPost w.heap.size xs w) := by
  obtain ⟨h0, _, _, _, _, _⟩ := h.facts
  have hV := h.view (by unfold maxLen; omega)
  clear h
  go_enter Try.func23, Try.ntmps23
  go_wp2_with fail
  refine (clone_any _ xs _ hV hsm).mono ?_
  rintro e w' ⟨v', rfl, h1, h2⟩
  clear hV h0
  go_wp2_with fail
  go_ret
  exact ⟨_, rfl, h1, h2⟩
theorem view3 (n : Nat) (a b c : Int) (w : World) (h0 : w.cell? ⟨n, 0, none⟩ = some (.int .i64 a)) (h1 : w.cell? ⟨n, 1, none⟩ = some (.int .i64 b)) (h2 : w.cell? ⟨n, 2, none⟩ = some (.int .i64 c)) : View w (.slice (some ⟨n, 0, none⟩) 3 3) [a, b, c] :=
  view_of_cells (xs := [a, b, c]) (c := 3) (fun i hi => by match i, hi with | 0, _ => exact h0 | 1, _ => exact h1 | 2, _ => exact h2) (World.block_lt_of_cell? w _ h0) (Nat.le_refl _) (by decide)
end Go.Proofs.Ytfigabjcmpakeab
