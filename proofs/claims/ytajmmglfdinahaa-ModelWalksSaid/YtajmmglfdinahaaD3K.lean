/- The plan and the deck of layer 13's laws; its works. -/
import Derived.Test.YtajmmglfdinahaaD3J
import Derived.Test.YtajmmglfdinahaaLayout3
import Derived.Deep.RegionHeld3
import Derived.Deep.DrawnRows
namespace Go.Proofs.Ytajmmglfdinahaa
open Go.ChangeShapes Go.WideShapes Go.ChangeAt Go.RowKit
attribute [local go_sem ↓] Go.wp_at_zero Go.wp_at_succ
set_option linter.unusedVariables false
set_option linter.unusedSimpArgs false
theorem size13 (D : Nat) (n : Nat) (w : World) (h2 : 2 ≤ D) (h3 : D ≤ 256) (hn : 3 * (4 + D) + 10 = n) : Calls Try.prog 34 #[.agg #[.int .i64 3, .int .i64 1, .int .i64 1, .int .i64 (D : Int)]] w fun e w' => e = .returned (.int .i64 (n : Int)) ∧ Below w.heap.size w w' := by
  refine (size_of 3 1 1 (D : Int) (3 * (4 + (D : Int))) 10 w (Lib.hid ⟨by omega, by omega, by omega, by omega, by omega, by omega, by omega, by omega⟩) (Lib.hid rfl) (Lib.hid (by decide))).mono ?_
  rintro e w' ⟨rfl, hb⟩
  exact ⟨by rw [← hn]; simp, hb⟩
/-- What the laws hold: the plan in its box, and the store. -/
structure LS (w0 w : World) (S g Pl D : Nat) (xs : List Int) : Prop where
  j : J w0 w S g xs
  p : w.heap[Pl]? = some (.cells #[.int .i64 3, .int .i64 1, .int .i64 1, .int .i64 (D : Int)] 54 (0, 0))
  pg : Pl ≠ g
section
variable {w0 w w' : World} {S g Pl D A A' : Nat} {xs xs' : List Int} {o o' : Wk}
theorem LS.lt (h : LS w0 w S g Pl D xs) : Pl < w.heap.size := lt_of_heap h.p
theorem LS.cells (h : LS w0 w S g Pl D xs) : w.cell? ⟨Pl, 0, none⟩ = some (.int .i64 3) ∧ w.cell? ⟨Pl, 1, none⟩ = some (.int .i64 1) ∧ w.cell? ⟨Pl, 2, none⟩ = some (.int .i64 1) ∧ w.cell? ⟨Pl, 3, none⟩ = some (.int .i64 (D : Int)) := by
  refine ⟨?_, ?_, ?_, ?_⟩ <;> simp [World.cell?, h.p]
theorem LS.below (h : LS w0 w S g Pl D xs) (hb : Below w.heap.size w w') : LS w0 w' S g Pl D xs := ⟨h.j.below' hb, (hb.block Pl h.lt).trans h.p, h.pg⟩
theorem LS.step (h : LS w0 w S g Pl D xs) (hS : WS w0 w' S g A xs' o) (hF : Fr g A w w') (hA : Pl ≠ A) : LS w0 w' S g Pl D xs' :=
  ⟨hS.j, (hF.2 Pl h.lt h.pg hA).trans h.p, h.pg⟩
theorem WAt.step (h : WAt w A o) (hF : Fr g A' w w') (hg : A ≠ g) (hA : A ≠ A') : WAt w' A o := (hF.2 A h.lt hg hA).trans h
end
theorem dq0 (P D n : Nat) (hn : P + 4 + D ≤ n) : Dq P D (List.replicate n 0) 0 0 0 0 (fun _ => 0) := by
  have hz : ∀ i, (List.replicate n (0 : Int)).getD i 0 = 0 := fun i => by
    rw [List.getD_eq_getElem?_getD, List.getElem?_replicate]; split <;> rfl
  exact ⟨hz _, hz _, hz _, hz _, fun i _ => hz _, by rw [List.length_replicate]; exact hn⟩
theorem wok (D kk P n : Nat) (h2 : 2 ≤ D) (h3 : D ≤ 256) (hk : kk < 3) (hP : kk * (4 + D) = P) (hn : 3 * (4 + D) + 10 = n) : ∀ o : Wk, o.D = D → o.k = kk → WOk o P n := by
  rintro o rfl rfl
  refine ⟨h2, h3, hk, hP, ?_, by omega⟩
  rcases (show o.k = 0 ∨ o.k = 1 ∨ o.k = 2 by omega) with h | h | h <;> (rw [h] at hP; omega)
end Go.Proofs.Ytajmmglfdinahaa
