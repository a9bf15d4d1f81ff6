/- Marks that come in (layer 30). -/
import Derived.Test.YtgbaaemocnjaoaaSnM
import Derived.Test.YtgbaaemocnjaoaaGrids
namespace Go.Proofs.Ytgbaaemocnjaoaa.sn
open Go.ChangeShapes Go.WideShapes Go.ChangeAt Go.RowKit
open Go.Proofs.Ytgbaaemocnjaoaa.ro
set_option linter.unusedVariables false
set_option linter.unusedSimpArgs false
def tripL (z : Nat → Nat → Int) (n : Nat) : List (Int × Int × Int) := (List.range n).map fun i => (z i 0, z i 1, z i 2)
theorem tripL_len (z : Nat → Nat → Int) (n : Nat) : (tripL z n).length = n := by simp [tripL]
theorem tripL_at (z : Nat → Nat → Int) (n i : Nat) (h : i < n) : (tripL z n)[i]? = some (z i 0, z i 1, z i 2) := by simp [tripL, h]
theorem rv_grid {w : World} {a : Option Addr} {len cap : Nat} {z : Nat → Nat → Int} (h : IsGrid [.i64, .i64, .i64] w a len cap z) : RV 3 enN w (.slice a len cap) (tripL z len) := by
  have hl := tripL_len z len
  have h0 : len ≤ cap ∧ cap ≤ maxLen ∧ (a = none → cap = 0) := by
    rcases h with ⟨rfl, rfl, rfl⟩ | ⟨x, rfl, h1, h2, _⟩
    · exact ⟨Nat.le_refl _, Nat.zero_le _, fun _ => rfl⟩
    · exact ⟨h1, h2, fun e => by cases e⟩
  refine ⟨a, cap, by rw [hl], by rw [hl]; exact h0.1, h0.2.1, h0.2.2, fun i x hx => ?_⟩
  have hi : i < len := by have := (List.getElem?_eq_some_iff.1 hx).1; omega
  rw [tripL_at z len i hi] at hx
  simp only [Option.some.injEq] at hx
  subst hx
  rcases h.split (by decide) with e | ⟨b, off, rfl, hb, _, _, hc⟩
  · omega
  · refine ⟨b, off, rfl, hb, fun j u hu => ?_⟩
    have hj : j < 3 := by have := (List.getElem?_eq_some_iff.1 hu).1; simpa [enN] using this
    have hc' := hc i (by omega)
    have h3 : j = 0 ∨ j = 1 ∨ j = 2 := by omega
    rcases h3 with rfl | rfl | rfl
    · simp [enN] at hu; subst hu; exact (hc' 0 .i64 rfl).1
    · simp [enN] at hu; subst hu; exact (hc' 1 .i64 rfl).1
    · simp [enN] at hu; subst hu; exact (hc' 2 .i64 rfl).1
theorem getD_in {α : Type} (l : List α) (q : Nat) (d : α) (h : q < l.length) : l.getD q d ∈ l := by
  rw [List.getD_eq_getElem?_getD, List.getElem?_eq_getElem h]
  exact List.getElem_mem h
end Go.Proofs.Ytgbaaemocnjaoaa.sn
