/- Rows of whole numbers, whosever they are; rows of rows that the call itself made. -/
import Derived.Test.YtdgjlniciehjbaaDoorIntR
namespace Go.Proofs.YtdgjlniciehjbaaDoor
open Go.ChangeShapes Go.WideShapes Go.ChangeAt Go.RowKit
set_option linter.unusedVariables false
set_option linter.unusedSimpArgs false
/-- In world w the slice of slices v reads as the rows L. -/
def MV (w : World) (v : Value) (L : List (List Int)) : Prop :=
  ∃ a cap, v = .slice a L.length cap ∧ L.length ≤ cap ∧ cap ≤ maxLen ∧ ∀ i, i < L.length → ∃ b o u, a = some ⟨b, o, none⟩ ∧ b < w.heap.size ∧ w.cell? ⟨b, o + i, none⟩ = some u ∧ View w u (L.getD i [])
theorem MV.below {w w' : World} {v : Value} {L : List (List Int)} (h : MV w v L) (hb : Below w.heap.size w w') : MV w' v L := by
  obtain ⟨a, cap, hv, h1, h2, h3⟩ := h
  refine ⟨a, cap, hv, h1, h2, fun i hi => ?_⟩
  obtain ⟨b, o, u, e, hlt, hc, hu⟩ := h3 i hi
  exact ⟨b, o, u, e, Nat.lt_of_lt_of_le hlt hb.size, (hb.cell (p := ⟨b, o + i, none⟩) hlt).trans hc, hu.below hb⟩
theorem MV.form {w : World} {v : Value} {L : List (List Int)} (h : MV w v L) : ∃ a cap, v = .slice a L.length cap ∧ L.length ≤ cap ∧ cap ≤ maxLen := by
  obtain ⟨a, cap, hv, h1, h2, _⟩ := h
  exact ⟨a, cap, hv, h1, h2⟩
/-- Row i: where its slice stands, and what it is. -/
theorem MV.row {w : World} {a : Option Addr} {n cap : Nat} {L : List (List Int)} (h : MV w (.slice a n cap) L) (i : Nat) (hi : i < n) :
    ∃ b o ai ci, a = some ⟨b, o, none⟩ ∧ b < w.heap.size ∧ w.cell? ⟨b, o + i, none⟩ = some (.slice ai (L.getD i []).length ci) ∧ View w (.slice ai (L.getD i []).length ci) (L.getD i []) := by
  obtain ⟨a', cap', hv, h1, h2, h3⟩ := h
  rw [Value.slice.injEq] at hv
  obtain ⟨rfl, rfl, rfl⟩ := hv
  obtain ⟨b, o, u, e, hlt, hc, hu⟩ := h3 i hi
  have hu' := hu
  obtain ⟨ai, ci, rfl, _⟩ := hu
  exact ⟨b, o, ai, ci, e, hlt, hc, hu'⟩
theorem View.at {w : World} {a : Option Addr} {n cap : Nat} {xs : List Int} (h : View w (.slice a n cap) xs) (j : Nat) (hj : j < n) :
    ∃ b o, a = some ⟨b, o, none⟩ ∧ b < w.heap.size ∧ w.cell? ⟨b, o + j, none⟩ = some (.int .i64 (xs.getD j 0)) := by
  obtain ⟨rfl, _, _⟩ := h.len
  obtain ⟨a', cap', hv, h1, h2, h3⟩ := h
  rw [Value.slice.injEq] at hv
  obtain ⟨rfl, _, rfl⟩ := hv
  obtain ⟨b, o, e, hlt, _, hc⟩ := h3 (by intro e; rw [e] at hj; simp at hj)
  exact ⟨b, o, e, hlt, hc j hj⟩
theorem MV.take {w : World} {a : Option Addr} {n cap : Nat} {L : List (List Int)} (h : MV w (.slice a n cap) L) (k : Nat) (hk : k ≤ n) : MV w (.slice a k cap) (L.take k) := by
  obtain ⟨a', cap', hv, h1, h2, h3⟩ := h
  rw [Value.slice.injEq] at hv
  obtain ⟨rfl, rfl, rfl⟩ := hv
  have hl : (L.take k).length = k := by rw [List.length_take]; omega
  refine ⟨a, cap, by rw [hl], by rw [hl]; omega, h2, fun i hi => ?_⟩
  rw [hl] at hi
  obtain ⟨b, o, u, e, hlt, hc, hu⟩ := h3 i (by omega)
  exact ⟨b, o, u, e, hlt, hc, by rw [List.getD_eq_getElem?_getD, List.getElem?_take_of_lt hi, ← List.getD_eq_getElem?_getD]; exact hu⟩
theorem MV.len {w : World} {a : Option Addr} {n cap : Nat} {L : List (List Int)} (h : MV w (.slice a n cap) L) : n = L.length ∧ n ≤ cap ∧ cap ≤ maxLen := by
  obtain ⟨a', cap', hv, h1, h2, h3⟩ := h
  rw [Value.slice.injEq] at hv
  obtain ⟨rfl, rfl, rfl⟩ := hv
  exact ⟨rfl, h1, h2⟩
theorem MV.nil (w : World) : MV w (.slice none 0 0) [] := ⟨none, 0, rfl, Nat.le_refl _, by simp [maxLen], fun i hi => by simp at hi⟩

end Go.Proofs.YtdgjlniciehjbaaDoor
