/- A row of whole numbers that the call itself made: copied, one more, cut short; at a step of a drawn region. -/
import Derived.Test.YtdgjlniciehjbaaDoorApp1
import Derived.Laws.OwnMore
import Derived.Deep.AppendLies
namespace Go.Proofs.YtdgjlniciehjbaaDoor
open Go.ChangeShapes Go.WideShapes Go.ChangeAt Go.RowKit
set_option linter.unusedVariables false
set_option linter.unusedSimpArgs false
abbrev OI (w : World) (B : Nat) (v : Value) (xs : List Int) : Prop := w.ownsRow B 3 1 v xs.length (xs.map (Value.int .i64))
theorem OI.form {w : World} {B : Nat} {v : Value} {xs : List Int} (h : OI w B v xs) : ∃ a cap, v = .slice a xs.length cap ∧ (a = none → xs = [] ∧ cap = 0) ∧ cap ≤ maxLen ∧ xs.length ≤ cap ∧ (∀ ad, a = some ad → ∃ g, ad = ⟨g, 0, none⟩ ∧ g < w.heap.size ∧ B ≤ g ∧ ∀ i, i < xs.length → w.cell? ⟨g, 0 + i, none⟩ = some (.int .i64 (xs.getD i 0))) := by
  have hv := view_of_own h
  obtain ⟨hl, ⟨rfl, h0⟩ | ⟨g, cap, cur, rfl, hg, hh, h1, h2, h3, h4⟩⟩ := h
  · have e : xs = [] := List.eq_nil_of_length_eq_zero h0
    refine ⟨none, 0, by rw [h0], fun _ => ⟨e, rfl⟩, by simp [maxLen], by omega, fun ad h => by cases h⟩
  · refine ⟨_, cap, rfl, fun h => by (cases h), h2, h1, fun ad had => ?_⟩
    cases had
    refine ⟨g, rfl, (Array.getElem?_eq_some_iff.1 hh).1, hg, fun i hi => ?_⟩
    rcases hv.cases with ⟨e, _⟩ | ⟨_, b, off, c2, e, _, _, _, hc⟩
    · rw [e] at hi; simp at hi
    · cases e
      exact hc i hi
theorem OI.below {w w' : World} {B : Nat} {v : Value} {xs : List Int} (h : OI w B v xs) (hb : Below w.heap.size w w') : OI w' B v xs := by
  obtain ⟨hl, h | ⟨g, cap, cur, rfl, hg, hh, h1, h2, h3, h4⟩⟩ := h
  · exact ⟨hl, .inl h⟩
  · exact ⟨hl, .inr ⟨g, cap, cur, rfl, hg, (hb.block g (Array.getElem?_eq_some_iff.1 hh).1).trans hh, h1, h2, h3, h4⟩⟩
theorem OI.base {w : World} {B B' : Nat} {v : Value} {xs : List Int} (h : OI w B v xs) (hb : B' ≤ B) : OI w B' v xs := by
  obtain ⟨hl, h | ⟨g, cap, cur, rfl, hg, hh, h1, h2, h3, h4⟩⟩ := h
  · exact ⟨hl, .inl h⟩
  · exact ⟨hl, .inr ⟨g, cap, cur, rfl, Nat.le_trans hb hg, hh, h1, h2, h3, h4⟩⟩
theorem OI.cut {w : World} {B : Nat} {a : Option Addr} {n cap : Nat} {xs : List Int} (h : OI w B (.slice a n cap) xs) (m : Nat) (hm : m ≤ n) (hn : n = xs.length) : OI w B (.slice a m cap) (xs.take m) := by
  have hl2 : (xs.take m).length = m := by rw [List.length_take]; omega
  obtain ⟨hl, ⟨e, h0⟩ | ⟨g, cap', cur, e, hg, hh, h1, h2, h3, h4⟩⟩ := h
  · rw [Value.slice.injEq] at e
    obtain ⟨rfl, _, rfl⟩ := e
    refine ⟨by simp, .inl ⟨?_, by omega⟩⟩
    rw [show m = 0 by omega]
  · rw [Value.slice.injEq] at e
    obtain ⟨rfl, _, rfl⟩ := e
    refine ⟨by simp, .inr ⟨g, cap, cur, by rw [hl2], hg, hh, by omega, h2, h3, ?_⟩⟩
    rw [hl2, Nat.mul_one, List.map_take, ← h4, List.take_take, Nat.mul_one, ← hn, Nat.min_eq_left hm]
end Go.Proofs.YtdgjlniciehjbaaDoor
