/- A world in which only one block is written, and others are new. -/
import Derived.Test.YtbmndjedgedbdaaJ
namespace Go.Proofs.Ytbmndjedgedbdaa
open Go.ChangeShapes Go.WideShapes Go.ChangeAt Go.RowKit
set_option linter.unusedVariables false
theorem btr {w w1 w2 : World} (h1 : Below w.heap.size w w1) (h2 : Below w1.heap.size w1 w2) : Below w.heap.size w w2 := h1.trans (h2.mono h1.size)
/-- Behind w only block g was written; other blocks are as they were, and may be new. -/
def Keep (g : Nat) (w w' : World) : Prop := w.heap.size ≤ w'.heap.size ∧ ∀ B, B < w.heap.size → B ≠ g → w'.heap[B]? = w.heap[B]?
theorem Keep.refl (g : Nat) (w : World) : Keep g w w := ⟨Nat.le_refl _, fun _ _ _ => rfl⟩
theorem Keep.trans {g : Nat} {w w1 w2 : World} (h : Keep g w w1) (h' : Keep g w1 w2) : Keep g w w2 :=
  ⟨Nat.le_trans h.1 h'.1, fun B hB hg => (h'.2 B (Nat.lt_of_lt_of_le hB h.1) hg).trans (h.2 B hB hg)⟩
theorem Keep.of_below {g : Nat} {w w' : World} (h : Below w.heap.size w w') : Keep g w w' := ⟨h.size, fun B hB _ => h.block B hB⟩
theorem Keep.set {g i : Nat} {w w' : World} {v : Value} (h : w.setCell ⟨g, i, none⟩ v = w') : Keep g w w' := by
  subst h
  refine ⟨by show w.heap.size ≤ (w.heap.modify g _).size; rw [Array.size_modify]; exact Nat.le_refl _, fun B _ hg => ?_⟩
  show (w.heap.modify g _)[B]? = _
  rw [Array.getElem?_modify, if_neg (fun e => hg e.symm)]
theorem cell_heap {w w' : World} {B i : Nat} (h : w'.heap[B]? = w.heap[B]?) : w'.cell? ⟨B, i, none⟩ = w.cell? ⟨B, i, none⟩ := by simp [World.cell?, h]
theorem Keep.cell {g : Nat} {w w' : World} {B i : Nat} {v : Value} (h : Keep g w w') (hc : w.cell? ⟨B, i, none⟩ = some v) (hg : B ≠ g) : w'.cell? ⟨B, i, none⟩ = some v :=
  (cell_heap (h.2 B (World.block_lt_of_cell? w _ hc) hg)).trans hc
theorem Keep.frozen {g : Nat} {w w' : World} {B i : Nat} {b : Bool} (h : Keep g w w') (hf : w.frozen? ⟨B, i, none⟩ = b) (hB : B < w.heap.size) (hg : B ≠ g) : w'.frozen? ⟨B, i, none⟩ = b := by
  have := h.2 B hB hg
  simpa [World.frozen?, this] using hf
theorem Keep.block {g : Nat} {w w' : World} {B : Nat} {o : Obj} (h : Keep g w w') (hb : w.heap[B]? = some o) (hg : B ≠ g) : w'.heap[B]? = some o :=
  (h.2 B (lt_of_heap hb) hg).trans hb
/-- A block of one's own beside a store. -/
def Own (w0 w : World) (S g B : Nat) (o : Obj) : Prop := w.heap[B]? = some o ∧ B ≠ g ∧ B ≠ S ∧ w0.heap.size ≤ B
theorem Own.keep {w0 w w' : World} {S g B : Nat} {o : Obj} (h : Own w0 w S g B o) (hk : Keep g w w') : Own w0 w' S g B o := ⟨hk.block h.1 h.2.1, h.2⟩
theorem J.own_set {w0 w w' : World} {S g B i : Nat} {xs : List Int} {o : Obj} {v : Value} (h : J w0 w S g xs) (ho : Own w0 w S g B o) (hw : w.setCell ⟨B, i, none⟩ v = w') : J w0 w' S g xs := by
  subst hw
  obtain ⟨⟨hs1, hs2, hs3⟩, hb, hg⟩ := h
  obtain ⟨ho1, ho2, ho3, ho4⟩ := ho
  refine ⟨⟨?_, ?_, hs3⟩, hb.setCell ho4 _, hg⟩
  · show (w.heap.modify B _)[S]? = _
    rw [Array.getElem?_modify, if_neg ho3]; exact hs1
  · show (w.heap.modify B _)[g]? = _
    rw [Array.getElem?_modify, if_neg ho2]; exact hs2
theorem J.below' {w0 w w' : World} {S g : Nat} {xs : List Int} (h : J w0 w S g xs) (hb : Below w.heap.size w w') : J w0 w' S g xs :=
  ⟨h.1.below hb, h.2.1.trans (hb.mono h.2.1.size), h.2.2⟩
theorem Keep.set_new {g B i : Nat} {w w1 : World} {v : Value} (h : Keep g w w1) (hB : w.heap.size ≤ B) : Keep g w (w1.setCell ⟨B, i, none⟩ v) := by
  refine ⟨by show w.heap.size ≤ (w1.heap.modify B _).size; rw [Array.size_modify]; exact h.1, fun C hC hg => ?_⟩
  show (w1.heap.modify B _)[C]? = _
  rw [Array.getElem?_modify, if_neg (by omega)]
  exact h.2 C hC hg
theorem J.set_new {w0 w w1 : World} {S g B i : Nat} {xs ys : List Int} {v : Value} (h : J w0 w S g xs) (h1 : J w0 w1 S g ys) (hB : w.heap.size ≤ B) : J w0 (w1.setCell ⟨B, i, none⟩ v) S g ys := by
  obtain ⟨_, _, _, _, f5, f6⟩ := h.1.facts
  obtain ⟨⟨hs1, hs2, hs3⟩, hb, hg⟩ := h1
  have h0 := h.2.1.size
  refine ⟨⟨?_, ?_, hs3⟩, hb.setCell (show w0.heap.size ≤ B by omega) _, hg⟩
  · show (w1.heap.modify B _)[S]? = _
    rw [Array.getElem?_modify, if_neg (by omega)]; exact hs1
  · show (w1.heap.modify B _)[g]? = _
    rw [Array.getElem?_modify, if_neg (by omega)]; exact hs2
end Go.Proofs.Ytbmndjedgedbdaa
