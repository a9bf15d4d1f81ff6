/- A walk at a deque: its object and the store; how each store turns them (layer 13). -/
import Derived.Test.YtegbifphekhgkaaDqA
import Derived.Deep.RegionHeld3
import Derived.Deep.DrawnRows
namespace Go.Proofs.Ytegbifphekhgkaa
open Go.ChangeShapes Go.WideShapes Go.ChangeAt Go.RowKit
attribute [local go_sem ↓] Go.wp_at_zero Go.wp_at_succ
set_option linter.unusedVariables false
set_option linter.unusedSimpArgs false
/-- Behind w only the words' block and the walk's object were written; other blocks are as they were, and may be new. -/
def Fr (g A : Nat) (w w' : World) : Prop := w.heap.size ≤ w'.heap.size ∧ ∀ B, B < w.heap.size → B ≠ g → B ≠ A → w'.heap[B]? = w.heap[B]?
theorem Fr.refl (g A : Nat) (w : World) : Fr g A w w := ⟨Nat.le_refl _, fun _ _ _ _ => rfl⟩
theorem Fr.trans {g A : Nat} {w w1 w2 : World} (h : Fr g A w w1) (h' : Fr g A w1 w2) : Fr g A w w2 :=
  ⟨Nat.le_trans h.1 h'.1, fun B hB hg hA => (h'.2 B (Nat.lt_of_lt_of_le hB h.1) hg hA).trans (h.2 B hB hg hA)⟩
theorem Fr.of_keep {g A : Nat} {w w' : World} (h : Keep g w w') : Fr g A w w' := ⟨h.1, fun B hB hg _ => h.2 B hB hg⟩
theorem Fr.of_below {g A : Nat} {w w' : World} (h : Below w.heap.size w w') : Fr g A w w' := Fr.of_keep (Keep.of_below h)
theorem setA_heap (w : World) (B i k : Nat) (v : Value) (hk : k ≠ B) : (w.setCell ⟨B, i, none⟩ v).heap[k]? = w.heap[k]? := by
  show (w.heap.modify B _)[k]? = _
  rw [Array.getElem?_modify, if_neg (fun e => hk e.symm)]
theorem setA_size (w : World) (B i : Nat) (v : Value) : (w.setCell ⟨B, i, none⟩ v).heap.size = w.heap.size := by
  show (w.heap.modify B _).size = _
  rw [Array.size_modify]
theorem setA_obj {w : World} {B i t : Nat} {a : Array Value} (v : Value) (h : w.heap[B]? = some (.cells a t (0, 0))) : (w.setCell ⟨B, i, none⟩ v).heap[B]? = some (.cells (a.setIfInBounds i v) t (0, 0)) := by
  obtain ⟨hlt, hk⟩ := Array.getElem?_eq_some_iff.1 h
  show (w.heap.modify B _)[B]? = _
  rw [Array.getElem?_eq_getElem (by rw [Array.size_modify]; exact hlt), Array.getElem_modify_self, hk]
  simp
theorem Fr.setA (g A i : Nat) (w : World) (v : Value) : Fr g A w (w.setCell ⟨A, i, none⟩ v) := ⟨by rw [setA_size]; exact Nat.le_refl _, fun B _ _ hA => setA_heap w A i B v hA⟩
structure WS (w0 w : World) (S g A : Nat) (xs : List Int) (o : Wk) : Prop where
  j : J w0 w S g xs
  a : WAt w A o
  ag : A ≠ g
  aS : A ≠ S
  a0 : w0.heap.size ≤ A
section
variable {w0 w w' : World} {S g A : Nat} {xs : List Int} {o : Wk}
theorem WS.keep {ys : List Int} (h : WS w0 w S g A xs o) (hj : J w0 w' S g ys) (hk : Keep g w w') : WS w0 w' S g A ys o :=
  ⟨hj, hk.block h.a h.ag, h.ag, h.aS, h.a0⟩
theorem WS.below (h : WS w0 w S g A xs o) (hb : Below w.heap.size w w') : WS w0 w' S g A xs o := h.keep (h.j.below' hb) (Keep.of_below hb)
theorem WS.setA (i : Nat) (v : Value) (o' : Wk) (h : WS w0 w S g A xs o) (he : o.cs.setIfInBounds i v = o'.cs) : WS w0 (w.setCell ⟨A, i, none⟩ v) S g A xs o' :=
  ⟨h.j.own_set (B := A) (i := i) ⟨h.a, h.ag, h.aS, h.a0⟩ rfl, by unfold WAt; rw [setA_obj v h.a, he], h.ag, h.aS, h.a0⟩
theorem WS.nx (v : Value) (h : WS w0 w S g A xs o) : WS w0 (w.setCell ⟨A, 13, none⟩ v) S g A xs { o with nx := v } := h.setA 13 v _ rfl
theorem WS.tl (v : Int) (h : WS w0 w S g A xs o) : WS w0 (w.setCell ⟨A, 5, none⟩ (.int .i64 v)) S g A xs { o with tl := v } := h.setA 5 _ _ rfl
theorem WS.hd (v : Int) (h : WS w0 w S g A xs o) : WS w0 (w.setCell ⟨A, 7, none⟩ (.int .i64 v)) S g A xs { o with hd := v } := h.setA 7 _ _ rfl
theorem WS.ta (v : Int) (h : WS w0 w S g A xs o) : WS w0 (w.setCell ⟨A, 8, none⟩ (.int .i64 v)) S g A xs { o with ta := v } := h.setA 8 _ _ rfl
theorem WS.tn (v : Int) (h : WS w0 w S g A xs o) : WS w0 (w.setCell ⟨A, 9, none⟩ (.int .i64 v)) S g A xs { o with tn := v } := h.setA 9 _ _ rfl
theorem WS.gt (v : Int) (h : WS w0 w S g A xs o) : WS w0 (w.setCell ⟨A, 10, none⟩ (.int .i64 v)) S g A xs { o with gt := v } := h.setA 10 _ _ rfl
theorem WS.hs (v : Bool) (h : WS w0 w S g A xs o) : WS w0 (w.setCell ⟨A, 11, none⟩ (.bool v)) S g A xs { o with hs := v } := h.setA 11 _ _ rfl
theorem WS.fl (v : Bool) (h : WS w0 w S g A xs o) : WS w0 (w.setCell ⟨A, 12, none⟩ (.bool v)) S g A xs { o with fl := v } := h.setA 12 _ _ rfl
end
theorem keepA {g B i : Nat} {w0 W W' : World} {v : Value} (h : Keep g w0 W ∧ W.cell? ⟨B, i, none⟩ = some v) (hk : Keep g W W') (hB : B ≠ g) : Keep g w0 W' ∧ W'.cell? ⟨B, i, none⟩ = some v := ⟨h.1.trans hk, hk.cell h.2 hB⟩
/-- What one step leaves. -/
def Post (w0 w : World) (S g A : Nat) (xs : List Int) (o : Wk) (e : Ending) (w' : World) : Prop := e = .returned (.tuple #[]) ∧ WS w0 w' S g A xs o ∧ Fr g A w w'
end Go.Proofs.Ytegbifphekhgkaa
