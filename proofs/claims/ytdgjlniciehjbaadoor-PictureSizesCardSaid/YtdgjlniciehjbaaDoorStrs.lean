/- Strings as lists of bytes; cells that stay. -/
import Derived.Test.YtdgjlniciehjbaaDoorKit
namespace Go.Proofs.YtdgjlniciehjbaaDoor.st
open Go.ChangeShapes Go.WideShapes Go.ChangeAt Go.RowKit
set_option linter.unusedVariables false
set_option linter.unusedSimpArgs false
theorem kc {W W' : World} {B j : Nat} {v : Value} (h : W.cell? ⟨B, j, none⟩ = some v) (hb : Below W.heap.size W W') : W'.cell? ⟨B, j, none⟩ = some v :=
  (hb.cell (p := ⟨B, j, none⟩) (World.block_lt_of_cell? W _ h)).trans h
theorem str_at (f : List UInt8) (i : Nat) (h : i < (⟨f.toArray⟩ : ByteArray).size) : (⟨f.toArray⟩ : ByteArray)[i]'h = f.getD i 0 := by
  have h2 : i < f.length := by
    have h3 : i < f.toArray.size := h
    simpa using h3
  show f.toArray[i] = _
  simp [List.getD_eq_getElem?_getD, List.getElem?_eq_getElem h2]
theorem str_size (f : List UInt8) : (⟨f.toArray⟩ : ByteArray).size = f.length := by show f.toArray.size = _; simp
theorem heap_new (w : World) (cs : Array Value) (e : TypeId) : (w.alloc (.cells cs e)).heap[w.heap.size]? = some (.cells cs e (0, 0)) := by
  show (w.heap.push _)[w.heap.size]? = _
  simp
theorem tr3 {a b c : World} (h1 : Below a.heap.size a b) (h2 : Below b.heap.size b c) : Below a.heap.size a c := h1.trans (h2.mono h1.size)
theorem drop_at {α : Type} [Inhabited α] (l : List α) (d : α) (i : Nat) (h : i < l.length) : l.drop i = l.getD i d :: l.drop (i + 1) := by
  rw [List.drop_eq_getElem_cons h]
  congr 1
  simp [List.getD_eq_getElem?_getD, List.getElem?_eq_getElem h]
theorem str_cut (f : List UInt8) (i : Nat) (h : i < f.length) : (⟨f.toArray⟩ : ByteArray).extract i (i + 1) = ⟨#[f.getD i 0]⟩ := by
  rw [ByteArray.ext_iff, ByteArray.data_extract]
  apply Array.ext'
  rw [Array.toList_extract, List.extract_eq_take_drop, show i + 1 - i = 1 by omega]
  show List.take 1 (List.drop i f) = [f.getD i 0]
  rw [List.drop_eq_getElem_cons h, List.getD_eq_getElem?_getD, List.getElem?_eq_getElem h]
  rfl
theorem str_sub (l : List UInt8) (i k : Nat) : (⟨l.toArray⟩ : ByteArray).extract i (i + k) = ⟨((l.drop i).take k).toArray⟩ := by
  rw [ByteArray.ext_iff, ByteArray.data_extract]
  apply Array.ext'
  rw [Array.toList_extract, List.extract_eq_take_drop, show i + k - i = k by omega]
theorem set_blk (w : World) (b i : Nat) (v : Value) {cs : Array Value} {e : TypeId} (h : w.heap[b]? = some (.cells cs e (0, 0))) : (w.setCell ⟨b, i, none⟩ v).heap[b]? = some (.cells (cs.set! i v) e (0, 0)) := by
  obtain ⟨hlt, hk⟩ := Array.getElem?_eq_some_iff.1 h
  show (w.heap.modify b _)[b]? = _
  rw [Array.getElem?_eq_getElem (by rw [Array.size_modify]; exact hlt), Array.getElem_modify_self, hk]
  rfl
theorem set_oth (w : World) (b i j : Nat) (v : Value) (h : j ≠ b) : (w.setCell ⟨b, i, none⟩ v).heap[j]? = w.heap[j]? := by
  show (w.heap.modify b _)[j]? = _
  rw [Array.getElem?_modify]
  simp [Ne.symm h]
theorem set_size (w : World) (b i : Nat) (v : Value) : (w.setCell ⟨b, i, none⟩ v).heap.size = w.heap.size := by
  show (w.heap.modify b _).size = _
  simp
theorem str_drop (r : List UInt8) (h : Nat) : (⟨r.toArray⟩ : ByteArray).extract h (⟨r.toArray⟩ : ByteArray).size = ⟨(r.drop h).toArray⟩ := by
  rw [str_size, ByteArray.ext_iff, ByteArray.data_extract]
  apply Array.ext'
  rw [Array.toList_extract, List.extract_eq_take_drop]
  show List.take (r.length - h) (List.drop h r) = r.drop h
  exact List.take_of_length_le (by rw [List.length_drop]; omega)
theorem frz {w : World} {g : Nat} {cs : Array Value} {e : TypeId} (h : w.heap[g]? = some (.cells cs e (0, 0))) (i : Nat) : w.frozen? ⟨g, i, none⟩ = false := by simp [World.frozen?, h]
theorem cel {w : World} {g : Nat} {cs : Array Value} {e : TypeId} (h : w.heap[g]? = some (.cells cs e (0, 0))) (i : Nat) : w.cell? ⟨g, i, none⟩ = cs[i]? := by simp [World.cell?, h]
theorem str_join (s t : List UInt8) : (⟨s.toArray⟩ : ByteArray) ++ ⟨t.toArray⟩ = ⟨(s ++ t).toArray⟩ := by
  apply ByteArray.ext
  simp
theorem kb {W W' : World} {B : Nat} {o : Obj} (h : W.heap[B]? = some o) (hb : Below W.heap.size W W') : W'.heap[B]? = some o :=
  (hb.block B (Array.getElem?_eq_some_iff.1 h).1).trans h
end Go.Proofs.YtdgjlniciehjbaaDoor.st
