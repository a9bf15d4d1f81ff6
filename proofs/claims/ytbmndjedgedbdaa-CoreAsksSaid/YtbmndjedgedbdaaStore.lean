/- The contracts of a store of words (layer 9) into which nobody looks. -/
import Derived.Test.YtbmndjedgedbdaaKit
import Derived.Handy
import Derived.Laws.EntriesVeiled
import Derived.Laws.MakeOwn
import Derived.Deep.OwnRows
namespace Go.Proofs.Ytbmndjedgedbdaa
open Go.ChangeShapes Go.WideShapes Go.ChangeAt Go.RowKit
set_option linter.unusedVariables false

/-- In world w block S is a store whose words are block g: the numbers xs; nobody looks. -/
def StoreAt (w : World) (S g : Nat) (xs : List Int) : Prop :=
  w.heap[S]? = some (.cells #[.slice (some ⟨g, 0, none⟩) xs.length xs.length, .nilFunc] 101 (0, 0)) ∧ w.heap[g]? = some (.cells (xs.map (Value.int .i64)).toArray 3 (0, 0)) ∧ S ≠ g
theorem lt_of_heap {w : World} {B : Nat} {o : Obj} (h : w.heap[B]? = some o) : B < w.heap.size := by
  rcases Nat.lt_or_ge B w.heap.size with h' | h'
  · exact h'
  · rw [Array.getElem?_eq_none h'] at h; cases h
theorem StoreAt.below {w w' : World} {S g : Nat} {xs : List Int} (h : StoreAt w S g xs) (hb : Below w.heap.size w w') : StoreAt w' S g xs :=
  ⟨(hb.block S (lt_of_heap h.1)).trans h.1, (hb.block g (lt_of_heap h.2.1)).trans h.2.1, h.2.2⟩
theorem StoreAt.facts {w : World} {S g : Nat} {xs : List Int} (h : StoreAt w S g xs) :
    w.cell? ⟨S, 0, none⟩ = some (.slice (some ⟨g, 0, none⟩) xs.length xs.length) ∧ w.cell? ⟨S, 1, none⟩ = some .nilFunc ∧ (∀ i, i < xs.length → w.cell? ⟨g, i, none⟩ = some (.int .i64 (xs.getD i 0))) ∧ (∀ i, w.frozen? ⟨g, i, none⟩ = false) ∧ S < w.heap.size ∧ g < w.heap.size := by
  obtain ⟨h1, h2, h3⟩ := h
  refine ⟨by simp [World.cell?, h1], by simp [World.cell?, h1], fun i hi => ?_, fun i => by simp [World.frozen?, h2], lt_of_heap h1, lt_of_heap h2⟩
  simp [World.cell?, h2, hi]
theorem StoreAt.set {w : World} {S g : Nat} {xs : List Int} (h : StoreAt w S g xs) (i : Nat) (x : Int) : StoreAt (w.setCell ⟨g, i, none⟩ (.int .i64 x)) S g (xs.set i x) := by
  obtain ⟨h1, h2, h3⟩ := h
  refine ⟨?_, ?_, h3⟩
  · rw [List.length_set]
    show (w.heap.modify g _)[S]? = _
    rw [Array.getElem?_modify, if_neg (fun e => h3 e.symm)]
    exact h1
  · obtain ⟨hlt, hk⟩ := Array.getElem?_eq_some_iff.1 h2
    show (w.heap.modify g _)[g]? = _
    rw [Array.getElem?_eq_getElem (by rw [Array.size_modify]; exact hlt), Array.getElem_modify_self, hk]
    simp
theorem size_any (S g : Nat) (xs : List Int) (w : World) (h : StoreAt w S g xs) : Calls Try.prog 68 #[.pointer (some ⟨S, 0, none⟩)] w fun e w' => e = .returned (.int .i64 xs.length) ∧ w = w' := by
  obtain ⟨h0, h1, _, _, _, _⟩ := h.facts
  clear h
  generalize xs.length = n at *
  go_enter Try.func68, Try.ntmps68
  go_wp2
  go_ret
  exact ⟨rfl, rfl⟩
theorem neq_nilFunc (w : World) : (binOp .neq 99 .nilFunc .nilFunc).run Try.prog w = .ok (.bool false) w := by kernel_rfl
theorem word_in (S g : Nat) (xs : List Int) (at_ : Nat) (b : Bool) (w : World) (h : StoreAt w S g xs) (hat : at_ < xs.length) (hm : xs.length ≤ 1048576) : Calls Try.prog 56 #[.pointer (some ⟨S, 0, none⟩), .int .i64 at_, .bool b] w fun e w' => e = .returned (.pointer (some ⟨g, at_, none⟩)) ∧ w = w' := by
  obtain ⟨h0, h1, _, _, _, _⟩ := h.facts
  have hn := neq_nilFunc
  have H := Lib.hid h
  clear h
  go_enter Try.func56, Try.ntmps56
  go_wp2_with (go_at_call 68; refine (size_any S g xs _ H.out).mono ?_; rintro e w' ⟨rfl, rfl⟩)
  go_ret
  exact ⟨rfl, rfl⟩

theorem load_in (S g : Nat) (xs : List Int) (at_ : Nat) (w : World) (h : StoreAt w S g xs) (hat : at_ < xs.length) (hm : xs.length ≤ 1048576) : Calls Try.prog 52 #[.pointer (some ⟨S, 0, none⟩), .int .i64 at_] w fun e w' => e = .returned (.tuple #[.int .i64 (xs.getD at_ 0), .bool true]) ∧ w = w' := by
  obtain ⟨_, _, h2, _, _, _⟩ := h.facts
  have hc := h2 at_ hat
  clear h2
  generalize hx : xs.getD at_ 0 = x at *
  go_enter Try.func52, Try.ntmps52
  go_wp2_with (go_at_call 56; refine (word_in S g xs at_ _ _ h hat hm).mono ?_; rintro e w' ⟨rfl, rfl⟩)
  go_ret2
  exact ⟨rfl, rfl⟩
theorem add_in (S g : Nat) (xs : List Int) (at_ : Nat) (n : Int) (w : World) (h : StoreAt w S g xs) (hat : at_ < xs.length) (hm : xs.length ≤ 1048576) : Calls Try.prog 53 #[.pointer (some ⟨S, 0, none⟩), .int .i64 at_, .int .i64 n] w fun e w' => e = .returned (.tuple #[.int .i64 (xs.getD at_ 0), .bool true]) ∧ w.setCell ⟨g, at_, none⟩ (.int .i64 (wrap64 (xs.getD at_ 0 + n))) = w' := by
  obtain ⟨_, _, h2, h3, _, _⟩ := h.facts
  have hc := h2 at_ hat
  have hf := h3 at_
  clear h2 h3
  generalize hx : xs.getD at_ 0 = x at *
  go_enter Try.func53, Try.ntmps53
  go_wp2_with (go_at_call 56; refine (word_in S g xs at_ _ _ h hat hm).mono ?_; rintro e w' ⟨rfl, rfl⟩)
  go_ret2
  exact ⟨rfl, rfl⟩
theorem store_in (S g : Nat) (xs : List Int) (at_ : Nat) (n : Int) (w : World) (h : StoreAt w S g xs) (hat : at_ < xs.length) (hm : xs.length ≤ 1048576) : Calls Try.prog 41 #[.pointer (some ⟨S, 0, none⟩), .int .i64 at_, .int .i64 n] w fun e w' => e = .returned (.bool true) ∧ w.setCell ⟨g, at_, none⟩ (.int .i64 n) = w' := by
  obtain ⟨_, _, h2, h3, _, _⟩ := h.facts
  have hc := h2 at_ hat
  have hf := h3 at_
  clear h2 h3
  generalize hx : xs.getD at_ 0 = x at *
  go_enter Try.func41, Try.ntmps41
  go_wp2_with (go_at_call 56; refine (word_in S g xs at_ _ _ h hat hm).mono ?_; rintro e w' ⟨rfl, rfl⟩)
  go_ret
  exact ⟨rfl, rfl⟩
theorem zeros_cells (n : Nat) : madeCells #[Value.int .i64 0] n = ((List.replicate n (0 : Int)).map (Value.int .i64)).toArray := by
  apply Array.ext
  · simp [size_madeCells]
  · intro i h1 h2
    simp [madeCells, Nat.mod_one]
theorem new_n (n : Nat) (w : World) (hn : n ≤ 1048576) : Calls Try.prog 36 #[.int .i64 n] w fun e w' => e = .returned (.pointer (some ⟨w.heap.size + 1, 0, none⟩)) ∧ StoreAt w' (w.heap.size + 1) w.heap.size (List.replicate n 0) ∧ Below w.heap.size w w' := by
  have hmk := run_make_row' (P := Try.prog) 25 3 (.int .i64 0) 8 Try.underlying25 (by kernel_rfl) rfl .i64 .i64 n (by omega) (by omega)
  go_enter Try.func36, Try.ntmps36
  go_wp2
  go_ret
  refine ⟨rfl, ⟨?_, ?_, by omega⟩, by go_grown⟩
  · rw [List.length_replicate]
    show ((w.heap.push _).push _)[w.heap.size + 1]? = _
    rw [show w.heap.size + 1 = (w.heap.push (Obj.cells (madeCells #[Value.int .i64 0] n) 3)).size from by simp, Array.getElem?_push_size]
  · rw [← zeros_cells]
    show ((w.heap.push _).push _)[w.heap.size]? = _
    rw [Array.getElem?_push, if_neg (by simp), Array.getElem?_push_size]
end Go.Proofs.Ytbmndjedgedbdaa
