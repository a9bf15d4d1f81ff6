/- The contracts of layer 18 (join) at words that there are not; and of a store beside a row of numbers of the walk's own. -/
import Derived.Test.YtfigabjcmpakeabJoin
import Derived.Test.YtfigabjcmpakeabStoreAll
namespace Go.Proofs.Ytfigabjcmpakeab
open Go.ChangeShapes Go.WideShapes Go.ChangeAt Go.RowKit
set_option linter.unusedVariables false
theorem word_out (S g : Nat) (xs : List Int) (at_ : Int) (b : Bool) (w : World) (h : StoreAt w S g xs) (hat : at_ < 0 ∨ (xs.length : Int) ≤ at_) : Calls Try.prog 72 #[.pointer (some ⟨S, 0, none⟩), .int .i64 at_, .bool b] w fun e w' => e = .returned (.pointer none) ∧ w = w' := by
  obtain ⟨h0, h1, _, _, _, _⟩ := h.facts
  have H := Lib.hid h
  clear h
  by_cases h2 : at_ < 0
  · clear hat
    go_enter Try.func72, Try.ntmps72
    go_wp2_with (go_at_call 99; refine (size_any S g xs _ H.out).mono ?_; rintro e w' ⟨rfl, rfl⟩)
    go_ret
    exact ⟨rfl, rfl⟩
  · have h3 : (xs.length : Int) ≤ at_ := by omega
    clear hat
    go_enter Try.func72, Try.ntmps72
    go_wp2_with (go_at_call 99; refine (size_any S g xs _ H.out).mono ?_; rintro e w' ⟨rfl, rfl⟩)
    go_ret
    exact ⟨rfl, rfl⟩
theorem add_out (S g : Nat) (xs : List Int) (at_ n : Int) (w : World) (h : StoreAt w S g xs) (hat : at_ < 0 ∨ (xs.length : Int) ≤ at_) : Calls Try.prog 56 #[.pointer (some ⟨S, 0, none⟩), .int .i64 at_, .int .i64 n] w fun e w' => e = .returned (.tuple #[.int .i64 0, .bool false]) ∧ w = w' := by
  have H := Lib.hid h
  have HA := Lib.hid hat
  clear h hat
  go_enter Try.func56, Try.ntmps56
  go_wp2_with (go_at_call 72; refine (word_out S g xs at_ _ _ H.out HA.out).mono ?_; rintro e w' ⟨rfl, rfl⟩)
  go_ret2
  exact ⟨rfl, rfl⟩
theorem store_out (S g : Nat) (xs : List Int) (at_ n : Int) (w : World) (h : StoreAt w S g xs) (hat : at_ < 0 ∨ (xs.length : Int) ≤ at_) : Calls Try.prog 41 #[.pointer (some ⟨S, 0, none⟩), .int .i64 at_, .int .i64 n] w fun e w' => e = .returned (.bool false) ∧ w = w' := by
  have H := Lib.hid h
  have HA := Lib.hid hat
  clear h hat
  go_enter Try.func41, Try.ntmps41
  go_wp2_with (go_at_call 72; refine (word_out S g xs at_ _ _ H.out HA.out).mono ?_; rintro e w' ⟨rfl, rfl⟩)
  go_ret
  exact ⟨rfl, rfl⟩
theorem spawn_out (S g : Nat) (xs : List Int) (at_ : Int) (w : World) (h : StoreAt w S g xs) (hat : at_ < 0 ∨ (xs.length : Int) ≤ at_) : Calls Try.prog 42 #[.pointer (some ⟨S, 0, none⟩), .int .i64 at_] w fun e w' => e = .returned (.tuple #[]) ∧ w = w' := by
  have H := Lib.hid h
  have HA := Lib.hid hat
  clear h hat
  go_enter Try.func42, Try.ntmps42
  go_wp2_with (go_at_call 56; refine (add_out S g xs at_ 1 _ H.out HA.out).mono ?_; rintro e w' ⟨rfl, rfl⟩)
  go_end0
  exact ⟨rfl, rfl⟩
theorem leave_out (S g : Nat) (xs : List Int) (at_ : Int) (w : World) (h : StoreAt w S g xs) (hat : at_ < 0 ∨ (xs.length : Int) ≤ at_) : Calls Try.prog 43 #[.pointer (some ⟨S, 0, none⟩), .int .i64 at_] w fun e w' => e = .returned (.bool false) ∧ w = w' := by
  have H := Lib.hid h
  have HA := Lib.hid hat
  clear h hat
  go_enter Try.func43, Try.ntmps43
  go_wp2_with (go_at_call 56; refine (add_out S g xs at_ (-1) _ H.out HA.out).mono ?_; rintro e w' ⟨rfl, rfl⟩)
  go_ret
  exact ⟨rfl, rfl⟩
theorem again_out (S g : Nat) (xs : List Int) (at_ : Int) (w : World) (h : StoreAt w S g xs) (hat : at_ < 0 ∨ (xs.length : Int) ≤ at_) : Calls Try.prog 44 #[.pointer (some ⟨S, 0, none⟩), .int .i64 at_] w fun e w' => e = .returned (.tuple #[]) ∧ w = w' := by
  have H := Lib.hid h
  have HA := Lib.hid hat
  clear h hat
  go_enter Try.func44, Try.ntmps44
  go_wp2_with (go_at_call 41; refine (store_out S g xs at_ 1 _ H.out HA.out).mono ?_; rintro e w' ⟨rfl, rfl⟩)
  go_end0
  exact ⟨rfl, rfl⟩

/-- Behind world w0 a store of the words xs stands, and a row of the numbers ms in block M; both are younger than w0. -/
def K (w0 w : World) (S g M : Nat) (xs ms : List Int) : Prop :=
  J w0 w S g xs ∧ w.heap[M]? = some (.cells (ms.map (Value.int .i64)).toArray 3 (0, 0)) ∧ M ≠ g ∧ M ≠ S ∧ w0.heap.size ≤ M ∧ w0.heap.size ≤ S
theorem setCell_heap_ne (w : World) (p : Addr) (v : Value) (B : Nat) (h : p.block ≠ B) : (w.setCell p v).heap[B]? = w.heap[B]? := by
  show (w.heap.modify p.block _)[B]? = _
  rw [Array.getElem?_modify, if_neg h]
theorem setCell_row (w : World) (M i : Nat) (x : Int) (ms : List Int) (h : w.heap[M]? = some (.cells (ms.map (Value.int .i64)).toArray 3 (0, 0))) : (w.setCell ⟨M, i, none⟩ (.int .i64 x)).heap[M]? = some (.cells ((ms.set i x).map (Value.int .i64)).toArray 3 (0, 0)) := by
  obtain ⟨hlt, hk⟩ := Array.getElem?_eq_some_iff.1 h
  show (w.heap.modify M _)[M]? = _
  rw [Array.getElem?_eq_getElem (by rw [Array.size_modify]; exact hlt), Array.getElem_modify_self, hk]
  simp
theorem K.setS {w0 w w' : World} {S g M : Nat} {xs ms : List Int} (h : K w0 w S g M xs ms) (i : Nat) (x : Int) (hw : w.setCell ⟨g, i, none⟩ (.int .i64 x) = w') : K w0 w' S g M (xs.set i x) ms := by
  obtain ⟨hj, hm, h1, h2, h3, h4⟩ := h
  refine ⟨hj.set i x hw, ?_, h1, h2, h3, h4⟩
  rw [← hw, setCell_heap_ne w _ _ M (fun e => h1 e.symm)]
  exact hm
theorem K.setM {w0 w : World} {S g M : Nat} {xs ms : List Int} (h : K w0 w S g M xs ms) (i : Nat) (x : Int) : K w0 (w.setCell ⟨M, i, none⟩ (.int .i64 x)) S g M xs (ms.set i x) := by
  obtain ⟨⟨⟨hs1, hs2, hs3⟩, hb, hg⟩, hm, h1, h2, h3, h4⟩ := h
  refine ⟨⟨⟨?_, ?_, hs3⟩, hb.setCell h3 _, hg⟩, setCell_row w M i x ms hm, h1, h2, h3, h4⟩
  · rw [setCell_heap_ne w _ _ S h2]; exact hs1
  · rw [setCell_heap_ne w _ _ g h1]; exact hs2
theorem K.below {w0 w w' : World} {S g M : Nat} {xs ms : List Int} (h : K w0 w S g M xs ms) (hb : Below w.heap.size w w') : K w0 w' S g M xs ms := by
  obtain ⟨⟨hs, hb0, hg⟩, hm, h1, h2, h3, h4⟩ := h
  exact ⟨⟨hs.below hb, hb0.trans (hb.mono hb0.size), hg⟩, (hb.block M (lt_of_heap hm)).trans hm, h1, h2, h3, h4⟩
theorem K.cell {w0 w : World} {S g M : Nat} {xs ms : List Int} (h : K w0 w S g M xs ms) {i : Nat} (hi : i < ms.length) : w.cell? ⟨M, i, none⟩ = some (.int .i64 (ms.getD i 0)) := by
  simp [World.cell?, h.2.1, hi]
theorem K.free {w0 w : World} {S g M : Nat} {xs ms : List Int} (h : K w0 w S g M xs ms) (i : Nat) : w.frozen? ⟨M, i, none⟩ = false := by
  simp [World.frozen?, h.2.1]
theorem K.view {w0 w : World} {S g M : Nat} {xs ms : List Int} (h : K w0 w S g M xs ms) (hm : ms.length ≤ maxLen) : View w (.slice (some ⟨M, 0, none⟩) ms.length ms.length) ms :=
  ⟨_, _, rfl, ⟨Nat.le_refl _, hm⟩, (fun h => by cases h), fun _ => ⟨M, 0, rfl, lt_of_heap h.2.1, Nat.le_refl _, fun i hi => by rw [Nat.zero_add]; exact h.cell hi⟩⟩
theorem same_k (S g M n : Nat) (xs : List Int) (w0 w : World) (h : K w0 w S g M xs xs) (hn : Hid (xs.length = n)) (hsm : n ≤ 100000) : Calls Try.prog 23 #[.pointer (some ⟨S, 0, none⟩)] w fun e w' => ∃ v, e = .returned v ∧ K w0 w' S g M xs xs ∧ View w' v xs ∧ View w' (.slice (some ⟨M, 0, none⟩) n n) xs := by
  have e := hn.out
  subst e
  refine (all_any S g xs w h.1.1 hsm).mono ?_
  rintro e w' ⟨v, rfl, h1, h2⟩
  exact ⟨v, rfl, h.below h2, view_of_own h1, (h.below h2).view (by unfold maxLen; omega)⟩
theorem ints_k (S g M : Nat) (xs : List Int) (va vb : Value) (w0 w : World) (h : K w0 w S g M xs xs) (hA : View w va xs) (hB : View w vb xs) : Calls Try.prog 22 #[va, vb] w fun e w' => e = .returned (.bool true) ∧ K w0 w' S g M xs xs := by
  refine (ints_any va vb xs xs w hA hB).mono ?_
  rintro e w' ⟨rfl, n, rfl⟩
  exact ⟨by rw [beq_self_eq_true], h.below (below_drewN (Below.refl _ _) n)⟩
theorem K.new {w0 w : World} {S g n : Nat} (hj : J w0 w S g (List.replicate n 0)) (hS : w0.heap.size ≤ S) : K w0 (w.alloc (Obj.cells (madeCells #[Value.int .i64 0] n) 3)) S g w.heap.size (List.replicate n 0) (List.replicate n 0) := by
  obtain ⟨hs, hb, hg⟩ := hj
  obtain ⟨_, _, _, _, f5, f6⟩ := hs.facts
  refine ⟨⟨hs.below ((Below.refl _ _).alloc (Nat.le_refl _) _), hb.alloc hb.size _, hg⟩, ?_, by omega, by omega, hb.size, hS⟩
  rw [← zeros_cells]
  exact heap_made w _
theorem store_k (S g M n at_ : Nat) (x : Int) (xs ms : List Int) (w0 w : World) (h : K w0 w S g M xs ms) (hn : Hid (xs.length = n)) (hat : at_ < n) (hm : n ≤ 100000) : Calls Try.prog 41 #[.pointer (some ⟨S, 0, none⟩), .int .i64 at_, .int .i64 x] w fun e w' => e = .returned (.bool true) ∧ K w0 w' S g M (xs.set at_ x) ms :=
  (store_in S g xs at_ x w h.1.1 (by rw [hn.out]; exact hat) (by rw [hn.out]; omega)).mono fun _ _ ⟨he, hw⟩ => ⟨he, h.setS _ _ hw⟩
theorem spawn_k (S g M n at_ : Nat) (x : Int) (xs ms : List Int) (w0 w : World) (h : K w0 w S g M xs ms) (hn : Hid (xs.length = n)) (hx : Hid (xs.getD at_ 0 = x)) (hat : at_ < n) (hm : n ≤ 100000) : Calls Try.prog 42 #[.pointer (some ⟨S, 0, none⟩), .int .i64 at_] w fun e w' => e = .returned (.tuple #[]) ∧ K w0 w' S g M (xs.set at_ (wrap64 (x + 1))) ms :=
  (spawn_in S g xs at_ w h.1.1 (by rw [hn.out]; exact hat) (by rw [hn.out]; omega)).mono fun _ _ ⟨he, hw⟩ => ⟨he, h.setS _ _ (by rw [← hx.out]; exact hw)⟩
theorem leave_k (S g M n at_ : Nat) (x : Int) (q : Bool) (xs ms : List Int) (w0 w : World) (h : K w0 w S g M xs ms) (hn : Hid (xs.length = n)) (hx : Hid (xs.getD at_ 0 = x)) (hq : Hid ((x == 1) = q)) (hat : at_ < n) (hm : n ≤ 100000) : Calls Try.prog 43 #[.pointer (some ⟨S, 0, none⟩), .int .i64 at_] w fun e w' => e = .returned (.bool q) ∧ K w0 w' S g M (xs.set at_ (wrap64 (x + -1))) ms :=
  (leave_in S g xs at_ w h.1.1 (by rw [hn.out]; exact hat) (by rw [hn.out]; omega)).mono fun _ _ ⟨he, hw⟩ => ⟨by rw [he, hx.out, hq.out], h.setS _ _ (by rw [← hx.out]; exact hw)⟩
theorem again_k (S g M n at_ : Nat) (xs ms : List Int) (w0 w : World) (h : K w0 w S g M xs ms) (hn : Hid (xs.length = n)) (hat : at_ < n) (hm : n ≤ 100000) : Calls Try.prog 44 #[.pointer (some ⟨S, 0, none⟩), .int .i64 at_] w fun e w' => e = .returned (.tuple #[]) ∧ K w0 w' S g M (xs.set at_ 1) ms :=
  (again_in S g xs at_ w h.1.1 (by rw [hn.out]; exact hat) (by rw [hn.out]; omega)).mono fun _ _ ⟨he, hw⟩ => ⟨he, h.setS _ _ hw⟩
theorem K.cell' {w0 w : World} {S g M n i : Nat} {x : Int} {xs ms : List Int} (h : K w0 w S g M xs ms) (hn : Hid (ms.length = n)) (hi : i < n) (hx : Hid (ms.getD i 0 = x)) : w.cell? ⟨M, i, none⟩ = some (.int .i64 x) := by
  rw [← hx.out]
  exact h.cell (by rw [hn.out]; exact hi)
theorem len_set {xs : List Int} {n : Nat} (h : Hid (xs.length = n)) (i : Nat) (x : Int) : Hid ((xs.set i x).length = n) := by
  have := h.out
  exact Lib.hid (by rw [List.length_set]; exact this)
end Go.Proofs.Ytfigabjcmpakeab
