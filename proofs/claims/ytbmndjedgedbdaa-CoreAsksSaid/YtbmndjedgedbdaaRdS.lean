/- The document's answer of layer 9: what a step answers of words, and what they are then; an operation each. -/
import Derived.Test.YtbmndjedgedbdaaView
import Derived.Test.YtbmndjedgedbdaaApp1
import Derived.Test.YtbmndjedgedbdaaKeep
import Derived.Handy
import Derived.Outline
namespace Go.Proofs.Ytbmndjedgedbdaa.rds
open Go.ChangeShapes Go.WideShapes Go.ChangeAt Go.RowKit
set_option linter.unusedVariables false
set_option linter.unusedSimpArgs false
def RDo (w : World) (ys : List Int) (want : Int) (ok : Bool) (e : Ending) (w' : World) : Prop := ∃ v', e = .returned (.tuple #[v', .int .i64 want, .bool ok]) ∧ w'.ownsRow w.heap.size 3 1 v' ys.length (ys.map (Value.int .i64)) ∧ Below w.heap.size w w'
theorem own_form {w : World} {B n : Nat} {v : Value} {xs : List Value} (h : w.ownsRow B 3 1 v n xs) : ∃ o c, v = .slice o n c ∧ n ≤ c ∧ (0 < n → ∃ q, o = some ⟨q, 0, none⟩ ∧ B ≤ q ∧ q < w.heap.size) := by
  have hlt := h.lt
  obtain ⟨_, ⟨rfl, rfl⟩ | ⟨q, cap, cur, rfl, hb, _, hle, _⟩⟩ := h
  · exact ⟨none, 0, rfl, Nat.le_refl _, fun h => by omega⟩
  · exact ⟨_, cap, rfl, hle, fun _ => ⟨q, rfl, hb, (hlt q rfl).2⟩⟩
theorem own_cell {w : World} {B n i q c : Nat} {xs : List Value} {u : Value} (h : w.ownsRow B 3 1 (.slice (some ⟨q, 0, none⟩) n c) n xs) (hi : xs[i]? = some u) : w.cell? ⟨q, i, none⟩ = some u := by
  have := h.cells rfl i u hi
  rw [Go.WideShapes.add_plain, Nat.zero_add] at this
  exact this
theorem own_free {w : World} {B n i q c : Nat} {xs : List Value} (h : w.ownsRow B 3 1 (.slice (some ⟨q, 0, none⟩) n c) n xs) : w.frozen? ⟨q, i, none⟩ = false := by
  obtain ⟨_, ⟨h, _⟩ | ⟨g, cap, cur, e, _, hg, _⟩⟩ := h
  · cases h
  · cases e; simp [World.frozen?, hg]
theorem own_set {w : World} {B n i q c : Nat} {xs : List Int} {x : Int} (h : w.ownsRow B 3 1 (.slice (some ⟨q, 0, none⟩) n c) n (xs.map (Value.int .i64))) : (w.setCell ⟨q, i, none⟩ (.int .i64 x)).ownsRow B 3 1 (.slice (some ⟨q, 0, none⟩) n c) n ((xs.set i x).map (Value.int .i64)) := by
  obtain ⟨hl, ⟨h, _⟩ | ⟨g, cap, cur, e, hb, hg, h1, h2, h3, h4⟩⟩ := h
  · cases h
  · cases e
    refine ⟨by simpa using hl, .inr ⟨q, c, cur.setIfInBounds i (.int .i64 x), rfl, hb, ?_, h1, h2, by simpa using h3, ?_⟩⟩
    · obtain ⟨hlt, hk⟩ := Array.getElem?_eq_some_iff.1 hg
      show (w.heap.modify q _)[q]? = _
      rw [Array.getElem?_eq_getElem (by rw [Array.size_modify]; exact hlt), Array.getElem_modify_self, hk]
      first | rfl | simp
    · rw [Array.toList_setIfInBounds, List.map_set, ← h4, List.take_set]
theorem row_mono {w : World} {base b2 : Nat} {v : Value} {n : Nat} {xs : List Value} (h : w.ownsRow base 3 1 v n xs) (hb : b2 ≤ base) : w.ownsRow b2 3 1 v n xs := by
  obtain ⟨hl, h⟩ := h
  refine ⟨hl, ?_⟩
  rcases h with h | ⟨g, cap, cur, rfl, hg, h1⟩
  · exact .inl h
  · exact .inr ⟨g, cap, cur, rfl, Nat.le_trans hb hg, h1⟩
theorem own_n {w : World} {B n m : Nat} {v : Value} {xs : List Value} (h : w.ownsRow B 3 1 v n xs) (e : n = m) : w.ownsRow B 3 1 v m xs := e ▸ h
theorem kcell {w w' : World} {X B i : Nat} {v : Value} (h : w.cell? ⟨X, i, none⟩ = some v) (hb : Below B w w') (hX : X < B) : w'.cell? ⟨X, i, none⟩ = some v := (cell_heap (hb.block X hX)).trans h
theorem scell {w : World} {X q i j : Nat} {v x : Value} (h : w.cell? ⟨X, i, none⟩ = some v) (hne : X ≠ q) : (w.setCell ⟨q, j, none⟩ x).cell? ⟨X, i, none⟩ = some v := by
  refine (cell_heap ?_).trans h
  show (w.heap.modify q _)[X]? = _
  rw [Array.getElem?_modify, if_neg (fun e => hne e.symm)]
set_option maxRecDepth 20000 in
set_option maxHeartbeats 2000000 in
theorem rdo_out_0_lt (vm : Value) (xs : List Int) (at_ : Int) (n o : Int) (w : World) (hv : View w vm xs) (hsm : xs.length ≤ 100000) (hat : at_ < 0) :
    Calls Try.prog 31 #[vm, .agg #[.int .i64 0, .int .i64 at_, .int .i64 n, .int .i64 o]] w (RDo w xs 0 false) := by
  go_enter Try.func31, Try.ntmps31
  go_wp2_with (at_builtin; refine wpList_copy_row rfl _ _ rfl (w.heap.size + 1) (w.heap.size + 1) rfl ?o1 (Nat.le_refl _) xs ?v1 hsm ?_)
  case o1 => have h := heap_made (w.alloc (.cells #[.int .i64 0, .int .i64 at_, .int .i64 n, .int .i64 o] 76)) (.cells #[] 3); rw [show (w.alloc (.cells #[Value.int .i64 0, .int .i64 at_, .int .i64 n, .int .i64 o] 76)).heap.size = w.heap.size + 1 from by simp] at h; exact h
  case v1 => exact hv.below (by go_grown)
  intro v' w2 hr hb2
  have c0 : w2.cell? ⟨w.heap.size, 0, none⟩ = some (.int .i64 0) := kcell (by go_simp) hb2 (by omega)
  have c1 : w2.cell? ⟨w.heap.size, 1, none⟩ = some (.int .i64 at_) := kcell (by go_simp) hb2 (by omega)
  have c2 : w2.cell? ⟨w.heap.size, 2, none⟩ = some (.int .i64 n) := kcell (by go_simp) hb2 (by omega)
  have c3 : w2.cell? ⟨w.heap.size, 3, none⟩ = some (.int .i64 o) := kcell (by go_simp) hb2 (by omega)
  have hbw : Below w.heap.size w w2 := Below.trans (by go_grown) (hb2.mono (by omega))
  obtain ⟨oa, ca, rfl, va, rfl⟩ : ∃ oa ca, vm = .slice oa xs.length ca ∧ ∃ va, va = v' := by obtain ⟨a, c, h, _⟩ := id hv; exact ⟨a, c, h, _, rfl⟩
  obtain ⟨oq, cq, rfl, hcq, hoq⟩ := own_form hr
  obtain ⟨len, hlen⟩ : ∃ len, len = xs.length := ⟨_, rfl⟩
  rw [← hlen] at hr hoq hcq ⊢
  clear hb2
  have HR := Lib.hid hr
  have HB := Lib.hid hbw
  have HL := Lib.hid hlen
  clear hr hbw hlen hv
  go_wp2_with fail
  go_ret3
  exact ⟨_, rfl, row_mono (own_n HR.out HL.out) (Nat.le_succ _), HB.out⟩
set_option maxRecDepth 20000 in
set_option maxHeartbeats 2000000 in
theorem rdo_out_0_ge (vm : Value) (xs : List Int) (at_ : Int) (n o : Int) (w : World) (hv : View w vm xs) (hsm : xs.length ≤ 100000) (hat : (xs.length : Int) ≤ at_) :
    Calls Try.prog 31 #[vm, .agg #[.int .i64 0, .int .i64 at_, .int .i64 n, .int .i64 o]] w (RDo w xs 0 false) := by
  go_enter Try.func31, Try.ntmps31
  go_wp2_with (at_builtin; refine wpList_copy_row rfl _ _ rfl (w.heap.size + 1) (w.heap.size + 1) rfl ?o1 (Nat.le_refl _) xs ?v1 hsm ?_)
  case o1 => have h := heap_made (w.alloc (.cells #[.int .i64 0, .int .i64 at_, .int .i64 n, .int .i64 o] 76)) (.cells #[] 3); rw [show (w.alloc (.cells #[Value.int .i64 0, .int .i64 at_, .int .i64 n, .int .i64 o] 76)).heap.size = w.heap.size + 1 from by simp] at h; exact h
  case v1 => exact hv.below (by go_grown)
  intro v' w2 hr hb2
  have c0 : w2.cell? ⟨w.heap.size, 0, none⟩ = some (.int .i64 0) := kcell (by go_simp) hb2 (by omega)
  have c1 : w2.cell? ⟨w.heap.size, 1, none⟩ = some (.int .i64 at_) := kcell (by go_simp) hb2 (by omega)
  have c2 : w2.cell? ⟨w.heap.size, 2, none⟩ = some (.int .i64 n) := kcell (by go_simp) hb2 (by omega)
  have c3 : w2.cell? ⟨w.heap.size, 3, none⟩ = some (.int .i64 o) := kcell (by go_simp) hb2 (by omega)
  have hbw : Below w.heap.size w w2 := Below.trans (by go_grown) (hb2.mono (by omega))
  obtain ⟨oa, ca, rfl, va, rfl⟩ : ∃ oa ca, vm = .slice oa xs.length ca ∧ ∃ va, va = v' := by obtain ⟨a, c, h, _⟩ := id hv; exact ⟨a, c, h, _, rfl⟩
  obtain ⟨oq, cq, rfl, hcq, hoq⟩ := own_form hr
  obtain ⟨len, hlen⟩ : ∃ len, len = xs.length := ⟨_, rfl⟩
  rw [← hlen] at hr hoq hcq ⊢
  clear hb2
  rw [← hlen] at hat
  have hat0 : ¬ at_ < 0 := by omega
  have HR := Lib.hid hr
  have HB := Lib.hid hbw
  have HL := Lib.hid hlen
  clear hr hbw hlen hv
  go_wp2_with fail
  go_ret3
  exact ⟨_, rfl, row_mono (own_n HR.out HL.out) (Nat.le_succ _), HB.out⟩
set_option maxRecDepth 20000 in
set_option maxHeartbeats 2000000 in
theorem rdo_out_1_lt (vm : Value) (xs : List Int) (at_ : Int) (n o : Int) (w : World) (hv : View w vm xs) (hsm : xs.length ≤ 100000) (hat : at_ < 0) :
    Calls Try.prog 31 #[vm, .agg #[.int .i64 1, .int .i64 at_, .int .i64 n, .int .i64 o]] w (RDo w xs 0 false) := by
  go_enter Try.func31, Try.ntmps31
  go_wp2_with (at_builtin; refine wpList_copy_row rfl _ _ rfl (w.heap.size + 1) (w.heap.size + 1) rfl ?o1 (Nat.le_refl _) xs ?v1 hsm ?_)
  case o1 => have h := heap_made (w.alloc (.cells #[.int .i64 1, .int .i64 at_, .int .i64 n, .int .i64 o] 76)) (.cells #[] 3); rw [show (w.alloc (.cells #[Value.int .i64 1, .int .i64 at_, .int .i64 n, .int .i64 o] 76)).heap.size = w.heap.size + 1 from by simp] at h; exact h
  case v1 => exact hv.below (by go_grown)
  intro v' w2 hr hb2
  have c0 : w2.cell? ⟨w.heap.size, 0, none⟩ = some (.int .i64 1) := kcell (by go_simp) hb2 (by omega)
  have c1 : w2.cell? ⟨w.heap.size, 1, none⟩ = some (.int .i64 at_) := kcell (by go_simp) hb2 (by omega)
  have c2 : w2.cell? ⟨w.heap.size, 2, none⟩ = some (.int .i64 n) := kcell (by go_simp) hb2 (by omega)
  have c3 : w2.cell? ⟨w.heap.size, 3, none⟩ = some (.int .i64 o) := kcell (by go_simp) hb2 (by omega)
  have hbw : Below w.heap.size w w2 := Below.trans (by go_grown) (hb2.mono (by omega))
  obtain ⟨oa, ca, rfl, va, rfl⟩ : ∃ oa ca, vm = .slice oa xs.length ca ∧ ∃ va, va = v' := by obtain ⟨a, c, h, _⟩ := id hv; exact ⟨a, c, h, _, rfl⟩
  obtain ⟨oq, cq, rfl, hcq, hoq⟩ := own_form hr
  obtain ⟨len, hlen⟩ : ∃ len, len = xs.length := ⟨_, rfl⟩
  rw [← hlen] at hr hoq hcq ⊢
  clear hb2
  have HR := Lib.hid hr
  have HB := Lib.hid hbw
  have HL := Lib.hid hlen
  clear hr hbw hlen hv
  go_wp2_with fail
  go_ret3
  exact ⟨_, rfl, row_mono (own_n HR.out HL.out) (Nat.le_succ _), HB.out⟩
set_option maxRecDepth 20000 in
set_option maxHeartbeats 2000000 in
theorem rdo_out_1_ge (vm : Value) (xs : List Int) (at_ : Int) (n o : Int) (w : World) (hv : View w vm xs) (hsm : xs.length ≤ 100000) (hat : (xs.length : Int) ≤ at_) :
    Calls Try.prog 31 #[vm, .agg #[.int .i64 1, .int .i64 at_, .int .i64 n, .int .i64 o]] w (RDo w xs 0 false) := by
  go_enter Try.func31, Try.ntmps31
  go_wp2_with (at_builtin; refine wpList_copy_row rfl _ _ rfl (w.heap.size + 1) (w.heap.size + 1) rfl ?o1 (Nat.le_refl _) xs ?v1 hsm ?_)
  case o1 => have h := heap_made (w.alloc (.cells #[.int .i64 1, .int .i64 at_, .int .i64 n, .int .i64 o] 76)) (.cells #[] 3); rw [show (w.alloc (.cells #[Value.int .i64 1, .int .i64 at_, .int .i64 n, .int .i64 o] 76)).heap.size = w.heap.size + 1 from by simp] at h; exact h
  case v1 => exact hv.below (by go_grown)
  intro v' w2 hr hb2
  have c0 : w2.cell? ⟨w.heap.size, 0, none⟩ = some (.int .i64 1) := kcell (by go_simp) hb2 (by omega)
  have c1 : w2.cell? ⟨w.heap.size, 1, none⟩ = some (.int .i64 at_) := kcell (by go_simp) hb2 (by omega)
  have c2 : w2.cell? ⟨w.heap.size, 2, none⟩ = some (.int .i64 n) := kcell (by go_simp) hb2 (by omega)
  have c3 : w2.cell? ⟨w.heap.size, 3, none⟩ = some (.int .i64 o) := kcell (by go_simp) hb2 (by omega)
  have hbw : Below w.heap.size w w2 := Below.trans (by go_grown) (hb2.mono (by omega))
  obtain ⟨oa, ca, rfl, va, rfl⟩ : ∃ oa ca, vm = .slice oa xs.length ca ∧ ∃ va, va = v' := by obtain ⟨a, c, h, _⟩ := id hv; exact ⟨a, c, h, _, rfl⟩
  obtain ⟨oq, cq, rfl, hcq, hoq⟩ := own_form hr
  obtain ⟨len, hlen⟩ : ∃ len, len = xs.length := ⟨_, rfl⟩
  rw [← hlen] at hr hoq hcq ⊢
  clear hb2
  rw [← hlen] at hat
  have hat0 : ¬ at_ < 0 := by omega
  have HR := Lib.hid hr
  have HB := Lib.hid hbw
  have HL := Lib.hid hlen
  clear hr hbw hlen hv
  go_wp2_with fail
  go_ret3
  exact ⟨_, rfl, row_mono (own_n HR.out HL.out) (Nat.le_succ _), HB.out⟩
set_option maxRecDepth 20000 in
set_option maxHeartbeats 2000000 in
theorem rdo_out_2_lt (vm : Value) (xs : List Int) (at_ : Int) (n o : Int) (w : World) (hv : View w vm xs) (hsm : xs.length ≤ 100000) (hat : at_ < 0) :
    Calls Try.prog 31 #[vm, .agg #[.int .i64 2, .int .i64 at_, .int .i64 n, .int .i64 o]] w (RDo w xs 0 false) := by
  go_enter Try.func31, Try.ntmps31
  go_wp2_with (at_builtin; refine wpList_copy_row rfl _ _ rfl (w.heap.size + 1) (w.heap.size + 1) rfl ?o1 (Nat.le_refl _) xs ?v1 hsm ?_)
  case o1 => have h := heap_made (w.alloc (.cells #[.int .i64 2, .int .i64 at_, .int .i64 n, .int .i64 o] 76)) (.cells #[] 3); rw [show (w.alloc (.cells #[Value.int .i64 2, .int .i64 at_, .int .i64 n, .int .i64 o] 76)).heap.size = w.heap.size + 1 from by simp] at h; exact h
  case v1 => exact hv.below (by go_grown)
  intro v' w2 hr hb2
  have c0 : w2.cell? ⟨w.heap.size, 0, none⟩ = some (.int .i64 2) := kcell (by go_simp) hb2 (by omega)
  have c1 : w2.cell? ⟨w.heap.size, 1, none⟩ = some (.int .i64 at_) := kcell (by go_simp) hb2 (by omega)
  have c2 : w2.cell? ⟨w.heap.size, 2, none⟩ = some (.int .i64 n) := kcell (by go_simp) hb2 (by omega)
  have c3 : w2.cell? ⟨w.heap.size, 3, none⟩ = some (.int .i64 o) := kcell (by go_simp) hb2 (by omega)
  have hbw : Below w.heap.size w w2 := Below.trans (by go_grown) (hb2.mono (by omega))
  obtain ⟨oa, ca, rfl, va, rfl⟩ : ∃ oa ca, vm = .slice oa xs.length ca ∧ ∃ va, va = v' := by obtain ⟨a, c, h, _⟩ := id hv; exact ⟨a, c, h, _, rfl⟩
  obtain ⟨oq, cq, rfl, hcq, hoq⟩ := own_form hr
  obtain ⟨len, hlen⟩ : ∃ len, len = xs.length := ⟨_, rfl⟩
  rw [← hlen] at hr hoq hcq ⊢
  clear hb2
  have HR := Lib.hid hr
  have HB := Lib.hid hbw
  have HL := Lib.hid hlen
  clear hr hbw hlen hv
  go_wp2_with fail
  go_ret3
  exact ⟨_, rfl, row_mono (own_n HR.out HL.out) (Nat.le_succ _), HB.out⟩
set_option maxRecDepth 20000 in
set_option maxHeartbeats 2000000 in
theorem rdo_out_2_ge (vm : Value) (xs : List Int) (at_ : Int) (n o : Int) (w : World) (hv : View w vm xs) (hsm : xs.length ≤ 100000) (hat : (xs.length : Int) ≤ at_) :
    Calls Try.prog 31 #[vm, .agg #[.int .i64 2, .int .i64 at_, .int .i64 n, .int .i64 o]] w (RDo w xs 0 false) := by
  go_enter Try.func31, Try.ntmps31
  go_wp2_with (at_builtin; refine wpList_copy_row rfl _ _ rfl (w.heap.size + 1) (w.heap.size + 1) rfl ?o1 (Nat.le_refl _) xs ?v1 hsm ?_)
  case o1 => have h := heap_made (w.alloc (.cells #[.int .i64 2, .int .i64 at_, .int .i64 n, .int .i64 o] 76)) (.cells #[] 3); rw [show (w.alloc (.cells #[Value.int .i64 2, .int .i64 at_, .int .i64 n, .int .i64 o] 76)).heap.size = w.heap.size + 1 from by simp] at h; exact h
  case v1 => exact hv.below (by go_grown)
  intro v' w2 hr hb2
  have c0 : w2.cell? ⟨w.heap.size, 0, none⟩ = some (.int .i64 2) := kcell (by go_simp) hb2 (by omega)
  have c1 : w2.cell? ⟨w.heap.size, 1, none⟩ = some (.int .i64 at_) := kcell (by go_simp) hb2 (by omega)
  have c2 : w2.cell? ⟨w.heap.size, 2, none⟩ = some (.int .i64 n) := kcell (by go_simp) hb2 (by omega)
  have c3 : w2.cell? ⟨w.heap.size, 3, none⟩ = some (.int .i64 o) := kcell (by go_simp) hb2 (by omega)
  have hbw : Below w.heap.size w w2 := Below.trans (by go_grown) (hb2.mono (by omega))
  obtain ⟨oa, ca, rfl, va, rfl⟩ : ∃ oa ca, vm = .slice oa xs.length ca ∧ ∃ va, va = v' := by obtain ⟨a, c, h, _⟩ := id hv; exact ⟨a, c, h, _, rfl⟩
  obtain ⟨oq, cq, rfl, hcq, hoq⟩ := own_form hr
  obtain ⟨len, hlen⟩ : ∃ len, len = xs.length := ⟨_, rfl⟩
  rw [← hlen] at hr hoq hcq ⊢
  clear hb2
  rw [← hlen] at hat
  have hat0 : ¬ at_ < 0 := by omega
  have HR := Lib.hid hr
  have HB := Lib.hid hbw
  have HL := Lib.hid hlen
  clear hr hbw hlen hv
  go_wp2_with fail
  go_ret3
  exact ⟨_, rfl, row_mono (own_n HR.out HL.out) (Nat.le_succ _), HB.out⟩
set_option maxRecDepth 20000 in
set_option maxHeartbeats 2000000 in
theorem rdo_out_3_lt (vm : Value) (xs : List Int) (at_ : Int) (n o : Int) (w : World) (hv : View w vm xs) (hsm : xs.length ≤ 100000) (hat : at_ < 0) :
    Calls Try.prog 31 #[vm, .agg #[.int .i64 3, .int .i64 at_, .int .i64 n, .int .i64 o]] w (RDo w xs 0 false) := by
  go_enter Try.func31, Try.ntmps31
  go_wp2_with (at_builtin; refine wpList_copy_row rfl _ _ rfl (w.heap.size + 1) (w.heap.size + 1) rfl ?o1 (Nat.le_refl _) xs ?v1 hsm ?_)
  case o1 => have h := heap_made (w.alloc (.cells #[.int .i64 3, .int .i64 at_, .int .i64 n, .int .i64 o] 76)) (.cells #[] 3); rw [show (w.alloc (.cells #[Value.int .i64 3, .int .i64 at_, .int .i64 n, .int .i64 o] 76)).heap.size = w.heap.size + 1 from by simp] at h; exact h
  case v1 => exact hv.below (by go_grown)
  intro v' w2 hr hb2
  have c0 : w2.cell? ⟨w.heap.size, 0, none⟩ = some (.int .i64 3) := kcell (by go_simp) hb2 (by omega)
  have c1 : w2.cell? ⟨w.heap.size, 1, none⟩ = some (.int .i64 at_) := kcell (by go_simp) hb2 (by omega)
  have c2 : w2.cell? ⟨w.heap.size, 2, none⟩ = some (.int .i64 n) := kcell (by go_simp) hb2 (by omega)
  have c3 : w2.cell? ⟨w.heap.size, 3, none⟩ = some (.int .i64 o) := kcell (by go_simp) hb2 (by omega)
  have hbw : Below w.heap.size w w2 := Below.trans (by go_grown) (hb2.mono (by omega))
  obtain ⟨oa, ca, rfl, va, rfl⟩ : ∃ oa ca, vm = .slice oa xs.length ca ∧ ∃ va, va = v' := by obtain ⟨a, c, h, _⟩ := id hv; exact ⟨a, c, h, _, rfl⟩
  obtain ⟨oq, cq, rfl, hcq, hoq⟩ := own_form hr
  obtain ⟨len, hlen⟩ : ∃ len, len = xs.length := ⟨_, rfl⟩
  rw [← hlen] at hr hoq hcq ⊢
  clear hb2
  have HR := Lib.hid hr
  have HB := Lib.hid hbw
  have HL := Lib.hid hlen
  clear hr hbw hlen hv
  go_wp2_with fail
  go_ret3
  exact ⟨_, rfl, row_mono (own_n HR.out HL.out) (Nat.le_succ _), HB.out⟩
set_option maxRecDepth 20000 in
set_option maxHeartbeats 2000000 in
theorem rdo_out_3_ge (vm : Value) (xs : List Int) (at_ : Int) (n o : Int) (w : World) (hv : View w vm xs) (hsm : xs.length ≤ 100000) (hat : (xs.length : Int) ≤ at_) :
    Calls Try.prog 31 #[vm, .agg #[.int .i64 3, .int .i64 at_, .int .i64 n, .int .i64 o]] w (RDo w xs 0 false) := by
  go_enter Try.func31, Try.ntmps31
  go_wp2_with (at_builtin; refine wpList_copy_row rfl _ _ rfl (w.heap.size + 1) (w.heap.size + 1) rfl ?o1 (Nat.le_refl _) xs ?v1 hsm ?_)
  case o1 => have h := heap_made (w.alloc (.cells #[.int .i64 3, .int .i64 at_, .int .i64 n, .int .i64 o] 76)) (.cells #[] 3); rw [show (w.alloc (.cells #[Value.int .i64 3, .int .i64 at_, .int .i64 n, .int .i64 o] 76)).heap.size = w.heap.size + 1 from by simp] at h; exact h
  case v1 => exact hv.below (by go_grown)
  intro v' w2 hr hb2
  have c0 : w2.cell? ⟨w.heap.size, 0, none⟩ = some (.int .i64 3) := kcell (by go_simp) hb2 (by omega)
  have c1 : w2.cell? ⟨w.heap.size, 1, none⟩ = some (.int .i64 at_) := kcell (by go_simp) hb2 (by omega)
  have c2 : w2.cell? ⟨w.heap.size, 2, none⟩ = some (.int .i64 n) := kcell (by go_simp) hb2 (by omega)
  have c3 : w2.cell? ⟨w.heap.size, 3, none⟩ = some (.int .i64 o) := kcell (by go_simp) hb2 (by omega)
  have hbw : Below w.heap.size w w2 := Below.trans (by go_grown) (hb2.mono (by omega))
  obtain ⟨oa, ca, rfl, va, rfl⟩ : ∃ oa ca, vm = .slice oa xs.length ca ∧ ∃ va, va = v' := by obtain ⟨a, c, h, _⟩ := id hv; exact ⟨a, c, h, _, rfl⟩
  obtain ⟨oq, cq, rfl, hcq, hoq⟩ := own_form hr
  obtain ⟨len, hlen⟩ : ∃ len, len = xs.length := ⟨_, rfl⟩
  rw [← hlen] at hr hoq hcq ⊢
  clear hb2
  rw [← hlen] at hat
  have hat0 : ¬ at_ < 0 := by omega
  have HR := Lib.hid hr
  have HB := Lib.hid hbw
  have HL := Lib.hid hlen
  clear hr hbw hlen hv
  go_wp2_with fail
  go_ret3
  exact ⟨_, rfl, row_mono (own_n HR.out HL.out) (Nat.le_succ _), HB.out⟩
set_option maxRecDepth 20000 in
set_option maxHeartbeats 2000000 in
theorem rdo_0 (vm : Value) (xs : List Int) (i : Nat) (x : Int) (hxH : Hid (xs.getD i 0 = x)) (n o : Int) (w : World) (hv : View w vm xs) (hsm : xs.length ≤ 100000) (hat : i < xs.length) :
    Calls Try.prog 31 #[vm, .agg #[.int .i64 0, .int .i64 i, .int .i64 n, .int .i64 o]] w (RDo w xs x true) := by
  go_enter Try.func31, Try.ntmps31
  go_wp2_with (at_builtin; refine wpList_copy_row rfl _ _ rfl (w.heap.size + 1) (w.heap.size + 1) rfl ?o1 (Nat.le_refl _) xs ?v1 hsm ?_)
  case o1 => have h := heap_made (w.alloc (.cells #[.int .i64 0, .int .i64 i, .int .i64 n, .int .i64 o] 76)) (.cells #[] 3); rw [show (w.alloc (.cells #[Value.int .i64 0, .int .i64 i, .int .i64 n, .int .i64 o] 76)).heap.size = w.heap.size + 1 from by simp] at h; exact h
  case v1 => exact hv.below (by go_grown)
  intro v' w2 hr hb2
  have c0 : w2.cell? ⟨w.heap.size, 0, none⟩ = some (.int .i64 0) := kcell (by go_simp) hb2 (by omega)
  have c1 : w2.cell? ⟨w.heap.size, 1, none⟩ = some (.int .i64 i) := kcell (by go_simp) hb2 (by omega)
  have c2 : w2.cell? ⟨w.heap.size, 2, none⟩ = some (.int .i64 n) := kcell (by go_simp) hb2 (by omega)
  have c3 : w2.cell? ⟨w.heap.size, 3, none⟩ = some (.int .i64 o) := kcell (by go_simp) hb2 (by omega)
  have hbw : Below w.heap.size w w2 := Below.trans (by go_grown) (hb2.mono (by omega))
  obtain ⟨oa, ca, rfl, va, rfl⟩ : ∃ oa ca, vm = .slice oa xs.length ca ∧ ∃ va, va = v' := by obtain ⟨a, c, h, _⟩ := id hv; exact ⟨a, c, h, _, rfl⟩
  obtain ⟨oq, cq, rfl, hcq, hoq⟩ := own_form hr
  obtain ⟨len, hlen⟩ : ∃ len, len = xs.length := ⟨_, rfl⟩
  rw [← hlen] at hr hoq hcq ⊢
  clear hb2
  rw [← hlen] at hat
  have hx : x = xs.getD i 0 := hxH.out.symm
  obtain ⟨q, rfl, hq1, hq2⟩ := hoq (by omega)
  have hvl := hv.below hbw
  obtain ⟨b, off, rfl, hvc⟩ : ∃ b off, oa = some ⟨b, off, none⟩ ∧ w2.cell? ⟨b, off + i, none⟩ = some (.int .i64 x) := by
    rcases hvl.cases with ⟨h, _⟩ | ⟨_, b, off, cap, h, _, _, _, hc⟩
    · rw [h] at hlen; simp at hlen; omega
    · simp only [Value.slice.injEq] at h
      exact ⟨b, off, h.1, by rw [hx]; exact hc i (by omega)⟩
  have hoc : w2.cell? ⟨q, i, none⟩ = some (.int .i64 x) := own_cell hr (by have hix : i < xs.length := (by omega); rw [List.getElem?_map]; simp [hx, hix])
  have hof : w2.frozen? ⟨q, i, none⟩ = false := own_free hr
  have i0 : (0 : Int) ≤ (i : Int) := by omega
  have i1 : (i : Int) < (len : Int) := by omega
  have i2 : ¬ (len : Int) ≤ (i : Int) := by omega
  have HX := Lib.hid hx
  clear hx hvl hoq
  have HR := Lib.hid hr
  have HB := Lib.hid hbw
  have HL := Lib.hid hlen
  clear hr hbw hlen hv
  go_wp2_with fail
  go_ret3
  exact ⟨_, rfl, row_mono (own_n HR.out HL.out) (Nat.le_succ _), HB.out⟩
set_option maxRecDepth 20000 in
set_option maxHeartbeats 2000000 in
theorem rdo_1 (vm : Value) (xs : List Int) (i : Nat) (x : Int) (hxH : Hid (xs.getD i 0 = x)) (n o : Int) (w : World) (hv : View w vm xs) (hsm : xs.length ≤ 100000) (hat : i < xs.length) :
    Calls Try.prog 31 #[vm, .agg #[.int .i64 1, .int .i64 i, .int .i64 n, .int .i64 o]] w (RDo w (xs.set i n) 0 true) := by
  go_enter Try.func31, Try.ntmps31
  go_wp2_with (at_builtin; refine wpList_copy_row rfl _ _ rfl (w.heap.size + 1) (w.heap.size + 1) rfl ?o1 (Nat.le_refl _) xs ?v1 hsm ?_)
  case o1 => have h := heap_made (w.alloc (.cells #[.int .i64 1, .int .i64 i, .int .i64 n, .int .i64 o] 76)) (.cells #[] 3); rw [show (w.alloc (.cells #[Value.int .i64 1, .int .i64 i, .int .i64 n, .int .i64 o] 76)).heap.size = w.heap.size + 1 from by simp] at h; exact h
  case v1 => exact hv.below (by go_grown)
  intro v' w2 hr hb2
  have c0 : w2.cell? ⟨w.heap.size, 0, none⟩ = some (.int .i64 1) := kcell (by go_simp) hb2 (by omega)
  have c1 : w2.cell? ⟨w.heap.size, 1, none⟩ = some (.int .i64 i) := kcell (by go_simp) hb2 (by omega)
  have c2 : w2.cell? ⟨w.heap.size, 2, none⟩ = some (.int .i64 n) := kcell (by go_simp) hb2 (by omega)
  have c3 : w2.cell? ⟨w.heap.size, 3, none⟩ = some (.int .i64 o) := kcell (by go_simp) hb2 (by omega)
  have hbw : Below w.heap.size w w2 := Below.trans (by go_grown) (hb2.mono (by omega))
  obtain ⟨oa, ca, rfl, va, rfl⟩ : ∃ oa ca, vm = .slice oa xs.length ca ∧ ∃ va, va = v' := by obtain ⟨a, c, h, _⟩ := id hv; exact ⟨a, c, h, _, rfl⟩
  obtain ⟨oq, cq, rfl, hcq, hoq⟩ := own_form hr
  obtain ⟨len, hlen⟩ : ∃ len, len = xs.length := ⟨_, rfl⟩
  rw [← hlen] at hr hoq hcq ⊢
  clear hb2
  rw [← hlen] at hat
  have hx : x = xs.getD i 0 := hxH.out.symm
  obtain ⟨q, rfl, hq1, hq2⟩ := hoq (by omega)
  have hvl := hv.below hbw
  obtain ⟨b, off, rfl, hvc⟩ : ∃ b off, oa = some ⟨b, off, none⟩ ∧ w2.cell? ⟨b, off + i, none⟩ = some (.int .i64 x) := by
    rcases hvl.cases with ⟨h, _⟩ | ⟨_, b, off, cap, h, _, _, _, hc⟩
    · rw [h] at hlen; simp at hlen; omega
    · simp only [Value.slice.injEq] at h
      exact ⟨b, off, h.1, by rw [hx]; exact hc i (by omega)⟩
  have hoc : w2.cell? ⟨q, i, none⟩ = some (.int .i64 x) := own_cell hr (by have hix : i < xs.length := (by omega); rw [List.getElem?_map]; simp [hx, hix])
  have hof : w2.frozen? ⟨q, i, none⟩ = false := own_free hr
  have i0 : (0 : Int) ≤ (i : Int) := by omega
  have i1 : (i : Int) < (len : Int) := by omega
  have i2 : ¬ (len : Int) ≤ (i : Int) := by omega
  have HX := Lib.hid hx
  clear hx hvl hoq
  have HR := Lib.hid hr
  have HB := Lib.hid hbw
  have HL := Lib.hid hlen
  clear hr hbw hlen hv
  go_wp2_with fail
  go_ret3
  exact ⟨_, rfl, by rw [List.length_set]; exact row_mono (own_n (own_set (i := i) (x := n) HR.out) HL.out) (Nat.le_succ _), HB.out.setCell (by show w.heap.size ≤ q; omega) _⟩
set_option maxRecDepth 20000 in
set_option maxHeartbeats 2000000 in
theorem rdo_2 (vm : Value) (xs : List Int) (i : Nat) (x : Int) (hxH : Hid (xs.getD i 0 = x)) (n o : Int) (w : World) (hv : View w vm xs) (hsm : xs.length ≤ 100000) (hat : i < xs.length) :
    Calls Try.prog 31 #[vm, .agg #[.int .i64 2, .int .i64 i, .int .i64 n, .int .i64 o]] w (RDo w (xs.set i (wrap64 (x + n))) x true) := by
  go_enter Try.func31, Try.ntmps31
  go_wp2_with (at_builtin; refine wpList_copy_row rfl _ _ rfl (w.heap.size + 1) (w.heap.size + 1) rfl ?o1 (Nat.le_refl _) xs ?v1 hsm ?_)
  case o1 => have h := heap_made (w.alloc (.cells #[.int .i64 2, .int .i64 i, .int .i64 n, .int .i64 o] 76)) (.cells #[] 3); rw [show (w.alloc (.cells #[Value.int .i64 2, .int .i64 i, .int .i64 n, .int .i64 o] 76)).heap.size = w.heap.size + 1 from by simp] at h; exact h
  case v1 => exact hv.below (by go_grown)
  intro v' w2 hr hb2
  have c0 : w2.cell? ⟨w.heap.size, 0, none⟩ = some (.int .i64 2) := kcell (by go_simp) hb2 (by omega)
  have c1 : w2.cell? ⟨w.heap.size, 1, none⟩ = some (.int .i64 i) := kcell (by go_simp) hb2 (by omega)
  have c2 : w2.cell? ⟨w.heap.size, 2, none⟩ = some (.int .i64 n) := kcell (by go_simp) hb2 (by omega)
  have c3 : w2.cell? ⟨w.heap.size, 3, none⟩ = some (.int .i64 o) := kcell (by go_simp) hb2 (by omega)
  have hbw : Below w.heap.size w w2 := Below.trans (by go_grown) (hb2.mono (by omega))
  obtain ⟨oa, ca, rfl, va, rfl⟩ : ∃ oa ca, vm = .slice oa xs.length ca ∧ ∃ va, va = v' := by obtain ⟨a, c, h, _⟩ := id hv; exact ⟨a, c, h, _, rfl⟩
  obtain ⟨oq, cq, rfl, hcq, hoq⟩ := own_form hr
  obtain ⟨len, hlen⟩ : ∃ len, len = xs.length := ⟨_, rfl⟩
  rw [← hlen] at hr hoq hcq ⊢
  clear hb2
  rw [← hlen] at hat
  have hx : x = xs.getD i 0 := hxH.out.symm
  obtain ⟨q, rfl, hq1, hq2⟩ := hoq (by omega)
  have hvl := hv.below hbw
  obtain ⟨b, off, rfl, hvc⟩ : ∃ b off, oa = some ⟨b, off, none⟩ ∧ w2.cell? ⟨b, off + i, none⟩ = some (.int .i64 x) := by
    rcases hvl.cases with ⟨h, _⟩ | ⟨_, b, off, cap, h, _, _, _, hc⟩
    · rw [h] at hlen; simp at hlen; omega
    · simp only [Value.slice.injEq] at h
      exact ⟨b, off, h.1, by rw [hx]; exact hc i (by omega)⟩
  have hoc : w2.cell? ⟨q, i, none⟩ = some (.int .i64 x) := own_cell hr (by have hix : i < xs.length := (by omega); rw [List.getElem?_map]; simp [hx, hix])
  have hof : w2.frozen? ⟨q, i, none⟩ = false := own_free hr
  have i0 : (0 : Int) ≤ (i : Int) := by omega
  have i1 : (i : Int) < (len : Int) := by omega
  have i2 : ¬ (len : Int) ≤ (i : Int) := by omega
  have HX := Lib.hid hx
  clear hx hvl hoq
  have HR := Lib.hid hr
  have HB := Lib.hid hbw
  have HL := Lib.hid hlen
  clear hr hbw hlen hv
  go_wp2_with fail
  go_ret3
  exact ⟨_, rfl, by rw [List.length_set]; exact row_mono (own_n (own_set (i := i) (x := (wrap64 (x + n))) HR.out) HL.out) (Nat.le_succ _), HB.out.setCell (by show w.heap.size ≤ q; omega) _⟩
set_option maxRecDepth 20000 in
set_option maxHeartbeats 2000000 in
theorem rdo_3y (vm : Value) (xs : List Int) (i : Nat) (x : Int) (hxH : Hid (xs.getD i 0 = x)) (n o : Int) (w : World) (hv : View w vm xs) (hsm : xs.length ≤ 100000) (hat : i < xs.length) (ho : Hid (x = o)) :
    Calls Try.prog 31 #[vm, .agg #[.int .i64 3, .int .i64 i, .int .i64 n, .int .i64 o]] w (RDo w (xs.set i n) x true) := by
  go_enter Try.func31, Try.ntmps31
  go_wp2_with (at_builtin; refine wpList_copy_row rfl _ _ rfl (w.heap.size + 1) (w.heap.size + 1) rfl ?o1 (Nat.le_refl _) xs ?v1 hsm ?_)
  case o1 => have h := heap_made (w.alloc (.cells #[.int .i64 3, .int .i64 i, .int .i64 n, .int .i64 o] 76)) (.cells #[] 3); rw [show (w.alloc (.cells #[Value.int .i64 3, .int .i64 i, .int .i64 n, .int .i64 o] 76)).heap.size = w.heap.size + 1 from by simp] at h; exact h
  case v1 => exact hv.below (by go_grown)
  intro v' w2 hr hb2
  have c0 : w2.cell? ⟨w.heap.size, 0, none⟩ = some (.int .i64 3) := kcell (by go_simp) hb2 (by omega)
  have c1 : w2.cell? ⟨w.heap.size, 1, none⟩ = some (.int .i64 i) := kcell (by go_simp) hb2 (by omega)
  have c2 : w2.cell? ⟨w.heap.size, 2, none⟩ = some (.int .i64 n) := kcell (by go_simp) hb2 (by omega)
  have c3 : w2.cell? ⟨w.heap.size, 3, none⟩ = some (.int .i64 o) := kcell (by go_simp) hb2 (by omega)
  have hbw : Below w.heap.size w w2 := Below.trans (by go_grown) (hb2.mono (by omega))
  obtain ⟨oa, ca, rfl, va, rfl⟩ : ∃ oa ca, vm = .slice oa xs.length ca ∧ ∃ va, va = v' := by obtain ⟨a, c, h, _⟩ := id hv; exact ⟨a, c, h, _, rfl⟩
  obtain ⟨oq, cq, rfl, hcq, hoq⟩ := own_form hr
  obtain ⟨len, hlen⟩ : ∃ len, len = xs.length := ⟨_, rfl⟩
  rw [← hlen] at hr hoq hcq ⊢
  clear hb2
  rw [← hlen] at hat
  have hx : x = xs.getD i 0 := hxH.out.symm
  obtain ⟨q, rfl, hq1, hq2⟩ := hoq (by omega)
  have hvl := hv.below hbw
  obtain ⟨b, off, rfl, hvc⟩ : ∃ b off, oa = some ⟨b, off, none⟩ ∧ w2.cell? ⟨b, off + i, none⟩ = some (.int .i64 x) := by
    rcases hvl.cases with ⟨h, _⟩ | ⟨_, b, off, cap, h, _, _, _, hc⟩
    · rw [h] at hlen; simp at hlen; omega
    · simp only [Value.slice.injEq] at h
      exact ⟨b, off, h.1, by rw [hx]; exact hc i (by omega)⟩
  have hoc : w2.cell? ⟨q, i, none⟩ = some (.int .i64 x) := own_cell hr (by have hix : i < xs.length := (by omega); rw [List.getElem?_map]; simp [hx, hix])
  have hof : w2.frozen? ⟨q, i, none⟩ = false := own_free hr
  have i0 : (0 : Int) ≤ (i : Int) := by omega
  have i1 : (i : Int) < (len : Int) := by omega
  have i2 : ¬ (len : Int) ≤ (i : Int) := by omega
  have HX := Lib.hid hx
  clear hx hvl hoq
  have hxo : (x == o) = true := by rw [ho.out]; simp
  have HR := Lib.hid hr
  have HB := Lib.hid hbw
  have HL := Lib.hid hlen
  clear hr hbw hlen hv
  go_wp2_with fail
  go_ret3
  exact ⟨_, rfl, by rw [List.length_set]; exact row_mono (own_n (own_set (i := i) (x := n) HR.out) HL.out) (Nat.le_succ _), HB.out.setCell (by show w.heap.size ≤ q; omega) _⟩
set_option maxRecDepth 20000 in
set_option maxHeartbeats 2000000 in
theorem rdo_3n (vm : Value) (xs : List Int) (i : Nat) (x : Int) (hxH : Hid (xs.getD i 0 = x)) (n o : Int) (w : World) (hv : View w vm xs) (hsm : xs.length ≤ 100000) (hat : i < xs.length) (ho : Hid (¬ x = o)) :
    Calls Try.prog 31 #[vm, .agg #[.int .i64 3, .int .i64 i, .int .i64 n, .int .i64 o]] w (RDo w xs x true) := by
  go_enter Try.func31, Try.ntmps31
  go_wp2_with (at_builtin; refine wpList_copy_row rfl _ _ rfl (w.heap.size + 1) (w.heap.size + 1) rfl ?o1 (Nat.le_refl _) xs ?v1 hsm ?_)
  case o1 => have h := heap_made (w.alloc (.cells #[.int .i64 3, .int .i64 i, .int .i64 n, .int .i64 o] 76)) (.cells #[] 3); rw [show (w.alloc (.cells #[Value.int .i64 3, .int .i64 i, .int .i64 n, .int .i64 o] 76)).heap.size = w.heap.size + 1 from by simp] at h; exact h
  case v1 => exact hv.below (by go_grown)
  intro v' w2 hr hb2
  have c0 : w2.cell? ⟨w.heap.size, 0, none⟩ = some (.int .i64 3) := kcell (by go_simp) hb2 (by omega)
  have c1 : w2.cell? ⟨w.heap.size, 1, none⟩ = some (.int .i64 i) := kcell (by go_simp) hb2 (by omega)
  have c2 : w2.cell? ⟨w.heap.size, 2, none⟩ = some (.int .i64 n) := kcell (by go_simp) hb2 (by omega)
  have c3 : w2.cell? ⟨w.heap.size, 3, none⟩ = some (.int .i64 o) := kcell (by go_simp) hb2 (by omega)
  have hbw : Below w.heap.size w w2 := Below.trans (by go_grown) (hb2.mono (by omega))
  obtain ⟨oa, ca, rfl, va, rfl⟩ : ∃ oa ca, vm = .slice oa xs.length ca ∧ ∃ va, va = v' := by obtain ⟨a, c, h, _⟩ := id hv; exact ⟨a, c, h, _, rfl⟩
  obtain ⟨oq, cq, rfl, hcq, hoq⟩ := own_form hr
  obtain ⟨len, hlen⟩ : ∃ len, len = xs.length := ⟨_, rfl⟩
  rw [← hlen] at hr hoq hcq ⊢
  clear hb2
  rw [← hlen] at hat
  have hx : x = xs.getD i 0 := hxH.out.symm
  obtain ⟨q, rfl, hq1, hq2⟩ := hoq (by omega)
  have hvl := hv.below hbw
  obtain ⟨b, off, rfl, hvc⟩ : ∃ b off, oa = some ⟨b, off, none⟩ ∧ w2.cell? ⟨b, off + i, none⟩ = some (.int .i64 x) := by
    rcases hvl.cases with ⟨h, _⟩ | ⟨_, b, off, cap, h, _, _, _, hc⟩
    · rw [h] at hlen; simp at hlen; omega
    · simp only [Value.slice.injEq] at h
      exact ⟨b, off, h.1, by rw [hx]; exact hc i (by omega)⟩
  have hoc : w2.cell? ⟨q, i, none⟩ = some (.int .i64 x) := own_cell hr (by have hix : i < xs.length := (by omega); rw [List.getElem?_map]; simp [hx, hix])
  have hof : w2.frozen? ⟨q, i, none⟩ = false := own_free hr
  have i0 : (0 : Int) ≤ (i : Int) := by omega
  have i1 : (i : Int) < (len : Int) := by omega
  have i2 : ¬ (len : Int) ≤ (i : Int) := by omega
  have HX := Lib.hid hx
  clear hx hvl hoq
  have hxo : (x == o) = false := by simpa using ho.out
  have HR := Lib.hid hr
  have HB := Lib.hid hbw
  have HL := Lib.hid hlen
  clear hr hbw hlen hv
  go_wp2_with fail
  go_ret3
  exact ⟨_, rfl, row_mono (own_n HR.out HL.out) (Nat.le_succ _), HB.out⟩
end Go.Proofs.Ytbmndjedgedbdaa.rds
