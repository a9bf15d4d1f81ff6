/- The document's answer of layer 9: what a step answers of words, and what they are then; an operation each. -/
import Derived.Test.YtfigabjcmpakeaaView
import Derived.Test.YtfigabjcmpakeaaApp1
import Derived.Test.YtfigabjcmpakeaaKeep
import Derived.Handy
import Derived.Outline
namespace Go.Proofs.Ytfigabjcmpakeaa.storeDoes
open Go.ChangeShapes Go.WideShapes Go.ChangeAt Go.RowKit
set_option linter.unusedVariables false
set_option linter.unusedSimpArgs false
def RDo (w : World) (ys : List Int) (want : Int) (ok : Bool) (e : Ending) (w' : World) : Prop := ∃ v', e = .returned (.tuple #[v', .int .i64 want, .bool ok]) ∧ w'.ownsRow w.heap.size 3 1 v' ys.length (ys.map (Value.int .i64)) ∧ Below w.heap.size w w'
theorem own_form {w : World} {B n : Nat} {v : Value} {xs : List Value} (h : w.ownsRow B 3 1 v n xs) : ∃ o c, v = .slice o n c ∧ n ≤ c ∧ (0 < n → ∃ q, o = some ⟨q, 0, none⟩ ∧ B ≤ q ∧ q < w.heap.size) := by
  have hlt := h.lt
  obtain ⟨_, ⟨rfl, rfl⟩ | ⟨q, cap, cur, rfl, hb, _, hle, _⟩⟩ := h
  · exact ⟨none, 0, rfl, Nat.le_refl _, fun h => by omega⟩
  · exact ⟨_, cap, rfl, hle, fun _ => ⟨q, rfl, hb, (hlt q rfl).2⟩⟩
theorem own_cell {w : World} {B n i q c : Nat} {xs : List Value} {u : Value} (h : w.ownsRow B 3 1 (.slice (some ⟨q, 0, none⟩) n c) n xs) (hi : xs[i]? = some u) : w.cell? ⟨q, i, none⟩ = some u := by
  have := h.cells rfl i u hi
  rw [Go.WideShapes.add_plain, Nat.zero_add] at this
  exact this
theorem own_free {w : World} {B n i q c : Nat} {xs : List Value} (h : w.ownsRow B 3 1 (.slice (some ⟨q, 0, none⟩) n c) n xs) : w.frozen? ⟨q, i, none⟩ = false := by
  obtain ⟨_, ⟨h, _⟩ | ⟨g, cap, cur, e, _, hg, _⟩⟩ := h
  · cases h
  · cases e; simp [World.frozen?, hg]
theorem own_set {w : World} {B n i q c : Nat} {xs : List Int} {x : Int} (h : w.ownsRow B 3 1 (.slice (some ⟨q, 0, none⟩) n c) n (xs.map (Value.int .i64))) : (w.setCell ⟨q, i, none⟩ (.int .i64 x)).ownsRow B 3 1 (.slice (some ⟨q, 0, none⟩) n c) n ((xs.set i x).map (Value.int .i64)) := by
  obtain ⟨hl, ⟨h, _⟩ | ⟨g, cap, cur, e, hb, hg, h1, h2, h3, h4⟩⟩ := h
  · cases h
  · cases e
    refine ⟨by simpa using hl, .inr ⟨q, c, cur.setIfInBounds i (.int .i64 x), rfl, hb, ?_, h1, h2, by simpa using h3, ?_⟩⟩
    · obtain ⟨hlt, hk⟩ := Array.getElem?_eq_some_iff.1 hg
      show (w.heap.modify q _)[q]? = _
      rw [Array.getElem?_eq_getElem (by rw [Array.size_modify]; exact hlt), Array.getElem_modify_self, hk]
      first | rfl | simp
    · rw [Array.toList_setIfInBounds, List.map_set, ← h4, List.take_set]
theorem row_mono {w : World} {base b2 : Nat} {v : Value} {n : Nat} {xs : List Value} (h : w.ownsRow base 3 1 v n xs) (hb : b2 ≤ base) : w.ownsRow b2 3 1 v n xs := by
  obtain ⟨hl, h⟩ := h
  refine ⟨hl, ?_⟩
  rcases h with h | ⟨g, cap, cur, rfl, hg, h1⟩
  · exact .inl h
  · exact .inr ⟨g, cap, cur, rfl, Nat.le_trans hb hg, h1⟩
theorem own_n {w : World} {B n m : Nat} {v : Value} {xs : List Value} (h : w.ownsRow B 3 1 v n xs) (e : n = m) : w.ownsRow B 3 1 v m xs := e ▸ h
theorem kcell {w w' : World} {X B i : Nat} {v : Value} (h : w.cell? ⟨X, i, none⟩ = some v) (hb : Below B w w') (hX : X < B) : w'.cell? ⟨X, i, none⟩ = some v := (cell_heap (hb.block X hX)).trans h
theorem scell {w : World} {X q i j : Nat} {v x : Value} (h : w.cell? ⟨X, i, none⟩ = some v) (hne : X ≠ q) : (w.setCell ⟨q, j, none⟩ x).cell? ⟨X, i, none⟩ = some v := by
  refine (cell_heap ?_).trans h
  show (w.heap.modify q _)[X]? = _
  rw [Array.getElem?_modify, if_neg (fun e => hne e.symm)]
set_option maxRecDepth 20000 in
set_option maxHeartbeats 2000000 in
theorem rdo_out_0_lt (vm : Value) (xs : List Int) (at_ : Int) (n o : Int) (w : World) (hv : View w vm xs) (hsm : xs.length ≤ 100000) (hat : at_ < 0) :
    Calls Try.prog 18 #[vm, .agg #[.int .i64 0, .int .i64 at_, .int .i64 n, .int .i64 o]] w (RDo w xs 0 false) := by
  go_enter Try.func18, Try.ntmps18
  go_wp2_with (at_builtin; refine wpList_copy_row rfl _ _ rfl (w.heap.size + 1) (w.heap.size + 1) rfl ?o1 (Nat.le_refl _) xs ?v1 hsm ?_)
  case o1 => have h := heap_made (w.alloc (.cells #[.int .i64 0, .int .i64 at_, .int .i64 n, .int .i64 o] 32)) (.cells #[] 3); rw [show (w.alloc (.cells #[Value.int .i64 0, .int .i64 at_, .int .i64 n, .int .i64 o] 32)).heap.size = w.heap.size + 1 from by simp] at h; exact h
  case v1 => exact hv.below (by go_grown)
  intro v' w2 hr hb2
  have c0 : w2.cell? ⟨w.heap.size, 0, none⟩ = some (.int .i64 0) := kcell (by go_simp) hb2 (by omega)
  have c1 : w2.cell? ⟨w.heap.size, 1, none⟩ = some (.int .i64 at_) := kcell (by go_simp) hb2 (by omega)
  have c2 : w2.cell? ⟨w.heap.size, 2, none⟩ = some (.int .i64 n) := kcell (by go_simp) hb2 (by omega)
  have c3 : w2.cell? ⟨w.heap.size, 3, none⟩ = some (.int .i64 o) := kcell (by go_simp) hb2 (by omega)
  have hbw : Below w.heap.size w w2 := Below.trans (by go_grown) (hb2.mono (by omega))
  obtain ⟨oa, ca, rfl, va, rfl⟩ : ∃ oa ca, vm = .slice oa xs.length ca ∧ ∃ va, va = v' := by obtain ⟨a, c, h, _⟩ := id hv; exact ⟨a, c, h, _, rfl⟩
  obtain ⟨oq, cq, rfl, hcq, hoq⟩ := own_form hr
  obtain ⟨len, hlen⟩ : ∃ len, len = xs.length := ⟨_, rfl⟩
  rw [← hlen] at hr hoq hcq ⊢
  clear hb2
  have HR := Lib.hid hr
  have HB := Lib.hid hbw
  have HL := Lib.hid hlen
  clear hr hbw hlen hv
  go_wp2_with fail
  go_ret3
  exact ⟨_, rfl, row_mono (own_n HR.out HL.out) (Nat.le_succ _), HB.out⟩
set_option maxRecDepth 20000 in
set_option maxHeartbeats 2000000 in
theorem rdo_out_0_ge (vm : Value) (xs : List Int) (at_ : Int) (n o : Int) (w : World) (hv : View w vm xs) (hsm : xs.length ≤ 100000) (hat : (xs.length : Int) ≤ at_) :
    Calls Try.prog 18 #[vm, .agg #[.int .i64 0, .int .i64 at_, .int .i64 n, .int .i64 o]] w (RDo w xs 0 false) := by
  go_enter Try.func18, Try.ntmps18
  go_wp2_with (at_builtin; refine wpList_copy_row rfl _ _ rfl (w.heap.size + 1) (w.heap.size + 1) rfl ?o1 (Nat.le_refl _) xs ?v1 hsm ?_)
  case o1 => have h := heap_made (w.alloc (.cells #[.int .i64 0, .int .i64 at_, .int .i64 n, .int .i64 o] 32)) (.cells #[] 3); rw [show (w.alloc (.cells #[Value.int .i64 0, .int .i64 at_, .int .i64 n, .int .i64 o] 32)).heap.size = w.heap.size + 1 from by simp] at h; exact h
  case v1 => exact hv.below (by go_grown)
  intro v' w2 hr hb2
  have c0 : w2.cell? ⟨w.heap.size, 0, none⟩ = some (.int .i64 0) := kcell (by go_simp) hb2 (by omega)
  have c1 : w2.cell? ⟨w.heap.size, 1, none⟩ = some (.int .i64 at_) := kcell (by go_simp) hb2 (by omega)
  have c2 : w2.cell? ⟨w.heap.size, 2, none⟩ = some (.int .i64 n) := kcell (by go_simp) hb2 (by omega)
  have c3 : w2.cell? ⟨w.heap.size, 3, none⟩ = some (.int .i64 o) := kcell (by go_simp) hb2 (by omega)
  have hbw : Below w.heap.size w w2 := Below.trans (by go_grown) (hb2.mono (by omega))
  obtain ⟨oa, ca, rfl, va, rfl⟩ : ∃ oa ca, vm = .slice oa xs.length ca ∧ ∃ va, va = v' := by obtain ⟨a, c, h, _⟩ := id hv; exact ⟨a, c, h, _, rfl⟩
  obtain ⟨oq, cq, rfl, hcq, hoq⟩ := own_form hr
  obtain ⟨len, hlen⟩ : ∃ len, len = xs.length := ⟨_, rfl⟩
  rw [← hlen] at hr hoq hcq ⊢
  clear hb2
  rw [← hlen] at hat
  have hat0 : ¬ at_ < 0 := by omega
  have HR := Lib.hid hr
  have HB := Lib.hid hbw
  have HL := Lib.hid hlen
  clear hr hbw hlen hv
  go_wp2_with fail
  go_ret3
  exact ⟨_, rfl, row_mono (own_n HR.out HL.out) (Nat.le_succ _), HB.out⟩
set_option maxRecDepth 20000 in
set_option maxHeartbeats 2000000 in
theorem rdo_out_1_lt (vm : Value) (xs : List Int) (at_ : Int) (n o : Int) (w : World) (hv : View w vm xs) (hsm : xs.length ≤ 100000) (hat : at_ < 0) :
    Calls Try.prog 18 #[vm, .agg #[.int .i64 1, .int .i64 at_, .int .i64 n, .int .i64 o]] w (RDo w xs 0 false) := by
  go_enter Try.func18, Try.ntmps18
  go_wp2_with (at_builtin; refine wpList_copy_row rfl _ _ rfl (w.heap.size + 1) (w.heap.size + 1) rfl ?o1 (Nat.le_refl _) xs ?v1 hsm ?_)
  case o1 => have h := heap_made (w.alloc (.cells #[.int .i64 1, .int .i64 at_, .int .i64 n, .int .i64 o] 32)) (.cells #[] 3); rw [show (w.alloc (.cells #[Value.int .i64 1, .int .i64 at_, .int .i64 n, .int .i64 o] 32)).heap.size = w.heap.size + 1 from by simp] at h; exact h
  case v1 => exact hv.below (by go_grown)
  intro v' w2 hr hb2
  have c0 : w2.cell? ⟨w.heap.size, 0, none⟩ = some (.int .i64 1) := kcell (by go_simp) hb2 (by omega)
  have c1 : w2.cell? ⟨w.heap.size, 1, none⟩ = some (.int .i64 at_) := kcell (by go_simp) hb2 (by omega)
  have c2 : w2.cell? ⟨w.heap.size, 2, none⟩ = some (.int .i64 n) := kcell (by go_simp) hb2 (by omega)
  have c3 : w2.cell? ⟨w.heap.size, 3, none⟩ = some (.int .i64 o) := kcell (by go_simp) hb2 (by omega)
  have hbw : Below w.heap.size w w2 := Below.trans (by go_grown) (hb2.mono (by omega))
  obtain ⟨oa, ca, rfl, va, rfl⟩ : ∃ oa ca, vm = .slice oa xs.length ca ∧ ∃ va, va = v' := by obtain ⟨a, c, h, _⟩ := id hv; exact ⟨a, c, h, _, rfl⟩
  obtain ⟨oq, cq, rfl, hcq, hoq⟩ := own_form hr
  obtain ⟨len, hlen⟩ : ∃ len, len = xs.length := ⟨_, rfl⟩
  rw [← hlen] at hr hoq hcq ⊢
  clear hb2
  have HR := Lib.hid hr
  have HB := Lib.hid hbw
  have HL := Lib.hid hlen
  clear hr hbw hlen hv
  go_wp2_with fail
  go_ret3
  exact ⟨_, rfl, row_mono (own_n HR.out HL.out) (Nat.le_succ _), HB.out⟩
set_option maxRecDepth 20000 in
set_option maxHeartbeats 2000000 in
theorem rdo_out_1_ge (vm : Value) (xs : List Int) (at_ : Int) (n o : Int) (w : World) (hv : View w vm xs) (hsm : xs.length ≤ 100000) (hat : (xs.length : Int) ≤ at_) :
    Calls Try.prog 18 #[vm, .agg #[.int .i64 1, .int .i64 at_, .int .i64 n, .int .i64 o]] w (RDo w xs 0 false) := by
  go_enter Try.func18, Try.ntmps18
  go_wp2_with (at_builtin; refine wpList_copy_row rfl _ _ rfl (w.heap.size + 1) (w.heap.size + 1) rfl ?o1 (Nat.le_refl _) xs ?v1 hsm ?_)
  case o1 => have h := heap_made (w.alloc (.cells #[.int .i64 1, .int .i64 at_, .int .i64 n, .int .i64 o] 32)) (.cells #[] 3); rw [show (w.alloc (.cells #[Value.int .i64 1, .int .i64 at_, .int .i64 n, .int .i64 o] 32)).heap.size = w.heap.size + 1 from by simp] at h; exact h
  case v1 => exact hv.below (by go_grown)
  intro v' w2 hr hb2
  have c0 : w2.cell? ⟨w.heap.size, 0, none⟩ = some (.int .i64 1) := kcell (by go_simp) hb2 (by omega)
  have c1 : w2.cell? ⟨w.heap.size, 1, none⟩ = some (.int .i64 at_) := kcell (by go_simp) hb2 (by omega)
  have c2 : w2.cell? ⟨w.heap.size, 2, none⟩ = some (.int .i64 n) := kcell (by go_simp) hb2 (by omega)
  have c3 : w2.cell? ⟨w.heap.size, 3, none⟩ = some (.int .i64 o) := kcell (by go_simp) hb2 (by omega)
  have hbw : Below w.heap.size w w2 := Below.trans (by go_grown) (hb2.mono (by omega))
  obtain ⟨oa, ca, rfl, va, rfl⟩ : ∃ oa ca, vm = .slice oa xs.length ca ∧ ∃ va, va = v' := by obtain ⟨a, c, h, _⟩ := id hv; exact ⟨a, c, h, _, rfl⟩
  obtain ⟨oq, cq, rfl, hcq, hoq⟩ := own_form hr
  obtain ⟨len, hlen⟩ : ∃ len, len = xs.length := ⟨_, rfl⟩
  rw [← hlen] at hr hoq hcq ⊢
  clear hb2
  rw [← hlen] at hat
  have hat0 : ¬ at_ < 0 := by omega
  have HR := Lib.hid hr
  have HB := Lib.hid hbw
  have HL := Lib.hid hlen
  clear hr hbw hlen hv
  go_wp2_with fail
  go_ret3
  exact ⟨_, rfl, row_mono (own_n HR.out HL.out) (Nat.le_succ _), HB.out⟩
set_option maxRecDepth 20000 in
set_option maxHeartbeats 2000000 in
theorem rdo_out_2_lt (vm : Value) (xs : List Int) (at_ : Int) (n o : Int) (w : World) (hv : View w vm xs) (hsm : xs.length ≤ 100000) (hat : at_ < 0) :
    Calls Try.prog 18 #[vm, .agg #[.int .i64 2, .int .i64 at_, .int .i64 n, .int .i64 o]] w (RDo w xs 0 false) := by
  go_enter Try.func18, Try.ntmps18
  go_wp2_with (at_builtin; refine wpList_copy_row rfl _ _ rfl (w.heap.size + 1) (w.heap.size + 1) rfl ?o1 (Nat.le_refl _) xs ?v1 hsm ?_)
  case o1 => have h := heap_made (w.alloc (.cells #[.int .i64 2, .int .i64 at_, .int .i64 n, .int .i64 o] 32)) (.cells #[] 3); rw [show (w.alloc (.cells #[Value.int .i64 2, .int .i64 at_, .int .i64 n, .int .i64 o] 32)).heap.size = w.heap.size + 1 from by simp] at h; exact h
  case v1 => exact hv.below (by go_grown)
  intro v' w2 hr hb2
  have c0 : w2.cell? ⟨w.heap.size, 0, none⟩ = some (.int .i64 2) := kcell (by go_simp) hb2 (by omega)
  have c1 : w2.cell? ⟨w.heap.size, 1, none⟩ = some (.int .i64 at_) := kcell (by go_simp) hb2 (by omega)
  have c2 : w2.cell? ⟨w.heap.size, 2, none⟩ = some (.int .i64 n) := kcell (by go_simp) hb2 (by omega)
  have c3 : w2.cell? ⟨w.heap.size, 3, none⟩ = some (.int .i64 o) := kcell (by go_simp) hb2 (by omega)
  have hbw : Below w.heap.size w w2 := Below.trans (by go_grown) (hb2.mono (by omega))
  obtain ⟨oa, ca, rfl, va, rfl⟩ : ∃ oa ca, vm = .slice oa xs.length ca ∧ ∃ va, va = v' := by obtain ⟨a, c, h, _⟩ := id hv; exact ⟨a, c, h, _, rfl⟩
  obtain ⟨oq, cq, rfl, hcq, hoq⟩ := own_form hr
  obtain ⟨len, hlen⟩ : ∃ len, len = xs.length := ⟨_, rfl⟩
  rw [← hlen] at hr hoq hcq ⊢
  clear hb2
  have HR := Lib.hid hr
  have HB := Lib.hid hbw
  have HL := Lib.hid hlen
  clear hr hbw hlen hv
  go_wp2_with fail
  go_ret3
  exact ⟨_, rfl, row_mono (own_n HR.out HL.out) (Nat.le_succ _), HB.out⟩
set_option maxRecDepth 20000 in
set_option maxHeartbeats 2000000 in
theorem rdo_out_2_ge (vm : Value) (xs : List Int) (at_ : Int) (n o : Int) (w : World) (hv : View w vm xs) (hsm : xs.length ≤ 100000) (hat : (xs.length : Int) ≤ at_) :
    Calls Try.prog 18 #[vm, .agg #[.int .i64 2, .int .i64 at_, .int .i64 n, .int .i64 o]] w (RDo w xs 0 false) := by
  go_enter Try.func18, Try.ntmps18
  go_wp2_with (at_builtin; refine wpList_copy_row rfl _ _ rfl (w.heap.size + 1) (w.heap.size + 1) rfl ?o1 (Nat.le_refl _) xs ?v1 hsm ?_)
  case o1 => have h := heap_made (w.alloc (.cells #[.int .i64 2, .int .i64 at_, .int .i64 n, .int .i64 o] 32)) (.cells #[] 3); rw [show (w.alloc (.cells #[Value.int .i64 2, .int .i64 at_, .int .i64 n, .int .i64 o] 32)).heap.size = w.heap.size + 1 from by simp] at h; exact h
  case v1 => exact hv.below (by go_grown)
  intro v' w2 hr hb2
  have c0 : w2.cell? ⟨w.heap.size, 0, none⟩ = some (.int .i64 2) := kcell (by go_simp) hb2 (by omega)
  have c1 : w2.cell? ⟨w.heap.size, 1, none⟩ = some (.int .i64 at_) := kcell (by go_simp) hb2 (by omega)
  have c2 : w2.cell? ⟨w.heap.size, 2, none⟩ = some (.int .i64 n) := kcell (by go_simp) hb2 (by omega)
  have c3 : w2.cell? ⟨w.heap.size, 3, none⟩ = some (.int .i64 o) := kcell (by go_simp) hb2 (by omega)
  have hbw : Below w.heap.size w w2 := Below.trans (by go_grown) (hb2.mono (by omega))
  obtain ⟨oa, ca, rfl, va, rfl⟩ : ∃ oa ca, vm = .slice oa xs.length ca ∧ ∃ va, va = v' := by obtain ⟨a, c, h, _⟩ := id hv; exact ⟨a, c, h, _, rfl⟩
  obtain ⟨oq, cq, rfl, hcq, hoq⟩ := own_form hr
  obtain ⟨len, hlen⟩ : ∃ len, len = xs.length := ⟨_, rfl⟩
  rw [← hlen] at hr hoq hcq ⊢
  clear hb2
  rw [← hlen] at hat
  have hat0 : ¬ at_ < 0 := by omega
  have HR := Lib.hid hr
  have HB := Lib.hid hbw
  have HL := Lib.hid hlen
  clear hr hbw hlen hv
  go_wp2_with fail
  go_ret3
  exact ⟨_, rfl, row_mono (own_n HR.out HL.out) (Nat.le_succ _), HB.out⟩
set_option maxRecDepth 20000 in
set_option maxHeartbeats 2000000 in
theorem rdo_out_3_lt (vm : Value) (xs : List Int) (at_ : Int) (n o : Int) (w : World) (hv : View w vm xs) (hsm : xs.length ≤ 100000) (hat : at_ < 0) :
    Calls Try.prog 18 #[vm, .agg #[.int .i64 3, .int .i64 at_, .int .i64 n, .int .i64 o]] w (RDo w xs 0 false) := by
  go_enter Try.func18, Try.ntmps18
  go_wp2_with (at_builtin; refine wpList_copy_row rfl _ _ rfl (w.heap.size + 1) (w.heap.size + 1) rfl ?o1 (Nat.le_refl _) xs ?v1 hsm ?_)
  case o1 => have h := heap_made (w.alloc (.cells #[.int .i64 3, .int .i64 at_, .int .i64 n, .int .i64 o] 32)) (.cells #[] 3); rw [show (w.alloc (.cells #[Value.int .i64 3, .int .i64 at_, .int .i64 n, .int .i64 o] 32)).heap.size = w.heap.size + 1 from by simp] at h; exact h
  case v1 => exact hv.below (by go_grown)
  intro v' w2 hr hb2
  have c0 : w2.cell? ⟨w.heap.size, 0, none⟩ = some (.int .i64 3) := kcell (by go_simp) hb2 (by omega)
  have c1 : w2.cell? ⟨w.heap.size, 1, none⟩ = some (.int .i64 at_) := kcell (by go_simp) hb2 (by omega)
  have c2 : w2.cell? ⟨w.heap.size, 2, none⟩ = some (.int .i64 n) := kcell (by go_simp) hb2 (by omega)
  have c3 : w2.cell? ⟨w.heap.size, 3, none⟩ = some (.int .i64 o) := kcell (by go_simp) hb2 (by omega)
  have hbw : Below w.heap.size w w2 := Below.trans (by go_grown) (hb2.mono (by omega))
  obtain ⟨oa, ca, rfl, va, rfl⟩ : ∃ oa ca, vm = .slice oa xs.length ca ∧ ∃ va, va = v' := by obtain ⟨a, c, h, _⟩ := id hv; exact ⟨a, c, h, _, rfl⟩
  obtain ⟨oq, cq, rfl, hcq, hoq⟩ := own_form hr
  obtain ⟨len, hlen⟩ : ∃ len, len = xs.length := ⟨_, rfl⟩
  rw [← hlen] at hr hoq hcq ⊢
  clear hb2
  have HR := Lib.hid hr
  have HB := Lib.hid hbw
  have HL := Lib.hid hlen
  clear hr hbw hlen hv
  go_wp2_with fail
  go_ret3
  exact ⟨_, rfl, row_mono (own_n HR.out HL.out) (Nat.le_succ _), HB.out⟩
set_option maxRecDepth 20000 in
set_option maxHeartbeats 2000000 in
theorem rdo_out_3_ge (vm : Value) (xs : List Int) (at_ : Int) (n o : Int) (w : World) (hv : View w vm xs) (hsm : xs.length ≤ 100000) (hat : (xs.length : Int) ≤ at_) :
    Calls Try.prog 18 #[vm, .agg #[.int .i64 3, .int .i64 at_, .int .i64 n, .int .i64 o]] w (RDo w xs 0 false) := by
  go_enter Try.func18, Try.ntmps18
  go_wp2_with (at_builtin; refine wpList_copy_row rfl _ _ rfl (w.heap.size + 1) (w.heap.size + 1) rfl ?o1 (Nat.le_refl _) xs ?v1 hsm ?_)
  case o1 => have h := heap_made (w.alloc (.cells #[.int .i64 3, .int .i64 at_, .int .i64 n, .int .i64 o] 32)) (.cells #[] 3); rw [show (w.alloc (.cells #[Value.int .i64 3, .int .i64 at_, .int .i64 n, .int .i64 o] 32)).heap.size = w.heap.size + 1 from by simp] at h; exact h
  case v1 => exact hv.below (by go_grown)
  intro v' w2 hr hb2
  have c0 : w2.cell? ⟨w.heap.size, 0, none⟩ = some (.int .i64 3) := kcell (by go_simp) hb2 (by omega)
  have c1 : w2.cell? ⟨w.heap.size, 1, none⟩ = some (.int .i64 at_) := kcell (by go_simp) hb2 (by omega)
  have c2 : w2.cell? ⟨w.heap.size, 2, none⟩ = some (.int .i64 n) := kcell (by go_simp) hb2 (by omega)
  have c3 : w2.cell? ⟨w.heap.size, 3, none⟩ = some (.int .i64 o) := kcell (by go_simp) hb2 (by omega)
  have hbw : Below w.heap.size w w2 := Below.trans (by go_grown) (hb2.mono (by omega))
  obtain ⟨oa, ca, rfl, va, rfl⟩ : ∃ oa ca, vm = .slice oa xs.length ca ∧ ∃ va, va = v' := by obtain ⟨a, c, h, _⟩ := id hv; exact ⟨a, c, h, _, rfl⟩
  obtain ⟨oq, cq, rfl, hcq, hoq⟩ := own_form hr
  obtain ⟨len, hlen⟩ : ∃ len, len = xs.length := ⟨_, rfl⟩
  rw [← hlen] at hr hoq hcq ⊢
  clear hb2
  rw [← hlen] at hat
  have hat0 : ¬ at_ < 0 := by omega
  have HR := Lib.hid hr
  have HB := Lib.hid hbw
  have HL := Lib.hid hlen
  clear hr hbw hlen hv
  go_wp2_with fail
  go_ret3
  exact ⟨_, rfl, row_mono (own_n HR.out HL.out) (Nat.le_succ _), HB.out⟩
set_option maxRecDepth 20000 in
set_option maxHeartbeats 2000000 in
theorem rdo_0 (vm : Value) (xs : List Int) (i : Nat) (x : Int) (hxH : Hid (xs.getD i 0 = x)) (n o : Int) (w : World) (hv : View w vm xs) (hsm : xs.length ≤ 100000) (hat : i < xs.length) :
    Calls Try.prog 18 #[vm, .agg #[.int .i64 0, .int .i64 i, .int .i64 n, .int .i64 o]] w (RDo w xs x true) := by
  go_enter Try.func18, Try.ntmps18
  go_wp2_with (at_builtin; refine wpList_copy_row rfl _ _ rfl (w.heap.size + 1) (w.heap.size + 1) rfl ?o1 (Nat.le_refl _) xs ?v1 hsm ?_)
  case o1 => have h := heap_made (w.alloc (.cells #[.int .i64 0, .int .i64 i, .int .i64 n, .int .i64 o] 32)) (.cells #[] 3); rw [show (w.alloc (.cells #[Value.int .i64 0, .int .i64 i, .int .i64 n, .int .i64 o] 32)).heap.size = w.heap.size + 1 from by simp] at h; exact h
  case v1 => exact hv.below (by go_grown)
  intro v' w2 hr hb2
  have c0 : w2.cell? ⟨w.heap.size, 0, none⟩ = some (.int .i64 0) := kcell (by go_simp) hb2 (by omega)
  have c1 : w2.cell? ⟨w.heap.size, 1, none⟩ = some (.int .i64 i) := kcell (by go_simp) hb2 (by omega)
  have c2 : w2.cell? ⟨w.heap.size, 2, none⟩ = some (.int .i64 n) := kcell (by go_simp) hb2 (by omega)
  have c3 : w2.cell? ⟨w.heap.size, 3, none⟩ = some (.int .i64 o) := kcell (by go_simp) hb2 (by omega)
  have hbw : Below w.heap.size w w2 := Below.trans (by go_grown) (hb2.mono (by omega))
  obtain ⟨oa, ca, rfl, va, rfl⟩ : ∃ oa ca, vm = .slice oa xs.length ca ∧ ∃ va, va = v' := by obtain ⟨a, c, h, _⟩ := id hv; exact ⟨a, c, h, _, rfl⟩
  obtain ⟨oq, cq, rfl, hcq, hoq⟩ := own_form hr
  obtain ⟨len, hlen⟩ : ∃ len, len = xs.length := ⟨_, rfl⟩
  rw [← hlen] at hr hoq hcq ⊢
  clear hb2
  rw [← hlen] at hat
  have hx : x = xs.getD i 0 := hxH.out.symm
  obtain ⟨q, rfl, hq1, hq2⟩ := hoq (by omega)
  have hvl := hv.below hbw
  obtain ⟨b, off, rfl, hvc⟩ : ∃ b off, oa = some ⟨b, off, none⟩ ∧ w2.cell? ⟨b, off + i, none⟩ = some (.int .i64 x) := by
    rcases hvl.cases with ⟨h, _⟩ | ⟨_, b, off, cap, h, _, _, _, hc⟩
    · rw [h] at hlen; simp at hlen; omega
    · simp only [Value.slice.injEq] at h
      exact ⟨b, off, h.1, by rw [hx]; exact hc i (by omega)⟩
  have hoc : w2.cell? ⟨q, i, none⟩ = some (.int .i64 x) := own_cell hr (by have hix : i < xs.length := (by omega); rw [List.getElem?_map]; simp [hx, hix])
  have hof : w2.frozen? ⟨q, i, none⟩ = false := own_free hr
  have i0 : (0 : Int) ≤ (i : Int) := by omega
  have i1 : (i : Int) < (len : Int) := by omega
  have i2 : ¬ (len : Int) ≤ (i : Int) := by omega
  have HX := Lib.hid hx
  clear hx hvl hoq
  have HR := Lib.hid hr
  have HB := Lib.hid hbw
  have HL := Lib.hid hlen
  clear hr hbw hlen hv
  go_wp2_with fail
  go_ret3
  exact ⟨_, rfl, row_mono (own_n HR.out HL.out) (Nat.le_succ _), HB.out⟩
set_option maxRecDepth 20000 in
set_option maxHeartbeats 2000000 in
theorem rdo_1 (vm : Value) (xs : List Int) (i : Nat) (x : Int) (hxH : Hid (xs.getD i 0 = x)) (n o : Int) (w : World) (hv : View w vm xs) (hsm : xs.length ≤ 100000) (hat : i < xs.length) :
    Calls Try.prog 18 #[vm, .agg #[.int .i64 1, .int .i64 i, .int .i64 n, .int .i64 o]] w (RDo w (xs.set i n) 0 true) := by
  go_enter Try.func18, Try.ntmps18
  go_wp2_with (at_builtin; refine wpList_copy_row rfl _ _ rfl (w.heap.size + 1) (w.heap.size + 1) rfl ?o1 (Nat.le_refl _) xs ?v1 hsm ?_)
  case o1 => have h := heap_made (w.alloc (.cells #[.int .i64 1, .int .i64 i, .int .i64 n, .int .i64 o] 32)) (.cells #[] 3); rw [show (w.alloc (.cells #[Value.int .i64 1, .int .i64 i, .int .i64 n, .int .i64 o] 32)).heap.size = w.heap.size + 1 from by simp] at h; exact h
  case v1 => exact hv.below (by go_grown)
  intro v' w2 hr hb2
  have c0 : w2.cell? ⟨w.heap.size, 0, none⟩ = some (.int .i64 1) := kcell (by go_simp) hb2 (by omega)
  have c1 : w2.cell? ⟨w.heap.size, 1, none⟩ = some (.int .i64 i) := kcell (by go_simp) hb2 (by omega)
  have c2 : w2.cell? ⟨w.heap.size, 2, none⟩ = some (.int .i64 n) := kcell (by go_simp) hb2 (by omega)
  have c3 : w2.cell? ⟨w.heap.size, 3, none⟩ = some (.int .i64 o) := kcell (by go_simp) hb2 (by omega)
  have hbw : Below w.heap.size w w2 := Below.trans (by go_grown) (hb2.mono (by omega))
  obtain ⟨oa, ca, rfl, va, rfl⟩ : ∃ oa ca, vm = .slice oa xs.length ca ∧ ∃ va, va = v' := by obtain ⟨a, c, h, _⟩ := id hv; exact ⟨a, c, h, _, rfl⟩
  obtain ⟨oq, cq, rfl, hcq, hoq⟩ := own_form hr
  obtain ⟨len, hlen⟩ : ∃ len, len = xs.length := ⟨_, rfl⟩
  rw [← hlen] at hr hoq hcq ⊢
  clear hb2
  rw [← hlen] at hat
  have hx : x = xs.getD i 0 := hxH.out.symm
  obtain ⟨q, rfl, hq1, hq2⟩ := hoq (by omega)
  have hvl := hv.below hbw
  obtain ⟨b, off, rfl, hvc⟩ : ∃ b off, oa = some ⟨b, off, none⟩ ∧ w2.cell? ⟨b, off + i, none⟩ = some (.int .i64 x) := by
    rcases hvl.cases with ⟨h, _⟩ | ⟨_, b, off, cap, h, _, _, _, hc⟩
    · rw [h] at hlen; simp at hlen; omega
    · simp only [Value.slice.injEq] at h
      exact ⟨b, off, h.1, by rw [hx]; exact hc i (by omega)⟩
  have hoc : w2.cell? ⟨q, i, none⟩ = some (.int .i64 x) := own_cell hr (by have hix : i < xs.length := (by omega); rw [List.getElem?_map]; simp [hx, hix])
  have hof : w2.frozen? ⟨q, i, none⟩ = false := own_free hr
  have i0 : (0 : Int) ≤ (i : Int) := by omega
  have i1 : (i : Int) < (len : Int) := by omega
  have i2 : ¬ (len : Int) ≤ (i : Int) := by omega
  have HX := Lib.hid hx
  clear hx hvl hoq
  have HR := Lib.hid hr
  have HB := Lib.hid hbw
  have HL := Lib.hid hlen
  clear hr hbw hlen hv
  go_wp2_with fail
  go_ret3
  exact ⟨_, rfl, by rw [List.length_set]; exact row_mono (own_n (own_set (i := i) (x := n) HR.out) HL.out) (Nat.le_succ _), HB.out.setCell (by show w.heap.size ≤ q; omega) _⟩
set_option maxRecDepth 20000 in
set_option maxHeartbeats 2000000 in
theorem rdo_2 (vm : Value) (xs : List Int) (i : Nat) (x : Int) (hxH : Hid (xs.getD i 0 = x)) (n o : Int) (w : World) (hv : View w vm xs) (hsm : xs.length ≤ 100000) (hat : i < xs.length) :
    Calls Try.prog 18 #[vm, .agg #[.int .i64 2, .int .i64 i, .int .i64 n, .int .i64 o]] w (RDo w (xs.set i (wrap64 (x + n))) x true) := by
  go_enter Try.func18, Try.ntmps18
  go_wp2_with (at_builtin; refine wpList_copy_row rfl _ _ rfl (w.heap.size + 1) (w.heap.size + 1) rfl ?o1 (Nat.le_refl _) xs ?v1 hsm ?_)
  case o1 => have h := heap_made (w.alloc (.cells #[.int .i64 2, .int .i64 i, .int .i64 n, .int .i64 o] 32)) (.cells #[] 3); rw [show (w.alloc (.cells #[Value.int .i64 2, .int .i64 i, .int .i64 n, .int .i64 o] 32)).heap.size = w.heap.size + 1 from by simp] at h; exact h
  case v1 => exact hv.below (by go_grown)
  intro v' w2 hr hb2
  have c0 : w2.cell? ⟨w.heap.size, 0, none⟩ = some (.int .i64 2) := kcell (by go_simp) hb2 (by omega)
  have c1 : w2.cell? ⟨w.heap.size, 1, none⟩ = some (.int .i64 i) := kcell (by go_simp) hb2 (by omega)
  have c2 : w2.cell? ⟨w.heap.size, 2, none⟩ = some (.int .i64 n) := kcell (by go_simp) hb2 (by omega)
  have c3 : w2.cell? ⟨w.heap.size, 3, none⟩ = some (.int .i64 o) := kcell (by go_simp) hb2 (by omega)
  have hbw : Below w.heap.size w w2 := Below.trans (by go_grown) (hb2.mono (by omega))
  obtain ⟨oa, ca, rfl, va, rfl⟩ : ∃ oa ca, vm = .slice oa xs.length ca ∧ ∃ va, va = v' := by obtain ⟨a, c, h, _⟩ := id hv; exact ⟨a, c, h, _, rfl⟩
  obtain ⟨oq, cq, rfl, hcq, hoq⟩ := own_form hr
  obtain ⟨len, hlen⟩ : ∃ len, len = xs.length := ⟨_, rfl⟩
  rw [← hlen] at hr hoq hcq ⊢
  clear hb2
  rw [← hlen] at hat
  have hx : x = xs.getD i 0 := hxH.out.symm
  obtain ⟨q, rfl, hq1, hq2⟩ := hoq (by omega)
  have hvl := hv.below hbw
  obtain ⟨b, off, rfl, hvc⟩ : ∃ b off, oa = some ⟨b, off, none⟩ ∧ w2.cell? ⟨b, off + i, none⟩ = some (.int .i64 x) := by
    rcases hvl.cases with ⟨h, _⟩ | ⟨_, b, off, cap, h, _, _, _, hc⟩
    · rw [h] at hlen; simp at hlen; omega
    · simp only [Value.slice.injEq] at h
      exact ⟨b, off, h.1, by rw [hx]; exact hc i (by omega)⟩
  have hoc : w2.cell? ⟨q, i, none⟩ = some (.int .i64 x) := own_cell hr (by have hix : i < xs.length := (by omega); rw [List.getElem?_map]; simp [hx, hix])
  have hof : w2.frozen? ⟨q, i, none⟩ = false := own_free hr
  have i0 : (0 : Int) ≤ (i : Int) := by omega
  have i1 : (i : Int) < (len : Int) := by omega
  have i2 : ¬ (len : Int) ≤ (i : Int) := by omega
  have HX := Lib.hid hx
  clear hx hvl hoq
  have HR := Lib.hid hr
  have HB := Lib.hid hbw
  have HL := Lib.hid hlen
  clear hr hbw hlen hv
  go_wp2_with fail
  go_ret3
  exact ⟨_, rfl, by rw [List.length_set]; exact row_mono (own_n (own_set (i := i) (x := (wrap64 (x + n))) HR.out) HL.out) (Nat.le_succ _), HB.out.setCell (by show w.heap.size ≤ q; omega) _⟩
set_option maxRecDepth 20000 in
set_option maxHeartbeats 2000000 in
theorem rdo_3y (vm : Value) (xs : List Int) (i : Nat) (x : Int) (hxH : Hid (xs.getD i 0 = x)) (n o : Int) (w : World) (hv : View w vm xs) (hsm : xs.length ≤ 100000) (hat : i < xs.length) (ho : Hid (x = o)) :
    Calls Try.prog 18 #[vm, .agg #[.int .i64 3, .int .i64 i, .int .i64 n, .int .i64 o]] w (RDo w (xs.set i n) x true) := by
  go_enter Try.func18, Try.ntmps18
  go_wp2_with (at_builtin; refine wpList_copy_row rfl _ _ rfl (w.heap.size + 1) (w.heap.size + 1) rfl ?o1 (Nat.le_refl _) xs ?v1 hsm ?_)
  case o1 => have h := heap_made (w.alloc (.cells #[.int .i64 3, .int .i64 i, .int .i64 n, .int .i64 o] 32)) (.cells #[] 3); rw [show (w.alloc (.cells #[Value.int .i64 3, .int .i64 i, .int .i64 n, .int .i64 o] 32)).heap.size = w.heap.size + 1 from by simp] at h; exact h
  case v1 => exact hv.below (by go_grown)
  intro v' w2 hr hb2
  have c0 : w2.cell? ⟨w.heap.size, 0, none⟩ = some (.int .i64 3) := kcell (by go_simp) hb2 (by omega)
  have c1 : w2.cell? ⟨w.heap.size, 1, none⟩ = some (.int .i64 i) := kcell (by go_simp) hb2 (by omega)
  have c2 : w2.cell? ⟨w.heap.size, 2, none⟩ = some (.int .i64 n) := kcell (by go_simp) hb2 (by omega)
  have c3 : w2.cell? ⟨w.heap.size, 3, none⟩ = some (.int .i64 o) := kcell (by go_simp) hb2 (by omega)
  have hbw : Below w.heap.size w w2 := Below.trans (by go_grown) (hb2.mono (by omega))
  obtain ⟨oa, ca, rfl, va, rfl⟩ : ∃ oa ca, vm = .slice oa xs.length ca ∧ ∃ va, va = v' := by obtain ⟨a, c, h, _⟩ := id hv; exact ⟨a, c, h, _, rfl⟩
  obtain ⟨oq, cq, rfl, hcq, hoq⟩ := own_form hr
  obtain ⟨len, hlen⟩ : ∃ len, len = xs.length := ⟨_, rfl⟩
  rw [← hlen] at hr hoq hcq ⊢
  clear hb2
  rw [← hlen] at hat
  have hx : x = xs.getD i 0 := hxH.out.symm
  obtain ⟨q, rfl, hq1, hq2⟩ := hoq (by omega)
  have hvl := hv.below hbw
  obtain ⟨b, off, rfl, hvc⟩ : ∃ b off, oa = some ⟨b, off, none⟩ ∧ w2.cell? ⟨b, off + i, none⟩ = some (.int .i64 x) := by
    rcases hvl.cases with ⟨h, _⟩ | ⟨_, b, off, cap, h, _, _, _, hc⟩
    · rw [h] at hlen; simp at hlen; omega
    · simp only [Value.slice.injEq] at h
      exact ⟨b, off, h.1, by rw [hx]; exact hc i (by omega)⟩
  have hoc : w2.cell? ⟨q, i, none⟩ = some (.int .i64 x) := own_cell hr (by have hix : i < xs.length := (by omega); rw [List.getElem?_map]; simp [hx, hix])
  have hof : w2.frozen? ⟨q, i, none⟩ = false := own_free hr
  have i0 : (0 : Int) ≤ (i : Int) := by omega
  have i1 : (i : Int) < (len : Int) := by omega
  have i2 : ¬ (len : Int) ≤ (i : Int) := by omega
  have HX := Lib.hid hx
  clear hx hvl hoq
  have hxo : (x == o) = true := by rw [ho.out]; simp
  have HR := Lib.hid hr
  have HB := Lib.hid hbw
  have HL := Lib.hid hlen
  clear hr hbw hlen hv
  go_wp2_with fail
  go_ret3
  exact ⟨_, rfl, by rw [List.length_set]; exact row_mono (own_n (own_set (i := i) (x := n) HR.out) HL.out) (Nat.le_succ _), HB.out.setCell (by show w.heap.size ≤ q; omega) _⟩
set_option maxRecDepth 20000 in
set_option maxHeartbeats 2000000 in
theorem rdo_3n (vm : Value) (xs : List Int) (i : Nat) (x : Int) (hxH : Hid (xs.getD i 0 = x)) (n o : Int) (w : World) (hv : View w vm xs) (hsm : xs.length ≤ 100000) (hat : i < xs.length) (ho : Hid (¬ x = o)) :
    Calls Try.prog 18 #[vm, .agg #[.int .i64 3, .int .i64 i, .int .i64 n, .int .i64 o]] w (RDo w xs x true) := by
  go_enter Try.func18, Try.ntmps18
  go_wp2_with (at_builtin; refine wpList_copy_row rfl _ _ rfl (w.heap.size + 1) (w.heap.size + 1) rfl ?o1 (Nat.le_refl _) xs ?v1 hsm ?_)
  case o1 => have h := heap_made (w.alloc (.cells #[.int .i64 3, .int .i64 i, .int .i64 n, .int .i64 o] 32)) (.cells #[] 3); rw [show (w.alloc (.cells #[Value.int .i64 3, .int .i64 i, .int .i64 n, .int .i64 o] 32)).heap.size = w.heap.size + 1 from by simp] at h; exact h
  case v1 => exact hv.below (by go_grown)
  intro v' w2 hr hb2
  have c0 : w2.cell? ⟨w.heap.size, 0, none⟩ = some (.int .i64 3) := kcell (by go_simp) hb2 (by omega)
  have c1 : w2.cell? ⟨w.heap.size, 1, none⟩ = some (.int .i64 i) := kcell (by go_simp) hb2 (by omega)
  have c2 : w2.cell? ⟨w.heap.size, 2, none⟩ = some (.int .i64 n) := kcell (by go_simp) hb2 (by omega)
  have c3 : w2.cell? ⟨w.heap.size, 3, none⟩ = some (.int .i64 o) := kcell (by go_simp) hb2 (by omega)
  have hbw : Below w.heap.size w w2 := Below.trans (by go_grown) (hb2.mono (by omega))
  obtain ⟨oa, ca, rfl, va, rfl⟩ : ∃ oa ca, vm = .slice oa xs.length ca ∧ ∃ va, va = v' := by obtain ⟨a, c, h, _⟩ := id hv; exact ⟨a, c, h, _, rfl⟩
  obtain ⟨oq, cq, rfl, hcq, hoq⟩ := own_form hr
  obtain ⟨len, hlen⟩ : ∃ len, len = xs.length := ⟨_, rfl⟩
  rw [← hlen] at hr hoq hcq ⊢
  clear hb2
  rw [← hlen] at hat
  have hx : x = xs.getD i 0 := hxH.out.symm
  obtain ⟨q, rfl, hq1, hq2⟩ := hoq (by omega)
  have hvl := hv.below hbw
  obtain ⟨b, off, rfl, hvc⟩ : ∃ b off, oa = some ⟨b, off, none⟩ ∧ w2.cell? ⟨b, off + i, none⟩ = some (.int .i64 x) := by
    rcases hvl.cases with ⟨h, _⟩ | ⟨_, b, off, cap, h, _, _, _, hc⟩
    · rw [h] at hlen; simp at hlen; omega
    · simp only [Value.slice.injEq] at h
      exact ⟨b, off, h.1, by rw [hx]; exact hc i (by omega)⟩
  have hoc : w2.cell? ⟨q, i, none⟩ = some (.int .i64 x) := own_cell hr (by have hix : i < xs.length := (by omega); rw [List.getElem?_map]; simp [hx, hix])
  have hof : w2.frozen? ⟨q, i, none⟩ = false := own_free hr
  have i0 : (0 : Int) ≤ (i : Int) := by omega
  have i1 : (i : Int) < (len : Int) := by omega
  have i2 : ¬ (len : Int) ≤ (i : Int) := by omega
  have HX := Lib.hid hx
  clear hx hvl hoq
  have hxo : (x == o) = false := by simpa using ho.out
  have HR := Lib.hid hr
  have HB := Lib.hid hbw
  have HL := Lib.hid hlen
  clear hr hbw hlen hv
  go_wp2_with fail
  go_ret3
  exact ⟨_, rfl, row_mono (own_n HR.out HL.out) (Nat.le_succ _), HB.out⟩
def fillF (xs : List Int) (a m v : Int) : List Int := (List.range xs.length).map fun j : Nat => if a ≤ (j : Int) ∧ (j : Int) < a + m then v else xs.getD j 0
set_option maxRecDepth 20000 in
set_option maxHeartbeats 2000000 in
theorem rdo_4 (vm : Value) (xs : List Int) (at_ : Int) (n o : Int) (w : World) (hv : View w vm xs) (hsm : xs.length ≤ 100000) (hs3 : xs.length ≤ 300) (b1 : -9223372036854775808 ≤ at_) (b2 : at_ ≤ 9223372036854775807) (b3 : -9223372036854775808 ≤ n) (b4 : n ≤ 9223372036854775807) :
    Calls Try.prog 18 #[vm, .agg #[.int .i64 4, .int .i64 at_, .int .i64 n, .int .i64 o]] w (RDo w (fillF xs at_ n o) 0 true) := by
  go_enter Try.func18, Try.ntmps18
  go_wp2_with (at_builtin; refine wpList_copy_row rfl _ _ rfl (w.heap.size + 1) (w.heap.size + 1) rfl ?o1 (Nat.le_refl _) xs ?v1 hsm ?_)
  case o1 => have h := heap_made (w.alloc (.cells #[.int .i64 4, .int .i64 at_, .int .i64 n, .int .i64 o] 32)) (.cells #[] 3); rw [show (w.alloc (.cells #[Value.int .i64 4, .int .i64 at_, .int .i64 n, .int .i64 o] 32)).heap.size = w.heap.size + 1 from by simp] at h; exact h
  case v1 => exact hv.below (by go_grown)
  intro v' w2 hr hb2
  have c0 : w2.cell? ⟨w.heap.size, 0, none⟩ = some (.int .i64 4) := kcell (by go_simp) hb2 (by omega)
  have c1 : w2.cell? ⟨w.heap.size, 1, none⟩ = some (.int .i64 at_) := kcell (by go_simp) hb2 (by omega)
  have c2 : w2.cell? ⟨w.heap.size, 2, none⟩ = some (.int .i64 n) := kcell (by go_simp) hb2 (by omega)
  have c3 : w2.cell? ⟨w.heap.size, 3, none⟩ = some (.int .i64 o) := kcell (by go_simp) hb2 (by omega)
  have hbw : Below w.heap.size w w2 := Below.trans (by go_grown) (hb2.mono (by omega))
  obtain ⟨oa, ca, rfl, va, rfl⟩ : ∃ oa ca, vm = .slice oa xs.length ca ∧ ∃ va, va = v' := by obtain ⟨a, c, h, _⟩ := id hv; exact ⟨a, c, h, _, rfl⟩
  obtain ⟨oq, cq, rfl, hcq, hoq⟩ := own_form hr
  obtain ⟨len, hlen⟩ : ∃ len, len = xs.length := ⟨_, rfl⟩
  rw [← hlen] at hr hoq hcq ⊢
  clear hb2
  have hoq0 : True := trivial
  have hl3 : len ≤ 300 := by omega
  have HV := Lib.hid hv
  have HR0 := Lib.hid hr
  have HB := Lib.hid hbw
  have HL := Lib.hid hlen
  have HS := Lib.hid hsm
  clear hr hbw hlen hv hsm hoq0
  go_wp2_with fail
  go_loopw [8] (fun i wr => ∃ (k : Nat) (ys : List Int), k ≤ len ∧ i = .int .i64 k ∧ wr.ownsRow (w.heap.size + 1) 3 1 (.slice oq len cq) len (ys.map (Value.int .i64)) ∧ Below w.heap.size w wr ∧ wr.cell? ⟨w.heap.size, 0, none⟩ = some (.int .i64 4) ∧ wr.cell? ⟨w.heap.size, 1, none⟩ = some (.int .i64 at_) ∧ wr.cell? ⟨w.heap.size, 2, none⟩ = some (.int .i64 n) ∧ wr.cell? ⟨w.heap.size, 3, none⟩ = some (.int .i64 o) ∧ Hid (ys.length = len ∧ ∀ j : Nat, j < len → ys.getD j 0 = if j < k ∧ at_ ≤ j ∧ (j : Int) < at_ + n then o else xs.getD j 0)) (fun i _ => len - (intOf i).toNat)
  case atStart => exact ⟨0, xs, Nat.zero_le _, rfl, HR0.out, HB.out, c0, c1, c2, c3, Lib.hid ⟨HL.out.symm, fun j hj => by rw [if_neg (by omega)]⟩⟩
  case round =>
    clear c0 c1 c2 c3
    obtain ⟨k, ys, hk, rfl, hr, hbw, c0, c1, c2, c3, hy⟩ := hrel
    by_cases hlt : k < len
    · obtain ⟨q, rfl, hq1, hq2⟩ := hoq (by omega)
      have hq2' : q < wr.heap.size := by
        have := hr.lt q rfl; exact this.2
      have hkl : k < ys.length := by have := hy.out.1; omega
      have hoc : wr.cell? ⟨q, k, none⟩ = some (.int .i64 (ys.getD k 0)) := own_cell hr (by rw [List.getElem?_map]; simp [hkl])
      have hof : wr.frozen? ⟨q, k, none⟩ = false := own_free hr
      have hne : w.heap.size ≠ q := by omega
      generalize ys.getD k 0 = yk at *
      have HR := Lib.hid hr
      have HBw := Lib.hid hbw
      have k0 : (0 : Int) ≤ (k : Int) := by omega
      have kl : (k : Int) ≤ 300 := by omega
      clear hr hbw
      by_cases hin : at_ ≤ (k : Int) ∧ (k : Int) < at_ + n
      · have hst : wr.setCell ⟨q, k, none⟩ (.int .i64 o) = wr.setCell ⟨q, k, none⟩ (.int .i64 o) := rfl
        have REL : Hid (∃ (k' : Nat) (ys' : List Int), k' ≤ len ∧ Value.int IntKind.i64 ((k : Int) + 1) = .int .i64 k' ∧ (wr.setCell ⟨q, k, none⟩ (.int .i64 o)).ownsRow (w.heap.size + 1) 3 1 (.slice (some ⟨q, 0, none⟩) len cq) len (ys'.map (Value.int .i64)) ∧ Below w.heap.size w (wr.setCell ⟨q, k, none⟩ (.int .i64 o)) ∧ (wr.setCell ⟨q, k, none⟩ (.int .i64 o)).cell? ⟨w.heap.size, 0, none⟩ = some (.int .i64 4) ∧ (wr.setCell ⟨q, k, none⟩ (.int .i64 o)).cell? ⟨w.heap.size, 1, none⟩ = some (.int .i64 at_) ∧ (wr.setCell ⟨q, k, none⟩ (.int .i64 o)).cell? ⟨w.heap.size, 2, none⟩ = some (.int .i64 n) ∧ (wr.setCell ⟨q, k, none⟩ (.int .i64 o)).cell? ⟨w.heap.size, 3, none⟩ = some (.int .i64 o) ∧ Hid (ys'.length = len ∧ ∀ j : Nat, j < len → ys'.getD j 0 = if j < k' ∧ at_ ≤ j ∧ (j : Int) < at_ + n then o else xs.getD j 0)) := Lib.hid ⟨k + 1, ys.set k o, by omega, by go_num, own_set HR.out, HBw.out.setCell (by show w.heap.size ≤ q; omega) _, scell c0 hne, scell c1 hne, scell c2 hne, scell c3 hne, Lib.hid ⟨by rw [List.length_set]; exact hy.out.1, fun j hj => by
          by_cases e : j = k
          · subst e; rw [if_pos ⟨by omega, hin.1, hin.2⟩]; simp [hkl]
          · have := hy.out.2 j hj
            rw [show (ys.set k o).getD j 0 = ys.getD j 0 from by simp only [List.getD_eq_getElem?_getD]; rw [List.getElem?_set_ne (fun h => e h.symm)]]
            rw [this]
            by_cases e2 : j < k
            · by_cases e3 : at_ ≤ (j : Int) ∧ (j : Int) < at_ + n
              · rw [if_pos ⟨e2, e3.1, e3.2⟩, if_pos ⟨by omega, e3.1, e3.2⟩]
              · rw [if_neg (fun h => e3 ⟨h.2.1, h.2.2⟩), if_neg (fun h => e3 ⟨h.2.1, h.2.2⟩)]
            · rw [if_neg (fun h => e2 h.1), if_neg (fun h => e2 (by omega))]⟩⟩
        by_cases ha : 0 ≤ at_
        · have g1 : at_ ≤ (k : Int) := hin.1
          have g2 : (k : Int) - at_ < n := by omega
          clear hin
          go_wp2_with fail
          go_roundw
          case rel => exact REL.out
          case measure => simp [intOf]; omega
        · have g0 : at_ < 0 := by omega
          have g1 : 0 < n := by omega
          have g2 : (k : Int) < at_ + n := hin.2
          clear hin ha
          go_wp2_with fail
          go_roundw
          case rel => exact REL.out
          case measure => simp [intOf]; omega
      · have REL : Hid (∃ (k' : Nat) (ys' : List Int), k' ≤ len ∧ Value.int IntKind.i64 ((k : Int) + 1) = .int .i64 k' ∧ wr.ownsRow (w.heap.size + 1) 3 1 (.slice (some ⟨q, 0, none⟩) len cq) len (ys'.map (Value.int .i64)) ∧ Below w.heap.size w wr ∧ wr.cell? ⟨w.heap.size, 0, none⟩ = some (.int .i64 4) ∧ wr.cell? ⟨w.heap.size, 1, none⟩ = some (.int .i64 at_) ∧ wr.cell? ⟨w.heap.size, 2, none⟩ = some (.int .i64 n) ∧ wr.cell? ⟨w.heap.size, 3, none⟩ = some (.int .i64 o) ∧ Hid (ys'.length = len ∧ ∀ j : Nat, j < len → ys'.getD j 0 = if j < k' ∧ at_ ≤ j ∧ (j : Int) < at_ + n then o else xs.getD j 0)) := Lib.hid ⟨k + 1, ys, by omega, by go_num, HR.out, HBw.out, c0, c1, c2, c3, Lib.hid ⟨hy.out.1, fun j hj => by
          have := hy.out.2 j hj
          rw [this]
          by_cases e3 : at_ ≤ (j : Int) ∧ (j : Int) < at_ + n
          · by_cases e2 : j < k
            · rw [if_pos ⟨e2, e3.1, e3.2⟩, if_pos ⟨by omega, e3.1, e3.2⟩]
            · have e4 : ¬ j < k + 1 := fun h => hin (by rw [show (k : Int) = (j : Int) from by omega]; exact e3)
              rw [if_neg (fun h => e2 h.1), if_neg (fun h => e4 h.1)]
          · rw [if_neg (fun h => e3 ⟨h.2.1, h.2.2⟩), if_neg (fun h => e3 ⟨h.2.1, h.2.2⟩)]⟩⟩
        by_cases ha : 0 ≤ at_
        · by_cases hb : at_ ≤ (k : Int)
          · have g2 : ¬ (k : Int) - at_ < n := by omega
            have g3 : ¬ at_ < 0 := by omega
            clear hin
            go_wp2_with fail
            go_roundw
            case rel => exact REL.out
            case measure => simp [intOf]; omega
          · have g3 : ¬ at_ < 0 := by omega
            clear hin
            go_wp2_with fail
            go_roundw
            case rel => exact REL.out
            case measure => simp [intOf]; omega
        · by_cases hn0 : 0 < n
          · have g0 : at_ < 0 := by omega
            have g2 : ¬ (k : Int) < at_ + n := by omega
            clear hin
            go_wp2_with fail
            go_roundw
            case rel => exact REL.out
            case measure => simp [intOf]; omega
          · have g0 : at_ < 0 := by omega
            clear hin
            go_wp2_with fail
            go_roundw
            case rel => exact REL.out
            case measure => simp [intOf]; omega
    · obtain rfl : len = k := by omega
      go_wp2_with fail
      go_ret3
      have e : ys = fillF xs at_ n o := by
        have h1 := hy.out.1
        apply List.ext_getElem?
        intro j
        by_cases hj : j < len
        · have h2 := hy.out.2 j hj
          rw [List.getD_eq_getElem?_getD, List.getElem?_eq_getElem (by omega)] at h2
          rw [List.getElem?_eq_getElem (by omega)]
          have hjx : j < xs.length := by have := HL.out; omega
          simp only [Option.getD_some] at h2
          rw [h2]
          unfold fillF
          rw [List.getElem?_map, List.getElem?_range hjx]
          simp [hj]
        · rw [List.getElem?_eq_none (by omega), List.getElem?_eq_none (by unfold fillF; have := HL.out; simp; omega)]
      exact ⟨_, rfl, by rw [← e, hy.out.1]; exact row_mono hr (Nat.le_succ _), hbw⟩
end Go.Proofs.Ytfigabjcmpakeaa.storeDoes
