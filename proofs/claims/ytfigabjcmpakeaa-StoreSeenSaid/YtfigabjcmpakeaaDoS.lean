/- What a step of the law StoreDoes does to a store, and to none. -/
import Derived.Test.YtfigabjcmpakeaaRdS
import Derived.Test.YtfigabjcmpakeaaStoreJ
import Derived.Test.YtfigabjcmpakeaaFillX
namespace Go.Proofs.Ytfigabjcmpakeaa.storeDoes
open Go.ChangeShapes Go.WideShapes Go.ChangeAt Go.RowKit
set_option linter.unusedVariables false
set_option linter.unusedSimpArgs false
theorem load_out (S g : Nat) (xs : List Int) (at_ : Int) (w : World) (h : StoreAt w S g xs) (hat : at_ < 0 ∨ (xs.length : Int) ≤ at_) : Calls Try.prog 26 #[.pointer (some ⟨S, 0, none⟩), .int .i64 at_] w fun e w' => e = .returned (.tuple #[.int .i64 0, .bool false]) ∧ w = w' := by
  have H := Lib.hid h
  have HA := Lib.hid hat
  clear h hat
  go_enter Try.func26, Try.ntmps26
  go_wp2_with (go_at_call 61; refine (word_out S g xs at_ _ _ H.out HA.out).mono ?_; rintro e w' ⟨rfl, rfl⟩)
  go_ret2
  exact ⟨rfl, rfl⟩
theorem add_out (S g : Nat) (xs : List Int) (at_ : Int) (n : Int) (w : World) (h : StoreAt w S g xs) (hat : at_ < 0 ∨ (xs.length : Int) ≤ at_) : Calls Try.prog 27 #[.pointer (some ⟨S, 0, none⟩), .int .i64 at_, .int .i64 n] w fun e w' => e = .returned (.tuple #[.int .i64 0, .bool false]) ∧ w = w' := by
  have H := Lib.hid h
  have HA := Lib.hid hat
  clear h hat
  go_enter Try.func27, Try.ntmps27
  go_wp2_with (go_at_call 61; refine (word_out S g xs at_ _ _ H.out HA.out).mono ?_; rintro e w' ⟨rfl, rfl⟩)
  go_ret2
  exact ⟨rfl, rfl⟩
theorem swap_out (S g : Nat) (xs : List Int) (at_ : Int) (o n : Int) (w : World) (h : StoreAt w S g xs) (hat : at_ < 0 ∨ (xs.length : Int) ≤ at_) : Calls Try.prog 59 #[.pointer (some ⟨S, 0, none⟩), .int .i64 at_, .int .i64 o, .int .i64 n] w fun e w' => e = .returned (.tuple #[.int .i64 0, .bool false]) ∧ w = w' := by
  have H := Lib.hid h
  have HA := Lib.hid hat
  clear h hat
  go_enter Try.func59, Try.ntmps59
  go_wp2_with (go_at_call 61; refine (word_out S g xs at_ _ _ H.out HA.out).mono ?_; rintro e w' ⟨rfl, rfl⟩)
  go_ret2
  exact ⟨rfl, rfl⟩
theorem size_nil (w : World) : Calls Try.prog 23 #[.pointer none] w fun e w' => e = .returned (.int .i64 0) ∧ w = w' := by
  go_enter Try.func23, Try.ntmps23
  go_wp2
  go_ret
  exact ⟨rfl, rfl⟩
theorem word_nil (at_ : Int) (b : Bool) (w : World) : Calls Try.prog 61 #[.pointer none, .int .i64 at_, .bool b] w fun e w' => e = .returned (.pointer none) ∧ w = w' := by
  by_cases h : at_ < 0
  · go_enter Try.func61, Try.ntmps61
    go_wp2_with (go_at_call 23; refine (size_nil _).mono ?_; rintro e w' ⟨rfl, rfl⟩)
    go_ret
    exact ⟨rfl, rfl⟩
  · have h2 : 0 ≤ at_ := by omega
    go_enter Try.func61, Try.ntmps61
    go_wp2_with (go_at_call 23; refine (size_nil _).mono ?_; rintro e w' ⟨rfl, rfl⟩)
    go_ret
    exact ⟨rfl, rfl⟩
theorem load_nil (at_ : Int) (w : World) : Calls Try.prog 26 #[.pointer none, .int .i64 at_] w fun e w' => e = .returned (.tuple #[.int .i64 0, .bool false]) ∧ w = w' := by
  go_enter Try.func26, Try.ntmps26
  go_wp2_with (go_at_call 61; refine (word_nil at_ _ _).mono ?_; rintro e w' ⟨rfl, rfl⟩)
  go_ret2
  exact ⟨rfl, rfl⟩
theorem store_nil (at_ : Int) (n : Int) (w : World) : Calls Try.prog 25 #[.pointer none, .int .i64 at_, .int .i64 n] w fun e w' => e = .returned (.bool false) ∧ w = w' := by
  go_enter Try.func25, Try.ntmps25
  go_wp2_with (go_at_call 61; refine (word_nil at_ _ _).mono ?_; rintro e w' ⟨rfl, rfl⟩)
  go_ret
  exact ⟨rfl, rfl⟩
theorem add_nil (at_ : Int) (n : Int) (w : World) : Calls Try.prog 27 #[.pointer none, .int .i64 at_, .int .i64 n] w fun e w' => e = .returned (.tuple #[.int .i64 0, .bool false]) ∧ w = w' := by
  go_enter Try.func27, Try.ntmps27
  go_wp2_with (go_at_call 61; refine (word_nil at_ _ _).mono ?_; rintro e w' ⟨rfl, rfl⟩)
  go_ret2
  exact ⟨rfl, rfl⟩
theorem swap_nil (at_ : Int) (o n : Int) (w : World) : Calls Try.prog 59 #[.pointer none, .int .i64 at_, .int .i64 o, .int .i64 n] w fun e w' => e = .returned (.tuple #[.int .i64 0, .bool false]) ∧ w = w' := by
  go_enter Try.func59, Try.ntmps59
  go_wp2_with (go_at_call 61; refine (word_nil at_ _ _).mono ?_; rintro e w' ⟨rfl, rfl⟩)
  go_ret2
  exact ⟨rfl, rfl⟩
theorem fill_nil (at_ m n : Int) (w : World) (b1 : -9223372036854775808 ≤ at_) (b2 : at_ ≤ 9223372036854775807) (b3 : -9223372036854775808 ≤ m) (b4 : m ≤ 9223372036854775807) : Calls Try.prog 28 #[.pointer none, .int .i64 at_, .int .i64 m, .int .i64 n] w fun e w' => e = .returned (.tuple #[]) ∧ Below w.heap.size w w' := by
  by_cases h : at_ < 0
  · by_cases hm : m < 0
    all_goals
      go_enter Try.func28, Try.ntmps28
      go_wp2_with (go_at_call 23; refine (size_nil _).mono ?_; rintro e w' ⟨rfl, rfl⟩)
      refine wp_loop_rounds 1 ?_
      rw [rounds_succ]
      go_wp2_with (go_at_call 23; refine (size_nil _).mono ?_; rintro e w' ⟨rfl, rfl⟩)
      go_end0
      exact ⟨rfl, by first | exact Below.refl _ _ | go_grown⟩
  · have h2 : 0 ≤ at_ := by omega
    have hd : decide (at_ < 0) = false := by simp; omega
    by_cases hm : m < 0
    all_goals
      go_enter Try.func28, Try.ntmps28
      go_wp2_with (go_at_call 23; refine (size_nil _).mono ?_; rintro e w' ⟨rfl, rfl⟩)
      refine wp_loop_rounds 1 ?_
      rw [rounds_succ]
      go_wp2_with (go_at_call 23; refine (size_nil _).mono ?_; rintro e w' ⟨rfl, rfl⟩)
      go_end0
      exact ⟨rfl, by first | exact Below.refl _ _ | go_grown⟩
theorem all_nil (w : World) : Calls Try.prog 21 #[.pointer none] w fun e w' => e = .returned (.slice none 0 0) ∧ w = w' := by
  go_enter Try.func21, Try.ntmps21
  go_wp2
  go_ret
  exact ⟨rfl, rfl⟩
theorem hook_nil (w : World) : Calls Try.prog 22 #[.pointer none, .nilFunc] w fun e w' => e = .returned (.tuple #[]) ∧ w = w' := by
  go_enter Try.func22, Try.ntmps22
  go_wp2
  go_end0
  exact ⟨rfl, rfl⟩
theorem none_0 (at_ n o : Int) (w : World) (b1 : -9223372036854775808 ≤ at_) (b2 : at_ ≤ 9223372036854775807) (b3 : -9223372036854775808 ≤ n) (b4 : n ≤ 9223372036854775807) : Calls Try.prog 19 #[.pointer none, .agg #[.int .i64 0, .int .i64 at_, .int .i64 n, .int .i64 o]] w fun e w' => e = .returned (.tuple #[.int .i64 0, .bool false]) ∧ Below w.heap.size w w' := by
  go_enter Try.func19, Try.ntmps19
  go_wp2_with (go_at_call 26; refine (load_nil at_ _).mono ?_; rintro e w1 ⟨rfl, rfl⟩)
  go_ret2
  exact ⟨rfl, by go_grown⟩
theorem none_1 (at_ n o : Int) (w : World) (b1 : -9223372036854775808 ≤ at_) (b2 : at_ ≤ 9223372036854775807) (b3 : -9223372036854775808 ≤ n) (b4 : n ≤ 9223372036854775807) : Calls Try.prog 19 #[.pointer none, .agg #[.int .i64 1, .int .i64 at_, .int .i64 n, .int .i64 o]] w fun e w' => e = .returned (.tuple #[.int .i64 0, .bool false]) ∧ Below w.heap.size w w' := by
  go_enter Try.func19, Try.ntmps19
  go_wp2_with (go_at_call 25; refine (store_nil at_ n _).mono ?_; rintro e w1 ⟨rfl, rfl⟩)
  go_ret2
  exact ⟨rfl, by go_grown⟩
theorem none_2 (at_ n o : Int) (w : World) (b1 : -9223372036854775808 ≤ at_) (b2 : at_ ≤ 9223372036854775807) (b3 : -9223372036854775808 ≤ n) (b4 : n ≤ 9223372036854775807) : Calls Try.prog 19 #[.pointer none, .agg #[.int .i64 2, .int .i64 at_, .int .i64 n, .int .i64 o]] w fun e w' => e = .returned (.tuple #[.int .i64 0, .bool false]) ∧ Below w.heap.size w w' := by
  go_enter Try.func19, Try.ntmps19
  go_wp2_with (go_at_call 27; refine (add_nil at_ n _).mono ?_; rintro e w1 ⟨rfl, rfl⟩)
  go_ret2
  exact ⟨rfl, by go_grown⟩
theorem none_3 (at_ n o : Int) (w : World) (b1 : -9223372036854775808 ≤ at_) (b2 : at_ ≤ 9223372036854775807) (b3 : -9223372036854775808 ≤ n) (b4 : n ≤ 9223372036854775807) : Calls Try.prog 19 #[.pointer none, .agg #[.int .i64 3, .int .i64 at_, .int .i64 n, .int .i64 o]] w fun e w' => e = .returned (.tuple #[.int .i64 0, .bool false]) ∧ Below w.heap.size w w' := by
  go_enter Try.func19, Try.ntmps19
  go_wp2_with (go_at_call 59; refine (swap_nil at_ o n _).mono ?_; rintro e w1 ⟨rfl, rfl⟩)
  go_ret2
  exact ⟨rfl, by go_grown⟩
theorem none_4 (at_ n o : Int) (w : World) (b1 : -9223372036854775808 ≤ at_) (b2 : at_ ≤ 9223372036854775807) (b3 : -9223372036854775808 ≤ n) (b4 : n ≤ 9223372036854775807) : Calls Try.prog 19 #[.pointer none, .agg #[.int .i64 4, .int .i64 at_, .int .i64 n, .int .i64 o]] w fun e w' => e = .returned (.tuple #[.int .i64 0, .bool true]) ∧ Below w.heap.size w w' := by
  go_enter Try.func19, Try.ntmps19
  go_wp2_with (go_at_call 28; refine (fill_nil at_ n o _ b1 b2 b3 b4).mono ?_; rintro e w1 ⟨rfl, hb⟩)
  go_ret2
  exact ⟨rfl, Below.trans (by go_grown) (hb.mono (by simp))⟩
theorem do_out_0 (S g : Nat) (xs : List Int) (at_ : Int) (n o : Int) (w0 w : World) (h : J w0 w S g xs) (hm : xs.length ≤ 300) (hat : Hid (at_ < 0 ∨ (xs.length : Int) ≤ at_)) : Calls Try.prog 19 #[.pointer (some ⟨S, 0, none⟩), .agg #[.int .i64 0, .int .i64 at_, .int .i64 n, .int .i64 o]] w fun e w' => e = .returned (.tuple #[.int .i64 0, .bool false]) ∧ J w0 w' S g xs ∧ Keep g w w' := by
  have hJ := h.below (w' := w.alloc (Obj.cells #[.int .i64 0, .int .i64 at_, .int .i64 n, .int .i64 o] 29)) (by go_grown)
  have hK : Keep g w (w.alloc (Obj.cells #[.int .i64 0, .int .i64 at_, .int .i64 n, .int .i64 o] 29)) := Keep.of_below (by go_grown)
  have HJ := Lib.hid hJ
  have HK := Lib.hid hK
  clear hJ hK h
  go_enter Try.func19, Try.ntmps19
  go_wp2_with (go_at_call 26; refine (load_out S g xs at_ _ HJ.out.1 hat.out).mono ?_; rintro e w1 ⟨rfl, rfl⟩)
  go_ret2
  exact ⟨rfl, HJ.out, HK.out⟩
theorem do_out_1 (S g : Nat) (xs : List Int) (at_ : Int) (n o : Int) (w0 w : World) (h : J w0 w S g xs) (hm : xs.length ≤ 300) (hat : Hid (at_ < 0 ∨ (xs.length : Int) ≤ at_)) : Calls Try.prog 19 #[.pointer (some ⟨S, 0, none⟩), .agg #[.int .i64 1, .int .i64 at_, .int .i64 n, .int .i64 o]] w fun e w' => e = .returned (.tuple #[.int .i64 0, .bool false]) ∧ J w0 w' S g xs ∧ Keep g w w' := by
  have hJ := h.below (w' := w.alloc (Obj.cells #[.int .i64 1, .int .i64 at_, .int .i64 n, .int .i64 o] 29)) (by go_grown)
  have hK : Keep g w (w.alloc (Obj.cells #[.int .i64 1, .int .i64 at_, .int .i64 n, .int .i64 o] 29)) := Keep.of_below (by go_grown)
  have HJ := Lib.hid hJ
  have HK := Lib.hid hK
  clear hJ hK h
  go_enter Try.func19, Try.ntmps19
  go_wp2_with (go_at_call 25; refine (store_out S g xs at_ n _ HJ.out.1 hat.out).mono ?_; rintro e w1 ⟨rfl, rfl⟩)
  go_ret2
  exact ⟨rfl, HJ.out, HK.out⟩
theorem do_out_2 (S g : Nat) (xs : List Int) (at_ : Int) (n o : Int) (w0 w : World) (h : J w0 w S g xs) (hm : xs.length ≤ 300) (hat : Hid (at_ < 0 ∨ (xs.length : Int) ≤ at_)) : Calls Try.prog 19 #[.pointer (some ⟨S, 0, none⟩), .agg #[.int .i64 2, .int .i64 at_, .int .i64 n, .int .i64 o]] w fun e w' => e = .returned (.tuple #[.int .i64 0, .bool false]) ∧ J w0 w' S g xs ∧ Keep g w w' := by
  have hJ := h.below (w' := w.alloc (Obj.cells #[.int .i64 2, .int .i64 at_, .int .i64 n, .int .i64 o] 29)) (by go_grown)
  have hK : Keep g w (w.alloc (Obj.cells #[.int .i64 2, .int .i64 at_, .int .i64 n, .int .i64 o] 29)) := Keep.of_below (by go_grown)
  have HJ := Lib.hid hJ
  have HK := Lib.hid hK
  clear hJ hK h
  go_enter Try.func19, Try.ntmps19
  go_wp2_with (go_at_call 27; refine (add_out S g xs at_ n _ HJ.out.1 hat.out).mono ?_; rintro e w1 ⟨rfl, rfl⟩)
  go_ret2
  exact ⟨rfl, HJ.out, HK.out⟩
theorem do_out_3 (S g : Nat) (xs : List Int) (at_ : Int) (n o : Int) (w0 w : World) (h : J w0 w S g xs) (hm : xs.length ≤ 300) (hat : Hid (at_ < 0 ∨ (xs.length : Int) ≤ at_)) : Calls Try.prog 19 #[.pointer (some ⟨S, 0, none⟩), .agg #[.int .i64 3, .int .i64 at_, .int .i64 n, .int .i64 o]] w fun e w' => e = .returned (.tuple #[.int .i64 0, .bool false]) ∧ J w0 w' S g xs ∧ Keep g w w' := by
  have hJ := h.below (w' := w.alloc (Obj.cells #[.int .i64 3, .int .i64 at_, .int .i64 n, .int .i64 o] 29)) (by go_grown)
  have hK : Keep g w (w.alloc (Obj.cells #[.int .i64 3, .int .i64 at_, .int .i64 n, .int .i64 o] 29)) := Keep.of_below (by go_grown)
  have HJ := Lib.hid hJ
  have HK := Lib.hid hK
  clear hJ hK h
  go_enter Try.func19, Try.ntmps19
  go_wp2_with (go_at_call 59; refine (swap_out S g xs at_ o n _ HJ.out.1 hat.out).mono ?_; rintro e w1 ⟨rfl, rfl⟩)
  go_ret2
  exact ⟨rfl, HJ.out, HK.out⟩
theorem do_0 (S g : Nat) (xs : List Int) (i : Nat) (x : Int) (hx : Hid (xs.getD i 0 = x)) (n o : Int) (w0 w : World) (h : J w0 w S g xs) (hm : xs.length ≤ 300) (hi : i < xs.length) : Calls Try.prog 19 #[.pointer (some ⟨S, 0, none⟩), .agg #[.int .i64 0, .int .i64 i, .int .i64 n, .int .i64 o]] w fun e w' => e = .returned (.tuple #[.int .i64 x, .bool true]) ∧ J w0 w' S g xs ∧ Keep g w w' := by
  have hJ := h.below (w' := w.alloc (Obj.cells #[.int .i64 0, .int .i64 i, .int .i64 n, .int .i64 o] 29)) (by go_grown)
  have hK : Keep g w (w.alloc (Obj.cells #[.int .i64 0, .int .i64 i, .int .i64 n, .int .i64 o] 29)) := Keep.of_below (by go_grown)
  have HJ := Lib.hid hJ
  have HK := Lib.hid hK
  clear hJ hK h
  go_enter Try.func19, Try.ntmps19
  go_wp2_with (go_at_call 26; refine (load_in S g xs i _ HJ.out.1 hi (by omega)).mono ?_; rintro e w1 ⟨rfl, rfl⟩; rw [hx.out])
  go_ret2
  exact ⟨rfl, HJ.out, HK.out⟩
theorem do_1 (S g : Nat) (xs : List Int) (i : Nat) (x : Int) (hx : Hid (xs.getD i 0 = x)) (n o : Int) (w0 w : World) (h : J w0 w S g xs) (hm : xs.length ≤ 300) (hi : i < xs.length) : Calls Try.prog 19 #[.pointer (some ⟨S, 0, none⟩), .agg #[.int .i64 1, .int .i64 i, .int .i64 n, .int .i64 o]] w fun e w' => e = .returned (.tuple #[.int .i64 0, .bool true]) ∧ J w0 w' S g (xs.set i n) ∧ Keep g w w' := by
  have hJ := h.below (w' := w.alloc (Obj.cells #[.int .i64 1, .int .i64 i, .int .i64 n, .int .i64 o] 29)) (by go_grown)
  have hK : Keep g w (w.alloc (Obj.cells #[.int .i64 1, .int .i64 i, .int .i64 n, .int .i64 o] 29)) := Keep.of_below (by go_grown)
  have HJ := Lib.hid hJ
  have HK := Lib.hid hK
  clear hJ hK h
  go_enter Try.func19, Try.ntmps19
  go_wp2_with (go_at_call 25; refine (store_in S g xs i n _ HJ.out.1 hi (by omega)).mono ?_; rintro e w1 ⟨rfl, hw⟩)
  go_ret2
  exact ⟨rfl, HJ.out.set _ _ hw, HK.out.trans (Keep.set hw)⟩
theorem do_2 (S g : Nat) (xs : List Int) (i : Nat) (x : Int) (hx : Hid (xs.getD i 0 = x)) (n o : Int) (w0 w : World) (h : J w0 w S g xs) (hm : xs.length ≤ 300) (hi : i < xs.length) : Calls Try.prog 19 #[.pointer (some ⟨S, 0, none⟩), .agg #[.int .i64 2, .int .i64 i, .int .i64 n, .int .i64 o]] w fun e w' => e = .returned (.tuple #[.int .i64 x, .bool true]) ∧ J w0 w' S g (xs.set i (wrap64 (x + n))) ∧ Keep g w w' := by
  have hJ := h.below (w' := w.alloc (Obj.cells #[.int .i64 2, .int .i64 i, .int .i64 n, .int .i64 o] 29)) (by go_grown)
  have hK : Keep g w (w.alloc (Obj.cells #[.int .i64 2, .int .i64 i, .int .i64 n, .int .i64 o] 29)) := Keep.of_below (by go_grown)
  have HJ := Lib.hid hJ
  have HK := Lib.hid hK
  clear hJ hK h
  go_enter Try.func19, Try.ntmps19
  go_wp2_with (go_at_call 27; refine (add_in S g xs i n _ HJ.out.1 hi (by omega)).mono ?_; rintro e w1 ⟨rfl, hw⟩; rw [hx.out] at hw ⊢)
  go_ret2
  exact ⟨rfl, HJ.out.set _ _ hw, HK.out.trans (Keep.set hw)⟩
theorem do_3y (S g : Nat) (xs : List Int) (i : Nat) (n o : Int) (w0 w : World) (h : J w0 w S g xs) (hm : xs.length ≤ 300) (hi : i < xs.length) (hx : Hid (xs.getD i 0 = o)) : Calls Try.prog 19 #[.pointer (some ⟨S, 0, none⟩), .agg #[.int .i64 3, .int .i64 i, .int .i64 n, .int .i64 o]] w fun e w' => e = .returned (.tuple #[.int .i64 o, .bool true]) ∧ J w0 w' S g (xs.set i n) ∧ Keep g w w' := by
  have hJ := h.below (w' := w.alloc (Obj.cells #[.int .i64 3, .int .i64 i, .int .i64 n, .int .i64 o] 29)) (by go_grown)
  have hK : Keep g w (w.alloc (Obj.cells #[.int .i64 3, .int .i64 i, .int .i64 n, .int .i64 o] 29)) := Keep.of_below (by go_grown)
  have HJ := Lib.hid hJ
  have HK := Lib.hid hK
  clear hJ hK h
  go_enter Try.func19, Try.ntmps19
  go_wp2_with (go_at_call 59; refine (swap_yes S g xs i o n _ HJ.out.1 hi (by omega) hx).mono ?_; rintro e w1 ⟨rfl, hw⟩)
  go_ret2
  exact ⟨rfl, HJ.out.set _ _ hw, HK.out.trans (Keep.set hw)⟩
theorem do_3n (S g : Nat) (xs : List Int) (i : Nat) (x : Int) (hx : Hid (xs.getD i 0 = x)) (n o : Int) (w0 w : World) (h : J w0 w S g xs) (hm : xs.length ≤ 300) (hi : i < xs.length) (ho : Hid (¬ x = o)) : Calls Try.prog 19 #[.pointer (some ⟨S, 0, none⟩), .agg #[.int .i64 3, .int .i64 i, .int .i64 n, .int .i64 o]] w fun e w' => e = .returned (.tuple #[.int .i64 x, .bool true]) ∧ J w0 w' S g xs ∧ Keep g w w' := by
  have hJ := h.below (w' := w.alloc (Obj.cells #[.int .i64 3, .int .i64 i, .int .i64 n, .int .i64 o] 29)) (by go_grown)
  have hK : Keep g w (w.alloc (Obj.cells #[.int .i64 3, .int .i64 i, .int .i64 n, .int .i64 o] 29)) := Keep.of_below (by go_grown)
  have HJ := Lib.hid hJ
  have HK := Lib.hid hK
  clear hJ hK h
  go_enter Try.func19, Try.ntmps19
  go_wp2_with (go_at_call 59; refine (swap_no S g xs i x o n _ HJ.out.1 hi (by omega) hx (by simpa using ho.out)).mono ?_; rintro e w1 ⟨rfl, rfl⟩)
  go_ret2
  exact ⟨rfl, HJ.out, HK.out⟩
theorem fillF_of (xs ys : List Int) (a m v : Int) (hl : ys.length = xs.length) (h : ∀ j : Nat, j < xs.length → ys.getD j 0 = if a ≤ j ∧ (j : Int) < a + m then v else xs.getD j 0) : ys = fillF xs a m v := by
  apply List.ext_getElem?
  intro j
  by_cases hj : j < xs.length
  · have h2 := h j hj
    rw [List.getD_eq_getElem?_getD, List.getElem?_eq_getElem (by omega)] at h2
    rw [List.getElem?_eq_getElem (by omega)]
    simp only [Option.getD_some] at h2
    rw [h2]
    unfold fillF
    rw [List.getElem?_map, List.getElem?_range hj]
    simp
  · rw [List.getElem?_eq_none (by omega), List.getElem?_eq_none (by unfold fillF; simp; omega)]
theorem do_4 (S g : Nat) (xs : List Int) (at_ : Int) (n o : Int) (w0 w : World) (h : J w0 w S g xs) (hm : xs.length ≤ 300) (b1 : -9223372036854775808 ≤ at_) (b2 : at_ ≤ 9223372036854775807) (b3 : -9223372036854775808 ≤ n) (b4 : n ≤ 9223372036854775807) : Calls Try.prog 19 #[.pointer (some ⟨S, 0, none⟩), .agg #[.int .i64 4, .int .i64 at_, .int .i64 n, .int .i64 o]] w fun e w' => e = .returned (.tuple #[.int .i64 0, .bool true]) ∧ J w0 w' S g (fillF xs at_ n o) ∧ Keep g w w' := by
  have hJ := h.below (w' := w.alloc (Obj.cells #[.int .i64 4, .int .i64 at_, .int .i64 n, .int .i64 o] 29)) (by go_grown)
  have hK : Keep g w (w.alloc (Obj.cells #[.int .i64 4, .int .i64 at_, .int .i64 n, .int .i64 o] 29)) := Keep.of_below (by go_grown)
  have HJ := Lib.hid hJ
  have HK := Lib.hid hK
  clear hJ hK h
  go_enter Try.func19, Try.ntmps19
  go_wp2_with (go_at_call 28; refine (fx.fill_any S g at_ n xs .nilFunc o w0 _ HJ.out.1 HJ.out.2.1 HJ.out.2.2 b1 b2 b4 hm).mono ?_; rintro e w1 ⟨rfl, ys, h1, h2, h3, h4, h5⟩)
  go_ret2
  exact ⟨rfl, ⟨by rw [← fillF_of xs ys at_ n o h4 h5]; exact h1, h3, HJ.out.2.2⟩, HK.out.trans h2⟩
end Go.Proofs.Ytfigabjcmpakeaa.storeDoes
