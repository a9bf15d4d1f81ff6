/- The contracts of layer 18 (join), and that its laws begin. -/
import Derived.Test.YtfigabjcmpakeabStore
namespace Go.Proofs.Ytfigabjcmpakeab
open Go.ChangeShapes Go.WideShapes Go.ChangeAt Go.RowKit
set_option linter.unusedVariables false
theorem spawn_in (S g : Nat) (xs : List Int) (at_ : Nat) (w : World) (h : StoreAt w S g xs) (hat : at_ < xs.length) (hm : xs.length ≤ 1048576) : Calls Try.prog 42 #[.pointer (some ⟨S, 0, none⟩), .int .i64 at_] w fun e w' => e = .returned (.tuple #[]) ∧ w.setCell ⟨g, at_, none⟩ (.int .i64 (wrap64 (xs.getD at_ 0 + 1))) = w' := by
  go_enter Try.func42, Try.ntmps42
  go_wp2_with (go_at_call 56; refine (add_in S g xs at_ 1 _ h hat hm).mono ?_; rintro e w' ⟨rfl, hw⟩)
  go_end0
  exact ⟨rfl, hw⟩
theorem leave_in (S g : Nat) (xs : List Int) (at_ : Nat) (w : World) (h : StoreAt w S g xs) (hat : at_ < xs.length) (hm : xs.length ≤ 1048576) : Calls Try.prog 43 #[.pointer (some ⟨S, 0, none⟩), .int .i64 at_] w fun e w' => e = .returned (.bool (xs.getD at_ 0 == 1)) ∧ w.setCell ⟨g, at_, none⟩ (.int .i64 (wrap64 (xs.getD at_ 0 + -1))) = w' := by
  generalize hx : xs.getD at_ 0 = x at *
  go_enter Try.func43, Try.ntmps43
  go_wp2_with (go_at_call 56; refine (add_in S g xs at_ (-1) _ h hat hm).mono ?_; rintro e w' ⟨rfl, hw⟩; rw [hx] at hw ⊢)
  go_ret
  exact ⟨rfl, hw⟩
theorem again_in (S g : Nat) (xs : List Int) (at_ : Nat) (w : World) (h : StoreAt w S g xs) (hat : at_ < xs.length) (hm : xs.length ≤ 1048576) : Calls Try.prog 44 #[.pointer (some ⟨S, 0, none⟩), .int .i64 at_] w fun e w' => e = .returned (.tuple #[]) ∧ w.setCell ⟨g, at_, none⟩ (.int .i64 1) = w' := by
  go_enter Try.func44, Try.ntmps44
  go_wp2_with (go_at_call 41; refine (store_in S g xs at_ 1 _ h hat hm).mono ?_; rintro e w' ⟨rfl, hw⟩)
  go_end0
  exact ⟨rfl, hw⟩
/-- Behind world w0 a store of the words xs stands, that is younger than w0. -/
def J (w0 w : World) (S g : Nat) (xs : List Int) : Prop := StoreAt w S g xs ∧ Below w0.heap.size w0 w ∧ w0.heap.size ≤ g
theorem J.set {w0 w w' : World} {S g : Nat} {xs : List Int} (h : J w0 w S g xs) (i : Nat) (x : Int) (hw : w.setCell ⟨g, i, none⟩ (.int .i64 x) = w') : J w0 w' S g (xs.set i x) := by
  subst hw
  exact ⟨h.1.set i x, h.2.1.setCell h.2.2 _, h.2.2⟩
theorem new_j (n : Nat) (w0 w : World) (hb : Below w0.heap.size w0 w) (hn : n ≤ 1048576) : Calls Try.prog 16 #[.int .i64 n] w fun e w' => ∃ S g, e = .returned (.pointer (some ⟨S, 0, none⟩)) ∧ J w0 w' S g (List.replicate n 0) := by
  refine (new_n n w hn).mono ?_
  rintro e w' ⟨rfl, hs, hb'⟩
  exact ⟨_, _, rfl, hs, hb.trans (hb'.mono hb.size), hb.size⟩
theorem spawn_j (S g : Nat) (xs : List Int) (at_ : Nat) (w0 w : World) (h : J w0 w S g xs) (hat : at_ < xs.length) (hm : xs.length ≤ 1048576) : Calls Try.prog 42 #[.pointer (some ⟨S, 0, none⟩), .int .i64 at_] w fun e w' => e = .returned (.tuple #[]) ∧ J w0 w' S g (xs.set at_ (wrap64 (xs.getD at_ 0 + 1))) :=
  (spawn_in S g xs at_ w h.1 hat hm).mono fun _ _ ⟨he, hw⟩ => ⟨he, h.set _ _ hw⟩
theorem leave_j (S g : Nat) (xs : List Int) (at_ : Nat) (w0 w : World) (h : J w0 w S g xs) (hat : at_ < xs.length) (hm : xs.length ≤ 1048576) : Calls Try.prog 43 #[.pointer (some ⟨S, 0, none⟩), .int .i64 at_] w fun e w' => e = .returned (.bool (xs.getD at_ 0 == 1)) ∧ J w0 w' S g (xs.set at_ (wrap64 (xs.getD at_ 0 + -1))) :=
  (leave_in S g xs at_ w h.1 hat hm).mono fun _ _ ⟨he, hw⟩ => ⟨he, h.set _ _ hw⟩
theorem again_j (S g : Nat) (xs : List Int) (at_ : Nat) (w0 w : World) (h : J w0 w S g xs) (hat : at_ < xs.length) (hm : xs.length ≤ 1048576) : Calls Try.prog 44 #[.pointer (some ⟨S, 0, none⟩), .int .i64 at_] w fun e w' => e = .returned (.tuple #[]) ∧ J w0 w' S g (xs.set at_ 1) :=
  (again_in S g xs at_ w h.1 hat hm).mono fun _ _ ⟨he, hw⟩ => ⟨he, h.set _ _ hw⟩
theorem load_j (S g : Nat) (xs : List Int) (at_ : Nat) (w0 w : World) (h : J w0 w S g xs) (hat : at_ < xs.length) (hm : xs.length ≤ 1048576) : Calls Try.prog 45 #[.pointer (some ⟨S, 0, none⟩), .int .i64 at_] w fun e w' => e = .returned (.tuple #[.int .i64 (xs.getD at_ 0), .bool true]) ∧ w = w' :=
  load_in S g xs at_ w h.1 hat hm
theorem works18 (w : World) : Calls Try.prog 40 #[] w fun e w' => e = .returned (.bool true) ∧ Below w.heap.size w w' := by
  go_enter Try.func40, Try.ntmps40
  go_wp2_with fail
  refine (new_j 2 w _ (Below.refl _ _) (by decide)).mono ?_
  rintro e w1 ⟨S, g, rfl, h0⟩
  go_wp2_with fail
  refine (again_j S g _ 1 w _ h0 (by decide) (by decide)).mono ?_
  rintro e w2 ⟨rfl, h1⟩
  replace h1 : J w w2 S g [0, 1] := h1
  clear h0
  go_wp2_with fail
  refine (spawn_j S g _ 1 w _ h1 (by decide) (by decide)).mono ?_
  rintro e w3 ⟨rfl, h2⟩
  rw [show wrap64 (([0, 1] : List Int).getD 1 0 + 1) = 2 from by show wrap64 (1 + 1) = 2; unfold wrap64; omega] at h2
  replace h2 : J w w3 S g [0, 2] := h2
  clear h1
  go_wp2_with fail
  refine (leave_j S g _ 1 w _ h2 (by decide) (by decide)).mono ?_
  rintro e w4 ⟨rfl, h3⟩
  rw [show wrap64 (([0, 2] : List Int).getD 1 0 + -1) = 1 from by show wrap64 (2 + -1) = 1; unfold wrap64; omega] at h3
  replace h3 : J w w4 S g [0, 1] := h3
  clear h2
  go_wp2_with fail
  refine (leave_j S g _ 1 w _ h3 (by decide) (by decide)).mono ?_
  rintro e w5 ⟨rfl, h4⟩
  rw [show wrap64 (([0, 1] : List Int).getD 1 0 + -1) = 0 from by show wrap64 (1 + -1) = 0; unfold wrap64; omega] at h4
  replace h4 : J w w5 S g [0, 0] := h4
  clear h3
  go_wp2_with fail
  refine (load_j S g _ 1 w _ h4 (by decide) (by decide)).mono ?_
  rintro e w6 ⟨rfl, rfl⟩
  go_wp2_with fail
  go_ret
  exact ⟨rfl, h4.2.1⟩
end Go.Proofs.Ytfigabjcmpakeab
