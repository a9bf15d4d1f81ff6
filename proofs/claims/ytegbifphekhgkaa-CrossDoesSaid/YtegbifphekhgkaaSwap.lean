/- The contracts of a store's Swap (layer 9). -/
import Derived.Test.YtegbifphekhgkaaKeep
namespace Go.Proofs.Ytegbifphekhgkaa
open Go.ChangeShapes Go.WideShapes Go.ChangeAt Go.RowKit
set_option linter.unusedVariables false
set_option linter.unusedSimpArgs false
theorem swap_yes (S g : Nat) (xs : List Int) (at_ : Nat) (old now : Int) (w : World) (h : StoreAt w S g xs) (hat : at_ < xs.length) (hm : xs.length ≤ 1048576) (ho : Hid (xs.getD at_ 0 = old)) : Calls Try.prog 107 #[.pointer (some ⟨S, 0, none⟩), .int .i64 at_, .int .i64 old, .int .i64 now] w fun e w' => e = .returned (.tuple #[.int .i64 old, .bool true]) ∧ w.setCell ⟨g, at_, none⟩ (.int .i64 now) = w' := by
  obtain ⟨_, _, h2, h3, _, _⟩ := h.facts
  have hc := h2 at_ hat
  have hf := h3 at_
  rw [ho.out] at hc
  clear h2 h3
  go_enter Try.func107, Try.ntmps107
  go_wp2_with (go_at_call 61; refine (word_in S g xs at_ _ _ h hat hm).mono ?_; rintro e w' ⟨rfl, rfl⟩)
  go_ret2
  exact ⟨rfl, rfl⟩
theorem swap_no (S g : Nat) (xs : List Int) (at_ : Nat) (x old now : Int) (w : World) (h : StoreAt w S g xs) (hat : at_ < xs.length) (hm : xs.length ≤ 1048576) (hx : Hid (xs.getD at_ 0 = x)) (ho : (x == old) = false) : Calls Try.prog 107 #[.pointer (some ⟨S, 0, none⟩), .int .i64 at_, .int .i64 old, .int .i64 now] w fun e w' => e = .returned (.tuple #[.int .i64 x, .bool true]) ∧ w = w' := by
  obtain ⟨_, _, h2, h3, _, _⟩ := h.facts
  have hc := h2 at_ hat
  rw [hx.out] at hc
  clear h2 h3
  go_enter Try.func107, Try.ntmps107
  go_wp2_with (go_at_call 61; refine (word_in S g xs at_ _ _ h hat hm).mono ?_; rintro e w' ⟨rfl, rfl⟩)
  go_ret2
  exact ⟨rfl, rfl⟩
end Go.Proofs.Ytegbifphekhgkaa
