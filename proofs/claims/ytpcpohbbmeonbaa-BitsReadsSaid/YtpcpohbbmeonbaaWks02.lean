/- works of layer 2, and any number's bytes behind any others, the number that it is with its sign, and whether it fits: the law BitsTells answers true. No condition. -/
import Derived.Test.YtpcpohbbmeonbaaCut
namespace Go.Proofs.Ytpcpohbbmeonbaa.bits
open Go.ChangeShapes Go.WideShapes Go.ChangeAt Go.RowKit
set_option linter.unusedVariables false
theorem put_works (w : World) : Calls Try.prog 16 #[.string ⟨#[97]⟩, .int .i64 (-2), .int .i64 2] w fun e w' => e = .returned (.string ⟨#[97, 255, 254]⟩) ∧ Below w.heap.size w w' := by
  have h := put_v ⟨#[97]⟩ (-2) 2 2 w (by decide) (Lib.hid (by decide)) (by decide) (by decide)
  have e : (⟨#[97]⟩ : ByteArray).data.toList ++ putB (-2) 2 = [97, 255, 254] := by decide
  rw [e] at h
  exact h
theorem signed_works (w : World) : Calls Try.prog 18 #[.int .i64 65534, .int .i64 2] w fun e w' => e = .returned (.int .i64 (-2)) ∧ w = w' := by
  have h := signed_any 65534 2 w
  have e : sgV 65534 (hz 2) = -2 := by decide
  rw [e] at h
  exact h
theorem num_works (C : Nat) (w : World) (hC : CutAt w C ⟨#[1, 2, 97]⟩ false) : Calls Try.prog 25 #[.pointer (some ⟨C, 0, none⟩), .int .i64 2] w fun e w' => e = .returned (.int .i64 258) ∧ CutAt w' C ⟨#[97]⟩ false ∧ w' = w.setCell ⟨C, 0, none⟩ (.string ⟨#[97]⟩) := by
  have h := num_ok C ⟨#[1, 2, 97]⟩ 2 2 w hC (Lib.hid (by decide)) (by decide) (by decide) (by decide) (by decide)
  have e1 : ((ofB (List.take 2 (⟨#[1, 2, 97]⟩ : ByteArray).data.toList) : Nat) : Int) = 258 := by decide
  have e2 : (⟨#[1, 2, 97]⟩ : ByteArray).extract 2 (⟨#[1, 2, 97]⟩ : ByteArray).size = ⟨#[97]⟩ := by decide
  rw [e1, e2] at h
  exact h
theorem works_v (w : World) : Calls Try.prog 15 #[] w fun e w' => e = .returned (.bool true) ∧ Below w.heap.size w w' := by
  go_enter Try.func15, Try.ntmps15
  go_wp2_with fail
  refine (new_v _ w).mono ?_
  rintro e w1 ⟨rfl, hC, hb⟩
  go_wp2_with fail
  refine (put_works w1).mono ?_
  rintro e w2 ⟨rfl, hb2⟩
  replace hC := hC.below hb2
  replace hb := hb.trans (hb2.mono hb.size)
  clear hb2
  go_wp2_with (go_at_call 18; refine (signed_works _).mono ?_; rintro e w' ⟨rfl, rfl⟩)
  refine (num_works _ w2 hC).mono ?_
  rintro e w3 ⟨rfl, hC3, hw3⟩
  have hb3 : Below w.heap.size w w3 := by rw [hw3]; exact hb.setCell (Nat.le_refl _) _
  clear hw3 hC hb
  go_wp2_with (first | (go_at_call 26; refine (left_v _ ⟨#[97]⟩ false _ hC3).mono ?_; rintro e w' ⟨rfl, rfl⟩) | (go_at_call 27; refine (done_more _ ⟨#[97]⟩ _ hC3 (by decide)).mono ?_; rintro e w' ⟨rfl, rfl⟩))
  go_ret
  exact ⟨rfl, hb3⟩
end Go.Proofs.Ytpcpohbbmeonbaa.bits
