/- May a byte stand at its place (layer 4). -/
import Derived.Test.YthllikmnlnakkaaPrAF
import Derived.Test.YthllikmnlnakkaaInF
namespace Go.Proofs.Ythllikmnlnakkaa.pr
open Go.ChangeShapes Go.WideShapes Go.ChangeAt Go.RowKit
open Go.Proofs.Ythllikmnlnakkaa.bin Go.Proofs.Ythllikmnlnakkaa.bits Go.Proofs.Ythllikmnlnakkaa.ins
set_option linter.unusedVariables false
set_option linter.unusedSimpArgs false
set_option maxRecDepth 20000 in
theorem digit_r (hi n code funcs : Nat) (w : World) (v : Bool) (h : decide (n ≤ 7) = v) : Calls Try.prog 32 #[.string ⟨#[114]⟩, .int .i64 (hi : Int), .int .i64 (n : Int), .int .i64 (code : Int), .int .i64 (funcs : Int)] w fun e w' => e = .returned (.bool v) ∧ w = w' := by
  have hd : decide ((n : Int) ≤ 7) = v := by rw [← h]; apply decide_eq_decide.2; omega
  go_enter Try.func32, Try.ntmps32
  go_wp2_with fail
  go_ret
  exact ⟨by first | rfl | simp [hd], rfl⟩
set_option maxRecDepth 20000 in
theorem digit_n (hi n code funcs : Nat) (w : World) : Calls Try.prog 32 #[.string ⟨#[110]⟩, .int .i64 (hi : Int), .int .i64 (n : Int), .int .i64 (code : Int), .int .i64 (funcs : Int)] w fun e w' => e = .returned (.bool true) ∧ w = w' := by
  go_enter Try.func32, Try.ntmps32
  go_wp2_with fail
  go_ret
  exact ⟨by first | rfl | simp, rfl⟩
set_option maxRecDepth 20000 in
theorem digit_f (hi n code funcs : Nat) (w : World) (v : Bool) (h : (decide (n < funcs) && decide (n ≤ 15)) = v) : Calls Try.prog 32 #[.string ⟨#[102]⟩, .int .i64 (hi : Int), .int .i64 (n : Int), .int .i64 (code : Int), .int .i64 (funcs : Int)] w fun e w' => e = .returned (.bool v) ∧ w = w' := by
  by_cases h1 : n < funcs
  · have h1d : decide ((n : Int) < (funcs : Int)) = true := decide_eq_true (by omega)
    have h2 : decide ((n : Int) ≤ 15) = v := by
      rw [← h, decide_eq_true h1, Bool.true_and]; apply decide_eq_decide.2; omega
    have h1i : (n : Int) < (funcs : Int) := by omega
    clear h
    go_enter Try.func32, Try.ntmps32
    go_wp2_with fail
    go_ret
    exact ⟨by first | rfl | simp [h2], rfl⟩
  · have h1d : decide ((n : Int) < (funcs : Int)) = false := decide_eq_false (by omega)
    have h1i : ¬ (n : Int) < (funcs : Int) := by omega
    obtain rfl : v = false := by rw [← h, decide_eq_false h1]; rfl
    clear h
    go_enter Try.func32, Try.ntmps32
    go_wp2_with fail
    go_ret
    exact ⟨by first | rfl | simp, rfl⟩
set_option maxRecDepth 20000 in
theorem digit_t (hi n code funcs : Nat) (w : World) (v : Bool) (hh : hi < 256) (hn : n < 256) (h : (decide (256 * hi + n < code) && decide (256 * hi + n ≤ 199)) = v) : Calls Try.prog 32 #[.string ⟨#[116]⟩, .int .i64 (hi : Int), .int .i64 (n : Int), .int .i64 (code : Int), .int .i64 (funcs : Int)] w fun e w' => e = .returned (.bool v) ∧ w = w' := by
  by_cases h1 : 256 * hi + n < code
  · have h1d : decide (256 * (hi : Int) + (n : Int) < (code : Int)) = true := decide_eq_true (by omega)
    have h2 : decide (256 * (hi : Int) + (n : Int) ≤ 199) = v := by
      rw [← h, decide_eq_true h1, Bool.true_and]; apply decide_eq_decide.2; omega
    have h1i : 256 * (hi : Int) + (n : Int) < (code : Int) := by omega
    clear h
    go_enter Try.func32, Try.ntmps32
    go_wp2_with fail
    go_ret
    exact ⟨by first | rfl | simp [h2], rfl⟩
  · have h1d : decide (256 * (hi : Int) + (n : Int) < (code : Int)) = false := decide_eq_false (by omega)
    have h1i : ¬ 256 * (hi : Int) + (n : Int) < (code : Int) := by omega
    obtain rfl : v = false := by rw [← h, decide_eq_false h1]; rfl
    clear h
    go_enter Try.func32, Try.ntmps32
    go_wp2_with fail
    go_ret
    exact ⟨by first | rfl | simp, rfl⟩
theorem digit_v (c : UInt8) (hi n code funcs : Nat) (w : World) (v : Bool) (hL : Lt c) (hh : hi < 256) (hn : n < 256) (h : digB c hi n code funcs = v) : Calls Try.prog 32 #[.string ⟨#[c]⟩, .int .i64 (hi : Int), .int .i64 (n : Int), .int .i64 (code : Int), .int .i64 (funcs : Int)] w fun e w' => e = .returned (.bool v) ∧ w = w' := by
  rcases hL with rfl | rfl | rfl | rfl
  · exact digit_r hi n code funcs w v h
  · obtain rfl : true = v := h
    exact digit_n hi n code funcs w
  · exact digit_t hi n code funcs w v hh hn h
  · exact digit_f hi n code funcs w v h
end Go.Proofs.Ythllikmnlnakkaa.pr
