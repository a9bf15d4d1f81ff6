/- Eight registers as a function of the index. -/
import Derived.Test.YtpcpohbbmeonbaaKit
namespace Go.Proofs.Ytpcpohbbmeonbaa.step
open Go.ChangeShapes Go.WideShapes Go.ChangeAt Go.RowKit
set_option linter.unusedVariables false
def upd (r : Nat → Int) (a : Nat) (v : Int) : Nat → Int := fun i => if i = a then v else r i
theorem at8 (r : Nat → Int) (b : Nat) (h : b < ([Value.int .i64 (r 0), .int .i64 (r 1), .int .i64 (r 2), .int .i64 (r 3), .int .i64 (r 4), .int .i64 (r 5), .int .i64 (r 6), .int .i64 (r 7)] : List Value).length) : ([Value.int .i64 (r 0), .int .i64 (r 1), .int .i64 (r 2), .int .i64 (r 3), .int .i64 (r 4), .int .i64 (r 5), .int .i64 (r 6), .int .i64 (r 7)] : List Value)[b]'h = .int .i64 (r b) := by
  have h8 : b < 8 := h
  match b, h8 with
  | 0, _ => rfl
  | 1, _ => rfl
  | 2, _ => rfl
  | 3, _ => rfl
  | 4, _ => rfl
  | 5, _ => rfl
  | 6, _ => rfl
  | 7, _ => rfl
theorem set8 (r : Nat → Int) (a : Nat) (v : Int) (h : a < 8) : ([Value.int .i64 (r 0), .int .i64 (r 1), .int .i64 (r 2), .int .i64 (r 3), .int .i64 (r 4), .int .i64 (r 5), .int .i64 (r 6), .int .i64 (r 7)] : List Value).set a (.int .i64 v) = [Value.int .i64 (upd r a v 0), .int .i64 (upd r a v 1), .int .i64 (upd r a v 2), .int .i64 (upd r a v 3), .int .i64 (upd r a v 4), .int .i64 (upd r a v 5), .int .i64 (upd r a v 6), .int .i64 (upd r a v 7)] := by
  match a, h with
  | 0, _ => simp [upd]
  | 1, _ => simp [upd]
  | 2, _ => simp [upd]
  | 3, _ => simp [upd]
  | 4, _ => simp [upd]
  | 5, _ => simp [upd]
  | 6, _ => simp [upd]
  | 7, _ => simp [upd]
end Go.Proofs.Ytpcpohbbmeonbaa.step
