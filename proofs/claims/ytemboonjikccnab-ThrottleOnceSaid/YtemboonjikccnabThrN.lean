/- How walks of layer 20 (throttle) begin; whether one more may start. -/
import Derived.Test.YtemboonjikccnabThr
namespace Go.Proofs.Ytemboonjikccnab
open Go.ChangeShapes Go.WideShapes Go.ChangeAt Go.RowKit
set_option linter.unusedVariables false
set_option linter.unusedSimpArgs false
theorem tsleep_new (id sr it : Int) (w : World) : Calls Try.prog 20 #[.agg #[.int .i64 1, .int .i64 2, .int .i64 2, .int .i64 2, .int .i64 id, .int .i64 sr], .int .i64 it] w fun e w' => ∃ B, e = .returned (.pointer (some ⟨B, 0, none⟩)) ∧ w.heap.size ≤ B ∧ NapAt w' B id sr it 0 false ∧ Below w.heap.size w w' := by
  go_enter Try.func20, Try.ntmps20
  go_wp2_with fail
  go_ret
  refine ⟨w.heap.size + 1, rfl, by omega, ?_, by go_grown⟩
  show ((w.heap.push _).push _)[w.heap.size + 1]? = _
  rw [show w.heap.size + 1 = (w.heap.push (Obj.cells #[Value.int IntKind.i64 1, Value.int IntKind.i64 2, Value.int IntKind.i64 2, Value.int IntKind.i64 2, Value.int IntKind.i64 id, Value.int IntKind.i64 sr] 32)).size from by simp, Array.getElem?_push_size]
  rfl
theorem tclose_new (id sr it : Int) (w : World) : Calls Try.prog 21 #[.agg #[.int .i64 1, .int .i64 2, .int .i64 2, .int .i64 2, .int .i64 id, .int .i64 sr], .int .i64 it, .bool true] w fun e w' => ∃ B, e = .returned (.pointer (some ⟨B, 0, none⟩)) ∧ w.heap.size ≤ B ∧ WakeAt w' B id sr it 0 false ∧ Below w.heap.size w w' := by
  go_enter Try.func21, Try.ntmps21
  go_wp2_with fail
  go_ret
  refine ⟨w.heap.size + 1, rfl, by omega, ?_, by go_grown⟩
  show ((w.heap.push _).push _)[w.heap.size + 1]? = _
  rw [show w.heap.size + 1 = (w.heap.push (Obj.cells #[Value.int IntKind.i64 1, Value.int IntKind.i64 2, Value.int IntKind.i64 2, Value.int IntKind.i64 2, Value.int IntKind.i64 id, Value.int IntKind.i64 sr] 32)).size from by simp, Array.getElem?_push_size]
  rfl
/-- May with a throttle that is at least 1. -/
theorem may_of (s t e : Int) (w : World) (b : Bool) (ht : 1 ≤ t) (ht2 : t ≤ 1000) (hs : 0 ≤ s) (hs2 : s ≤ 100000) (hb : Hid ((decide (s < t) || decide (s - t < e)) = b)) : Calls Try.prog 27 #[.int .i64 s, .int .i64 t, .int .i64 e] w fun e w' => e = .returned (.bool b) ∧ w = w' := by
  have hb' := hb.out
  by_cases h1 : s < t
  · have : b = true := by rw [← hb']; simp [h1]
    subst this
    go_enter Try.func27, Try.ntmps27
    go_wp2_with fail
    go_ret
    exact ⟨rfl, rfl⟩
  · by_cases h2 : s - t < e
    · have : b = true := by rw [← hb']; simp [h2]
      subst this
      clear hb' hb
      go_enter Try.func27, Try.ntmps27
      go_wp2_with fail
      go_ret
      exact ⟨rfl, rfl⟩
    · have : b = false := by rw [← hb']; simp [h1, h2]
      subst this
      clear hb' hb
      go_enter Try.func27, Try.ntmps27
      go_wp2_with fail
      go_ret
      exact ⟨rfl, rfl⟩
end Go.Proofs.Ytemboonjikccnab
