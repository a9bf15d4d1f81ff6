/- The contracts of layer 11 (layout), for plans that may be. -/
import Derived.Test.YtbmndjedgedbdaaKit
import Derived.Deep.RegionHeld3
import Derived.Laws.StructEq
import Derived.Handy
namespace Go.Proofs.Ytbmndjedgedbdaa
open Go.ChangeShapes Go.WideShapes Go.ChangeAt Go.RowKit
set_option linter.unusedVariables false
def Okay (a b c d : Int) : Prop := 1 ≤ a ∧ a ≤ 64 ∧ 1 ≤ b ∧ b ≤ 256 ∧ 1 ≤ c ∧ c ≤ 64 ∧ 2 ≤ d ∧ d ≤ 256
theorem plan_held (a b c d : Int) (w : World) (h : Hid (Okay a b c d)) :
    Calls Try.prog 64 #[.agg #[.int .i64 a, .int .i64 b, .int .i64 c, .int .i64 d]] w fun e w' => e = .returned (.agg #[.int .i64 a, .int .i64 b, .int .i64 c, .int .i64 d]) ∧ (w.alloc (.cells #[.int .i64 a, .int .i64 b, .int .i64 c, .int .i64 d] 37)).alloc (.cells #[.int .i64 a, .int .i64 b, .int .i64 c, .int .i64 d] 37) = w' := by
  obtain ⟨a0, a1, b0, b1, c0, c1, d0, d1⟩ := h.out
  go_enter Try.func64, Try.ntmps64
  go_wp2_with fail
  exact bodyPost_ret (v := .agg #[.int .i64 a, .int .i64 b, .int .i64 c, .int .i64 d]) (by simp [results, Try.results64, go_sem]) rfl ⟨rfl, rfl⟩
theorem plan_neq (a b c d : Int) (w : World) : (binOp .neq 37 (.agg #[.int .i64 a, .int .i64 b, .int .i64 c, .int .i64 d]) (.agg #[.int .i64 a, .int .i64 b, .int .i64 c, .int .i64 d])).run Try.prog w = .ok (.bool false) w := by
  have h : (Op.equalIn 10000 37 (.agg #[.int .i64 a, .int .i64 b, .int .i64 c, .int .i64 d]) (.agg #[.int .i64 a, .int .i64 b, .int .i64 c, .int .i64 d])).run Try.prog w = .ok true w := by
    rw [show (10000 : Nat) = 9999 + 1 from rfl, run_equalIn_struct w 9999 37 _ _ (by kernel_rfl) (by kernel_rfl)]
    simp [go_sem, Try.underlying37]
  simp only [binOp]
  simp [Op.equal, Op.maxDepth, h]
theorem check_ok (a b c d : Int) (w : World) (h : Hid (Okay a b c d)) :
    Calls Try.prog 47 #[.agg #[.int .i64 a, .int .i64 b, .int .i64 c, .int .i64 d]] w fun e w' => e = .returned (.int .i64 0) ∧ Below w.heap.size w w' := by
  have hq := fun w => plan_neq a b c d w
  go_enter Try.func47, Try.ntmps47
  go_wp2_with fail
  go_region_held3 (fun w' => w'.cell? ⟨w.heap.size, 0, none⟩ = some (.int .i64 a) ∧ w'.cell? ⟨w.heap.size, 1, none⟩ = some (.int .i64 b) ∧ w'.cell? ⟨w.heap.size, 2, none⟩ = some (.int .i64 c) ∧ w'.cell? ⟨w.heap.size, 3, none⟩ = some (.int .i64 d)) (go_keep)
    (first | (go_at_call 64; refine (plan_held a b c d _ h).mono ?_; rintro e w' ⟨rfl, rfl⟩))
  go_wp2_with fail
  go_ret
  exact ⟨rfl, by go_grown⟩
theorem deque_of (a b c d : Int) (w : World) (h : Hid (Okay a b c d)) :
    Calls Try.prog 65 #[.agg #[.int .i64 a, .int .i64 b, .int .i64 c, .int .i64 d]] w fun e w' => e = .returned (.int .i64 (4 + d)) ∧ w.alloc (.cells #[.int .i64 a, .int .i64 b, .int .i64 c, .int .i64 d] 37) = w' := by
  obtain ⟨a0, a1, b0, b1, c0, c1, d0, d1⟩ := h.out
  go_enter Try.func65, Try.ntmps65
  go_wp2_with fail
  go_ret
  exact ⟨rfl, rfl⟩
theorem slots_of (a b c d : Int) (w : World) (h : Hid (Okay a b c d)) :
    Calls Try.prog 66 #[.agg #[.int .i64 a, .int .i64 b, .int .i64 c, .int .i64 d]] w fun e w' => e = .returned (.int .i64 (c + 1)) ∧ w.alloc (.cells #[.int .i64 a, .int .i64 b, .int .i64 c, .int .i64 d] 37) = w' := by
  obtain ⟨a0, a1, b0, b1, c0, c1, d0, d1⟩ := h.out
  go_enter Try.func66, Try.ntmps66
  go_wp2_with fail
  go_ret
  exact ⟨rfl, rfl⟩
theorem mul_in {a d : Int} (a0 : 0 ≤ a) (a1 : a ≤ 64) (d0 : 0 ≤ d) (d1 : d ≤ 260) : 0 ≤ a * d ∧ a * d ≤ 16640 := by
  refine ⟨Int.mul_nonneg a0 d0, ?_⟩
  have h1 : a * d ≤ 64 * d := Int.mul_le_mul_of_nonneg_right a1 d0
  omega
theorem mul_in2 {a d : Int} (a0 : 0 ≤ a) (a1 : a ≤ 256) (d0 : 0 ≤ d) (d1 : d ≤ 262) : 0 ≤ a * d ∧ a * d ≤ 67072 := by
  refine ⟨Int.mul_nonneg a0 d0, ?_⟩
  have h1 : a * d ≤ 256 * d := Int.mul_le_mul_of_nonneg_right a1 d0
  omega
theorem deques_of (a b c d : Int) (w : World) (h : Hid (Okay a b c d)) :
    Calls Try.prog 49 #[.agg #[.int .i64 a, .int .i64 b, .int .i64 c, .int .i64 d]] w fun e w' => e = .returned (.int .i64 (a * (4 + d))) ∧ Below w.heap.size w w' := by
  have hm : 0 ≤ a * (4 + d) ∧ a * (4 + d) ≤ 16640 := by
    obtain ⟨a0, a1, b0, b1, c0, c1, d0, d1⟩ := h.out
    exact mul_in (by omega) a1 (by omega) (by omega)
  obtain ⟨m0, m1⟩ := hm
  have hw : IntKind.i64.wrap (a * (4 + d)) = a * (4 + d) := by rw [IntKind.wrap_i64]; omega
  have hw' : wrap64 (a * (4 + d)) = a * (4 + d) := by unfold wrap64; omega
  go_enter Try.func49, Try.ntmps49
  go_wp2_with fail
  go_region_held3 (fun w' => w'.cell? ⟨w.heap.size, 0, none⟩ = some (.int .i64 a) ∧ w'.cell? ⟨w.heap.size, 1, none⟩ = some (.int .i64 b) ∧ w'.cell? ⟨w.heap.size, 2, none⟩ = some (.int .i64 c) ∧ w'.cell? ⟨w.heap.size, 3, none⟩ = some (.int .i64 d)) (go_keep)
    (first | (go_at_call 65; refine (deque_of a b c d _ h).mono ?_; rintro e w' ⟨rfl, rfl⟩))
  go_wp2_with fail
  go_ret
  exact ⟨rfl, by go_grown⟩
end Go.Proofs.Ytbmndjedgedbdaa
