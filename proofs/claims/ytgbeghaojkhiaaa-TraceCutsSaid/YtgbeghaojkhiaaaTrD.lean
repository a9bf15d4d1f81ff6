/- What could happen to a loop (layer 34). -/
import Derived.Test.YtgbeghaojkhiaaaTrC
import Derived.Deep.DrawnRows
namespace Go.Proofs.Ytgbeghaojkhiaaa.tr
open Go.ChangeShapes Go.WideShapes Go.ChangeAt Go.RowKit Go.Maps
open Go.Proofs.Ytgbeghaojkhiaaa.ro
set_option linter.unusedVariables false
set_option linter.unusedSimpArgs false
attribute [local go_sem ↓] Go.wp_at_zero Go.wp_at_succ
attribute [local go_sem] Oper.semAt_some
theorem nF {a b : Int} (h : ¬ a = b) : (a != b) = true := by simpa using h
set_option maxRecDepth 20000 in
set_option maxHeartbeats 1000000 in
theorem ck_lo (B n cp fin : Nat) (a : Option Addr) (z : Int) (k : Int) (s : Int) (i : Int) (b2 : Bool) (w : World)
    (c0 : w.cell? ⟨B, 0, none⟩ = some (.slice a n cp)) (c1 : w.cell? ⟨B, 1, none⟩ = some (.int .i64 (fin : Int))) (c2 : w.cell? ⟨B, 2, none⟩ = some (.bool b2)) (k1 : k < 1) (k1d : decide (k < 1) = true) :
    Calls Try.prog 22 #[.pointer (some ⟨B, 0, none⟩), .agg #[.int .i64 k, .int .i64 z, .int .i64 i, .int .i64 s]] w fun e w' => e = .returned (.int .i64 5) ∧ Below w.heap.size w w' := by
  have hb : Below w.heap.size w (w.alloc (.cells #[.int .i64 k, .int .i64 z, .int .i64 i, .int .i64 s] 45)) := by go_grown
  have d0 := kc c0 hb
  have d1 := kc c1 hb
  have d2 := kc c2 hb
  go_enter Try.func22, Try.ntmps22
  repeat (first | (go_wp2_with fail; done) | (go_wp2_with fail; go_quiet (fail)) | go_quiet (fail))
  all_goals (try go_wp2_with fail)
  all_goals go_ret
  all_goals refine ⟨rfl, ?_⟩
  all_goals (repeat (first | exact hb | apply ghb | apply ghd))
set_option maxRecDepth 20000 in
set_option maxHeartbeats 1000000 in
theorem ck_hi (B n cp fin : Nat) (a : Option Addr) (z : Int) (k : Int) (s : Int) (i : Int) (b2 : Bool) (w : World)
    (c0 : w.cell? ⟨B, 0, none⟩ = some (.slice a n cp)) (c1 : w.cell? ⟨B, 1, none⟩ = some (.int .i64 (fin : Int))) (c2 : w.cell? ⟨B, 2, none⟩ = some (.bool b2)) (k1 : ¬ k < 1) (k1d : decide (k < 1) = false) (k6 : 6 < k) (k6d : decide (6 < k) = true) :
    Calls Try.prog 22 #[.pointer (some ⟨B, 0, none⟩), .agg #[.int .i64 k, .int .i64 z, .int .i64 i, .int .i64 s]] w fun e w' => e = .returned (.int .i64 5) ∧ Below w.heap.size w w' := by
  have hb : Below w.heap.size w (w.alloc (.cells #[.int .i64 k, .int .i64 z, .int .i64 i, .int .i64 s] 45)) := by go_grown
  have d0 := kc c0 hb
  have d1 := kc c1 hb
  have d2 := kc c2 hb
  go_enter Try.func22, Try.ntmps22
  repeat (first | (go_wp2_with fail; done) | (go_wp2_with fail; go_quiet (fail)) | go_quiet (fail))
  all_goals (try go_wp2_with fail)
  all_goals go_ret
  all_goals refine ⟨rfl, ?_⟩
  all_goals (repeat (first | exact hb | apply ghb | apply ghd))
set_option maxRecDepth 20000 in
set_option maxHeartbeats 1000000 in
theorem ck_en (B n cp fin : Nat) (a : Option Addr) (z : Int) (k : Int) (s : Int) (i : Int) (w : World)
    (c0 : w.cell? ⟨B, 0, none⟩ = some (.slice a n cp)) (c1 : w.cell? ⟨B, 1, none⟩ = some (.int .i64 (fin : Int))) (c2 : w.cell? ⟨B, 2, none⟩ = some (.bool true)) (k1 : ¬ k < 1) (k1d : decide (k < 1) = false) (k6 : ¬ 6 < k) (k6d : decide (6 < k) = false) :
    Calls Try.prog 22 #[.pointer (some ⟨B, 0, none⟩), .agg #[.int .i64 k, .int .i64 z, .int .i64 i, .int .i64 s]] w fun e w' => e = .returned (.int .i64 8) ∧ Below w.heap.size w w' := by
  have hb : Below w.heap.size w (w.alloc (.cells #[.int .i64 k, .int .i64 z, .int .i64 i, .int .i64 s] 45)) := by go_grown
  have d0 := kc c0 hb
  have d1 := kc c1 hb
  have d2 := kc c2 hb
  go_enter Try.func22, Try.ntmps22
  repeat (first | (go_wp2_with fail; done) | (go_wp2_with fail; go_quiet (fail)) | go_quiet (fail))
  all_goals (try go_wp2_with fail)
  all_goals go_ret
  all_goals refine ⟨rfl, ?_⟩
  all_goals (repeat (first | exact hb | apply ghb | apply ghd))
set_option maxRecDepth 20000 in
set_option maxHeartbeats 1000000 in
theorem c1_i (B n cp fin : Nat) (a : Option Addr) (z : Int) (s : Int) (i : Int) (w : World)
    (c0 : w.cell? ⟨B, 0, none⟩ = some (.slice a n cp)) (c1 : w.cell? ⟨B, 1, none⟩ = some (.int .i64 (fin : Int))) (c2 : w.cell? ⟨B, 2, none⟩ = some (.bool false)) (m1 : ¬ i = (n : Int)) (m2 : (i == (n : Int)) = false) (m3 : decide (i = (n : Int)) = false) (m4 : (i != (n : Int)) = true) :
    Calls Try.prog 22 #[.pointer (some ⟨B, 0, none⟩), .agg #[.int .i64 1, .int .i64 z, .int .i64 i, .int .i64 s]] w fun e w' => e = .returned (.int .i64 4) ∧ Below w.heap.size w w' := by
  have hb : Below w.heap.size w (w.alloc (.cells #[.int .i64 1, .int .i64 z, .int .i64 i, .int .i64 s] 45)) := by go_grown
  have d0 := kc c0 hb
  have d1 := kc c1 hb
  have d2 := kc c2 hb
  go_enter Try.func22, Try.ntmps22
  repeat (first | (go_wp2_with fail; done) | (go_wp2_with fail; go_quiet (fail)) | go_quiet (fail))
  all_goals (try go_wp2_with fail)
  all_goals go_ret
  all_goals refine ⟨rfl, ?_⟩
  all_goals (repeat (first | exact hb | apply ghb | apply ghd))
set_option maxRecDepth 20000 in
set_option maxHeartbeats 1000000 in
theorem c1_s (B n cp fin : Nat) (a : Option Addr) (z : Int) (s : Int)  (w : World)
    (c0 : w.cell? ⟨B, 0, none⟩ = some (.slice a n cp)) (c1 : w.cell? ⟨B, 1, none⟩ = some (.int .i64 (fin : Int))) (c2 : w.cell? ⟨B, 2, none⟩ = some (.bool false)) (m1 : ¬ s = 0) (m2 : (s == 0) = false) (m3 : decide (s = 0) = false) (m4 : (s != 0) = true) :
    Calls Try.prog 22 #[.pointer (some ⟨B, 0, none⟩), .agg #[.int .i64 1, .int .i64 z, .int .i64 (n : Int), .int .i64 s]] w fun e w' => e = .returned (.int .i64 4) ∧ Below w.heap.size w w' := by
  have hb : Below w.heap.size w (w.alloc (.cells #[.int .i64 1, .int .i64 z, .int .i64 (n : Int), .int .i64 s] 45)) := by go_grown
  have d0 := kc c0 hb
  have d1 := kc c1 hb
  have d2 := kc c2 hb
  go_enter Try.func22, Try.ntmps22
  repeat (first | (go_wp2_with fail; done) | (go_wp2_with fail; go_quiet (fail)) | go_quiet (fail))
  all_goals (try go_wp2_with fail)
  all_goals go_ret
  all_goals refine ⟨rfl, ?_⟩
  all_goals (repeat (first | exact hb | apply ghb | apply ghd))
set_option maxRecDepth 20000 in
set_option maxHeartbeats 1000000 in
theorem c1_0 (B n cp fin : Nat) (a : Option Addr) (z : Int)  (w : World)
    (c0 : w.cell? ⟨B, 0, none⟩ = some (.slice a n cp)) (c1 : w.cell? ⟨B, 1, none⟩ = some (.int .i64 (fin : Int))) (c2 : w.cell? ⟨B, 2, none⟩ = some (.bool false)) (n0 : ¬ (0 : Int) < (n : Int)) (n1 : decide ((0 : Int) < (n : Int)) = false) (n2 : ¬ 0 < n) (n3 : decide (0 < n) = false) :
    Calls Try.prog 22 #[.pointer (some ⟨B, 0, none⟩), .agg #[.int .i64 1, .int .i64 z, .int .i64 (n : Int), .int .i64 0]] w fun e w' => e = .returned (.int .i64 0) ∧ Below w.heap.size w w' := by
  have hb : Below w.heap.size w (w.alloc (.cells #[.int .i64 1, .int .i64 z, .int .i64 (n : Int), .int .i64 0] 45)) := by go_grown
  have d0 := kc c0 hb
  have d1 := kc c1 hb
  have d2 := kc c2 hb
  go_enter Try.func22, Try.ntmps22
  repeat (first | (go_wp2_with fail; done) | (go_wp2_with fail; go_quiet (fail)) | go_quiet (fail))
  all_goals (try go_wp2_with fail)
  all_goals go_ret
  all_goals refine ⟨rfl, ?_⟩
  all_goals (repeat (first | exact hb | apply ghb | apply ghd))
set_option maxRecDepth 20000 in
set_option maxHeartbeats 1000000 in
theorem c1_p (B n cp fin : Nat) (a : Option Addr) (z : Int) (g b p : Nat) (w : World)
    (c0 : w.cell? ⟨B, 0, none⟩ = some (.slice a n cp)) (c1 : w.cell? ⟨B, 1, none⟩ = some (.int .i64 (fin : Int))) (c2 : w.cell? ⟨B, 2, none⟩ = some (.bool false)) (ha : a = some ⟨g, 0, none⟩) (n0 : (0 : Int) < (n : Int)) (n1 : decide ((0 : Int) < (n : Int)) = true) (n2 : 0 < n) (n3 : decide (0 < n) = true) (j1 : (n : Int) - 1 = (p : Int)) (j2 : IntKind.i64.wrap (p : Int) = (p : Int)) (j3 : p < n) (j4 : (p : Int) < (n : Int)) (e1 : w.cell? ⟨g, p, none⟩ = some (.pointer (some ⟨b, 0, none⟩))) (u3 : w.cell? ⟨b, 3, none⟩ = some (.bool true)) :
    Calls Try.prog 22 #[.pointer (some ⟨B, 0, none⟩), .agg #[.int .i64 1, .int .i64 z, .int .i64 (n : Int), .int .i64 0]] w fun e w' => e = .returned (.int .i64 0) ∧ Below w.heap.size w w' := by
  subst ha
  have hb : Below w.heap.size w (w.alloc (.cells #[.int .i64 1, .int .i64 z, .int .i64 (n : Int), .int .i64 0] 45)) := by go_grown
  have d0 := kc c0 hb
  have d1 := kc c1 hb
  have d2 := kc c2 hb
  have d3 := kc e1 hb
  have d4 := kc u3 hb
  go_enter Try.func22, Try.ntmps22
  repeat (first | (go_wp2_with fail; done) | (go_wp2_with fail; go_quiet (fail)) | go_quiet (fail))
  all_goals (try go_wp2_with fail)
  all_goals go_ret
  all_goals refine ⟨rfl, ?_⟩
  all_goals (repeat (first | exact hb | apply ghb | apply ghd))
set_option maxRecDepth 20000 in
set_option maxHeartbeats 1000000 in
theorem c1_q (B n cp fin : Nat) (a : Option Addr) (z : Int) (g b p : Nat) (w : World)
    (c0 : w.cell? ⟨B, 0, none⟩ = some (.slice a n cp)) (c1 : w.cell? ⟨B, 1, none⟩ = some (.int .i64 (fin : Int))) (c2 : w.cell? ⟨B, 2, none⟩ = some (.bool false)) (ha : a = some ⟨g, 0, none⟩) (n0 : (0 : Int) < (n : Int)) (n1 : decide ((0 : Int) < (n : Int)) = true) (n2 : 0 < n) (n3 : decide (0 < n) = true) (j1 : (n : Int) - 1 = (p : Int)) (j2 : IntKind.i64.wrap (p : Int) = (p : Int)) (j3 : p < n) (j4 : (p : Int) < (n : Int)) (e1 : w.cell? ⟨g, p, none⟩ = some (.pointer (some ⟨b, 0, none⟩))) (u3 : w.cell? ⟨b, 3, none⟩ = some (.bool false)) :
    Calls Try.prog 22 #[.pointer (some ⟨B, 0, none⟩), .agg #[.int .i64 1, .int .i64 z, .int .i64 (n : Int), .int .i64 0]] w fun e w' => e = .returned (.int .i64 1) ∧ Below w.heap.size w w' := by
  subst ha
  have hb : Below w.heap.size w (w.alloc (.cells #[.int .i64 1, .int .i64 z, .int .i64 (n : Int), .int .i64 0] 45)) := by go_grown
  have d0 := kc c0 hb
  have d1 := kc c1 hb
  have d2 := kc c2 hb
  have d3 := kc e1 hb
  have d4 := kc u3 hb
  go_enter Try.func22, Try.ntmps22
  repeat (first | (go_wp2_with fail; done) | (go_wp2_with fail; go_quiet (fail)) | go_quiet (fail))
  all_goals (try go_wp2_with fail)
  all_goals go_ret
  all_goals refine ⟨rfl, ?_⟩
  all_goals (repeat (first | exact hb | apply ghb | apply ghd))
set_option maxRecDepth 20000 in
set_option maxHeartbeats 1000000 in
theorem c5_i (B n cp fin : Nat) (a : Option Addr) (z : Int) (s : Int) (i : Int) (w : World)
    (c0 : w.cell? ⟨B, 0, none⟩ = some (.slice a n cp)) (c1 : w.cell? ⟨B, 1, none⟩ = some (.int .i64 (fin : Int))) (c2 : w.cell? ⟨B, 2, none⟩ = some (.bool false)) (m1 : ¬ i = (n : Int)) (m2 : (i == (n : Int)) = false) (m3 : decide (i = (n : Int)) = false) (m4 : (i != (n : Int)) = true) :
    Calls Try.prog 22 #[.pointer (some ⟨B, 0, none⟩), .agg #[.int .i64 5, .int .i64 z, .int .i64 i, .int .i64 s]] w fun e w' => e = .returned (.int .i64 4) ∧ Below w.heap.size w w' := by
  have hb : Below w.heap.size w (w.alloc (.cells #[.int .i64 5, .int .i64 z, .int .i64 i, .int .i64 s] 45)) := by go_grown
  have d0 := kc c0 hb
  have d1 := kc c1 hb
  have d2 := kc c2 hb
  go_enter Try.func22, Try.ntmps22
  repeat (first | (go_wp2_with fail; done) | (go_wp2_with fail; go_quiet (fail)) | go_quiet (fail))
  all_goals (try go_wp2_with fail)
  all_goals go_ret
  all_goals refine ⟨rfl, ?_⟩
  all_goals (repeat (first | exact hb | apply ghb | apply ghd))
set_option maxRecDepth 20000 in
set_option maxHeartbeats 1000000 in
theorem c5_0 (B cp fin : Nat) (a : Option Addr) (z : Int) (s : Int)  (w : World)
    (c0 : w.cell? ⟨B, 0, none⟩ = some (.slice a 0 cp)) (c1 : w.cell? ⟨B, 1, none⟩ = some (.int .i64 (fin : Int))) (c2 : w.cell? ⟨B, 2, none⟩ = some (.bool false))  :
    Calls Try.prog 22 #[.pointer (some ⟨B, 0, none⟩), .agg #[.int .i64 5, .int .i64 z, .int .i64 0, .int .i64 s]] w fun e w' => e = .returned (.int .i64 4) ∧ Below w.heap.size w w' := by
  have hb : Below w.heap.size w (w.alloc (.cells #[.int .i64 5, .int .i64 z, .int .i64 0, .int .i64 s] 45)) := by go_grown
  have d0 := kc c0 hb
  have d1 := kc c1 hb
  have d2 := kc c2 hb
  go_enter Try.func22, Try.ntmps22
  repeat (first | (go_wp2_with fail; done) | (go_wp2_with fail; go_quiet (fail)) | go_quiet (fail))
  all_goals (try go_wp2_with fail)
  all_goals go_ret
  all_goals refine ⟨rfl, ?_⟩
  all_goals (repeat (first | exact hb | apply ghb | apply ghd))
set_option maxRecDepth 20000 in
set_option maxHeartbeats 1000000 in
theorem c5_f (B n cp fin : Nat) (a : Option Addr) (z : Int) (s : Int)  (w : World)
    (c0 : w.cell? ⟨B, 0, none⟩ = some (.slice a n cp)) (c1 : w.cell? ⟨B, 1, none⟩ = some (.int .i64 (fin : Int))) (c2 : w.cell? ⟨B, 2, none⟩ = some (.bool false)) (q1 : ¬ (n : Int) = 0) (q2 : ((n : Int) == 0) = false) (q3 : decide ((n : Int) = 0) = false) (q4 : ¬ n = 0) (q5 : (n == 0) = false) (q6 : decide (n = 0) = false) (f1 : ¬ (fin : Int) = (n : Int)) (f2 : ((fin : Int) == (n : Int)) = false) (f3 : decide ((fin : Int) = (n : Int)) = false) (f4 : ¬ fin = n) (f5 : (fin == n) = false) (f6 : decide (fin = n) = false) (f7 : ((fin : Int) != (n : Int)) = true) :
    Calls Try.prog 22 #[.pointer (some ⟨B, 0, none⟩), .agg #[.int .i64 5, .int .i64 z, .int .i64 (n : Int), .int .i64 s]] w fun e w' => e = .returned (.int .i64 4) ∧ Below w.heap.size w w' := by
  have hb : Below w.heap.size w (w.alloc (.cells #[.int .i64 5, .int .i64 z, .int .i64 (n : Int), .int .i64 s] 45)) := by go_grown
  have d0 := kc c0 hb
  have d1 := kc c1 hb
  have d2 := kc c2 hb
  go_enter Try.func22, Try.ntmps22
  repeat (first | (go_wp2_with fail; done) | (go_wp2_with fail; go_quiet (fail)) | go_quiet (fail))
  all_goals (try go_wp2_with fail)
  all_goals go_ret
  all_goals refine ⟨rfl, ?_⟩
  all_goals (repeat (first | exact hb | apply ghb | apply ghd))
set_option maxRecDepth 20000 in
set_option maxHeartbeats 1000000 in
theorem c5_s (B n cp : Nat) (a : Option Addr) (z : Int) (s : Int)  (w : World)
    (c0 : w.cell? ⟨B, 0, none⟩ = some (.slice a n cp)) (c1 : w.cell? ⟨B, 1, none⟩ = some (.int .i64 (n : Int))) (c2 : w.cell? ⟨B, 2, none⟩ = some (.bool false)) (q1 : ¬ (n : Int) = 0) (q2 : ((n : Int) == 0) = false) (q3 : decide ((n : Int) = 0) = false) (q4 : ¬ n = 0) (q5 : (n == 0) = false) (q6 : decide (n = 0) = false) (m1 : ¬ s = 0) (m2 : (s == 0) = false) (m3 : decide (s = 0) = false) (m4 : (s != 0) = true) :
    Calls Try.prog 22 #[.pointer (some ⟨B, 0, none⟩), .agg #[.int .i64 5, .int .i64 z, .int .i64 (n : Int), .int .i64 s]] w fun e w' => e = .returned (.int .i64 4) ∧ Below w.heap.size w w' := by
  have hb : Below w.heap.size w (w.alloc (.cells #[.int .i64 5, .int .i64 z, .int .i64 (n : Int), .int .i64 s] 45)) := by go_grown
  have d0 := kc c0 hb
  have d1 := kc c1 hb
  have d2 := kc c2 hb
  go_enter Try.func22, Try.ntmps22
  repeat (first | (go_wp2_with fail; done) | (go_wp2_with fail; go_quiet (fail)) | go_quiet (fail))
  all_goals (try go_wp2_with fail)
  all_goals go_ret
  all_goals refine ⟨rfl, ?_⟩
  all_goals (repeat (first | exact hb | apply ghb | apply ghd))
set_option maxRecDepth 20000 in
set_option maxHeartbeats 1000000 in
theorem c5_g (B n cp : Nat) (a : Option Addr) (z : Int)  (w : World)
    (c0 : w.cell? ⟨B, 0, none⟩ = some (.slice a n cp)) (c1 : w.cell? ⟨B, 1, none⟩ = some (.int .i64 (n : Int))) (c2 : w.cell? ⟨B, 2, none⟩ = some (.bool false)) (q1 : ¬ (n : Int) = 0) (q2 : ((n : Int) == 0) = false) (q3 : decide ((n : Int) = 0) = false) (q4 : ¬ n = 0) (q5 : (n == 0) = false) (q6 : decide (n = 0) = false) :
    Calls Try.prog 22 #[.pointer (some ⟨B, 0, none⟩), .agg #[.int .i64 5, .int .i64 z, .int .i64 (n : Int), .int .i64 0]] w fun e w' => e = .returned (.int .i64 0) ∧ Below w.heap.size w w' := by
  have hb : Below w.heap.size w (w.alloc (.cells #[.int .i64 5, .int .i64 z, .int .i64 (n : Int), .int .i64 0] 45)) := by go_grown
  have d0 := kc c0 hb
  have d1 := kc c1 hb
  have d2 := kc c2 hb
  go_enter Try.func22, Try.ntmps22
  repeat (first | (go_wp2_with fail; done) | (go_wp2_with fail; go_quiet (fail)) | go_quiet (fail))
  all_goals (try go_wp2_with fail)
  all_goals go_ret
  all_goals refine ⟨rfl, ?_⟩
  all_goals (repeat (first | exact hb | apply ghb | apply ghd))
set_option maxRecDepth 20000 in
set_option maxHeartbeats 1000000 in
theorem ck_n (B n cp fin : Nat) (a : Option Addr) (z : Int) (k s i r : Int) (w : World)
    (c0 : w.cell? ⟨B, 0, none⟩ = some (.slice a n cp)) (c1 : w.cell? ⟨B, 1, none⟩ = some (.int .i64 (fin : Int))) (c2 : w.cell? ⟨B, 2, none⟩ = some (.bool false)) (k1 : ¬ k < 1) (k1d : decide (k < 1) = false) (k6 : ¬ 6 < k) (k6d : decide (6 < k) = false) (k2 : ¬ k = 1) (k2b : (k == 1) = false) (k2d : decide (k = 1) = false) (k5 : ¬ k = 5) (k5b : (k == 5) = false) (k5d : decide (k = 5) = false)
    (HC : Hid (∀ w', Below w.heap.size w w' → Calls Try.prog 34 #[.pointer (some ⟨B, 0, none⟩), .agg #[.int .i64 k, .int .i64 z, .int .i64 i, .int .i64 s]] w' fun e w'' => e = .returned (.int .i64 r) ∧ Below w'.heap.size w' w'')) :
    Calls Try.prog 22 #[.pointer (some ⟨B, 0, none⟩), .agg #[.int .i64 k, .int .i64 z, .int .i64 i, .int .i64 s]] w fun e w' => e = .returned (.int .i64 r) ∧ Below w.heap.size w w' := by
  have hb : Below w.heap.size w (w.alloc (.cells #[.int .i64 k, .int .i64 z, .int .i64 i, .int .i64 s] 45)) := by go_grown
  have d0 := kc c0 hb
  have d1 := kc c1 hb
  have d2 := kc c2 hb
  have HB := Lib.hid hb
  go_enter Try.func22, Try.ntmps22
  go_wp2_with (go_at_call 34; (with_reducible refine (HC.out _ (by first | exact HB.out | (repeat (first | exact HB.out | apply ghb | apply ghd)))).mono ?_); rintro _ w2 ⟨rfl, hb2⟩)
  go_ret
  exact ⟨rfl, hb.trans (hb2.mono (by simp))⟩
theorem ck_v {w : World} {ρ : Ro} {j : Nat} {x : LM} (h : LpAt w ρ j x) (hl : x.s.its.length ≤ 2000) (e : I4) (r : Int) (hr : ch x.s e = r) :
    Calls Try.prog 22 #[.pointer (some ⟨x.B, 0, none⟩), .agg #[.int .i64 e.1, .int .i64 e.2.1, .int .i64 e.2.2.1, .int .i64 e.2.2.2]] w fun e w' => e = .returned (.int .i64 r) ∧ Below w.heap.size w w' := by
  obtain ⟨k, z, i, s⟩ := e
  show Calls Try.prog _ #[_, .agg #[.int .i64 k, .int .i64 z, .int .i64 i, .int .i64 s]] _ _
  obtain ⟨a, cp, hrv, hnc, hcm, hit⟩ := h.form
  have c0 : w.cell? ⟨x.B, 0, none⟩ = some (.slice a x.s.its.length cp) := by rw [← hrv]; exact cel h.o 0
  have c1 : w.cell? ⟨x.B, 1, none⟩ = some (.int .i64 (x.s.fin : Int)) := cel h.o 1
  have c2 : w.cell? ⟨x.B, 2, none⟩ = some (.bool x.s.en) := cel h.o 2
  obtain ⟨n, hn⟩ : ∃ n, x.s.its.length = n := ⟨_, rfl⟩
  unfold ch at hr
  simp only [hn] at hr
  rw [hn] at c0 hit
  by_cases k1 : k < 1
  · rw [if_pos (.inl k1)] at hr
    subst hr
    exact ck_lo x.B n cp _ a z k s i _ w c0 c1 c2 k1 (dT k1)
  by_cases k6 : 6 < k
  · rw [if_pos (.inr k6)] at hr
    subst hr
    exact ck_hi x.B n cp _ a z k s i _ w c0 c1 c2 k1 (dF k1) k6 (dT k6)
  rw [if_neg (by omega)] at hr
  obtain ⟨en, he⟩ : ∃ en, x.s.en = en := ⟨_, rfl⟩
  rw [he] at c2
  simp only [he] at hr
  obtain ⟨fin, hf⟩ : ∃ fin, x.s.fin = fin := ⟨_, rfl⟩
  rw [hf] at c1
  simp only [hf] at hr
  cases en with
  | true =>
    rw [if_pos rfl] at hr
    subst hr
    exact ck_en x.B n cp _ a z k s i w c0 c1 c2 k1 (dF k1) k6 (dF k6)
  | false =>
  rw [if_neg (by simp)] at hr
  by_cases k2 : k = 1
  · subst k2
    simp only [if_true] at hr
    by_cases m : i = (n : Int)
    · subst m
      by_cases m2 : s = 0
      · subst m2
        simp only [ne_eq, not_true_eq_false, or_self, if_false] at hr
        by_cases n0 : 0 < n
        · obtain ⟨p, rfl⟩ : ∃ p, n = p + 1 := ⟨n - 1, by omega⟩
          obtain ⟨g, b, rfl, e1, hb, _⟩ := hit p (by omega)
          have u3 := cel hb 3
          have j0 : (0 : Int) < ((p + 1 : Nat) : Int) := by omega
          have j1 : ((p + 1 : Nat) : Int) - 1 = (p : Int) := by omega
          have j2 : IntKind.i64.wrap (p : Int) = (p : Int) := by rw [IntKind.wrap_i64]; omega
          have j9 : ((p + 1 : Nat) : Int).toNat - 1 = p := by omega
          rw [j9] at hr
          obtain ⟨y, hy⟩ : ∃ y, x.s.its.getD p it0 = y := ⟨_, rfl⟩
          simp only [hy] at hr u3
          obtain ⟨s0, b1, b2, b3, b4⟩ := y
          simp only [itc] at u3
          cases b3 with
          | true =>
            rw [if_neg (by simp)] at hr
            subst hr
            exact c1_p x.B (p + 1) cp _ _ z g b p w c0 c1 c2 rfl j0 (dT j0) n0 (dT n0) j1 j2 (by omega) (by omega) e1 u3
          | false =>
            rw [if_pos ⟨j0, rfl⟩] at hr
            subst hr
            exact c1_q x.B (p + 1) cp _ _ z g b p w c0 c1 c2 rfl j0 (dT j0) n0 (dT n0) j1 j2 (by omega) (by omega) e1 u3
        · have j0 : ¬ (0 : Int) < (n : Int) := by omega
          rw [if_neg (fun h => j0 h.1)] at hr
          subst hr
          exact c1_0 x.B n cp _ a z w c0 c1 c2 j0 (dF j0) n0 (dF n0)
      · rw [if_pos (.inr m2)] at hr
        subst hr
        exact c1_s x.B n cp _ a z s w c0 c1 c2 m2 (bF m2) (dF m2) (nF m2)
    · rw [if_pos (.inl m)] at hr
      subst hr
      exact c1_i x.B n cp _ a z s i w c0 c1 c2 m (bF m) (dF m) (nF m)
  rw [if_neg k2] at hr
  by_cases k5 : k = 5
  · subst k5
    simp only [if_true] at hr
    by_cases m : i = (n : Int)
    · subst m
      by_cases n0 : n = 0
      · rw [if_pos (.inr (.inl (by omega)))] at hr
        subst hr
        subst n0
        exact c5_0 x.B cp _ a z s w c0 c1 c2
      · have q1 : ¬ (n : Int) = 0 := by omega
        by_cases f1 : fin = n
        · subst f1
          by_cases m2 : s = 0
          · subst m2
            rw [if_neg (by simp; omega)] at hr
            subst hr
            exact c5_g x.B fin cp a z w c0 c1 c2 q1 (bF q1) (dF q1) n0 (by simpa using n0) (dF n0)
          · rw [if_pos (.inr (.inr (.inr m2)))] at hr
            subst hr
            exact c5_s x.B fin cp a z s w c0 c1 c2 q1 (bF q1) (dF q1) n0 (by simpa using n0) (dF n0) m2 (bF m2) (dF m2) (nF m2)
        · have f2 : ¬ (fin : Int) = (n : Int) := by omega
          rw [if_pos (.inr (.inr (.inl f2)))] at hr
          subst hr
          exact c5_f x.B n cp _ a z s w c0 c1 c2 q1 (bF q1) (dF q1) n0 (by simpa using n0) (dF n0) f2 (bF f2) (dF f2) f1 (by simpa using f1) (dF f1) (nF f2)
    · rw [if_pos (.inl m)] at hr
      subst hr
      exact c5_i x.B n cp _ a z s i w c0 c1 c2 m (bF m) (dF m) (nF m)
  rw [if_neg k5] at hr
  exact ck_n x.B n cp fin a z k s i r w c0 c1 c2 k1 (dF k1) k6 (dF k6) k2 (bF k2) (dF k2) k5 (bF k5) (dF k5) (Lib.hid fun w' hb => cn_v (h.keep (KX.below (fun _ => False) ρ 1 hb) (fun _ _ h => h)) hl k z i s r hr)
end Go.Proofs.Ytgbeghaojkhiaaa.tr
