/- What could happen to an iteration (layer 34). -/
import Derived.Test.YtgbeghaojkhiaaaTrA
import Derived.Test.YtgbeghaojkhiaaaKit
import Derived.BigQuiet
import Derived.Deep.DrawnRows
namespace Go.Proofs.Ytgbeghaojkhiaaa.tr
open Go.ChangeShapes Go.WideShapes Go.ChangeAt Go.RowKit
set_option linter.unusedVariables false
set_option linter.unusedSimpArgs false
attribute [local go_sem ↓] Go.wp_at_zero Go.wp_at_succ
attribute [local go_sem] Oper.semAt_some
theorem kc {w w' : World} {B j : Nat} {v : Value} (h : w.cell? ⟨B, j, none⟩ = some v) (hb : Below w.heap.size w w') : w'.cell? ⟨B, j, none⟩ = some v :=
  (hb.cell (p := ⟨B, j, none⟩) (World.block_lt_of_cell? w _ h)).trans h
theorem ghb {B : Nat} {w W : World} (h : Below B w W) (n : Nat) : Below B w (W.drewN n) := ⟨h.os, h.tape, h.output, h.size, h.block⟩
theorem ghd {B : Nat} {w W : World} (h : Below B w W) : Below B w W.drew := ⟨h.os, h.tape, h.output, h.size, h.block⟩
set_option maxRecDepth 20000 in
set_option maxHeartbeats 1000000 in
theorem cn_neg (B n cp : Nat) (a : Option Addr) (k z s : Int) (i : Int) (w : World)
    (c0 : w.cell? ⟨B, 0, none⟩ = some (.slice a n cp)) (h1 : i < 0) (h2 : decide (i < 0) = true) :
    Calls Try.prog 34 #[.pointer (some ⟨B, 0, none⟩), .agg #[.int .i64 k, .int .i64 z, .int .i64 i, .int .i64 s]] w fun e w' => e = .returned (.int .i64 7) ∧ Below w.heap.size w w' := by
  have hb : Below w.heap.size w (w.alloc (.cells #[.int .i64 k, .int .i64 z, .int .i64 i, .int .i64 s] 45)) := by go_grown
  have d0 := kc c0 hb
  go_enter Try.func34, Try.ntmps34
  repeat (first | (go_wp2_with fail; done) | (go_wp2_with fail; go_quiet (fail)) | go_quiet (fail))
  all_goals (try go_wp2_with fail)
  all_goals go_ret
  all_goals refine ⟨rfl, ?_⟩
  all_goals (repeat (first | exact hb | apply ghb | apply ghd))
set_option maxRecDepth 20000 in
set_option maxHeartbeats 1000000 in
theorem cn_big (B n cp : Nat) (a : Option Addr) (k z s : Int) (i : Nat) (w : World)
    (c0 : w.cell? ⟨B, 0, none⟩ = some (.slice a n cp)) (h1 : ¬ (i : Int) < 0) (h2 : decide ((i : Int) < 0) = false) (h3 : (n : Int) ≤ (i : Int)) (h4 : decide ((n : Int) ≤ (i : Int)) = true) (h5 : decide (n ≤ i) = true) (h6 : n ≤ i) :
    Calls Try.prog 34 #[.pointer (some ⟨B, 0, none⟩), .agg #[.int .i64 k, .int .i64 z, .int .i64 (i : Int), .int .i64 s]] w fun e w' => e = .returned (.int .i64 7) ∧ Below w.heap.size w w' := by
  have hb : Below w.heap.size w (w.alloc (.cells #[.int .i64 k, .int .i64 z, .int .i64 (i : Int), .int .i64 s] 45)) := by go_grown
  have d0 := kc c0 hb
  go_enter Try.func34, Try.ntmps34
  repeat (first | (go_wp2_with fail; done) | (go_wp2_with fail; go_quiet (fail)) | go_quiet (fail))
  all_goals (try go_wp2_with fail)
  all_goals go_ret
  all_goals refine ⟨rfl, ?_⟩
  all_goals (repeat (first | exact hb | apply ghb | apply ghd))
set_option maxRecDepth 20000 in
set_option maxHeartbeats 1000000 in
theorem cn_f (B n cp : Nat) (a : Option Addr) (k z s : Int) (i g b : Nat) (s0 : Int) (b1 b2 b3 : Bool) (w : World)
    (c0 : w.cell? ⟨B, 0, none⟩ = some (.slice a n cp)) (ha : a = some ⟨g, 0, none⟩) (h1 : ¬ (i : Int) < 0) (h2 : decide ((i : Int) < 0) = false) (h3 : ¬ (n : Int) ≤ (i : Int)) (h4 : decide ((n : Int) ≤ (i : Int)) = false) (h5 : decide (n ≤ i) = false) (h6 : ¬ n ≤ i) (h7 : i < n) (h8 : (i : Int) < (n : Int)) (c1 : w.cell? ⟨g, i, none⟩ = some (.pointer (some ⟨b, 0, none⟩))) (t0 : w.cell? ⟨b, 0, none⟩ = some (.int .i64 s0)) (t1 : w.cell? ⟨b, 1, none⟩ = some (.bool b1)) (t2 : w.cell? ⟨b, 2, none⟩ = some (.bool b2)) (t4 : w.cell? ⟨b, 4, none⟩ = some (.bool true))  :
    Calls Try.prog 34 #[.pointer (some ⟨B, 0, none⟩), .agg #[.int .i64 k, .int .i64 z, .int .i64 (i : Int), .int .i64 s]] w fun e w' => e = .returned (.int .i64 10) ∧ Below w.heap.size w w' := by
  subst ha
  have hb : Below w.heap.size w (w.alloc (.cells #[.int .i64 k, .int .i64 z, .int .i64 (i : Int), .int .i64 s] 45)) := by go_grown
  have d0 := kc c0 hb
  have d1 := kc c1 hb
  have d2 := kc t0 hb
  have d3 := kc t1 hb
  have d4 := kc t2 hb
  have d5 := kc t4 hb
  go_enter Try.func34, Try.ntmps34
  repeat (first | (go_wp2_with fail; done) | (go_wp2_with fail; go_quiet (fail)) | go_quiet (fail))
  all_goals (try go_wp2_with fail)
  all_goals go_ret
  all_goals refine ⟨rfl, ?_⟩
  all_goals (repeat (first | exact hb | apply ghb | apply ghd))
set_option maxRecDepth 20000 in
set_option maxHeartbeats 1000000 in
theorem cn_2b (B n cp : Nat) (a : Option Addr) (z s : Int) (i g b : Nat) (s0 : Int) (b2 b3 : Bool) (w : World)
    (c0 : w.cell? ⟨B, 0, none⟩ = some (.slice a n cp)) (ha : a = some ⟨g, 0, none⟩) (h1 : ¬ (i : Int) < 0) (h2 : decide ((i : Int) < 0) = false) (h3 : ¬ (n : Int) ≤ (i : Int)) (h4 : decide ((n : Int) ≤ (i : Int)) = false) (h5 : decide (n ≤ i) = false) (h6 : ¬ n ≤ i) (h7 : i < n) (h8 : (i : Int) < (n : Int)) (c1 : w.cell? ⟨g, i, none⟩ = some (.pointer (some ⟨b, 0, none⟩))) (t0 : w.cell? ⟨b, 0, none⟩ = some (.int .i64 s0)) (t1 : w.cell? ⟨b, 1, none⟩ = some (.bool true)) (t2 : w.cell? ⟨b, 2, none⟩ = some (.bool b2)) (t4 : w.cell? ⟨b, 4, none⟩ = some (.bool false))  :
    Calls Try.prog 34 #[.pointer (some ⟨B, 0, none⟩), .agg #[.int .i64 2, .int .i64 z, .int .i64 (i : Int), .int .i64 s]] w fun e w' => e = .returned (.int .i64 4) ∧ Below w.heap.size w w' := by
  subst ha
  have hb : Below w.heap.size w (w.alloc (.cells #[.int .i64 2, .int .i64 z, .int .i64 (i : Int), .int .i64 s] 45)) := by go_grown
  have d0 := kc c0 hb
  have d1 := kc c1 hb
  have d2 := kc t0 hb
  have d3 := kc t1 hb
  have d4 := kc t2 hb
  have d5 := kc t4 hb
  go_enter Try.func34, Try.ntmps34
  repeat (first | (go_wp2_with fail; done) | (go_wp2_with fail; go_quiet (fail)) | go_quiet (fail))
  all_goals (try go_wp2_with fail)
  all_goals go_ret
  all_goals refine ⟨rfl, ?_⟩
  all_goals (repeat (first | exact hb | apply ghb | apply ghd))
set_option maxRecDepth 20000 in
set_option maxHeartbeats 1000000 in
theorem cn_2s (B n cp : Nat) (a : Option Addr) (z s : Int) (i g b : Nat) (s0 : Int) (b2 b3 : Bool) (w : World)
    (c0 : w.cell? ⟨B, 0, none⟩ = some (.slice a n cp)) (ha : a = some ⟨g, 0, none⟩) (h1 : ¬ (i : Int) < 0) (h2 : decide ((i : Int) < 0) = false) (h3 : ¬ (n : Int) ≤ (i : Int)) (h4 : decide ((n : Int) ≤ (i : Int)) = false) (h5 : decide (n ≤ i) = false) (h6 : ¬ n ≤ i) (h7 : i < n) (h8 : (i : Int) < (n : Int)) (c1 : w.cell? ⟨g, i, none⟩ = some (.pointer (some ⟨b, 0, none⟩))) (t0 : w.cell? ⟨b, 0, none⟩ = some (.int .i64 s0)) (t1 : w.cell? ⟨b, 1, none⟩ = some (.bool false)) (t2 : w.cell? ⟨b, 2, none⟩ = some (.bool b2)) (t4 : w.cell? ⟨b, 4, none⟩ = some (.bool false)) (n1 : ¬ s = s0) (n2 : (s == s0) = false) (n3 : decide (s = s0) = false) :
    Calls Try.prog 34 #[.pointer (some ⟨B, 0, none⟩), .agg #[.int .i64 2, .int .i64 z, .int .i64 (i : Int), .int .i64 s]] w fun e w' => e = .returned (.int .i64 4) ∧ Below w.heap.size w w' := by
  subst ha
  have hb : Below w.heap.size w (w.alloc (.cells #[.int .i64 2, .int .i64 z, .int .i64 (i : Int), .int .i64 s] 45)) := by go_grown
  have d0 := kc c0 hb
  have d1 := kc c1 hb
  have d2 := kc t0 hb
  have d3 := kc t1 hb
  have d4 := kc t2 hb
  have d5 := kc t4 hb
  go_enter Try.func34, Try.ntmps34
  repeat (first | (go_wp2_with fail; done) | (go_wp2_with fail; go_quiet (fail)) | go_quiet (fail))
  all_goals (try go_wp2_with fail)
  all_goals go_ret
  all_goals refine ⟨rfl, ?_⟩
  all_goals (repeat (first | exact hb | apply ghb | apply ghd))
set_option maxRecDepth 20000 in
set_option maxHeartbeats 1000000 in
theorem cn_2n (B n cp : Nat) (a : Option Addr) (z : Int) (i g b : Nat) (s0 : Int) (b3 : Bool) (w : World)
    (c0 : w.cell? ⟨B, 0, none⟩ = some (.slice a n cp)) (ha : a = some ⟨g, 0, none⟩) (h1 : ¬ (i : Int) < 0) (h2 : decide ((i : Int) < 0) = false) (h3 : ¬ (n : Int) ≤ (i : Int)) (h4 : decide ((n : Int) ≤ (i : Int)) = false) (h5 : decide (n ≤ i) = false) (h6 : ¬ n ≤ i) (h7 : i < n) (h8 : (i : Int) < (n : Int)) (c1 : w.cell? ⟨g, i, none⟩ = some (.pointer (some ⟨b, 0, none⟩))) (t0 : w.cell? ⟨b, 0, none⟩ = some (.int .i64 s0)) (t1 : w.cell? ⟨b, 1, none⟩ = some (.bool false)) (t2 : w.cell? ⟨b, 2, none⟩ = some (.bool false)) (t4 : w.cell? ⟨b, 4, none⟩ = some (.bool false))  :
    Calls Try.prog 34 #[.pointer (some ⟨B, 0, none⟩), .agg #[.int .i64 2, .int .i64 z, .int .i64 (i : Int), .int .i64 s0]] w fun e w' => e = .returned (.int .i64 0) ∧ Below w.heap.size w w' := by
  subst ha
  have hb : Below w.heap.size w (w.alloc (.cells #[.int .i64 2, .int .i64 z, .int .i64 (i : Int), .int .i64 s0] 45)) := by go_grown
  have d0 := kc c0 hb
  have d1 := kc c1 hb
  have d2 := kc t0 hb
  have d3 := kc t1 hb
  have d4 := kc t2 hb
  have d5 := kc t4 hb
  go_enter Try.func34, Try.ntmps34
  repeat (first | (go_wp2_with fail; done) | (go_wp2_with fail; go_quiet (fail)) | go_quiet (fail))
  all_goals (try go_wp2_with fail)
  all_goals go_ret
  all_goals refine ⟨rfl, ?_⟩
  all_goals (repeat (first | exact hb | apply ghb | apply ghd))
set_option maxRecDepth 20000 in
set_option maxHeartbeats 1000000 in
theorem cn_20 (B n cp : Nat) (a : Option Addr) (z : Int) (i g b : Nat) (s0 : Int) (b3 : Bool) (w : World)
    (c0 : w.cell? ⟨B, 0, none⟩ = some (.slice a n cp)) (ha : a = some ⟨g, 0, none⟩) (h1 : ¬ (i : Int) < 0) (h2 : decide ((i : Int) < 0) = false) (h3 : ¬ (n : Int) ≤ (i : Int)) (h4 : decide ((n : Int) ≤ (i : Int)) = false) (h5 : decide (n ≤ i) = false) (h6 : ¬ n ≤ i) (h7 : i < n) (h8 : (i : Int) < (n : Int)) (c1 : w.cell? ⟨g, i, none⟩ = some (.pointer (some ⟨b, 0, none⟩))) (t0 : w.cell? ⟨b, 0, none⟩ = some (.int .i64 s0)) (t1 : w.cell? ⟨b, 1, none⟩ = some (.bool false)) (t2 : w.cell? ⟨b, 2, none⟩ = some (.bool true)) (t4 : w.cell? ⟨b, 4, none⟩ = some (.bool false)) (z1 : ¬ (0 : Int) < (i : Int)) (z2 : decide ((0 : Int) < (i : Int)) = false) (z3 : ¬ 0 < i) (z4 : decide (0 < i) = false) :
    Calls Try.prog 34 #[.pointer (some ⟨B, 0, none⟩), .agg #[.int .i64 2, .int .i64 z, .int .i64 (i : Int), .int .i64 s0]] w fun e w' => e = .returned (.int .i64 0) ∧ Below w.heap.size w w' := by
  subst ha
  have hb : Below w.heap.size w (w.alloc (.cells #[.int .i64 2, .int .i64 z, .int .i64 (i : Int), .int .i64 s0] 45)) := by go_grown
  have d0 := kc c0 hb
  have d1 := kc c1 hb
  have d2 := kc t0 hb
  have d3 := kc t1 hb
  have d4 := kc t2 hb
  have d5 := kc t4 hb
  go_enter Try.func34, Try.ntmps34
  repeat (first | (go_wp2_with fail; done) | (go_wp2_with fail; go_quiet (fail)) | go_quiet (fail))
  all_goals (try go_wp2_with fail)
  all_goals go_ret
  all_goals refine ⟨rfl, ?_⟩
  all_goals (repeat (first | exact hb | apply ghb | apply ghd))
set_option maxRecDepth 20000 in
set_option maxHeartbeats 1000000 in
theorem cn_2f (B n cp : Nat) (a : Option Addr) (z : Int) (i g b : Nat) (s0 : Int) (b3 : Bool) (j b9 : Nat) (s9 : Int) (w : World)
    (c0 : w.cell? ⟨B, 0, none⟩ = some (.slice a n cp)) (ha : a = some ⟨g, 0, none⟩) (h1 : ¬ (i : Int) < 0) (h2 : decide ((i : Int) < 0) = false) (h3 : ¬ (n : Int) ≤ (i : Int)) (h4 : decide ((n : Int) ≤ (i : Int)) = false) (h5 : decide (n ≤ i) = false) (h6 : ¬ n ≤ i) (h7 : i < n) (h8 : (i : Int) < (n : Int)) (c1 : w.cell? ⟨g, i, none⟩ = some (.pointer (some ⟨b, 0, none⟩))) (t0 : w.cell? ⟨b, 0, none⟩ = some (.int .i64 s0)) (t1 : w.cell? ⟨b, 1, none⟩ = some (.bool false)) (t2 : w.cell? ⟨b, 2, none⟩ = some (.bool true)) (t4 : w.cell? ⟨b, 4, none⟩ = some (.bool false)) (z1 : (0 : Int) < (i : Int)) (z2 : decide ((0 : Int) < (i : Int)) = true) (z3 : 0 < i) (z4 : decide (0 < i) = true) (j1 : (i : Int) - 1 = (j : Int)) (j2 : IntKind.i64.wrap (j : Int) = (j : Int)) (j3 : j < n) (j4 : (j : Int) < (n : Int)) (e1 : w.cell? ⟨g, j, none⟩ = some (.pointer (some ⟨b9, 0, none⟩))) (u0 : w.cell? ⟨b9, 0, none⟩ = some (.int .i64 s9)) (u4 : w.cell? ⟨b9, 4, none⟩ = some (.bool true)) :
    Calls Try.prog 34 #[.pointer (some ⟨B, 0, none⟩), .agg #[.int .i64 2, .int .i64 z, .int .i64 (i : Int), .int .i64 s0]] w fun e w' => e = .returned (.int .i64 0) ∧ Below w.heap.size w w' := by
  subst ha
  have hb : Below w.heap.size w (w.alloc (.cells #[.int .i64 2, .int .i64 z, .int .i64 (i : Int), .int .i64 s0] 45)) := by go_grown
  have d0 := kc c0 hb
  have d1 := kc c1 hb
  have d2 := kc t0 hb
  have d3 := kc t1 hb
  have d4 := kc t2 hb
  have d5 := kc t4 hb
  have d6 := kc e1 hb
  have d7 := kc u0 hb
  have d8 := kc u4 hb
  go_enter Try.func34, Try.ntmps34
  repeat (first | (go_wp2_with fail; done) | (go_wp2_with fail; go_quiet (fail)) | go_quiet (fail))
  all_goals (try go_wp2_with fail)
  all_goals go_ret
  all_goals refine ⟨rfl, ?_⟩
  all_goals (repeat (first | exact hb | apply ghb | apply ghd))
set_option maxRecDepth 20000 in
set_option maxHeartbeats 1000000 in
theorem cn_2l (B n cp : Nat) (a : Option Addr) (z : Int) (i g b : Nat) (s0 : Int) (b3 : Bool) (j b9 : Nat) (s9 : Int) (w : World)
    (c0 : w.cell? ⟨B, 0, none⟩ = some (.slice a n cp)) (ha : a = some ⟨g, 0, none⟩) (h1 : ¬ (i : Int) < 0) (h2 : decide ((i : Int) < 0) = false) (h3 : ¬ (n : Int) ≤ (i : Int)) (h4 : decide ((n : Int) ≤ (i : Int)) = false) (h5 : decide (n ≤ i) = false) (h6 : ¬ n ≤ i) (h7 : i < n) (h8 : (i : Int) < (n : Int)) (c1 : w.cell? ⟨g, i, none⟩ = some (.pointer (some ⟨b, 0, none⟩))) (t0 : w.cell? ⟨b, 0, none⟩ = some (.int .i64 s0)) (t1 : w.cell? ⟨b, 1, none⟩ = some (.bool false)) (t2 : w.cell? ⟨b, 2, none⟩ = some (.bool true)) (t4 : w.cell? ⟨b, 4, none⟩ = some (.bool false)) (z1 : (0 : Int) < (i : Int)) (z2 : decide ((0 : Int) < (i : Int)) = true) (z3 : 0 < i) (z4 : decide (0 < i) = true) (j1 : (i : Int) - 1 = (j : Int)) (j2 : IntKind.i64.wrap (j : Int) = (j : Int)) (j3 : j < n) (j4 : (j : Int) < (n : Int)) (e1 : w.cell? ⟨g, j, none⟩ = some (.pointer (some ⟨b9, 0, none⟩))) (u0 : w.cell? ⟨b9, 0, none⟩ = some (.int .i64 s9)) (u4 : w.cell? ⟨b9, 4, none⟩ = some (.bool false)) (l1 : s9 ≤ s0) (l2 : decide (s9 ≤ s0) = true) :
    Calls Try.prog 34 #[.pointer (some ⟨B, 0, none⟩), .agg #[.int .i64 2, .int .i64 z, .int .i64 (i : Int), .int .i64 s0]] w fun e w' => e = .returned (.int .i64 1) ∧ Below w.heap.size w w' := by
  subst ha
  have hb : Below w.heap.size w (w.alloc (.cells #[.int .i64 2, .int .i64 z, .int .i64 (i : Int), .int .i64 s0] 45)) := by go_grown
  have d0 := kc c0 hb
  have d1 := kc c1 hb
  have d2 := kc t0 hb
  have d3 := kc t1 hb
  have d4 := kc t2 hb
  have d5 := kc t4 hb
  have d6 := kc e1 hb
  have d7 := kc u0 hb
  have d8 := kc u4 hb
  go_enter Try.func34, Try.ntmps34
  repeat (first | (go_wp2_with fail; done) | (go_wp2_with fail; go_quiet (fail)) | go_quiet (fail))
  all_goals (try go_wp2_with fail)
  all_goals go_ret
  all_goals refine ⟨rfl, ?_⟩
  all_goals (repeat (first | exact hb | apply ghb | apply ghd))
set_option maxRecDepth 20000 in
set_option maxHeartbeats 1000000 in
theorem cn_2m (B n cp : Nat) (a : Option Addr) (z : Int) (i g b : Nat) (s0 : Int) (b3 : Bool) (j b9 : Nat) (s9 : Int) (w : World)
    (c0 : w.cell? ⟨B, 0, none⟩ = some (.slice a n cp)) (ha : a = some ⟨g, 0, none⟩) (h1 : ¬ (i : Int) < 0) (h2 : decide ((i : Int) < 0) = false) (h3 : ¬ (n : Int) ≤ (i : Int)) (h4 : decide ((n : Int) ≤ (i : Int)) = false) (h5 : decide (n ≤ i) = false) (h6 : ¬ n ≤ i) (h7 : i < n) (h8 : (i : Int) < (n : Int)) (c1 : w.cell? ⟨g, i, none⟩ = some (.pointer (some ⟨b, 0, none⟩))) (t0 : w.cell? ⟨b, 0, none⟩ = some (.int .i64 s0)) (t1 : w.cell? ⟨b, 1, none⟩ = some (.bool false)) (t2 : w.cell? ⟨b, 2, none⟩ = some (.bool true)) (t4 : w.cell? ⟨b, 4, none⟩ = some (.bool false)) (z1 : (0 : Int) < (i : Int)) (z2 : decide ((0 : Int) < (i : Int)) = true) (z3 : 0 < i) (z4 : decide (0 < i) = true) (j1 : (i : Int) - 1 = (j : Int)) (j2 : IntKind.i64.wrap (j : Int) = (j : Int)) (j3 : j < n) (j4 : (j : Int) < (n : Int)) (e1 : w.cell? ⟨g, j, none⟩ = some (.pointer (some ⟨b9, 0, none⟩))) (u0 : w.cell? ⟨b9, 0, none⟩ = some (.int .i64 s9)) (u4 : w.cell? ⟨b9, 4, none⟩ = some (.bool false)) (l1 : ¬ s9 ≤ s0) (l2 : decide (s9 ≤ s0) = false) :
    Calls Try.prog 34 #[.pointer (some ⟨B, 0, none⟩), .agg #[.int .i64 2, .int .i64 z, .int .i64 (i : Int), .int .i64 s0]] w fun e w' => e = .returned (.int .i64 0) ∧ Below w.heap.size w w' := by
  subst ha
  have hb : Below w.heap.size w (w.alloc (.cells #[.int .i64 2, .int .i64 z, .int .i64 (i : Int), .int .i64 s0] 45)) := by go_grown
  have d0 := kc c0 hb
  have d1 := kc c1 hb
  have d2 := kc t0 hb
  have d3 := kc t1 hb
  have d4 := kc t2 hb
  have d5 := kc t4 hb
  have d6 := kc e1 hb
  have d7 := kc u0 hb
  have d8 := kc u4 hb
  go_enter Try.func34, Try.ntmps34
  repeat (first | (go_wp2_with fail; done) | (go_wp2_with fail; go_quiet (fail)) | go_quiet (fail))
  all_goals (try go_wp2_with fail)
  all_goals go_ret
  all_goals refine ⟨rfl, ?_⟩
  all_goals (repeat (first | exact hb | apply ghb | apply ghd))
set_option maxRecDepth 20000 in
set_option maxHeartbeats 1000000 in
theorem cn_4b (B n cp : Nat) (a : Option Addr) (z s : Int) (i g b : Nat) (s0 : Int) (b2 b3 : Bool) (w : World)
    (c0 : w.cell? ⟨B, 0, none⟩ = some (.slice a n cp)) (ha : a = some ⟨g, 0, none⟩) (h1 : ¬ (i : Int) < 0) (h2 : decide ((i : Int) < 0) = false) (h3 : ¬ (n : Int) ≤ (i : Int)) (h4 : decide ((n : Int) ≤ (i : Int)) = false) (h5 : decide (n ≤ i) = false) (h6 : ¬ n ≤ i) (h7 : i < n) (h8 : (i : Int) < (n : Int)) (c1 : w.cell? ⟨g, i, none⟩ = some (.pointer (some ⟨b, 0, none⟩))) (t0 : w.cell? ⟨b, 0, none⟩ = some (.int .i64 s0)) (t1 : w.cell? ⟨b, 1, none⟩ = some (.bool false)) (t2 : w.cell? ⟨b, 2, none⟩ = some (.bool b2)) (t4 : w.cell? ⟨b, 4, none⟩ = some (.bool false))  :
    Calls Try.prog 34 #[.pointer (some ⟨B, 0, none⟩), .agg #[.int .i64 4, .int .i64 z, .int .i64 (i : Int), .int .i64 s]] w fun e w' => e = .returned (.int .i64 4) ∧ Below w.heap.size w w' := by
  subst ha
  have hb : Below w.heap.size w (w.alloc (.cells #[.int .i64 4, .int .i64 z, .int .i64 (i : Int), .int .i64 s] 45)) := by go_grown
  have d0 := kc c0 hb
  have d1 := kc c1 hb
  have d2 := kc t0 hb
  have d3 := kc t1 hb
  have d4 := kc t2 hb
  have d5 := kc t4 hb
  go_enter Try.func34, Try.ntmps34
  repeat (first | (go_wp2_with fail; done) | (go_wp2_with fail; go_quiet (fail)) | go_quiet (fail))
  all_goals (try go_wp2_with fail)
  all_goals go_ret
  all_goals refine ⟨rfl, ?_⟩
  all_goals (repeat (first | exact hb | apply ghb | apply ghd))
set_option maxRecDepth 20000 in
set_option maxHeartbeats 1000000 in
theorem cn_4s (B n cp : Nat) (a : Option Addr) (z s : Int) (i g b : Nat) (s0 : Int) (b2 b3 : Bool) (w : World)
    (c0 : w.cell? ⟨B, 0, none⟩ = some (.slice a n cp)) (ha : a = some ⟨g, 0, none⟩) (h1 : ¬ (i : Int) < 0) (h2 : decide ((i : Int) < 0) = false) (h3 : ¬ (n : Int) ≤ (i : Int)) (h4 : decide ((n : Int) ≤ (i : Int)) = false) (h5 : decide (n ≤ i) = false) (h6 : ¬ n ≤ i) (h7 : i < n) (h8 : (i : Int) < (n : Int)) (c1 : w.cell? ⟨g, i, none⟩ = some (.pointer (some ⟨b, 0, none⟩))) (t0 : w.cell? ⟨b, 0, none⟩ = some (.int .i64 s0)) (t1 : w.cell? ⟨b, 1, none⟩ = some (.bool true)) (t2 : w.cell? ⟨b, 2, none⟩ = some (.bool b2)) (t4 : w.cell? ⟨b, 4, none⟩ = some (.bool false)) (n1 : ¬ s = s0) (n2 : (s == s0) = false) (n3 : decide (s = s0) = false) :
    Calls Try.prog 34 #[.pointer (some ⟨B, 0, none⟩), .agg #[.int .i64 4, .int .i64 z, .int .i64 (i : Int), .int .i64 s]] w fun e w' => e = .returned (.int .i64 4) ∧ Below w.heap.size w w' := by
  subst ha
  have hb : Below w.heap.size w (w.alloc (.cells #[.int .i64 4, .int .i64 z, .int .i64 (i : Int), .int .i64 s] 45)) := by go_grown
  have d0 := kc c0 hb
  have d1 := kc c1 hb
  have d2 := kc t0 hb
  have d3 := kc t1 hb
  have d4 := kc t2 hb
  have d5 := kc t4 hb
  go_enter Try.func34, Try.ntmps34
  repeat (first | (go_wp2_with fail; done) | (go_wp2_with fail; go_quiet (fail)) | go_quiet (fail))
  all_goals (try go_wp2_with fail)
  all_goals go_ret
  all_goals refine ⟨rfl, ?_⟩
  all_goals (repeat (first | exact hb | apply ghb | apply ghd))
set_option maxRecDepth 20000 in
set_option maxHeartbeats 1000000 in
theorem cn_4g (B n cp : Nat) (a : Option Addr) (z : Int) (i g b : Nat) (s0 : Int) (b2 b3 : Bool) (w : World)
    (c0 : w.cell? ⟨B, 0, none⟩ = some (.slice a n cp)) (ha : a = some ⟨g, 0, none⟩) (h1 : ¬ (i : Int) < 0) (h2 : decide ((i : Int) < 0) = false) (h3 : ¬ (n : Int) ≤ (i : Int)) (h4 : decide ((n : Int) ≤ (i : Int)) = false) (h5 : decide (n ≤ i) = false) (h6 : ¬ n ≤ i) (h7 : i < n) (h8 : (i : Int) < (n : Int)) (c1 : w.cell? ⟨g, i, none⟩ = some (.pointer (some ⟨b, 0, none⟩))) (t0 : w.cell? ⟨b, 0, none⟩ = some (.int .i64 s0)) (t1 : w.cell? ⟨b, 1, none⟩ = some (.bool true)) (t2 : w.cell? ⟨b, 2, none⟩ = some (.bool b2)) (t4 : w.cell? ⟨b, 4, none⟩ = some (.bool false))  :
    Calls Try.prog 34 #[.pointer (some ⟨B, 0, none⟩), .agg #[.int .i64 4, .int .i64 z, .int .i64 (i : Int), .int .i64 s0]] w fun e w' => e = .returned (.int .i64 0) ∧ Below w.heap.size w w' := by
  subst ha
  have hb : Below w.heap.size w (w.alloc (.cells #[.int .i64 4, .int .i64 z, .int .i64 (i : Int), .int .i64 s0] 45)) := by go_grown
  have d0 := kc c0 hb
  have d1 := kc c1 hb
  have d2 := kc t0 hb
  have d3 := kc t1 hb
  have d4 := kc t2 hb
  have d5 := kc t4 hb
  go_enter Try.func34, Try.ntmps34
  repeat (first | (go_wp2_with fail; done) | (go_wp2_with fail; go_quiet (fail)) | go_quiet (fail))
  all_goals (try go_wp2_with fail)
  all_goals go_ret
  all_goals refine ⟨rfl, ?_⟩
  all_goals (repeat (first | exact hb | apply ghb | apply ghd))
set_option maxRecDepth 20000 in
set_option maxHeartbeats 1000000 in
theorem cn_ob (B n cp : Nat) (a : Option Addr) (k z s : Int) (i g b : Nat) (s0 : Int) (b2 b3 : Bool) (w : World)
    (c0 : w.cell? ⟨B, 0, none⟩ = some (.slice a n cp)) (ha : a = some ⟨g, 0, none⟩) (h1 : ¬ (i : Int) < 0) (h2 : decide ((i : Int) < 0) = false) (h3 : ¬ (n : Int) ≤ (i : Int)) (h4 : decide ((n : Int) ≤ (i : Int)) = false) (h5 : decide (n ≤ i) = false) (h6 : ¬ n ≤ i) (h7 : i < n) (h8 : (i : Int) < (n : Int)) (c1 : w.cell? ⟨g, i, none⟩ = some (.pointer (some ⟨b, 0, none⟩))) (t0 : w.cell? ⟨b, 0, none⟩ = some (.int .i64 s0)) (t1 : w.cell? ⟨b, 1, none⟩ = some (.bool false)) (t2 : w.cell? ⟨b, 2, none⟩ = some (.bool b2)) (t4 : w.cell? ⟨b, 4, none⟩ = some (.bool false)) (k2 : ¬ k = 2) (k2b : (k == 2) = false) (k2d : decide (k = 2) = false) (k4 : ¬ k = 4) (k4b : (k == 4) = false) (k4d : decide (k = 4) = false) :
    Calls Try.prog 34 #[.pointer (some ⟨B, 0, none⟩), .agg #[.int .i64 k, .int .i64 z, .int .i64 (i : Int), .int .i64 s]] w fun e w' => e = .returned (.int .i64 4) ∧ Below w.heap.size w w' := by
  subst ha
  have hb : Below w.heap.size w (w.alloc (.cells #[.int .i64 k, .int .i64 z, .int .i64 (i : Int), .int .i64 s] 45)) := by go_grown
  have d0 := kc c0 hb
  have d1 := kc c1 hb
  have d2 := kc t0 hb
  have d3 := kc t1 hb
  have d4 := kc t2 hb
  have d5 := kc t4 hb
  go_enter Try.func34, Try.ntmps34
  repeat (first | (go_wp2_with fail; done) | (go_wp2_with fail; go_quiet (fail)) | go_quiet (fail))
  all_goals (try go_wp2_with fail)
  all_goals go_ret
  all_goals refine ⟨rfl, ?_⟩
  all_goals (repeat (first | exact hb | apply ghb | apply ghd))
set_option maxRecDepth 20000 in
set_option maxHeartbeats 1000000 in
theorem cn_os (B n cp : Nat) (a : Option Addr) (k z s : Int) (i g b : Nat) (s0 : Int) (b2 b3 : Bool) (w : World)
    (c0 : w.cell? ⟨B, 0, none⟩ = some (.slice a n cp)) (ha : a = some ⟨g, 0, none⟩) (h1 : ¬ (i : Int) < 0) (h2 : decide ((i : Int) < 0) = false) (h3 : ¬ (n : Int) ≤ (i : Int)) (h4 : decide ((n : Int) ≤ (i : Int)) = false) (h5 : decide (n ≤ i) = false) (h6 : ¬ n ≤ i) (h7 : i < n) (h8 : (i : Int) < (n : Int)) (c1 : w.cell? ⟨g, i, none⟩ = some (.pointer (some ⟨b, 0, none⟩))) (t0 : w.cell? ⟨b, 0, none⟩ = some (.int .i64 s0)) (t1 : w.cell? ⟨b, 1, none⟩ = some (.bool true)) (t2 : w.cell? ⟨b, 2, none⟩ = some (.bool b2)) (t4 : w.cell? ⟨b, 4, none⟩ = some (.bool false)) (k2 : ¬ k = 2) (k2b : (k == 2) = false) (k2d : decide (k = 2) = false) (k4 : ¬ k = 4) (k4b : (k == 4) = false) (k4d : decide (k = 4) = false) (l1 : ¬ s0 < s) (l2 : decide (s0 < s) = false) :
    Calls Try.prog 34 #[.pointer (some ⟨B, 0, none⟩), .agg #[.int .i64 k, .int .i64 z, .int .i64 (i : Int), .int .i64 s]] w fun e w' => e = .returned (.int .i64 4) ∧ Below w.heap.size w w' := by
  subst ha
  have hb : Below w.heap.size w (w.alloc (.cells #[.int .i64 k, .int .i64 z, .int .i64 (i : Int), .int .i64 s] 45)) := by go_grown
  have d0 := kc c0 hb
  have d1 := kc c1 hb
  have d2 := kc t0 hb
  have d3 := kc t1 hb
  have d4 := kc t2 hb
  have d5 := kc t4 hb
  go_enter Try.func34, Try.ntmps34
  repeat (first | (go_wp2_with fail; done) | (go_wp2_with fail; go_quiet (fail)) | go_quiet (fail))
  all_goals (try go_wp2_with fail)
  all_goals go_ret
  all_goals refine ⟨rfl, ?_⟩
  all_goals (repeat (first | exact hb | apply ghb | apply ghd))
set_option maxRecDepth 20000 in
set_option maxHeartbeats 1000000 in
theorem cn_om (B n cp : Nat) (a : Option Addr) (k z s : Int) (i g b : Nat) (s0 : Int) (b2 b3 : Bool) (w : World)
    (c0 : w.cell? ⟨B, 0, none⟩ = some (.slice a n cp)) (ha : a = some ⟨g, 0, none⟩) (h1 : ¬ (i : Int) < 0) (h2 : decide ((i : Int) < 0) = false) (h3 : ¬ (n : Int) ≤ (i : Int)) (h4 : decide ((n : Int) ≤ (i : Int)) = false) (h5 : decide (n ≤ i) = false) (h6 : ¬ n ≤ i) (h7 : i < n) (h8 : (i : Int) < (n : Int)) (c1 : w.cell? ⟨g, i, none⟩ = some (.pointer (some ⟨b, 0, none⟩))) (t0 : w.cell? ⟨b, 0, none⟩ = some (.int .i64 s0)) (t1 : w.cell? ⟨b, 1, none⟩ = some (.bool true)) (t2 : w.cell? ⟨b, 2, none⟩ = some (.bool b2)) (t4 : w.cell? ⟨b, 4, none⟩ = some (.bool false)) (k2 : ¬ k = 2) (k2b : (k == 2) = false) (k2d : decide (k = 2) = false) (k4 : ¬ k = 4) (k4b : (k == 4) = false) (k4d : decide (k = 4) = false) (l1 : s0 < s) (l2 : decide (s0 < s) = true) (m1 : ¬ s ≤ 1048575) (m2 : decide (s ≤ 1048575) = false) :
    Calls Try.prog 34 #[.pointer (some ⟨B, 0, none⟩), .agg #[.int .i64 k, .int .i64 z, .int .i64 (i : Int), .int .i64 s]] w fun e w' => e = .returned (.int .i64 4) ∧ Below w.heap.size w w' := by
  subst ha
  have hb : Below w.heap.size w (w.alloc (.cells #[.int .i64 k, .int .i64 z, .int .i64 (i : Int), .int .i64 s] 45)) := by go_grown
  have d0 := kc c0 hb
  have d1 := kc c1 hb
  have d2 := kc t0 hb
  have d3 := kc t1 hb
  have d4 := kc t2 hb
  have d5 := kc t4 hb
  go_enter Try.func34, Try.ntmps34
  repeat (first | (go_wp2_with fail; done) | (go_wp2_with fail; go_quiet (fail)) | go_quiet (fail))
  all_goals (try go_wp2_with fail)
  all_goals go_ret
  all_goals refine ⟨rfl, ?_⟩
  all_goals (repeat (first | exact hb | apply ghb | apply ghd))
set_option maxRecDepth 20000 in
set_option maxHeartbeats 1000000 in
theorem cn_og (B n cp : Nat) (a : Option Addr) (k z s : Int) (i g b : Nat) (s0 : Int) (b2 b3 : Bool) (w : World)
    (c0 : w.cell? ⟨B, 0, none⟩ = some (.slice a n cp)) (ha : a = some ⟨g, 0, none⟩) (h1 : ¬ (i : Int) < 0) (h2 : decide ((i : Int) < 0) = false) (h3 : ¬ (n : Int) ≤ (i : Int)) (h4 : decide ((n : Int) ≤ (i : Int)) = false) (h5 : decide (n ≤ i) = false) (h6 : ¬ n ≤ i) (h7 : i < n) (h8 : (i : Int) < (n : Int)) (c1 : w.cell? ⟨g, i, none⟩ = some (.pointer (some ⟨b, 0, none⟩))) (t0 : w.cell? ⟨b, 0, none⟩ = some (.int .i64 s0)) (t1 : w.cell? ⟨b, 1, none⟩ = some (.bool true)) (t2 : w.cell? ⟨b, 2, none⟩ = some (.bool b2)) (t4 : w.cell? ⟨b, 4, none⟩ = some (.bool false)) (k2 : ¬ k = 2) (k2b : (k == 2) = false) (k2d : decide (k = 2) = false) (k4 : ¬ k = 4) (k4b : (k == 4) = false) (k4d : decide (k = 4) = false) (l1 : s0 < s) (l2 : decide (s0 < s) = true) (m1 : s ≤ 1048575) (m2 : decide (s ≤ 1048575) = true) :
    Calls Try.prog 34 #[.pointer (some ⟨B, 0, none⟩), .agg #[.int .i64 k, .int .i64 z, .int .i64 (i : Int), .int .i64 s]] w fun e w' => e = .returned (.int .i64 0) ∧ Below w.heap.size w w' := by
  subst ha
  have hb : Below w.heap.size w (w.alloc (.cells #[.int .i64 k, .int .i64 z, .int .i64 (i : Int), .int .i64 s] 45)) := by go_grown
  have d0 := kc c0 hb
  have d1 := kc c1 hb
  have d2 := kc t0 hb
  have d3 := kc t1 hb
  have d4 := kc t2 hb
  have d5 := kc t4 hb
  go_enter Try.func34, Try.ntmps34
  repeat (first | (go_wp2_with fail; done) | (go_wp2_with fail; go_quiet (fail)) | go_quiet (fail))
  all_goals (try go_wp2_with fail)
  all_goals go_ret
  all_goals refine ⟨rfl, ?_⟩
  all_goals (repeat (first | exact hb | apply ghb | apply ghd))
end Go.Proofs.Ytgbeghaojkhiaaa.tr
