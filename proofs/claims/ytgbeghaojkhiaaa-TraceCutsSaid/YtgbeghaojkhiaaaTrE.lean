/- An event has happened to a loop (layer 34). -/
import Derived.Test.YtgbeghaojkhiaaaTrD
import Derived.Deep.RegionHeld3
namespace Go.Proofs.Ytgbeghaojkhiaaa.tr
open Go.ChangeShapes Go.WideShapes Go.ChangeAt Go.RowKit Go.Maps
open Go.Proofs.Ytgbeghaojkhiaaa.ro
set_option linter.unusedVariables false
set_option linter.unusedSimpArgs false
attribute [local go_sem ↓] Go.wp_at_zero Go.wp_at_succ
attribute [local go_sem] Oper.semAt_some
theorem infoPt : (Try.prog.info? 87).map (fun i => (i.zero, i.size, i.bytes)) = some (some (.pointer none), 1, 8) := by kernel_rfl
set_option maxRecDepth 20000 in
set_option maxHeartbeats 1000000 in
theorem tk_5 (B n cp fin : Nat) (a : Option Addr) (z : Int) (s : Int) (en : Bool) (i : Int) (w : World)
    (oB : w.heap[B]? = some (.cells #[.slice a n cp, .int .i64 (fin : Int), .bool en] 57 (0, 0)))  :
    Calls Try.prog 23 #[.pointer (some ⟨B, 0, none⟩), .agg #[.int .i64 5, .int .i64 z, .int .i64 i, .int .i64 s]] w fun e w' => e = .returned (.tuple #[]) ∧ w' = ((w.alloc (.cells #[.int .i64 5, .int .i64 z, .int .i64 i, .int .i64 s] 45))).setCell ⟨B, 2, none⟩ (.bool true) := by
  have c0 : w.cell? ⟨B, 0, none⟩ = some (.slice a n cp) := cel oB 0
  have c1 : w.cell? ⟨B, 1, none⟩ = some (.int .i64 (fin : Int)) := cel oB 1
  have c2 : w.cell? ⟨B, 2, none⟩ = some (.bool en) := cel oB 2
  have f0 := frz oB 0
  have f1 := frz oB 1
  have f2 := frz oB 2
  have hb : Below w.heap.size w (w.alloc (.cells #[.int .i64 5, .int .i64 z, .int .i64 i, .int .i64 s] 45)) := by go_grown
  have d0 := kc c0 hb
  have d1 := kc c1 hb
  have d2 := kc c2 hb
  have oB' := (hb.block B (lt_of oB)).trans oB
  have x1 := frz oB' 1
  have x2 := frz oB' 2
  go_enter Try.func23, Try.ntmps23
  repeat (first | (go_wp2_with fail; done) | (go_wp2_with fail; go_quiet (fail)) | go_quiet (fail))
  all_goals (try go_wp2_with fail)
  all_goals (first | go_end0 | ((try simp only [Exit.inBlock, Exit.then]); refine bodyPost_ret (results_none rfl _ _ _) rfl ?_))
  all_goals exact ⟨rfl, rfl⟩
set_option maxRecDepth 20000 in
set_option maxHeartbeats 1000000 in
theorem tk_2 (B n cp fin : Nat) (a : Option Addr) (z : Int) (s : Int) (en : Bool) (i g b : Nat) (s0 : Int) (b1 b2 b3 b4 : Bool) (w : World)
    (oB : w.heap[B]? = some (.cells #[.slice a n cp, .int .i64 (fin : Int), .bool en] 57 (0, 0))) (ha : a = some ⟨g, 0, none⟩) (h6 : i < n) (h8 : (i : Int) < (n : Int)) (e1 : w.cell? ⟨g, i, none⟩ = some (.pointer (some ⟨b, 0, none⟩))) (oT : w.heap[b]? = some (.cells #[.int .i64 s0, .bool b1, .bool b2, .bool b3, .bool b4] 86 (0, 0)))  :
    Calls Try.prog 23 #[.pointer (some ⟨B, 0, none⟩), .agg #[.int .i64 2, .int .i64 z, .int .i64 (i : Int), .int .i64 s]] w fun e w' => e = .returned (.tuple #[]) ∧ ∃ q, w' = ((w.alloc (.cells #[.int .i64 2, .int .i64 z, .int .i64 (i : Int), .int .i64 s] 45)).drewN q).setCell ⟨b, 1, none⟩ (.bool true) := by
  have c0 : w.cell? ⟨B, 0, none⟩ = some (.slice a n cp) := cel oB 0
  have c1 : w.cell? ⟨B, 1, none⟩ = some (.int .i64 (fin : Int)) := cel oB 1
  have c2 : w.cell? ⟨B, 2, none⟩ = some (.bool en) := cel oB 2
  have f0 := frz oB 0
  have f1 := frz oB 1
  have f2 := frz oB 2
  subst ha
  have t0 : w.cell? ⟨b, 0, none⟩ = some (.int .i64 s0) := cel oT 0
  have t1 : w.cell? ⟨b, 1, none⟩ = some (.bool b1) := cel oT 1
  have t2 : w.cell? ⟨b, 2, none⟩ = some (.bool b2) := cel oT 2
  have t3 : w.cell? ⟨b, 3, none⟩ = some (.bool b3) := cel oT 3
  have t4 : w.cell? ⟨b, 4, none⟩ = some (.bool b4) := cel oT 4
  have g0 := frz oT 0
  have g1 := frz oT 1
  have g2 := frz oT 2
  have g3 := frz oT 3
  have g4 := frz oT 4
  have hb : Below w.heap.size w (w.alloc (.cells #[.int .i64 2, .int .i64 z, .int .i64 (i : Int), .int .i64 s] 45)) := by go_grown
  have d0 := kc c0 hb
  have d1 := kc c1 hb
  have d2 := kc c2 hb
  have d3 := kc e1 hb
  have d4 := kc t0 hb
  have d5 := kc t1 hb
  have d6 := kc t2 hb
  have d7 := kc t3 hb
  have d8 := kc t4 hb
  have oB' := (hb.block B (lt_of oB)).trans oB
  have x1 := frz oB' 1
  have x2 := frz oB' 2
  have oT' := (hb.block b (lt_of oT)).trans oT
  have y0 := frz oT' 0
  have y1 := frz oT' 1
  have y2 := frz oT' 2
  have y3 := frz oT' 3
  have y4 := frz oT' 4
  clear oT' oB'
  go_enter Try.func23, Try.ntmps23
  repeat (first | (go_wp2_with fail; done) | (go_wp2_with fail; go_quiet (fail)) | go_quiet (fail))
  all_goals (try go_wp2_with fail)
  all_goals (first | go_end0 | ((try simp only [Exit.inBlock, Exit.then]); refine bodyPost_ret (results_none rfl _ _ _) rfl ?_))
  all_goals exact ⟨rfl, _, rfl⟩
set_option maxRecDepth 20000 in
set_option maxHeartbeats 1000000 in
theorem tk_4 (B n cp fin : Nat) (a : Option Addr) (z : Int) (s : Int) (en : Bool) (i g b : Nat) (s0 : Int) (b1 b2 b3 b4 : Bool) (w : World)
    (oB : w.heap[B]? = some (.cells #[.slice a n cp, .int .i64 (fin : Int), .bool en] 57 (0, 0))) (ha : a = some ⟨g, 0, none⟩) (h6 : i < n) (hbB : b ≠ B) (h8 : (i : Int) < (n : Int)) (e1 : w.cell? ⟨g, i, none⟩ = some (.pointer (some ⟨b, 0, none⟩))) (oT : w.heap[b]? = some (.cells #[.int .i64 s0, .bool b1, .bool b2, .bool b3, .bool b4] 86 (0, 0)))  :
    Calls Try.prog 23 #[.pointer (some ⟨B, 0, none⟩), .agg #[.int .i64 4, .int .i64 z, .int .i64 (i : Int), .int .i64 s]] w fun e w' => e = .returned (.tuple #[]) ∧ ∃ q, w' = ((((w.alloc (.cells #[.int .i64 4, .int .i64 z, .int .i64 (i : Int), .int .i64 s] 45)).drewN q).setCell ⟨b, 4, none⟩ (.bool true)).setCell ⟨b, 3, none⟩ (.bool true)).setCell ⟨B, 1, none⟩ (.int .i64 (wrap64 ((fin : Int) + 1))) := by
  have c0 : w.cell? ⟨B, 0, none⟩ = some (.slice a n cp) := cel oB 0
  have c1 : w.cell? ⟨B, 1, none⟩ = some (.int .i64 (fin : Int)) := cel oB 1
  have c2 : w.cell? ⟨B, 2, none⟩ = some (.bool en) := cel oB 2
  have f0 := frz oB 0
  have f1 := frz oB 1
  have f2 := frz oB 2
  subst ha
  have t0 : w.cell? ⟨b, 0, none⟩ = some (.int .i64 s0) := cel oT 0
  have t1 : w.cell? ⟨b, 1, none⟩ = some (.bool b1) := cel oT 1
  have t2 : w.cell? ⟨b, 2, none⟩ = some (.bool b2) := cel oT 2
  have t3 : w.cell? ⟨b, 3, none⟩ = some (.bool b3) := cel oT 3
  have t4 : w.cell? ⟨b, 4, none⟩ = some (.bool b4) := cel oT 4
  have g0 := frz oT 0
  have g1 := frz oT 1
  have g2 := frz oT 2
  have g3 := frz oT 3
  have g4 := frz oT 4
  have hb : Below w.heap.size w (w.alloc (.cells #[.int .i64 4, .int .i64 z, .int .i64 (i : Int), .int .i64 s] 45)) := by go_grown
  have d0 := kc c0 hb
  have d1 := kc c1 hb
  have d2 := kc c2 hb
  have d3 := kc e1 hb
  have d4 := kc t0 hb
  have d5 := kc t1 hb
  have d6 := kc t2 hb
  have d7 := kc t3 hb
  have d8 := kc t4 hb
  have oB' := (hb.block B (lt_of oB)).trans oB
  have x1 := frz oB' 1
  have x2 := frz oB' 2
  have oT' := (hb.block b (lt_of oT)).trans oT
  have y0 := frz oT' 0
  have y1 := frz oT' 1
  have y2 := frz oT' 2
  have y3 := frz oT' 3
  have y4 := frz oT' 4
  clear oT' oB'
  go_enter Try.func23, Try.ntmps23
  repeat (first | (go_wp2_with fail; done) | (go_wp2_with fail; go_quiet (fail)) | go_quiet (fail))
  all_goals (try go_wp2_with fail)
  all_goals (first | go_end0 | ((try simp only [Exit.inBlock, Exit.then]); refine bodyPost_ret (results_none rfl _ _ _) rfl ?_))
  all_goals exact ⟨rfl, _, rfl⟩
set_option maxRecDepth 20000 in
set_option maxHeartbeats 1000000 in
theorem tk_o (B n cp fin : Nat) (a : Option Addr) (z : Int) (k : Int) (s : Int) (en : Bool) (i g b : Nat) (s0 : Int) (b1 b2 b3 b4 : Bool) (w : World)
    (oB : w.heap[B]? = some (.cells #[.slice a n cp, .int .i64 (fin : Int), .bool en] 57 (0, 0))) (ha : a = some ⟨g, 0, none⟩) (h6 : i < n) (h8 : (i : Int) < (n : Int)) (e1 : w.cell? ⟨g, i, none⟩ = some (.pointer (some ⟨b, 0, none⟩))) (oT : w.heap[b]? = some (.cells #[.int .i64 s0, .bool b1, .bool b2, .bool b3, .bool b4] 86 (0, 0))) (k1 : ¬ k = 1) (k1b : (k == 1) = false) (k1d : decide (k = 1) = false) (k5 : ¬ k = 5) (k5b : (k == 5) = false) (k5d : decide (k = 5) = false) (k2 : ¬ k = 2) (k2b : (k == 2) = false) (k2d : decide (k = 2) = false) (k4 : ¬ k = 4) (k4b : (k == 4) = false) (k4d : decide (k = 4) = false) :
    Calls Try.prog 23 #[.pointer (some ⟨B, 0, none⟩), .agg #[.int .i64 k, .int .i64 z, .int .i64 (i : Int), .int .i64 s]] w fun e w' => e = .returned (.tuple #[]) ∧ ∃ q, w' = ((((((w.alloc (.cells #[.int .i64 k, .int .i64 z, .int .i64 (i : Int), .int .i64 s] 45)).drewN q).setCell ⟨b, 0, none⟩ (.int .i64 s)).setCell ⟨b, 1, none⟩ (.bool false)).setCell ⟨b, 2, none⟩ (.bool (k == 3))).setCell ⟨b, 3, none⟩ (.bool true)).setCell ⟨b, 4, none⟩ (.bool false) := by
  have c0 : w.cell? ⟨B, 0, none⟩ = some (.slice a n cp) := cel oB 0
  have c1 : w.cell? ⟨B, 1, none⟩ = some (.int .i64 (fin : Int)) := cel oB 1
  have c2 : w.cell? ⟨B, 2, none⟩ = some (.bool en) := cel oB 2
  have f0 := frz oB 0
  have f1 := frz oB 1
  have f2 := frz oB 2
  subst ha
  have t0 : w.cell? ⟨b, 0, none⟩ = some (.int .i64 s0) := cel oT 0
  have t1 : w.cell? ⟨b, 1, none⟩ = some (.bool b1) := cel oT 1
  have t2 : w.cell? ⟨b, 2, none⟩ = some (.bool b2) := cel oT 2
  have t3 : w.cell? ⟨b, 3, none⟩ = some (.bool b3) := cel oT 3
  have t4 : w.cell? ⟨b, 4, none⟩ = some (.bool b4) := cel oT 4
  have g0 := frz oT 0
  have g1 := frz oT 1
  have g2 := frz oT 2
  have g3 := frz oT 3
  have g4 := frz oT 4
  have hb : Below w.heap.size w (w.alloc (.cells #[.int .i64 k, .int .i64 z, .int .i64 (i : Int), .int .i64 s] 45)) := by go_grown
  have d0 := kc c0 hb
  have d1 := kc c1 hb
  have d2 := kc c2 hb
  have d3 := kc e1 hb
  have d4 := kc t0 hb
  have d5 := kc t1 hb
  have d6 := kc t2 hb
  have d7 := kc t3 hb
  have d8 := kc t4 hb
  have oB' := (hb.block B (lt_of oB)).trans oB
  have x1 := frz oB' 1
  have x2 := frz oB' 2
  have oT' := (hb.block b (lt_of oT)).trans oT
  have y0 := frz oT' 0
  have y1 := frz oT' 1
  have y2 := frz oT' 2
  have y3 := frz oT' 3
  have y4 := frz oT' 4
  clear oT' oB'
  go_enter Try.func23, Try.ntmps23
  repeat (first | (go_wp2_with fail; done) | (go_wp2_with fail; go_quiet (fail)) | go_quiet (fail))
  all_goals (try go_wp2_with fail)
  all_goals (first | go_end0 | ((try simp only [Exit.inBlock, Exit.then]); refine bodyPost_ret (results_none rfl _ _ _) rfl ?_))
  all_goals exact ⟨rfl, _, rfl⟩
end Go.Proofs.Ytgbeghaojkhiaaa.tr
