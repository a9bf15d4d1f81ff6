/- The team of a schedule, and whose pick the i-th one of a round is (layer 36). -/
import Derived.Test.YtfigabjcmpakeabPickA
namespace Go.Proofs.Ytfigabjcmpakeab
open Go.ChangeShapes Go.WideShapes Go.ChangeAt Go.RowKit
set_option linter.unusedVariables false
set_option linter.unusedSimpArgs false
theorem held_of (n m1 v : Int) (w : World) (h1 : (if n < 1 then (1 : Int) else n) = m1) (h2 : (if 64 < m1 then (64 : Int) else m1) = v) : Calls Try.prog 82 #[.int .i64 n] w fun e w' => e = .returned (.int .i64 v) ∧ w = w' := by
  go_enter Try.func82, Try.ntmps82
  go_wp2
  go_ret
  exact ⟨rfl, rfl⟩
theorem round_one (i wk v r : Int) (A C : Nat) (w : World) (hA : w.cell? ⟨A, 0, none⟩ = some (.int .i64 wk)) (hC : w.cell? ⟨C, 0, none⟩ = some (.int .i64 v)) (hw : 1 ≤ wk) (hr : i.tmod wk = r) :
    Calls Try.prog 84 #[.int .i64 i, .pointer (some ⟨A, 0, none⟩), .pointer (some ⟨C, 0, none⟩)] w fun e w' => e = .returned (.agg #[.int .i64 r, .int .i64 v]) ∧ Below w.heap.size w w' := by
  have hd0 : (wk == 0) = false := by simp; omega
  have hd1 : ¬ wk = 0 := by omega
  have la := World.block_lt_of_cell? w _ hA
  have lc := World.block_lt_of_cell? w _ hC
  go_enter Try.func84, Try.ntmps84
  go_wp2_with fail
  obtain ⟨W, hW⟩ : ∃ W, W = w.alloc (Obj.cells #[Value.int .i64 0, .int .i64 0] 90) := ⟨_, rfl⟩
  have hb : Below w.heap.size w W := by rw [hW]; go_grown
  have hWh : W.heap[w.heap.size]? = some (.cells #[Value.int .i64 0, .int .i64 0] 90 (0, 0)) := by rw [hW]; show (w.heap.push _)[w.heap.size]? = _; simp
  have f0 : W.frozen? ⟨w.heap.size, 0, none⟩ = false := by simp [World.frozen?, hWh]
  have f1 : W.frozen? ⟨w.heap.size, 1, none⟩ = false := by simp [World.frozen?, hWh]
  have g0 : W.cell? ⟨w.heap.size, 0, none⟩ = some (.int .i64 0) := by simp [World.cell?, hWh]
  have g1 : W.cell? ⟨w.heap.size, 1, none⟩ = some (.int .i64 0) := by simp [World.cell?, hWh]
  have cA : W.cell? ⟨A, 0, none⟩ = some (.int .i64 wk) := (hb.cell (p := ⟨A, 0, none⟩) la).trans hA
  have cC : W.cell? ⟨C, 0, none⟩ = some (.int .i64 v) := (hb.cell (p := ⟨C, 0, none⟩) lc).trans hC
  rw [← hW]
  clear hW hA hC
  go_region
  go_wp2_with fail
  have hsz : w.heap.size < W.heap.size := World.block_lt_of_cell? W _ g0
  refine bodyPost_ret (v := .agg #[.int .i64 r, .int .i64 v]) ?_ rfl ⟨rfl, ((hb.setCell (Nat.le_refl _) _).setCell (Nat.le_refl _) _).trans ⟨rfl, rfl, rfl, Nat.le_refl _, fun _ _ => rfl⟩⟩
  simp [results, Try.results84, go_sem, hWh, g0, g1]
end Go.Proofs.Ytfigabjcmpakeab
