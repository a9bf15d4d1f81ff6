/- The contracts of layer 8's Do, and of the reference's: what an instruction does, an operation each (part effect). -/
import Derived.Test.YtpcpohbbmeonbaaStep
import Derived.Test.YtpcpohbbmeonbaaDo01
import Derived.Test.YtpcpohbbmeonbaaAt8
import Derived.Deep.Cut
import Derived.RegionTactic
import Derived.Deep.RegionHeld3
import Derived.Outline
namespace Go.Proofs.Ytpcpohbbmeonbaa.step
open Go.ChangeShapes Go.WideShapes Go.ChangeAt Go.RowKit
open Go.Proofs.Ytpcpohbbmeonbaa.ref01
attribute [local go_sem ↓] Go.wp_at_zero Go.wp_at_succ
set_option linter.unusedVariables false
set_option linter.unusedSimpArgs false
def effF (op A g a b c : Int) : List Int :=
  if op = 0 then [12, 0, 0, 0, 0] else if op = 13 then [1, b, 0, 0, g] else if op = 14 then [2, a, b, 0, 0] else if op = 15 then [3, b, c, 0, g] else if op = 16 then [4, b, a, c, g] else if op = 17 then [5, 0, a, 0, 0] else if op = 20 then [6, 0, A, 0, 0] else if op = 21 then [7, 0, 0, 0, 0] else if op = 22 then [8, 0, A, 0, 0] else if op = 23 then [9, 0, a, 0, 0] else if op = 24 then [10, 0, a, 0, 0] else if op = 25 then [11, 0, 0, 0, 0] else [0, 0, 0, 0, 0]
theorem eff_0 (A B C g a b c : Int) (w : World) : Calls Try.prog 51 #[.agg #[.int .i64 0, .int .i64 A, .int .i64 B, .int .i64 C], .int .i64 g, .int .i64 a, .int .i64 b, .int .i64 c] w fun e w' => e = .returned (.agg #[.int .i64 12, .int .i64 0, .int .i64 0, .int .i64 0, .int .i64 0]) ∧ Below w.heap.size w w' := by
  go_enter Try.func51, Try.ntmps51
  go_wp2_with fail
  exact bodyPost_ret (v := .agg #[.int .i64 12, .int .i64 0, .int .i64 0, .int .i64 0, .int .i64 0]) (by simp [results, Try.results51, go_sem]) rfl ⟨rfl, by go_grown⟩
theorem eff_13 (A B C g a b c : Int) (w : World) : Calls Try.prog 51 #[.agg #[.int .i64 13, .int .i64 A, .int .i64 B, .int .i64 C], .int .i64 g, .int .i64 a, .int .i64 b, .int .i64 c] w fun e w' => e = .returned (.agg #[.int .i64 1, .int .i64 b, .int .i64 0, .int .i64 0, .int .i64 g]) ∧ Below w.heap.size w w' := by
  go_enter Try.func51, Try.ntmps51
  go_wp2_with fail
  exact bodyPost_ret (v := .agg #[.int .i64 1, .int .i64 b, .int .i64 0, .int .i64 0, .int .i64 g]) (by simp [results, Try.results51, go_sem]) rfl ⟨rfl, by go_grown⟩
theorem eff_14 (A B C g a b c : Int) (w : World) : Calls Try.prog 51 #[.agg #[.int .i64 14, .int .i64 A, .int .i64 B, .int .i64 C], .int .i64 g, .int .i64 a, .int .i64 b, .int .i64 c] w fun e w' => e = .returned (.agg #[.int .i64 2, .int .i64 a, .int .i64 b, .int .i64 0, .int .i64 0]) ∧ Below w.heap.size w w' := by
  go_enter Try.func51, Try.ntmps51
  go_wp2_with fail
  exact bodyPost_ret (v := .agg #[.int .i64 2, .int .i64 a, .int .i64 b, .int .i64 0, .int .i64 0]) (by simp [results, Try.results51, go_sem]) rfl ⟨rfl, by go_grown⟩
theorem eff_15 (A B C g a b c : Int) (w : World) : Calls Try.prog 51 #[.agg #[.int .i64 15, .int .i64 A, .int .i64 B, .int .i64 C], .int .i64 g, .int .i64 a, .int .i64 b, .int .i64 c] w fun e w' => e = .returned (.agg #[.int .i64 3, .int .i64 b, .int .i64 c, .int .i64 0, .int .i64 g]) ∧ Below w.heap.size w w' := by
  go_enter Try.func51, Try.ntmps51
  go_wp2_with fail
  exact bodyPost_ret (v := .agg #[.int .i64 3, .int .i64 b, .int .i64 c, .int .i64 0, .int .i64 g]) (by simp [results, Try.results51, go_sem]) rfl ⟨rfl, by go_grown⟩
theorem eff_16 (A B C g a b c : Int) (w : World) : Calls Try.prog 51 #[.agg #[.int .i64 16, .int .i64 A, .int .i64 B, .int .i64 C], .int .i64 g, .int .i64 a, .int .i64 b, .int .i64 c] w fun e w' => e = .returned (.agg #[.int .i64 4, .int .i64 b, .int .i64 a, .int .i64 c, .int .i64 g]) ∧ Below w.heap.size w w' := by
  go_enter Try.func51, Try.ntmps51
  go_wp2_with fail
  exact bodyPost_ret (v := .agg #[.int .i64 4, .int .i64 b, .int .i64 a, .int .i64 c, .int .i64 g]) (by simp [results, Try.results51, go_sem]) rfl ⟨rfl, by go_grown⟩
theorem eff_17 (A B C g a b c : Int) (w : World) : Calls Try.prog 51 #[.agg #[.int .i64 17, .int .i64 A, .int .i64 B, .int .i64 C], .int .i64 g, .int .i64 a, .int .i64 b, .int .i64 c] w fun e w' => e = .returned (.agg #[.int .i64 5, .int .i64 0, .int .i64 a, .int .i64 0, .int .i64 0]) ∧ Below w.heap.size w w' := by
  go_enter Try.func51, Try.ntmps51
  go_wp2_with fail
  exact bodyPost_ret (v := .agg #[.int .i64 5, .int .i64 0, .int .i64 a, .int .i64 0, .int .i64 0]) (by simp [results, Try.results51, go_sem]) rfl ⟨rfl, by go_grown⟩
theorem eff_20 (A B C g a b c : Int) (w : World) : Calls Try.prog 51 #[.agg #[.int .i64 20, .int .i64 A, .int .i64 B, .int .i64 C], .int .i64 g, .int .i64 a, .int .i64 b, .int .i64 c] w fun e w' => e = .returned (.agg #[.int .i64 6, .int .i64 0, .int .i64 A, .int .i64 0, .int .i64 0]) ∧ Below w.heap.size w w' := by
  go_enter Try.func51, Try.ntmps51
  go_wp2_with fail
  exact bodyPost_ret (v := .agg #[.int .i64 6, .int .i64 0, .int .i64 A, .int .i64 0, .int .i64 0]) (by simp [results, Try.results51, go_sem]) rfl ⟨rfl, by go_grown⟩
theorem eff_21 (A B C g a b c : Int) (w : World) : Calls Try.prog 51 #[.agg #[.int .i64 21, .int .i64 A, .int .i64 B, .int .i64 C], .int .i64 g, .int .i64 a, .int .i64 b, .int .i64 c] w fun e w' => e = .returned (.agg #[.int .i64 7, .int .i64 0, .int .i64 0, .int .i64 0, .int .i64 0]) ∧ Below w.heap.size w w' := by
  go_enter Try.func51, Try.ntmps51
  go_wp2_with fail
  exact bodyPost_ret (v := .agg #[.int .i64 7, .int .i64 0, .int .i64 0, .int .i64 0, .int .i64 0]) (by simp [results, Try.results51, go_sem]) rfl ⟨rfl, by go_grown⟩
theorem eff_22 (A B C g a b c : Int) (w : World) : Calls Try.prog 51 #[.agg #[.int .i64 22, .int .i64 A, .int .i64 B, .int .i64 C], .int .i64 g, .int .i64 a, .int .i64 b, .int .i64 c] w fun e w' => e = .returned (.agg #[.int .i64 8, .int .i64 0, .int .i64 A, .int .i64 0, .int .i64 0]) ∧ Below w.heap.size w w' := by
  go_enter Try.func51, Try.ntmps51
  go_wp2_with fail
  exact bodyPost_ret (v := .agg #[.int .i64 8, .int .i64 0, .int .i64 A, .int .i64 0, .int .i64 0]) (by simp [results, Try.results51, go_sem]) rfl ⟨rfl, by go_grown⟩
theorem eff_23 (A B C g a b c : Int) (w : World) : Calls Try.prog 51 #[.agg #[.int .i64 23, .int .i64 A, .int .i64 B, .int .i64 C], .int .i64 g, .int .i64 a, .int .i64 b, .int .i64 c] w fun e w' => e = .returned (.agg #[.int .i64 9, .int .i64 0, .int .i64 a, .int .i64 0, .int .i64 0]) ∧ Below w.heap.size w w' := by
  go_enter Try.func51, Try.ntmps51
  go_wp2_with fail
  exact bodyPost_ret (v := .agg #[.int .i64 9, .int .i64 0, .int .i64 a, .int .i64 0, .int .i64 0]) (by simp [results, Try.results51, go_sem]) rfl ⟨rfl, by go_grown⟩
theorem eff_24 (A B C g a b c : Int) (w : World) : Calls Try.prog 51 #[.agg #[.int .i64 24, .int .i64 A, .int .i64 B, .int .i64 C], .int .i64 g, .int .i64 a, .int .i64 b, .int .i64 c] w fun e w' => e = .returned (.agg #[.int .i64 10, .int .i64 0, .int .i64 a, .int .i64 0, .int .i64 0]) ∧ Below w.heap.size w w' := by
  go_enter Try.func51, Try.ntmps51
  go_wp2_with fail
  exact bodyPost_ret (v := .agg #[.int .i64 10, .int .i64 0, .int .i64 a, .int .i64 0, .int .i64 0]) (by simp [results, Try.results51, go_sem]) rfl ⟨rfl, by go_grown⟩
theorem eff_25 (A B C g a b c : Int) (w : World) : Calls Try.prog 51 #[.agg #[.int .i64 25, .int .i64 A, .int .i64 B, .int .i64 C], .int .i64 g, .int .i64 a, .int .i64 b, .int .i64 c] w fun e w' => e = .returned (.agg #[.int .i64 11, .int .i64 0, .int .i64 0, .int .i64 0, .int .i64 0]) ∧ Below w.heap.size w w' := by
  go_enter Try.func51, Try.ntmps51
  go_wp2_with fail
  exact bodyPost_ret (v := .agg #[.int .i64 11, .int .i64 0, .int .i64 0, .int .i64 0, .int .i64 0]) (by simp [results, Try.results51, go_sem]) rfl ⟨rfl, by go_grown⟩
theorem eff_other (op A B C g a b c : Int) (w : World) (h0 : ¬ op = 0) (h13 : ¬ op = 13) (h14 : ¬ op = 14) (h15 : ¬ op = 15) (h16 : ¬ op = 16) (h17 : ¬ op = 17) (h20 : ¬ op = 20) (h21 : ¬ op = 21) (h22 : ¬ op = 22) (h23 : ¬ op = 23) (h24 : ¬ op = 24) (h25 : ¬ op = 25) : Calls Try.prog 51 #[.agg #[.int .i64 op, .int .i64 A, .int .i64 B, .int .i64 C], .int .i64 g, .int .i64 a, .int .i64 b, .int .i64 c] w fun e w' => e = .returned (.agg #[.int .i64 0, .int .i64 0, .int .i64 0, .int .i64 0, .int .i64 0]) ∧ Below w.heap.size w w' := by
  have e0 : (op == 0) = false := by simpa using h0
  have e13 : (op == 13) = false := by simpa using h13
  have e14 : (op == 14) = false := by simpa using h14
  have e15 : (op == 15) = false := by simpa using h15
  have e16 : (op == 16) = false := by simpa using h16
  have e17 : (op == 17) = false := by simpa using h17
  have e20 : (op == 20) = false := by simpa using h20
  have e21 : (op == 21) = false := by simpa using h21
  have e22 : (op == 22) = false := by simpa using h22
  have e23 : (op == 23) = false := by simpa using h23
  have e24 : (op == 24) = false := by simpa using h24
  have e25 : (op == 25) = false := by simpa using h25
  clear h0 h13 h14 h15 h16 h17 h20 h21 h22 h23 h24 h25
  go_enter Try.func51, Try.ntmps51
  go_wp2_with fail
  exact bodyPost_ret (v := .agg #[.int .i64 0, .int .i64 0, .int .i64 0, .int .i64 0, .int .i64 0]) (by simp [results, Try.results51, go_sem]) rfl ⟨rfl, by go_grown⟩
theorem effect_v (op A B C g a b c e0 e1 e2 e3 e4 : Int) (w : World) (h : Hid (effF op A g a b c = [e0, e1, e2, e3, e4])) : Calls Try.prog 51 #[.agg #[.int .i64 op, .int .i64 A, .int .i64 B, .int .i64 C], .int .i64 g, .int .i64 a, .int .i64 b, .int .i64 c] w fun e w' => e = .returned (.agg #[.int .i64 e0, .int .i64 e1, .int .i64 e2, .int .i64 e3, .int .i64 e4]) ∧ Below w.heap.size w w' := by
  have h := h.out
  unfold effF at h
  by_cases h0 : op = 0
  · subst h0
    simp at h
    obtain ⟨rfl, rfl, rfl, rfl, rfl⟩ := h
    exact eff_0 A B C g a b c w
  by_cases h13 : op = 13
  · subst h13
    simp at h
    obtain ⟨rfl, rfl, rfl, rfl, rfl⟩ := h
    exact eff_13 A B C g a b c w
  by_cases h14 : op = 14
  · subst h14
    simp at h
    obtain ⟨rfl, rfl, rfl, rfl, rfl⟩ := h
    exact eff_14 A B C g a b c w
  by_cases h15 : op = 15
  · subst h15
    simp at h
    obtain ⟨rfl, rfl, rfl, rfl, rfl⟩ := h
    exact eff_15 A B C g a b c w
  by_cases h16 : op = 16
  · subst h16
    simp at h
    obtain ⟨rfl, rfl, rfl, rfl, rfl⟩ := h
    exact eff_16 A B C g a b c w
  by_cases h17 : op = 17
  · subst h17
    simp at h
    obtain ⟨rfl, rfl, rfl, rfl, rfl⟩ := h
    exact eff_17 A B C g a b c w
  by_cases h20 : op = 20
  · subst h20
    simp at h
    obtain ⟨rfl, rfl, rfl, rfl, rfl⟩ := h
    exact eff_20 A B C g a b c w
  by_cases h21 : op = 21
  · subst h21
    simp at h
    obtain ⟨rfl, rfl, rfl, rfl, rfl⟩ := h
    exact eff_21 A B C g a b c w
  by_cases h22 : op = 22
  · subst h22
    simp at h
    obtain ⟨rfl, rfl, rfl, rfl, rfl⟩ := h
    exact eff_22 A B C g a b c w
  by_cases h23 : op = 23
  · subst h23
    simp at h
    obtain ⟨rfl, rfl, rfl, rfl, rfl⟩ := h
    exact eff_23 A B C g a b c w
  by_cases h24 : op = 24
  · subst h24
    simp at h
    obtain ⟨rfl, rfl, rfl, rfl, rfl⟩ := h
    exact eff_24 A B C g a b c w
  by_cases h25 : op = 25
  · subst h25
    simp at h
    obtain ⟨rfl, rfl, rfl, rfl, rfl⟩ := h
    exact eff_25 A B C g a b c w
  rw [if_neg h0, if_neg h13, if_neg h14, if_neg h15, if_neg h16, if_neg h17, if_neg h20, if_neg h21, if_neg h22, if_neg h23, if_neg h24, if_neg h25] at h
  simp at h
  obtain ⟨rfl, rfl, rfl, rfl, rfl⟩ := h
  exact eff_other op A B C g a b c w h0 h13 h14 h15 h16 h17 h20 h21 h22 h23 h24 h25
theorem known_b (op : Int) (b : Bool) (w : World) (h : Hid ((decide (3 ≤ op) && decide (op ≤ 12)) = b)) : Calls Try.prog 49 #[.int .i64 op] w fun e w' => e = .returned (.bool b) ∧ w = w' := by
  rw [← h.out]; exact known_v op w
theorem keepc {W W' : World} {B j : Nat} {v : Value} (h : W.cell? ⟨B, j, none⟩ = some v) (hb : Below W.heap.size W W') : W'.cell? ⟨B, j, none⟩ = some v :=
  (hb.cell (p := ⟨B, j, none⟩) (World.block_lt_of_cell? W _ h)).trans h
theorem keepf {W W' : World} {B j : Nat} {v : Bool} (h : W.frozen? ⟨B, j, none⟩ = v) (hB : B < W.heap.size) (hb : Below W.heap.size W W') : W'.frozen? ⟨B, j, none⟩ = v :=
  (hb.frozen (p := ⟨B, j, none⟩) hB).trans h
theorem keepS {W W' : World} {X Rr a b c : Nat} {v0 v1 v2 v3 v4 v5 v6 v7 v8 v9 v10 v11 v12 v13 v14 : Value} (h : W.cell? ⟨X, 0, none⟩ = some (v0) ∧ W.cell? ⟨X, 1, none⟩ = some (v1) ∧ W.cell? ⟨X, 2, none⟩ = some (v2) ∧ W.cell? ⟨X, 3, none⟩ = some (v3) ∧ W.cell? ⟨Rr, 0, none⟩ = some (v4) ∧ W.cell? ⟨Rr, 1, none⟩ = some (v5) ∧ W.cell? ⟨Rr, 2, none⟩ = some (v6) ∧ W.cell? ⟨Rr, 3, none⟩ = some (v7) ∧ W.cell? ⟨Rr, 4, none⟩ = some (v8) ∧ W.cell? ⟨Rr, 5, none⟩ = some (v9) ∧ W.cell? ⟨Rr, 6, none⟩ = some (v10) ∧ W.cell? ⟨Rr, 7, none⟩ = some (v11) ∧ W.cell? ⟨Rr, a, none⟩ = some (v12) ∧ W.cell? ⟨Rr, b, none⟩ = some (v13) ∧ W.cell? ⟨Rr, c, none⟩ = some (v14)) (hb : Below W.heap.size W W') : W'.cell? ⟨X, 0, none⟩ = some (v0) ∧ W'.cell? ⟨X, 1, none⟩ = some (v1) ∧ W'.cell? ⟨X, 2, none⟩ = some (v2) ∧ W'.cell? ⟨X, 3, none⟩ = some (v3) ∧ W'.cell? ⟨Rr, 0, none⟩ = some (v4) ∧ W'.cell? ⟨Rr, 1, none⟩ = some (v5) ∧ W'.cell? ⟨Rr, 2, none⟩ = some (v6) ∧ W'.cell? ⟨Rr, 3, none⟩ = some (v7) ∧ W'.cell? ⟨Rr, 4, none⟩ = some (v8) ∧ W'.cell? ⟨Rr, 5, none⟩ = some (v9) ∧ W'.cell? ⟨Rr, 6, none⟩ = some (v10) ∧ W'.cell? ⟨Rr, 7, none⟩ = some (v11) ∧ W'.cell? ⟨Rr, a, none⟩ = some (v12) ∧ W'.cell? ⟨Rr, b, none⟩ = some (v13) ∧ W'.cell? ⟨Rr, c, none⟩ = some (v14) :=
  ⟨keepc h.1 hb, keepc h.2.1 hb, keepc h.2.2.1 hb, keepc h.2.2.2.1 hb, keepc h.2.2.2.2.1 hb, keepc h.2.2.2.2.2.1 hb, keepc h.2.2.2.2.2.2.1 hb, keepc h.2.2.2.2.2.2.2.1 hb, keepc h.2.2.2.2.2.2.2.2.1 hb, keepc h.2.2.2.2.2.2.2.2.2.1 hb, keepc h.2.2.2.2.2.2.2.2.2.2.1 hb, keepc h.2.2.2.2.2.2.2.2.2.2.2.1 hb, keepc h.2.2.2.2.2.2.2.2.2.2.2.2.1 hb, keepc h.2.2.2.2.2.2.2.2.2.2.2.2.2.1 hb, keepc h.2.2.2.2.2.2.2.2.2.2.2.2.2.2 hb⟩
theorem keepT {W : World} {X Rr a b c Bk i : Nat} {v0 v1 v2 v3 v4 v5 v6 v7 v8 v9 v10 v11 v12 v13 v14 x : Value} (h : W.cell? ⟨X, 0, none⟩ = some (v0) ∧ W.cell? ⟨X, 1, none⟩ = some (v1) ∧ W.cell? ⟨X, 2, none⟩ = some (v2) ∧ W.cell? ⟨X, 3, none⟩ = some (v3) ∧ W.cell? ⟨Rr, 0, none⟩ = some (v4) ∧ W.cell? ⟨Rr, 1, none⟩ = some (v5) ∧ W.cell? ⟨Rr, 2, none⟩ = some (v6) ∧ W.cell? ⟨Rr, 3, none⟩ = some (v7) ∧ W.cell? ⟨Rr, 4, none⟩ = some (v8) ∧ W.cell? ⟨Rr, 5, none⟩ = some (v9) ∧ W.cell? ⟨Rr, 6, none⟩ = some (v10) ∧ W.cell? ⟨Rr, 7, none⟩ = some (v11) ∧ W.cell? ⟨Rr, a, none⟩ = some (v12) ∧ W.cell? ⟨Rr, b, none⟩ = some (v13) ∧ W.cell? ⟨Rr, c, none⟩ = some (v14)) (h1 : Bk ≠ X) (h2 : Bk ≠ Rr) : (W.setCell ⟨Bk, i, none⟩ x).cell? ⟨X, 0, none⟩ = some (v0) ∧ (W.setCell ⟨Bk, i, none⟩ x).cell? ⟨X, 1, none⟩ = some (v1) ∧ (W.setCell ⟨Bk, i, none⟩ x).cell? ⟨X, 2, none⟩ = some (v2) ∧ (W.setCell ⟨Bk, i, none⟩ x).cell? ⟨X, 3, none⟩ = some (v3) ∧ (W.setCell ⟨Bk, i, none⟩ x).cell? ⟨Rr, 0, none⟩ = some (v4) ∧ (W.setCell ⟨Bk, i, none⟩ x).cell? ⟨Rr, 1, none⟩ = some (v5) ∧ (W.setCell ⟨Bk, i, none⟩ x).cell? ⟨Rr, 2, none⟩ = some (v6) ∧ (W.setCell ⟨Bk, i, none⟩ x).cell? ⟨Rr, 3, none⟩ = some (v7) ∧ (W.setCell ⟨Bk, i, none⟩ x).cell? ⟨Rr, 4, none⟩ = some (v8) ∧ (W.setCell ⟨Bk, i, none⟩ x).cell? ⟨Rr, 5, none⟩ = some (v9) ∧ (W.setCell ⟨Bk, i, none⟩ x).cell? ⟨Rr, 6, none⟩ = some (v10) ∧ (W.setCell ⟨Bk, i, none⟩ x).cell? ⟨Rr, 7, none⟩ = some (v11) ∧ (W.setCell ⟨Bk, i, none⟩ x).cell? ⟨Rr, a, none⟩ = some (v12) ∧ (W.setCell ⟨Bk, i, none⟩ x).cell? ⟨Rr, b, none⟩ = some (v13) ∧ (W.setCell ⟨Bk, i, none⟩ x).cell? ⟨Rr, c, none⟩ = some (v14) :=
  have far : ∀ {B j : Nat} {v : Value}, W.cell? ⟨B, j, none⟩ = some v → Bk ≠ B → (W.setCell ⟨Bk, i, none⟩ x).cell? ⟨B, j, none⟩ = some v := fun h hne => (World.cell?_setCell_other _ _ _ _ (by intro h; injection h with h1 h2; exact hne h1)).trans h
  ⟨far h.1 h1, far h.2.1 h1, far h.2.2.1 h1, far h.2.2.2.1 h1, far h.2.2.2.2.1 h2, far h.2.2.2.2.2.1 h2, far h.2.2.2.2.2.2.1 h2, far h.2.2.2.2.2.2.2.1 h2, far h.2.2.2.2.2.2.2.2.1 h2, far h.2.2.2.2.2.2.2.2.2.1 h2, far h.2.2.2.2.2.2.2.2.2.2.1 h2, far h.2.2.2.2.2.2.2.2.2.2.2.1 h2, far h.2.2.2.2.2.2.2.2.2.2.2.2.1 h2, far h.2.2.2.2.2.2.2.2.2.2.2.2.2.1 h2, far h.2.2.2.2.2.2.2.2.2.2.2.2.2.2 h2⟩
theorem eightc {W : World} {B : Nat} {r : Nat → Int} (h0 : W.cell? ⟨B, 0, none⟩ = some (.int .i64 (r 0))) (h1 : W.cell? ⟨B, 1, none⟩ = some (.int .i64 (r 1))) (h2 : W.cell? ⟨B, 2, none⟩ = some (.int .i64 (r 2))) (h3 : W.cell? ⟨B, 3, none⟩ = some (.int .i64 (r 3))) (h4 : W.cell? ⟨B, 4, none⟩ = some (.int .i64 (r 4))) (h5 : W.cell? ⟨B, 5, none⟩ = some (.int .i64 (r 5))) (h6 : W.cell? ⟨B, 6, none⟩ = some (.int .i64 (r 6))) (h7 : W.cell? ⟨B, 7, none⟩ = some (.int .i64 (r 7))) : ∀ i, i < 8 → W.cell? ⟨B, i, none⟩ = some (.int .i64 (r i)) := by
  intro i hi
  match i, hi with
  | 0, _ => exact h0
  | 1, _ => exact h1
  | 2, _ => exact h2
  | 3, _ => exact h3
  | 4, _ => exact h4
  | 5, _ => exact h5
  | 6, _ => exact h6
  | 7, _ => exact h7
end Go.Proofs.Ytpcpohbbmeonbaa.step
