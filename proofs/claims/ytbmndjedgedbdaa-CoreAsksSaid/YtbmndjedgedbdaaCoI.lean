/- What a core is asked (layer 25). -/
import Derived.Test.YtbmndjedgedbdaaCoD
namespace Go.Proofs.Ytbmndjedgedbdaa.co
open Go.ChangeShapes Go.WideShapes Go.ChangeAt Go.RowKit
open Go.Proofs.Ytbmndjedgedbdaa.pr
attribute [local go_sem ↓] Go.wp_at_zero Go.wp_at_succ
attribute [local go_sem] Oper.semAt_some
set_option linter.unusedVariables false
set_option linter.unusedSimpArgs false
/-- a core in memory. -/
def CO (w : World) (C : Nat) (a b c d o : Int) (f l : Bool) (fv wv dv tv ov lv sv : Value) (se st wy : Int) : Prop :=
  w.heap[C]? = some (.cells (ccs a b c d o f l fv wv dv tv ov lv sv se st wy) 89 (0, 0))
section
variable {w : World} {C : Nat} {a b c d o : Int} {f l : Bool} {fv wv dv tv ov lv sv : Value} {se st wy : Int}
theorem words_v (h : CO w C a b c d o f l fv wv dv tv ov lv sv se st wy) {x : Nat} (hx : wv = pt x) : Calls Try.prog 13 #[.pointer (some ⟨C, 0, none⟩)] w fun e w' => e = .returned (.pointer (some ⟨x, 0, none⟩)) ∧ w' = w := by
  have c0 : w.cell? ⟨C, 8, none⟩ = some wv := ro.cel h 8
  rw [hx] at c0
  unfold pt at c0
  clear h
  go_enter Try.func13, Try.ntmps13
  go_wp2_with fail
  go_ret
  exact ⟨rfl, rfl⟩
theorem words_nil : Calls Try.prog 13 #[.pointer none] w fun e w' => e = .returned (.pointer none) ∧ w' = w := by
  go_enter Try.func13, Try.ntmps13
  go_wp2_with fail
  go_ret
  exact ⟨rfl, rfl⟩
theorem data_v (h : CO w C a b c d o f l fv wv dv tv ov lv sv se st wy) {x : Nat} (hx : dv = pt x) : Calls Try.prog 22 #[.pointer (some ⟨C, 0, none⟩)] w fun e w' => e = .returned (.pointer (some ⟨x, 0, none⟩)) ∧ w' = w := by
  have c0 : w.cell? ⟨C, 9, none⟩ = some dv := ro.cel h 9
  rw [hx] at c0
  unfold pt at c0
  clear h
  go_enter Try.func22, Try.ntmps22
  go_wp2_with fail
  go_ret
  exact ⟨rfl, rfl⟩
theorem data_nil : Calls Try.prog 22 #[.pointer none] w fun e w' => e = .returned (.pointer none) ∧ w' = w := by
  go_enter Try.func22, Try.ntmps22
  go_wp2_with fail
  go_ret
  exact ⟨rfl, rfl⟩
theorem frames_v (h : CO w C a b c d o f l fv wv dv tv ov lv sv se st wy) {x : Nat} (hx : tv = pt x) : Calls Try.prog 17 #[.pointer (some ⟨C, 0, none⟩)] w fun e w' => e = .returned (.pointer (some ⟨x, 0, none⟩)) ∧ w' = w := by
  have c0 : w.cell? ⟨C, 10, none⟩ = some tv := ro.cel h 10
  rw [hx] at c0
  unfold pt at c0
  clear h
  go_enter Try.func17, Try.ntmps17
  go_wp2_with fail
  go_ret
  exact ⟨rfl, rfl⟩
theorem frames_nil : Calls Try.prog 17 #[.pointer none] w fun e w' => e = .returned (.pointer none) ∧ w' = w := by
  go_enter Try.func17, Try.ntmps17
  go_wp2_with fail
  go_ret
  exact ⟨rfl, rfl⟩
theorem out_v (h : CO w C a b c d o f l fv wv dv tv ov lv sv se st wy) {x : Nat} (hx : ov = pt x) : Calls Try.prog 24 #[.pointer (some ⟨C, 0, none⟩)] w fun e w' => e = .returned (.pointer (some ⟨x, 0, none⟩)) ∧ w' = w := by
  have c0 : w.cell? ⟨C, 11, none⟩ = some ov := ro.cel h 11
  rw [hx] at c0
  unfold pt at c0
  clear h
  go_enter Try.func24, Try.ntmps24
  go_wp2_with fail
  go_ret
  exact ⟨rfl, rfl⟩
theorem out_nil : Calls Try.prog 24 #[.pointer none] w fun e w' => e = .returned (.pointer none) ∧ w' = w := by
  go_enter Try.func24, Try.ntmps24
  go_wp2_with fail
  go_ret
  exact ⟨rfl, rfl⟩
theorem log_v (h : CO w C a b c d o f l fv wv dv tv ov lv sv se st wy) {x : Nat} (hx : lv = pt x) : Calls Try.prog 26 #[.pointer (some ⟨C, 0, none⟩)] w fun e w' => e = .returned (.pointer (some ⟨x, 0, none⟩)) ∧ w' = w := by
  have c0 : w.cell? ⟨C, 12, none⟩ = some lv := ro.cel h 12
  rw [hx] at c0
  unfold pt at c0
  clear h
  go_enter Try.func26, Try.ntmps26
  go_wp2_with fail
  go_ret
  exact ⟨rfl, rfl⟩
theorem log_nil : Calls Try.prog 26 #[.pointer none] w fun e w' => e = .returned (.pointer none) ∧ w' = w := by
  go_enter Try.func26, Try.ntmps26
  go_wp2_with fail
  go_ret
  exact ⟨rfl, rfl⟩
theorem stats_v (h : CO w C a b c d o f l fv wv dv tv ov lv sv se st wy) {x : Nat} (hx : sv = pt x) : Calls Try.prog 28 #[.pointer (some ⟨C, 0, none⟩)] w fun e w' => e = .returned (.pointer (some ⟨x, 0, none⟩)) ∧ w' = w := by
  have c0 : w.cell? ⟨C, 13, none⟩ = some sv := ro.cel h 13
  rw [hx] at c0
  unfold pt at c0
  clear h
  go_enter Try.func28, Try.ntmps28
  go_wp2_with fail
  go_ret
  exact ⟨rfl, rfl⟩
theorem stats_nil : Calls Try.prog 28 #[.pointer none] w fun e w' => e = .returned (.pointer none) ∧ w' = w := by
  go_enter Try.func28, Try.ntmps28
  go_wp2_with fail
  go_ret
  exact ⟨rfl, rfl⟩
theorem status_v (h : CO w C a b c d o f l fv wv dv tv ov lv sv se st wy) : Calls Try.prog 16 #[.pointer (some ⟨C, 0, none⟩)] w fun e w' => e = .returned (.tuple #[.int .i64 st, .int .i64 wy]) ∧ ∃ q, w' = w.drewN q := by
  have c0 : w.cell? ⟨C, 15, none⟩ = some (.int .i64 st) := ro.cel h 15
  have c1 : w.cell? ⟨C, 16, none⟩ = some (.int .i64 wy) := ro.cel h 16
  clear h
  go_enter Try.func16, Try.ntmps16
  go_wp2_with fail
  go_quiet (fail)
  go_wp2_with fail
  go_ret2
  exact ⟨rfl, _, rfl⟩
theorem status_nil : Calls Try.prog 16 #[.pointer none] w fun e w' => e = .returned (.tuple #[.int .i64 0, .int .i64 0]) ∧ w' = w := by
  go_enter Try.func16, Try.ntmps16
  go_wp2_with fail
  go_ret2
  exact ⟨rfl, rfl⟩
theorem serial_v (h : CO w C a b c d o f l fv wv dv tv ov lv sv se st wy) (h0 : 0 ≤ se) (h1 : se ≤ 100000000) : Calls Try.prog 33 #[.pointer (some ⟨C, 0, none⟩)] w fun e w' => e = .returned (.int .i64 (se + 1)) ∧ w' = w.setCell ⟨C, 14, none⟩ (.int .i64 (se + 1)) := by
  have c0 : w.cell? ⟨C, 14, none⟩ = some (.int .i64 se) := ro.cel h 14
  have f0 := ro.frz h 14
  clear h
  go_enter Try.func33, Try.ntmps33
  go_wp2_with fail
  go_ret
  exact ⟨rfl, rfl⟩
theorem serial_nil : Calls Try.prog 33 #[.pointer none] w fun e w' => e = .returned (.int .i64 0) ∧ w' = w := by
  go_enter Try.func33, Try.ntmps33
  go_wp2_with fail
  go_ret
  exact ⟨rfl, rfl⟩
theorem stop_go (h : CO w C a b c d o f l fv wv dv tv ov lv sv se 0 wy) (s y : Int) : Calls Try.prog 32 #[.pointer (some ⟨C, 0, none⟩), .int .i64 s, .int .i64 y] w fun e w' => e = .returned (.tuple #[]) ∧ w' = (w.setCell ⟨C, 15, none⟩ (.int .i64 s)).setCell ⟨C, 16, none⟩ (.int .i64 y) := by
  have c0 : w.cell? ⟨C, 15, none⟩ = some (.int .i64 0) := ro.cel h 15
  have c1 : w.cell? ⟨C, 16, none⟩ = some (.int .i64 wy) := ro.cel h 16
  have f0 := ro.frz h 15
  have f1 := ro.frz h 16
  clear h
  go_enter Try.func32, Try.ntmps32
  go_wp2_with fail
  go_end0
  exact ⟨rfl, rfl⟩
theorem stop_no (h : CO w C a b c d o f l fv wv dv tv ov lv sv se st wy) (hst : st ≠ 0) (s y : Int) : Calls Try.prog 32 #[.pointer (some ⟨C, 0, none⟩), .int .i64 s, .int .i64 y] w fun e w' => e = .returned (.tuple #[]) ∧ w' = w := by
  have c0 : w.cell? ⟨C, 15, none⟩ = some (.int .i64 st) := ro.cel h 15
  have h1 : (st == 0) = false := by simpa using hst
  have h2 : decide (st = 0) = false := decide_eq_false hst
  clear h
  go_enter Try.func32, Try.ntmps32
  go_wp2_with fail
  go_end0
  exact ⟨rfl, rfl⟩
theorem stop_nil (s y : Int) : Calls Try.prog 32 #[.pointer none, .int .i64 s, .int .i64 y] w fun e w' => e = .returned (.tuple #[]) ∧ w' = w := by
  go_enter Try.func32, Try.ntmps32
  go_wp2_with fail
  go_end0
  exact ⟨rfl, rfl⟩
theorem params_v (h : CO w C a b c d o f l fv wv dv tv ov lv sv se st wy) : Calls Try.prog 23 #[.pointer (some ⟨C, 0, none⟩)] w fun e w' => e = .returned (.agg #[.int .i64 a, .int .i64 b, .int .i64 c, .int .i64 d, .int .i64 o, .bool f, .bool l]) ∧ Below w.heap.size w w' := by
  have c0 : w.cell? ⟨C, 0, none⟩ = some (.int .i64 a) := ro.cel h 0
  have c1 : w.cell? ⟨C, 1, none⟩ = some (.int .i64 b) := ro.cel h 1
  have c2 : w.cell? ⟨C, 2, none⟩ = some (.int .i64 c) := ro.cel h 2
  have c3 : w.cell? ⟨C, 3, none⟩ = some (.int .i64 d) := ro.cel h 3
  have c4 : w.cell? ⟨C, 4, none⟩ = some (.int .i64 o) := ro.cel h 4
  have c5 : w.cell? ⟨C, 5, none⟩ = some (.bool f) := ro.cel h 5
  have c6 : w.cell? ⟨C, 6, none⟩ = some (.bool l) := ro.cel h 6
  have hC : C < w.heap.size := lt_of_heap h
  clear h
  go_enter Try.func23, Try.ntmps23
  go_wp2_with fail
  exact bodyPost_ret (v := .agg #[.int .i64 a, .int .i64 b, .int .i64 c, .int .i64 d, .int .i64 o, .bool f, .bool l]) (by simp [results, Try.results23, go_sem]) rfl ⟨rfl, by go_grown⟩
theorem params_nil : Calls Try.prog 23 #[.pointer none] w fun e w' => e = .returned (.agg #[.int .i64 0, .int .i64 0, .int .i64 0, .int .i64 0, .int .i64 0, .bool false, .bool false]) ∧ Below w.heap.size w w' := by
  go_enter Try.func23, Try.ntmps23
  go_wp2_with fail
  exact bodyPost_ret (v := .agg #[.int .i64 0, .int .i64 0, .int .i64 0, .int .i64 0, .int .i64 0, .bool false, .bool false]) (by simp [results, Try.results23, go_sem]) rfl ⟨rfl, by go_grown⟩
set_option maxHeartbeats 1000000 in
theorem code_nil (x y : Int)  : Calls Try.prog 34 #[.pointer none, .int .i64 x, .int .i64 y] w fun e w' => e = .returned (.agg #[.int .i64 0, .int .i64 0, .int .i64 0, .int .i64 0]) ∧ Below w.heap.size w w' := by
  go_enter Try.func34, Try.ntmps34
  go_wp2_with fail
  exact bodyPost_ret (v := .agg #[.int .i64 0, .int .i64 0, .int .i64 0, .int .i64 0]) (by simp [results, Try.results34, go_sem]) rfl ⟨rfl, by first | go_grown | (exact ghb (by go_grown) _) | (exact ghd (by go_grown))⟩
set_option maxHeartbeats 1000000 in
theorem code_a (C : Nat) (n cp : Nat) (fa : Option Addr) (x y : Int) (c0 : w.cell? ⟨C, 7, none⟩ = some (.slice fa n cp)) (hC : C < w.heap.size) (h1 : x < 0) (h2 : decide (x < 0) = true) : Calls Try.prog 34 #[.pointer (some ⟨C, 0, none⟩), .int .i64 x, .int .i64 y] w fun e w' => e = .returned (.agg #[.int .i64 0, .int .i64 0, .int .i64 0, .int .i64 0]) ∧ Below w.heap.size w w' := by
  have hd := kc c0 (show Below w.heap.size w (w.alloc (.cells #[.int .i64 0, .int .i64 0, .int .i64 0, .int .i64 0] 68)) by go_grown)
  go_enter Try.func34, Try.ntmps34
  go_wp2_with fail
  exact bodyPost_ret (v := .agg #[.int .i64 0, .int .i64 0, .int .i64 0, .int .i64 0]) (by simp [results, Try.results34, go_sem]) rfl ⟨rfl, by first | go_grown | (exact ghb (by go_grown) _) | (exact ghd (by go_grown))⟩
set_option maxHeartbeats 1000000 in
theorem code_b (C : Nat) (n cp : Nat) (fa : Option Addr) (x y : Int) (c0 : w.cell? ⟨C, 7, none⟩ = some (.slice fa n cp)) (hC : C < w.heap.size) (h1 : ¬ x < 0) (h2 : decide (x < 0) = false) (h3 : (n : Int) ≤ x) (h4 : decide ((n : Int) ≤ x) = true) : Calls Try.prog 34 #[.pointer (some ⟨C, 0, none⟩), .int .i64 x, .int .i64 y] w fun e w' => e = .returned (.agg #[.int .i64 0, .int .i64 0, .int .i64 0, .int .i64 0]) ∧ Below w.heap.size w w' := by
  have hd := kc c0 (show Below w.heap.size w (w.alloc (.cells #[.int .i64 0, .int .i64 0, .int .i64 0, .int .i64 0] 68)) by go_grown)
  go_enter Try.func34, Try.ntmps34
  go_wp2_with fail
  exact bodyPost_ret (v := .agg #[.int .i64 0, .int .i64 0, .int .i64 0, .int .i64 0]) (by simp [results, Try.results34, go_sem]) rfl ⟨rfl, by first | go_grown | (exact ghb (by go_grown) _) | (exact ghd (by go_grown))⟩
set_option maxHeartbeats 1000000 in
theorem code_c (C : Nat) (n cp : Nat) (fa : Option Addr) (x y : Int) (c0 : w.cell? ⟨C, 7, none⟩ = some (.slice fa n cp)) (hC : C < w.heap.size) (h1 : ¬ x < 0) (h2 : decide (x < 0) = false) (h3 : ¬ (n : Int) ≤ x) (h4 : decide ((n : Int) ≤ x) = false) (h5 : y < 0) (h6 : decide (y < 0) = true) : Calls Try.prog 34 #[.pointer (some ⟨C, 0, none⟩), .int .i64 x, .int .i64 y] w fun e w' => e = .returned (.agg #[.int .i64 0, .int .i64 0, .int .i64 0, .int .i64 0]) ∧ Below w.heap.size w w' := by
  have hd := kc c0 (show Below w.heap.size w (w.alloc (.cells #[.int .i64 0, .int .i64 0, .int .i64 0, .int .i64 0] 68)) by go_grown)
  go_enter Try.func34, Try.ntmps34
  go_wp2_with fail
  exact bodyPost_ret (v := .agg #[.int .i64 0, .int .i64 0, .int .i64 0, .int .i64 0]) (by simp [results, Try.results34, go_sem]) rfl ⟨rfl, by first | go_grown | (exact ghb (by go_grown) _) | (exact ghd (by go_grown))⟩
set_option maxHeartbeats 1000000 in
theorem code_d (C : Nat) (n cp g xn m mc : Nat) (ca : Option Addr) (y : Int) (c0 : w.cell? ⟨C, 7, none⟩ = some (.slice (some ⟨g, 0, none⟩) n cp)) (hC : C < w.heap.size) (h1 : ¬ (xn : Int) < 0) (h2 : decide ((xn : Int) < 0) = false) (h3 : ¬ (n : Int) ≤ (xn : Int)) (h4 : decide ((n : Int) ≤ (xn : Int)) = false) (h4b : decide (n ≤ xn) = false) (h4c : (xn : Int) < (n : Int)) (h4d : xn < n) (c1 : w.cell? ⟨g, xn, none⟩ = some (.slice ca m mc)) (h5 : ¬ y < 0) (h6 : decide (y < 0) = false) (h7 : (m : Int) ≤ y) (h8 : decide ((m : Int) ≤ y) = true) : Calls Try.prog 34 #[.pointer (some ⟨C, 0, none⟩), .int .i64 (xn : Int), .int .i64 y] w fun e w' => e = .returned (.agg #[.int .i64 0, .int .i64 0, .int .i64 0, .int .i64 0]) ∧ Below w.heap.size w w' := by
  have hd := kc c0 (show Below w.heap.size w (w.alloc (.cells #[.int .i64 0, .int .i64 0, .int .i64 0, .int .i64 0] 68)) by go_grown)
  have hd1 := kc c1 (show Below w.heap.size w (w.alloc (.cells #[.int .i64 0, .int .i64 0, .int .i64 0, .int .i64 0] 68)) by go_grown)
  go_enter Try.func34, Try.ntmps34
  go_wp2_with fail
  exact bodyPost_ret (v := .agg #[.int .i64 0, .int .i64 0, .int .i64 0, .int .i64 0]) (by simp [results, Try.results34, go_sem]) rfl ⟨rfl, by first | go_grown | (exact ghb (by go_grown) _) | (exact ghd (by go_grown))⟩
set_option maxHeartbeats 1000000 in
theorem code_e (C : Nat) (n cp g xn m mc yn bg og : Nat) (i0 i1 i2 i3 : Int) (c0 : w.cell? ⟨C, 7, none⟩ = some (.slice (some ⟨g, 0, none⟩) n cp)) (hC : C < w.heap.size) (h1 : ¬ (xn : Int) < 0) (h2 : decide ((xn : Int) < 0) = false) (h3 : ¬ (n : Int) ≤ (xn : Int)) (h4 : decide ((n : Int) ≤ (xn : Int)) = false) (h4b : decide (n ≤ xn) = false) (h4c : (xn : Int) < (n : Int)) (h4d : xn < n) (c1 : w.cell? ⟨g, xn, none⟩ = some (.slice (some ⟨bg, og, none⟩) m mc)) (h5 : ¬ (yn : Int) < 0) (h6 : decide ((yn : Int) < 0) = false) (h7 : ¬ (m : Int) ≤ (yn : Int)) (h8 : decide ((m : Int) ≤ (yn : Int)) = false) (h8b : decide (m ≤ yn) = false) (h9 : (yn : Int) < (m : Int)) (h10 : yn < m) (t0 : w.cell? ⟨bg, og + yn * 4, none⟩ = some (.int .i64 i0)) (t1 : w.cell? ⟨bg, og + yn * 4 + 1, none⟩ = some (.int .i64 i1)) (t2 : w.cell? ⟨bg, og + yn * 4 + 2, none⟩ = some (.int .i64 i2)) (t3 : w.cell? ⟨bg, og + yn * 4 + 3, none⟩ = some (.int .i64 i3)) : Calls Try.prog 34 #[.pointer (some ⟨C, 0, none⟩), .int .i64 (xn : Int), .int .i64 (yn : Int)] w fun e w' => e = .returned (.agg #[.int .i64 i0, .int .i64 i1, .int .i64 i2, .int .i64 i3]) ∧ Below w.heap.size w w' := by
  have hd := kc c0 (show Below w.heap.size w (w.alloc (.cells #[.int .i64 0, .int .i64 0, .int .i64 0, .int .i64 0] 68)) by go_grown)
  have hd1 := kc c1 (show Below w.heap.size w (w.alloc (.cells #[.int .i64 0, .int .i64 0, .int .i64 0, .int .i64 0] 68)) by go_grown)
  have hh0 := kc t0 (show Below w.heap.size w (w.alloc (.cells #[.int .i64 0, .int .i64 0, .int .i64 0, .int .i64 0] 68)) by go_grown)
  have hh1 := kc t1 (show Below w.heap.size w (w.alloc (.cells #[.int .i64 0, .int .i64 0, .int .i64 0, .int .i64 0] 68)) by go_grown)
  have hh2 := kc t2 (show Below w.heap.size w (w.alloc (.cells #[.int .i64 0, .int .i64 0, .int .i64 0, .int .i64 0] 68)) by go_grown)
  have hh3 := kc t3 (show Below w.heap.size w (w.alloc (.cells #[.int .i64 0, .int .i64 0, .int .i64 0, .int .i64 0] 68)) by go_grown)
  go_enter Try.func34, Try.ntmps34
  go_wp2_with fail
  exact bodyPost_ret (v := .agg #[.int .i64 i0, .int .i64 i1, .int .i64 i2, .int .i64 i3]) (by simp [results, Try.results34, go_sem]) rfl ⟨rfl, by first | go_grown | (exact ghb (by go_grown) _) | (exact ghd (by go_grown))⟩
end
end Go.Proofs.Ytbmndjedgedbdaa.co
namespace Go.Proofs.Ytbmndjedgedbdaa.co
open Go.ChangeShapes Go.WideShapes Go.ChangeAt Go.RowKit
open Go.Proofs.Ytbmndjedgedbdaa.pr
attribute [local go_sem ↓] Go.wp_at_zero Go.wp_at_succ
attribute [local go_sem] Oper.semAt_some
set_option linter.unusedVariables false
set_option linter.unusedSimpArgs false
theorem or_lit {w : World} {g e n : Nat} {cs : Array Value} {xs : List I4} (h : w.heap[g]? = some (.cells cs e (0, 0))) (hn : xs.length = n) (hm : n ≤ 1000) (hc : cs.toList = flat enI xs) : OR 4 enI w 0 e (.slice (some ⟨g, 0, none⟩) n n) xs := by
  have hl := flat_len recI xs
  have hs : cs.size = n * 4 := by rw [← Array.length_toList, hc, hl, hn]
  subst hn
  refine ⟨hl, .inr ⟨g, xs.length, cs, rfl, Nat.zero_le _, h, Nat.le_refl _, by unfold maxLen; omega, hs, ?_⟩⟩
  rw [hc, ← hl, List.take_length]
theorem pm1 {w : World} {g : Nat} {e : TypeId} {u : Value} {xs : List I4} (h : w.heap[g]? = some (.cells #[u] e (0, 0))) (h0 : RV 4 enI w u xs) : PM w (.slice (some ⟨g, 0, none⟩) 1 1) [xs] := by
  refine ⟨some ⟨g, 0, none⟩, 1, rfl, Nat.le_refl _, by unfold maxLen; omega, fun i hi => ?_⟩
  have hi0 : i = 0 := by simpa using hi
  subst hi0
  exact ⟨g, 0, u, rfl, lt_of_heap h, ro.cel h 0, h0⟩
theorem pm2 {w : World} {g : Nat} {e : TypeId} {u v : Value} {xs ys : List I4} (h : w.heap[g]? = some (.cells #[u, v] e (0, 0))) (h0 : RV 4 enI w u xs) (h1 : RV 4 enI w v ys) : PM w (.slice (some ⟨g, 0, none⟩) 2 2) [xs, ys] := by
  refine ⟨some ⟨g, 0, none⟩, 2, rfl, Nat.le_refl _, by unfold maxLen; omega, fun i hi => ?_⟩
  match i, hi with
  | 0, _ => exact ⟨g, 0, u, rfl, lt_of_heap h, ro.cel h 0, h0⟩
  | 1, _ => exact ⟨g, 0, v, rfl, lt_of_heap h, ro.cel h 1, h1⟩
  | i + 2, hi => exact absurd hi (by simp)
abbrev L1w : List (List I4) := [[(17, 1, 0, 0), (0, 0, 0, 0)]]
abbrev L2w : List (List I4) := [[(0, 0, 0, 0)]]
abbrev L3w : List (List I4) := [[(0, 0, 0, 0)], [(21, 0, 0, 0), (1, 3, 4, 0), (0, 0, 0, 0)]]
theorem pr1 : prE 2 L1w = 0 := by decide
theorem pr3 : prE 0 L3w = 0 := by decide
theorem pr2 (m : Nat) (hm : m ≤ 255) : prE (m : Int) L2w = 0 := by
  have h1 : cntE (m : Int) L2w.length = 0 := by
    unfold cntE
    rw [if_neg (by omega)]
    rfl
  unfold prE
  rw [if_neg (by rw [h1]; simp)]
  decide
theorem co_0 {m : Int} {L : List (List I4)} (h : prE m L = 0) (n : Nat) (q : Q7) (hO : Okay q.W q.F q.Th q.D) (h0 : 0 ≤ q.O) (h1 : q.O ≤ 1000) (hn : (n : Int) ≤ m) : coE m L n q = 0 := by
  unfold coE
  rw [if_neg (by rw [h]; simp), if_neg (by rintro (h | h | h); exact h hO; omega; omega), if_neg (by omega)]
end Go.Proofs.Ytbmndjedgedbdaa.co
namespace Go.Proofs.Ytbmndjedgedbdaa.co
open Go.ChangeShapes Go.WideShapes Go.ChangeAt Go.RowKit
open Go.Proofs.Ytbmndjedgedbdaa.pr
attribute [local go_sem ↓] Go.wp_at_zero Go.wp_at_succ
attribute [local go_sem] Oper.semAt_some
set_option linter.unusedVariables false
set_option linter.unusedSimpArgs false
theorem word_out (S g : Nat) (xs : List Int) (at_ : Int) (b : Bool) (w : World) (h : StoreAt w S g xs) (hat : at_ < 0 ∨ (xs.length : Int) ≤ at_) : Calls Try.prog 56 #[.pointer (some ⟨S, 0, none⟩), .int .i64 at_, .bool b] w fun e w' => e = .returned (.pointer none) ∧ w = w' := by
  obtain ⟨h0, h1, _, _, _, _⟩ := h.facts
  have H := Lib.hid h
  clear h
  by_cases h2 : at_ < 0
  · clear hat
    go_enter Try.func56, Try.ntmps56
    go_wp2_with (go_at_call 68; refine (size_any S g xs _ H.out).mono ?_; rintro e w' ⟨rfl, rfl⟩)
    go_ret
    exact ⟨rfl, rfl⟩
  · have h3 : (xs.length : Int) ≤ at_ := by omega
    clear hat
    go_enter Try.func56, Try.ntmps56
    go_wp2_with (go_at_call 68; refine (size_any S g xs _ H.out).mono ?_; rintro e w' ⟨rfl, rfl⟩)
    go_ret
    exact ⟨rfl, rfl⟩
theorem store_out (S g : Nat) (xs : List Int) (at_ n : Int) (w : World) (h : StoreAt w S g xs) (hat : at_ < 0 ∨ (xs.length : Int) ≤ at_) : Calls Try.prog 41 #[.pointer (some ⟨S, 0, none⟩), .int .i64 at_, .int .i64 n] w fun e w' => e = .returned (.bool false) ∧ w = w' := by
  have H := Lib.hid h
  have HA := Lib.hid hat
  clear h hat
  go_enter Try.func41, Try.ntmps41
  go_wp2_with (go_at_call 56; refine (word_out S g xs at_ _ _ H.out HA.out).mono ?_; rintro e w' ⟨rfl, rfl⟩)
  go_ret
  exact ⟨rfl, rfl⟩
theorem load_out (S g : Nat) (xs : List Int) (at_ : Int) (w : World) (h : StoreAt w S g xs) (hat : at_ < 0 ∨ (xs.length : Int) ≤ at_) : Calls Try.prog 52 #[.pointer (some ⟨S, 0, none⟩), .int .i64 at_] w fun e w' => e = .returned (.tuple #[.int .i64 0, .bool false]) ∧ w = w' := by
  have H := Lib.hid h
  have HA := Lib.hid hat
  clear h hat
  go_enter Try.func52, Try.ntmps52
  go_wp2_with (go_at_call 56; refine (word_out S g xs at_ _ _ H.out HA.out).mono ?_; rintro e w' ⟨rfl, rfl⟩)
  go_ret2
  exact ⟨rfl, rfl⟩
theorem add_out (S g : Nat) (xs : List Int) (at_ : Int) (n : Int) (w : World) (h : StoreAt w S g xs) (hat : at_ < 0 ∨ (xs.length : Int) ≤ at_) : Calls Try.prog 53 #[.pointer (some ⟨S, 0, none⟩), .int .i64 at_, .int .i64 n] w fun e w' => e = .returned (.tuple #[.int .i64 0, .bool false]) ∧ w = w' := by
  have H := Lib.hid h
  have HA := Lib.hid hat
  clear h hat
  go_enter Try.func53, Try.ntmps53
  go_wp2_with (go_at_call 56; refine (word_out S g xs at_ _ _ H.out HA.out).mono ?_; rintro e w' ⟨rfl, rfl⟩)
  go_ret2
  exact ⟨rfl, rfl⟩
theorem swap_out (S g : Nat) (xs : List Int) (at_ : Int) (o n : Int) (w : World) (h : StoreAt w S g xs) (hat : at_ < 0 ∨ (xs.length : Int) ≤ at_) : Calls Try.prog 54 #[.pointer (some ⟨S, 0, none⟩), .int .i64 at_, .int .i64 o, .int .i64 n] w fun e w' => e = .returned (.tuple #[.int .i64 0, .bool false]) ∧ w = w' := by
  have H := Lib.hid h
  have HA := Lib.hid hat
  clear h hat
  go_enter Try.func54, Try.ntmps54
  go_wp2_with (go_at_call 56; refine (word_out S g xs at_ _ _ H.out HA.out).mono ?_; rintro e w' ⟨rfl, rfl⟩)
  go_ret2
  exact ⟨rfl, rfl⟩
theorem size_nil (w : World) : Calls Try.prog 68 #[.pointer none] w fun e w' => e = .returned (.int .i64 0) ∧ w = w' := by
  go_enter Try.func68, Try.ntmps68
  go_wp2
  go_ret
  exact ⟨rfl, rfl⟩
theorem word_nil (at_ : Int) (b : Bool) (w : World) : Calls Try.prog 56 #[.pointer none, .int .i64 at_, .bool b] w fun e w' => e = .returned (.pointer none) ∧ w = w' := by
  by_cases h : at_ < 0
  · go_enter Try.func56, Try.ntmps56
    go_wp2_with (go_at_call 68; refine (size_nil _).mono ?_; rintro e w' ⟨rfl, rfl⟩)
    go_ret
    exact ⟨rfl, rfl⟩
  · have h2 : 0 ≤ at_ := by omega
    go_enter Try.func56, Try.ntmps56
    go_wp2_with (go_at_call 68; refine (size_nil _).mono ?_; rintro e w' ⟨rfl, rfl⟩)
    go_ret
    exact ⟨rfl, rfl⟩
theorem load_nil (at_ : Int) (w : World) : Calls Try.prog 52 #[.pointer none, .int .i64 at_] w fun e w' => e = .returned (.tuple #[.int .i64 0, .bool false]) ∧ w = w' := by
  go_enter Try.func52, Try.ntmps52
  go_wp2_with (go_at_call 56; refine (word_nil at_ _ _).mono ?_; rintro e w' ⟨rfl, rfl⟩)
  go_ret2
  exact ⟨rfl, rfl⟩
theorem store_nil (at_ : Int) (n : Int) (w : World) : Calls Try.prog 41 #[.pointer none, .int .i64 at_, .int .i64 n] w fun e w' => e = .returned (.bool false) ∧ w = w' := by
  go_enter Try.func41, Try.ntmps41
  go_wp2_with (go_at_call 56; refine (word_nil at_ _ _).mono ?_; rintro e w' ⟨rfl, rfl⟩)
  go_ret
  exact ⟨rfl, rfl⟩
theorem add_nil (at_ : Int) (n : Int) (w : World) : Calls Try.prog 53 #[.pointer none, .int .i64 at_, .int .i64 n] w fun e w' => e = .returned (.tuple #[.int .i64 0, .bool false]) ∧ w = w' := by
  go_enter Try.func53, Try.ntmps53
  go_wp2_with (go_at_call 56; refine (word_nil at_ _ _).mono ?_; rintro e w' ⟨rfl, rfl⟩)
  go_ret2
  exact ⟨rfl, rfl⟩
theorem swap_nil (at_ : Int) (o n : Int) (w : World) : Calls Try.prog 54 #[.pointer none, .int .i64 at_, .int .i64 o, .int .i64 n] w fun e w' => e = .returned (.tuple #[.int .i64 0, .bool false]) ∧ w = w' := by
  go_enter Try.func54, Try.ntmps54
  go_wp2_with (go_at_call 56; refine (word_nil at_ _ _).mono ?_; rintro e w' ⟨rfl, rfl⟩)
  go_ret2
  exact ⟨rfl, rfl⟩
theorem swap_yes (S g : Nat) (xs : List Int) (at_ : Nat) (old now : Int) (w : World) (h : StoreAt w S g xs) (hat : at_ < xs.length) (hm : xs.length ≤ 1048576) (ho : Hid (xs.getD at_ 0 = old)) : Calls Try.prog 54 #[.pointer (some ⟨S, 0, none⟩), .int .i64 at_, .int .i64 old, .int .i64 now] w fun e w' => e = .returned (.tuple #[.int .i64 old, .bool true]) ∧ w.setCell ⟨g, at_, none⟩ (.int .i64 now) = w' := by
  obtain ⟨_, _, h2, h3, _, _⟩ := h.facts
  have hc := h2 at_ hat
  have hf := h3 at_
  rw [ho.out] at hc
  clear h2 h3
  go_enter Try.func54, Try.ntmps54
  go_wp2_with (go_at_call 56; refine (word_in S g xs at_ _ _ h hat hm).mono ?_; rintro e w' ⟨rfl, rfl⟩)
  go_ret2
  exact ⟨rfl, rfl⟩
theorem swap_no (S g : Nat) (xs : List Int) (at_ : Nat) (x old now : Int) (w : World) (h : StoreAt w S g xs) (hat : at_ < xs.length) (hm : xs.length ≤ 1048576) (hx : Hid (xs.getD at_ 0 = x)) (ho : (x == old) = false) : Calls Try.prog 54 #[.pointer (some ⟨S, 0, none⟩), .int .i64 at_, .int .i64 old, .int .i64 now] w fun e w' => e = .returned (.tuple #[.int .i64 x, .bool true]) ∧ w = w' := by
  obtain ⟨_, _, h2, h3, _, _⟩ := h.facts
  have hc := h2 at_ hat
  rw [hx.out] at hc
  clear h2 h3
  go_enter Try.func54, Try.ntmps54
  go_wp2_with (go_at_call 56; refine (word_in S g xs at_ _ _ h hat hm).mono ?_; rintro e w' ⟨rfl, rfl⟩)
  go_ret2
  exact ⟨rfl, rfl⟩
section
variable {w : World} {C Sd gd : Nat} {a b c d o : Int} {f l : Bool} {fv wv tv ov lv sv : Value} {se st wy : Int}
set_option maxRecDepth 20000 in
set_option maxHeartbeats 1000000 in
theorem ask1 (ds : List Int) (x : Int) (i : Nat) (v u t5 : Int) (hc : w.heap.size = w.heap.size) (h : CO w C a b c d o f l fv wv (pt Sd) tv ov lv sv se st wy) (hd : StoreAt w Sd gd ds) (hi : i < ds.length) (hm : ds.length ≤ 1048576) (hx : ds.getD i 0 = x) : Calls Try.prog 30 #[.pointer (some ⟨C, 0, none⟩), .agg #[.int .i64 1, .int .i64 (i : Int), .int .i64 v, .int .i64 u, .int .i64 t5]] w fun e w' => e = .returned (.tuple #[.int .i64 x, .bool true]) ∧ Below w.heap.size w w' := by
  have hbx : Below w.heap.size w (w.alloc (.cells #[.int .i64 1, .int .i64 (i : Int), .int .i64 v, .int .i64 u, .int .i64 t5] 72)) := by go_grown
  have hC := bl_blk h (show Below w.heap.size w (w.alloc (.cells #[.int .i64 1, .int .i64 (i : Int), .int .i64 v, .int .i64 u, .int .i64 t5] 72)) by go_grown)
  have HD := Lib.hid (data_v (show CO (w.alloc (.cells #[.int .i64 1, .int .i64 (i : Int), .int .i64 v, .int .i64 u, .int .i64 t5] 72)) C a b c d o f l fv wv (pt Sd) tv ov lv sv se st wy from hC) rfl)
  clear h hC
  have hd2 := hd.below hbx
  have CC := load_in Sd gd ds i _ hd2 hi hm
  rw [hx] at CC
  have CC := Lib.hid CC
  clear hd hd2
  have HBX := Lib.hid hbx
  clear hbx
  go_enter Try.func30, Try.ntmps30
  go_wp2_with (first | (go_at_call 22; (with_reducible refine (HD.out).mono ?_); rintro _ _ ⟨rfl, rfl⟩) | (go_at_call 52; (with_reducible refine CC.out.mono ?_); rintro _ w3 ⟨rfl, hw⟩))
  go_ret2
  subst hw
  exact ⟨rfl, HBX.out⟩
set_option maxRecDepth 20000 in
set_option maxHeartbeats 1000000 in
theorem ask1n (ds : List Int) (at_ v u t5 : Int) (hc : w.heap.size = w.heap.size) (h : CO w C a b c d o f l fv wv (pt Sd) tv ov lv sv se st wy) (hd : StoreAt w Sd gd ds) (hat : at_ < 0 ∨ (ds.length : Int) ≤ at_) : Calls Try.prog 30 #[.pointer (some ⟨C, 0, none⟩), .agg #[.int .i64 1, .int .i64 at_, .int .i64 v, .int .i64 u, .int .i64 t5]] w fun e w' => e = .returned (.tuple #[.int .i64 0, .bool false]) ∧ Below w.heap.size w w' := by
  have hbx : Below w.heap.size w (w.alloc (.cells #[.int .i64 1, .int .i64 at_, .int .i64 v, .int .i64 u, .int .i64 t5] 72)) := by go_grown
  have hC := bl_blk h (show Below w.heap.size w (w.alloc (.cells #[.int .i64 1, .int .i64 at_, .int .i64 v, .int .i64 u, .int .i64 t5] 72)) by go_grown)
  have HD := Lib.hid (data_v (show CO (w.alloc (.cells #[.int .i64 1, .int .i64 at_, .int .i64 v, .int .i64 u, .int .i64 t5] 72)) C a b c d o f l fv wv (pt Sd) tv ov lv sv se st wy from hC) rfl)
  clear h hC
  have hd2 := hd.below hbx
  have CC := load_out Sd gd ds at_ _ hd2 hat
  have CC := Lib.hid CC
  clear hd hd2
  have HBX := Lib.hid hbx
  clear hbx
  go_enter Try.func30, Try.ntmps30
  go_wp2_with (first | (go_at_call 22; (with_reducible refine (HD.out).mono ?_); rintro _ _ ⟨rfl, rfl⟩) | (go_at_call 52; (with_reducible refine CC.out.mono ?_); rintro _ w3 ⟨rfl, hw⟩))
  go_ret2
  subst hw
  exact ⟨rfl, HBX.out⟩
set_option maxRecDepth 20000 in
set_option maxHeartbeats 1000000 in
theorem ask2 (ds : List Int) (i : Nat) (v u t5 : Int) (hc : w.heap.size = w.heap.size) (h : CO w C a b c d o f l fv wv (pt Sd) tv ov lv sv se st wy) (hd : StoreAt w Sd gd ds) (hi : i < ds.length) (hm : ds.length ≤ 1048576) : Calls Try.prog 30 #[.pointer (some ⟨C, 0, none⟩), .agg #[.int .i64 2, .int .i64 (i : Int), .int .i64 v, .int .i64 u, .int .i64 t5]] w fun e w' => e = .returned (.tuple #[.int .i64 0, .bool true]) ∧ ∃ W, Below w.heap.size w W ∧ w' = W.setCell ⟨gd, i, none⟩ (.int .i64 v) := by
  have hbx : Below w.heap.size w (w.alloc (.cells #[.int .i64 2, .int .i64 (i : Int), .int .i64 v, .int .i64 u, .int .i64 t5] 72)) := by go_grown
  have hC := bl_blk h (show Below w.heap.size w (w.alloc (.cells #[.int .i64 2, .int .i64 (i : Int), .int .i64 v, .int .i64 u, .int .i64 t5] 72)) by go_grown)
  have HD := Lib.hid (data_v (show CO (w.alloc (.cells #[.int .i64 2, .int .i64 (i : Int), .int .i64 v, .int .i64 u, .int .i64 t5] 72)) C a b c d o f l fv wv (pt Sd) tv ov lv sv se st wy from hC) rfl)
  clear h hC
  have hd2 := hd.below hbx
  have CC := store_in Sd gd ds i v _ hd2 hi hm
  have CC := Lib.hid CC
  clear hd hd2
  have HBX := Lib.hid hbx
  clear hbx
  go_enter Try.func30, Try.ntmps30
  go_wp2_with (first | (go_at_call 22; (with_reducible refine (HD.out).mono ?_); rintro _ _ ⟨rfl, rfl⟩) | (go_at_call 41; (with_reducible refine CC.out.mono ?_); rintro _ w3 ⟨rfl, hw⟩))
  go_ret2
  exact ⟨rfl, _, HBX.out, hw.symm⟩
set_option maxRecDepth 20000 in
set_option maxHeartbeats 1000000 in
theorem ask2n (ds : List Int) (at_ v u t5 : Int) (hc : w.heap.size = w.heap.size) (h : CO w C a b c d o f l fv wv (pt Sd) tv ov lv sv se st wy) (hd : StoreAt w Sd gd ds) (hat : at_ < 0 ∨ (ds.length : Int) ≤ at_) : Calls Try.prog 30 #[.pointer (some ⟨C, 0, none⟩), .agg #[.int .i64 2, .int .i64 at_, .int .i64 v, .int .i64 u, .int .i64 t5]] w fun e w' => e = .returned (.tuple #[.int .i64 0, .bool false]) ∧ Below w.heap.size w w' := by
  have hbx : Below w.heap.size w (w.alloc (.cells #[.int .i64 2, .int .i64 at_, .int .i64 v, .int .i64 u, .int .i64 t5] 72)) := by go_grown
  have hC := bl_blk h (show Below w.heap.size w (w.alloc (.cells #[.int .i64 2, .int .i64 at_, .int .i64 v, .int .i64 u, .int .i64 t5] 72)) by go_grown)
  have HD := Lib.hid (data_v (show CO (w.alloc (.cells #[.int .i64 2, .int .i64 at_, .int .i64 v, .int .i64 u, .int .i64 t5] 72)) C a b c d o f l fv wv (pt Sd) tv ov lv sv se st wy from hC) rfl)
  clear h hC
  have hd2 := hd.below hbx
  have CC := store_out Sd gd ds at_ v _ hd2 hat
  have CC := Lib.hid CC
  clear hd hd2
  have HBX := Lib.hid hbx
  clear hbx
  go_enter Try.func30, Try.ntmps30
  go_wp2_with (first | (go_at_call 22; (with_reducible refine (HD.out).mono ?_); rintro _ _ ⟨rfl, rfl⟩) | (go_at_call 41; (with_reducible refine CC.out.mono ?_); rintro _ w3 ⟨rfl, hw⟩))
  go_ret2
  subst hw
  exact ⟨rfl, HBX.out⟩
set_option maxRecDepth 20000 in
set_option maxHeartbeats 1000000 in
theorem ask3 (ds : List Int) (x : Int) (i : Nat) (v u t5 : Int) (hc : w.heap.size = w.heap.size) (h : CO w C a b c d o f l fv wv (pt Sd) tv ov lv sv se st wy) (hd : StoreAt w Sd gd ds) (hi : i < ds.length) (hm : ds.length ≤ 1048576) (hx : ds.getD i 0 = x) : Calls Try.prog 30 #[.pointer (some ⟨C, 0, none⟩), .agg #[.int .i64 3, .int .i64 (i : Int), .int .i64 v, .int .i64 u, .int .i64 t5]] w fun e w' => e = .returned (.tuple #[.int .i64 x, .bool true]) ∧ ∃ W, Below w.heap.size w W ∧ w' = W.setCell ⟨gd, i, none⟩ (.int .i64 (wrap64 (x + v))) := by
  have hbx : Below w.heap.size w (w.alloc (.cells #[.int .i64 3, .int .i64 (i : Int), .int .i64 v, .int .i64 u, .int .i64 t5] 72)) := by go_grown
  have hC := bl_blk h (show Below w.heap.size w (w.alloc (.cells #[.int .i64 3, .int .i64 (i : Int), .int .i64 v, .int .i64 u, .int .i64 t5] 72)) by go_grown)
  have HD := Lib.hid (data_v (show CO (w.alloc (.cells #[.int .i64 3, .int .i64 (i : Int), .int .i64 v, .int .i64 u, .int .i64 t5] 72)) C a b c d o f l fv wv (pt Sd) tv ov lv sv se st wy from hC) rfl)
  clear h hC
  have hd2 := hd.below hbx
  have CC := add_in Sd gd ds i v _ hd2 hi hm
  rw [hx] at CC
  have CC := Lib.hid CC
  clear hd hd2
  have HBX := Lib.hid hbx
  clear hbx
  go_enter Try.func30, Try.ntmps30
  go_wp2_with (first | (go_at_call 22; (with_reducible refine (HD.out).mono ?_); rintro _ _ ⟨rfl, rfl⟩) | (go_at_call 53; (with_reducible refine CC.out.mono ?_); rintro _ w3 ⟨rfl, hw⟩))
  go_ret2
  exact ⟨rfl, _, HBX.out, hw.symm⟩
set_option maxRecDepth 20000 in
set_option maxHeartbeats 1000000 in
theorem ask3n (ds : List Int) (at_ v u t5 : Int) (hc : w.heap.size = w.heap.size) (h : CO w C a b c d o f l fv wv (pt Sd) tv ov lv sv se st wy) (hd : StoreAt w Sd gd ds) (hat : at_ < 0 ∨ (ds.length : Int) ≤ at_) : Calls Try.prog 30 #[.pointer (some ⟨C, 0, none⟩), .agg #[.int .i64 3, .int .i64 at_, .int .i64 v, .int .i64 u, .int .i64 t5]] w fun e w' => e = .returned (.tuple #[.int .i64 0, .bool false]) ∧ Below w.heap.size w w' := by
  have hbx : Below w.heap.size w (w.alloc (.cells #[.int .i64 3, .int .i64 at_, .int .i64 v, .int .i64 u, .int .i64 t5] 72)) := by go_grown
  have hC := bl_blk h (show Below w.heap.size w (w.alloc (.cells #[.int .i64 3, .int .i64 at_, .int .i64 v, .int .i64 u, .int .i64 t5] 72)) by go_grown)
  have HD := Lib.hid (data_v (show CO (w.alloc (.cells #[.int .i64 3, .int .i64 at_, .int .i64 v, .int .i64 u, .int .i64 t5] 72)) C a b c d o f l fv wv (pt Sd) tv ov lv sv se st wy from hC) rfl)
  clear h hC
  have hd2 := hd.below hbx
  have CC := add_out Sd gd ds at_ v _ hd2 hat
  have CC := Lib.hid CC
  clear hd hd2
  have HBX := Lib.hid hbx
  clear hbx
  go_enter Try.func30, Try.ntmps30
  go_wp2_with (first | (go_at_call 22; (with_reducible refine (HD.out).mono ?_); rintro _ _ ⟨rfl, rfl⟩) | (go_at_call 53; (with_reducible refine CC.out.mono ?_); rintro _ w3 ⟨rfl, hw⟩))
  go_ret2
  subst hw
  exact ⟨rfl, HBX.out⟩
set_option maxRecDepth 20000 in
set_option maxHeartbeats 1000000 in
theorem ask4y (ds : List Int) (i : Nat) (v u t5 : Int) (hc : w.heap.size = w.heap.size) (h : CO w C a b c d o f l fv wv (pt Sd) tv ov lv sv se st wy) (hd : StoreAt w Sd gd ds) (hi : i < ds.length) (hm : ds.length ≤ 1048576) (hx : ds.getD i 0 = v) : Calls Try.prog 30 #[.pointer (some ⟨C, 0, none⟩), .agg #[.int .i64 4, .int .i64 (i : Int), .int .i64 v, .int .i64 u, .int .i64 t5]] w fun e w' => e = .returned (.tuple #[.int .i64 v, .bool true]) ∧ ∃ W, Below w.heap.size w W ∧ w' = W.setCell ⟨gd, i, none⟩ (.int .i64 u) := by
  have hbx : Below w.heap.size w (w.alloc (.cells #[.int .i64 4, .int .i64 (i : Int), .int .i64 v, .int .i64 u, .int .i64 t5] 72)) := by go_grown
  have hC := bl_blk h (show Below w.heap.size w (w.alloc (.cells #[.int .i64 4, .int .i64 (i : Int), .int .i64 v, .int .i64 u, .int .i64 t5] 72)) by go_grown)
  have HD := Lib.hid (data_v (show CO (w.alloc (.cells #[.int .i64 4, .int .i64 (i : Int), .int .i64 v, .int .i64 u, .int .i64 t5] 72)) C a b c d o f l fv wv (pt Sd) tv ov lv sv se st wy from hC) rfl)
  clear h hC
  have hd2 := hd.below hbx
  have CC := swap_yes Sd gd ds i v u _ hd2 hi hm (Lib.hid hx)
  have CC := Lib.hid CC
  clear hd hd2
  have HBX := Lib.hid hbx
  clear hbx
  go_enter Try.func30, Try.ntmps30
  go_wp2_with (first | (go_at_call 22; (with_reducible refine (HD.out).mono ?_); rintro _ _ ⟨rfl, rfl⟩) | (go_at_call 54; (with_reducible refine CC.out.mono ?_); rintro _ w3 ⟨rfl, hw⟩))
  go_ret2
  exact ⟨rfl, _, HBX.out, hw.symm⟩
set_option maxRecDepth 20000 in
set_option maxHeartbeats 1000000 in
theorem ask4o (ds : List Int) (x : Int) (i : Nat) (v u t5 : Int) (hc : w.heap.size = w.heap.size) (h : CO w C a b c d o f l fv wv (pt Sd) tv ov lv sv se st wy) (hd : StoreAt w Sd gd ds) (hi : i < ds.length) (hm : ds.length ≤ 1048576) (hx : ds.getD i 0 = x) (hne : ¬ x = v) : Calls Try.prog 30 #[.pointer (some ⟨C, 0, none⟩), .agg #[.int .i64 4, .int .i64 (i : Int), .int .i64 v, .int .i64 u, .int .i64 t5]] w fun e w' => e = .returned (.tuple #[.int .i64 x, .bool true]) ∧ Below w.heap.size w w' := by
  have hbx : Below w.heap.size w (w.alloc (.cells #[.int .i64 4, .int .i64 (i : Int), .int .i64 v, .int .i64 u, .int .i64 t5] 72)) := by go_grown
  have hC := bl_blk h (show Below w.heap.size w (w.alloc (.cells #[.int .i64 4, .int .i64 (i : Int), .int .i64 v, .int .i64 u, .int .i64 t5] 72)) by go_grown)
  have HD := Lib.hid (data_v (show CO (w.alloc (.cells #[.int .i64 4, .int .i64 (i : Int), .int .i64 v, .int .i64 u, .int .i64 t5] 72)) C a b c d o f l fv wv (pt Sd) tv ov lv sv se st wy from hC) rfl)
  clear h hC
  have hd2 := hd.below hbx
  have CC := swap_no Sd gd ds i x v u _ hd2 hi hm (Lib.hid hx) (by simpa using hne)
  have CC := Lib.hid CC
  clear hd hd2
  have HBX := Lib.hid hbx
  clear hbx
  go_enter Try.func30, Try.ntmps30
  go_wp2_with (first | (go_at_call 22; (with_reducible refine (HD.out).mono ?_); rintro _ _ ⟨rfl, rfl⟩) | (go_at_call 54; (with_reducible refine CC.out.mono ?_); rintro _ w3 ⟨rfl, hw⟩))
  go_ret2
  subst hw
  exact ⟨rfl, HBX.out⟩
set_option maxRecDepth 20000 in
set_option maxHeartbeats 1000000 in
theorem ask4n (ds : List Int) (at_ v u t5 : Int) (hc : w.heap.size = w.heap.size) (h : CO w C a b c d o f l fv wv (pt Sd) tv ov lv sv se st wy) (hd : StoreAt w Sd gd ds) (hat : at_ < 0 ∨ (ds.length : Int) ≤ at_) : Calls Try.prog 30 #[.pointer (some ⟨C, 0, none⟩), .agg #[.int .i64 4, .int .i64 at_, .int .i64 v, .int .i64 u, .int .i64 t5]] w fun e w' => e = .returned (.tuple #[.int .i64 0, .bool false]) ∧ Below w.heap.size w w' := by
  have hbx : Below w.heap.size w (w.alloc (.cells #[.int .i64 4, .int .i64 at_, .int .i64 v, .int .i64 u, .int .i64 t5] 72)) := by go_grown
  have hC := bl_blk h (show Below w.heap.size w (w.alloc (.cells #[.int .i64 4, .int .i64 at_, .int .i64 v, .int .i64 u, .int .i64 t5] 72)) by go_grown)
  have HD := Lib.hid (data_v (show CO (w.alloc (.cells #[.int .i64 4, .int .i64 at_, .int .i64 v, .int .i64 u, .int .i64 t5] 72)) C a b c d o f l fv wv (pt Sd) tv ov lv sv se st wy from hC) rfl)
  clear h hC
  have hd2 := hd.below hbx
  have CC := swap_out Sd gd ds at_ v u _ hd2 hat
  have CC := Lib.hid CC
  clear hd hd2
  have HBX := Lib.hid hbx
  clear hbx
  go_enter Try.func30, Try.ntmps30
  go_wp2_with (first | (go_at_call 22; (with_reducible refine (HD.out).mono ?_); rintro _ _ ⟨rfl, rfl⟩) | (go_at_call 54; (with_reducible refine CC.out.mono ?_); rintro _ w3 ⟨rfl, hw⟩))
  go_ret2
  subst hw
  exact ⟨rfl, HBX.out⟩
set_option maxRecDepth 20000 in
set_option maxHeartbeats 1000000 in
theorem ask5 (k at_ v u t5 : Int) (hc : w.heap.size = w.heap.size) (h : CO w C a b c d o f l fv wv (pt Sd) tv ov lv sv se st wy) (k1 : ¬ k = 1) (k1b : (k == 1) = false) (k1d : decide (k = 1) = false) (k2 : ¬ k = 2) (k2b : (k == 2) = false) (k2d : decide (k = 2) = false) (k3 : ¬ k = 3) (k3b : (k == 3) = false) (k3d : decide (k = 3) = false) (k4 : ¬ k = 4) (k4b : (k == 4) = false) (k4d : decide (k = 4) = false) : Calls Try.prog 30 #[.pointer (some ⟨C, 0, none⟩), .agg #[.int .i64 k, .int .i64 at_, .int .i64 v, .int .i64 u, .int .i64 t5]] w fun e w' => e = .returned (.tuple #[.int .i64 0, .bool false]) ∧ Below w.heap.size w w' := by
  have hbx : Below w.heap.size w (w.alloc (.cells #[.int .i64 k, .int .i64 at_, .int .i64 v, .int .i64 u, .int .i64 t5] 72)) := by go_grown
  have hC := bl_blk h (show Below w.heap.size w (w.alloc (.cells #[.int .i64 k, .int .i64 at_, .int .i64 v, .int .i64 u, .int .i64 t5] 72)) by go_grown)
  have HD := Lib.hid (data_v (show CO (w.alloc (.cells #[.int .i64 k, .int .i64 at_, .int .i64 v, .int .i64 u, .int .i64 t5] 72)) C a b c d o f l fv wv (pt Sd) tv ov lv sv se st wy from hC) rfl)
  clear h hC
  have HBX := Lib.hid hbx
  clear hbx
  go_enter Try.func30, Try.ntmps30
  go_wp2_with (first | (go_at_call 22; (with_reducible refine (HD.out).mono ?_); rintro _ _ ⟨rfl, rfl⟩))
  go_ret2
  exact ⟨rfl, HBX.out⟩
set_option maxRecDepth 20000 in
set_option maxHeartbeats 1000000 in
theorem ask5l (k at_ v u t5 : Int) (k1 : ¬ k = 1) (k1b : (k == 1) = false) (k1d : decide (k = 1) = false) (k2 : ¬ k = 2) (k2b : (k == 2) = false) (k2d : decide (k = 2) = false) (k3 : ¬ k = 3) (k3b : (k == 3) = false) (k3d : decide (k = 3) = false) (k4 : ¬ k = 4) (k4b : (k == 4) = false) (k4d : decide (k = 4) = false) : Calls Try.prog 30 #[.pointer none, .agg #[.int .i64 k, .int .i64 at_, .int .i64 v, .int .i64 u, .int .i64 t5]] w fun e w' => e = .returned (.tuple #[.int .i64 0, .bool false]) ∧ Below w.heap.size w w' := by
  have hbx : Below w.heap.size w (w.alloc (.cells #[.int .i64 k, .int .i64 at_, .int .i64 v, .int .i64 u, .int .i64 t5] 72)) := by go_grown
  have HBX := Lib.hid hbx
  clear hbx
  go_enter Try.func30, Try.ntmps30
  go_wp2_with (first | (go_at_call 22; (with_reducible refine ((data_nil (w := _))).mono ?_); rintro _ _ ⟨rfl, rfl⟩))
  go_ret2
  exact ⟨rfl, HBX.out⟩
set_option maxRecDepth 20000 in
set_option maxHeartbeats 1000000 in
theorem ask1l (at_ v u t5 : Int)  : Calls Try.prog 30 #[.pointer none, .agg #[.int .i64 1, .int .i64 at_, .int .i64 v, .int .i64 u, .int .i64 t5]] w fun e w' => e = .returned (.tuple #[.int .i64 0, .bool false]) ∧ Below w.heap.size w w' := by
  have hbx : Below w.heap.size w (w.alloc (.cells #[.int .i64 1, .int .i64 at_, .int .i64 v, .int .i64 u, .int .i64 t5] 72)) := by go_grown
  have HBX := Lib.hid hbx
  clear hbx
  go_enter Try.func30, Try.ntmps30
  go_wp2_with (first | (go_at_call 22; (with_reducible refine ((data_nil (w := _))).mono ?_); rintro _ _ ⟨rfl, rfl⟩) | (go_at_call 52; (with_reducible refine (load_nil at_ _).mono ?_); rintro _ w3 ⟨rfl, rfl⟩))
  go_ret2
  exact ⟨rfl, HBX.out⟩
set_option maxRecDepth 20000 in
set_option maxHeartbeats 1000000 in
theorem ask2l (at_ v u t5 : Int)  : Calls Try.prog 30 #[.pointer none, .agg #[.int .i64 2, .int .i64 at_, .int .i64 v, .int .i64 u, .int .i64 t5]] w fun e w' => e = .returned (.tuple #[.int .i64 0, .bool false]) ∧ Below w.heap.size w w' := by
  have hbx : Below w.heap.size w (w.alloc (.cells #[.int .i64 2, .int .i64 at_, .int .i64 v, .int .i64 u, .int .i64 t5] 72)) := by go_grown
  have HBX := Lib.hid hbx
  clear hbx
  go_enter Try.func30, Try.ntmps30
  go_wp2_with (first | (go_at_call 22; (with_reducible refine ((data_nil (w := _))).mono ?_); rintro _ _ ⟨rfl, rfl⟩) | (go_at_call 41; (with_reducible refine (store_nil at_ v _).mono ?_); rintro _ w3 ⟨rfl, rfl⟩))
  go_ret2
  exact ⟨rfl, HBX.out⟩
set_option maxRecDepth 20000 in
set_option maxHeartbeats 1000000 in
theorem ask3l (at_ v u t5 : Int)  : Calls Try.prog 30 #[.pointer none, .agg #[.int .i64 3, .int .i64 at_, .int .i64 v, .int .i64 u, .int .i64 t5]] w fun e w' => e = .returned (.tuple #[.int .i64 0, .bool false]) ∧ Below w.heap.size w w' := by
  have hbx : Below w.heap.size w (w.alloc (.cells #[.int .i64 3, .int .i64 at_, .int .i64 v, .int .i64 u, .int .i64 t5] 72)) := by go_grown
  have HBX := Lib.hid hbx
  clear hbx
  go_enter Try.func30, Try.ntmps30
  go_wp2_with (first | (go_at_call 22; (with_reducible refine ((data_nil (w := _))).mono ?_); rintro _ _ ⟨rfl, rfl⟩) | (go_at_call 53; (with_reducible refine (add_nil at_ v _).mono ?_); rintro _ w3 ⟨rfl, rfl⟩))
  go_ret2
  exact ⟨rfl, HBX.out⟩
set_option maxRecDepth 20000 in
set_option maxHeartbeats 1000000 in
theorem ask4l (at_ v u t5 : Int)  : Calls Try.prog 30 #[.pointer none, .agg #[.int .i64 4, .int .i64 at_, .int .i64 v, .int .i64 u, .int .i64 t5]] w fun e w' => e = .returned (.tuple #[.int .i64 0, .bool false]) ∧ Below w.heap.size w w' := by
  have hbx : Below w.heap.size w (w.alloc (.cells #[.int .i64 4, .int .i64 at_, .int .i64 v, .int .i64 u, .int .i64 t5] 72)) := by go_grown
  have HBX := Lib.hid hbx
  clear hbx
  go_enter Try.func30, Try.ntmps30
  go_wp2_with (first | (go_at_call 22; (with_reducible refine ((data_nil (w := _))).mono ?_); rintro _ _ ⟨rfl, rfl⟩) | (go_at_call 54; (with_reducible refine (swap_nil at_ v u _).mono ?_); rintro _ w3 ⟨rfl, rfl⟩))
  go_ret2
  exact ⟨rfl, HBX.out⟩
end
end Go.Proofs.Ytbmndjedgedbdaa.co
namespace Go.Proofs.Ytbmndjedgedbdaa.co
open Go.ChangeShapes Go.WideShapes Go.ChangeAt Go.RowKit
open Go.Proofs.Ytbmndjedgedbdaa.pr
attribute [local go_sem ↓] Go.wp_at_zero Go.wp_at_succ
attribute [local go_sem] Oper.semAt_some
set_option linter.unusedVariables false
set_option linter.unusedSimpArgs false
/-- where a core's parts are. -/
structure CL (w : World) (C Sw gw Sd gd T A Lb n4 n6 : Nat) : Prop where
  c : w.heap.size ≤ C ∧ w.heap.size ≤ gd
  lc : Sw < C ∧ gw < C ∧ Sd < C ∧ gd < C
  ln : C < n4 ∧ n4 ≤ n6 ∧ n6 ≤ T ∧ n6 ≤ A ∧ n6 ≤ Lb
  ne : gd ≠ gw ∧ Sd ≠ Sw ∧ Sd ≠ gw ∧ Sw ≠ gd
structure CoW (w W : World) (a b d o : Int) (cn : Nat) (f l : Bool) (L : List (List I4)) (ws ds : List Int) (C Sw gw Sd gd O Lg St T A Lb n4 n6 : Nat) (fv hv bv : Value) (rows ps : List Value) (se st wy : Int) : Prop where
  bb : Below w.heap.size w W
  oo : CO W C a b (cn : Int) d o f l fv (pt Sw) (pt Sd) (pt T) (pt O) (pt Lg) (pt St) se st wy
  op : OP W n4 fv rows L
  dd : StoreAt W Sd gd ds
  tab : ct.TS a b d w W (fun k => k < n6 ∨ k = T ∨ k = Lb) T Sw gw A Lb cn ws ps 1 hv bv [true] []
  ss : CL w C Sw gw Sd gd T A Lb n4 n6
section
variable {w W W' : World} {a b d o : Int} {cn : Nat} {f l : Bool} {L : List (List I4)} {ws ds : List Int} {C Sw gw Sd gd O Lg St T A Lb qf n4 n6 : Nat} {fv hv bv : Value} {rows ps : List Value} {se st wy : Int}
theorem CoS.go (h : CoS w W a b d o cn f l L ws ds C Sw gw Sd gd O Lg St T A Lb qf n4 n6 fv hv bv rows) : CoW w W a b d o cn f l L ws ds C Sw gw Sd gd O Lg St T A Lb n4 n6 fv hv bv rows ((List.replicate cn (.pointer none)).set 0 (.pointer (some ⟨qf, 0, none⟩))) 0 0 0 :=
  ⟨h.hb, h.ho, h.op, h.hd, h.tab, ⟨by have := h.lw; omega, by have := h.lc; omega, by have := h.ln; omega, h.ne⟩⟩
theorem CoW.below (h : CoW w W a b d o cn f l L ws ds C Sw gw Sd gd O Lg St T A Lb n4 n6 fv hv bv rows ps se st wy) (hb : Below W.heap.size W W') : CoW w W' a b d o cn f l L ws ds C Sw gw Sd gd O Lg St T A Lb n4 n6 fv hv bv rows ps se st wy :=
  ⟨bl_tr h.bb hb, bl_blk h.oo hb, h.op.below hb, h.dd.below hb, h.tab.below hb, h.ss⟩
/-- a cell of the block x, that is none of the table's or the code's, is another one. -/
theorem CoW.cell (h : CoW w W a b d o cn f l L ws ds C Sw gw Sd gd O Lg St T A Lb n4 n6 fv hv bv rows ps se st wy) {x : Nat} (i : Nat) (v : Value) (h1 : w.heap.size ≤ x) (h2 : x < n4) (h3 : x ≠ Sw) (h4 : x ≠ gw) :
    Below w.heap.size w (W.setCell ⟨x, i, none⟩ v) ∧ OP (W.setCell ⟨x, i, none⟩ v) n4 fv rows L ∧ ct.TS a b d w (W.setCell ⟨x, i, none⟩ v) (fun k => k < n6 ∨ k = T ∨ k = Lb) T Sw gw A Lb cn ws ps 1 hv bv [true] [] := by
  have ho : ∀ q, q ≠ x → (W.setCell ⟨x, i, none⟩ v).heap[q]? = W.heap[q]? := fun q hq => ro.set_oth W x i q v hq
  have hl := h.ss.ln
  have hB := h.bb.setCell (p := ⟨x, i, none⟩) h1 v
  refine ⟨hB, op_same h.op (fun q hq _ => ho q (by omega)), ?_⟩
  have t := h.tab
  exact ⟨⟨⟨(ho Sw (by omega)).trans t.j.1.1, (ho gw (by omega)).trans t.j.1.2.1, t.j.1.2.2⟩, hB, t.j.2.2⟩, (ho T (by omega)).trans t.t, (ho Lb (by omega)).trans t.l, fr.as_keep t.a ⟨by rw [ro.set_size]; exact Nat.le_refl _, fun q _ hq => ho q hq⟩ (.inl (by omega)), t.pl, t.sT, t.sL, t.sS, t.sg, t.lg, t.lS, t.lT, t.tg, t.l0, t.t0⟩
theorem CoW.serial (h : CoW w W a b d o cn f l L ws ds C Sw gw Sd gd O Lg St T A Lb n4 n6 fv hv bv rows ps se st wy) (x : Int) : CoW w (W.setCell ⟨C, 14, none⟩ (.int .i64 x)) a b d o cn f l L ws ds C Sw gw Sd gd O Lg St T A Lb n4 n6 fv hv bv rows ps x st wy := by
  have hs := h.ss
  have hc := hs.lc
  obtain ⟨h1, h2, h3⟩ := h.cell (x := C) 14 (.int .i64 x) hs.c.1 hs.ln.1 (by omega) (by omega)
  exact ⟨h1, by unfold CO; rw [set_blk W C 14 _ h.oo]; rfl, h2, ⟨(ro.set_oth W C 14 Sd _ (by omega)).trans h.dd.1, (ro.set_oth W C 14 gd _ (by omega)).trans h.dd.2.1, h.dd.2.2⟩, h3, hs⟩
theorem CoW.stop (h : CoW w W a b d o cn f l L ws ds C Sw gw Sd gd O Lg St T A Lb n4 n6 fv hv bv rows ps se st wy) (x y : Int) : CoW w ((W.setCell ⟨C, 15, none⟩ (.int .i64 x)).setCell ⟨C, 16, none⟩ (.int .i64 y)) a b d o cn f l L ws ds C Sw gw Sd gd O Lg St T A Lb n4 n6 fv hv bv rows ps se x y := by
  have hs := h.ss
  have hc := hs.lc
  have step : CoW w (W.setCell ⟨C, 15, none⟩ (.int .i64 x)) a b d o cn f l L ws ds C Sw gw Sd gd O Lg St T A Lb n4 n6 fv hv bv rows ps se x wy := by
    obtain ⟨h1, h2, h3⟩ := h.cell (x := C) 15 (.int .i64 x) hs.c.1 hs.ln.1 (by omega) (by omega)
    exact ⟨h1, by unfold CO; rw [set_blk W C 15 _ h.oo]; rfl, h2, ⟨(ro.set_oth W C 15 Sd _ (by omega)).trans h.dd.1, (ro.set_oth W C 15 gd _ (by omega)).trans h.dd.2.1, h.dd.2.2⟩, h3, hs⟩
  obtain ⟨h1, h2, h3⟩ := step.cell (x := C) 16 (.int .i64 y) hs.c.1 hs.ln.1 (by omega) (by omega)
  exact ⟨h1, by unfold CO; rw [set_blk _ C 16 _ step.oo]; rfl, h2, ⟨(ro.set_oth _ C 16 Sd _ (by omega)).trans step.dd.1, (ro.set_oth _ C 16 gd _ (by omega)).trans step.dd.2.1, step.dd.2.2⟩, h3, hs⟩
theorem CoW.data (h : CoW w W a b d o cn f l L ws ds C Sw gw Sd gd O Lg St T A Lb n4 n6 fv hv bv rows ps se st wy) (i : Nat) (x : Int) : CoW w (W.setCell ⟨gd, i, none⟩ (.int .i64 x)) a b d o cn f l L ws (ds.set i x) C Sw gw Sd gd O Lg St T A Lb n4 n6 fv hv bv rows ps se st wy := by
  have hs := h.ss
  have hc := hs.lc
  have hn := hs.ne
  have hl := hs.ln
  obtain ⟨h1, h2, h3⟩ := h.cell (x := gd) i (.int .i64 x) hs.c.2 (by omega) (by omega) (by omega)
  exact ⟨h1, (ro.set_oth W gd i C _ (by omega)).trans h.oo, h2, h.dd.set i x, h3, hs⟩
/-- how many frames there are. -/
theorem CoW.used (h : CoW w W a b d o cn f l L ws ds C Sw gw Sd gd O Lg St T A Lb n4 n6 fv hv bv rows ps se st wy) : Calls Try.prog 35 #[.pointer (some ⟨T, 0, none⟩)] W fun e w' => e = .returned (.int .i64 1) ∧ Below W.heap.size W w' :=
  ct.tused_of a b d w W _ T Sw gw A Lb cn ws ps 1 hv bv [true] [] h.tab (by simp)
/-- an instruction. -/
theorem CoW.code (h : CoW w W a b d o cn f l L ws ds C Sw gw Sd gd O Lg St T A Lb n4 n6 fv hv bv rows ps se st wy) (x y : Int) :
    Calls Try.prog 34 #[.pointer (some ⟨C, 0, none⟩), .int .i64 x, .int .i64 y] W fun e w' => e = .returned (.agg #[.int .i64 (if x < 0 ∨ y < 0 then d4 else (L.getD x.toNat []).getD y.toNat d4).1, .int .i64 (if x < 0 ∨ y < 0 then d4 else (L.getD x.toNat []).getD y.toNat d4).2.1, .int .i64 (if x < 0 ∨ y < 0 then d4 else (L.getD x.toNat []).getD y.toNat d4).2.2.1, .int .i64 (if x < 0 ∨ y < 0 then d4 else (L.getD x.toNat []).getD y.toNat d4).2.2.2]) ∧ Below W.heap.size W w' := by
  have hpm := h.op.pm
  obtain ⟨fa, fc, rfl, _⟩ := op_form h.op
  obtain ⟨n, hn⟩ : ∃ n, L.length = n := ⟨_, rfl⟩
  have c0 : W.cell? ⟨C, 7, none⟩ = some (.slice fa n fc) := by rw [← hn]; exact ro.cel h.oo 7
  rw [hn] at hpm
  have hC : C < W.heap.size := lt_of_heap h.oo
  by_cases h1 : x < 0
  · rw [if_pos (.inl h1)]
    exact code_a C n fc fa x y c0 hC h1 (decide_eq_true h1)
  obtain ⟨xn, rfl⟩ : ∃ xn : Nat, x = (xn : Int) := ⟨x.toNat, by omega⟩
  rw [Int.toNat_natCast]
  by_cases h3 : (n : Int) ≤ (xn : Int)
  · have : (if (xn : Int) < 0 ∨ y < 0 then d4 else (L.getD xn []).getD y.toNat d4) = d4 := by
      split
      · rfl
      · rw [List.getD_eq_getElem?_getD (l := L), List.getElem?_eq_none (by omega)]
        rfl
    rw [this]
    exact code_b C n fc fa xn y c0 hC h1 (decide_eq_false h1) h3 (decide_eq_true h3)
  by_cases h5 : y < 0
  · rw [if_pos (.inr h5)]
    exact code_c C n fc fa xn y c0 hC h1 (decide_eq_false h1) h3 (decide_eq_false h3) h5 (decide_eq_true h5)
  obtain ⟨yn, rfl⟩ : ∃ yn : Nat, y = (yn : Int) := ⟨y.toNat, by omega⟩
  rw [Int.toNat_natCast, if_neg (by omega)]
  obtain ⟨g0, o0, ai, ci, hfa, _, cr, hrow⟩ := hpm.row xn (by omega)
  obtain ⟨code, hcode⟩ : ∃ code, L.getD xn [] = code := ⟨_, rfl⟩
  rw [hcode] at cr hrow ⊢
  obtain ⟨m, hm⟩ : ∃ m, code.length = m := ⟨_, rfl⟩
  rw [hm] at cr hrow
  have ho : o0 = 0 := by
    obtain ⟨⟨_, ⟨e0, h0⟩ | ⟨g, cap, cur, e0, _⟩⟩, _⟩ := h.op
    · rw [Value.slice.injEq] at e0; rw [e0.1] at hfa; cases hfa
    · rw [Value.slice.injEq, hfa] at e0
      have := e0.1
      simp only [Option.some.injEq, Addr.mk.injEq] at this
      exact this.2.1
  subst ho
  subst hfa
  rw [Nat.zero_add] at cr
  by_cases h7 : (m : Int) ≤ (yn : Int)
  · have : code.getD yn d4 = d4 := by
      rw [List.getD_eq_getElem?_getD, List.getElem?_eq_none (by omega)]
      rfl
    rw [this]
    exact code_d C n fc g0 xn m ci ai yn c0 hC h1 (decide_eq_false h1) h3 (decide_eq_false h3) (decide_eq_false (by omega)) (by omega) (by omega) cr h5 (decide_eq_false h5) h7 (decide_eq_true h7)
  · obtain ⟨bg, og, e, _, hc⟩ := hrow.at yn (code.getD yn d4) (by rw [List.getD_eq_getElem?_getD, List.getElem?_eq_getElem (by omega)]; rfl)
    subst e
    obtain ⟨ins, hins⟩ : ∃ ins, code.getD yn d4 = ins := ⟨_, rfl⟩
    rw [hins] at hc ⊢
    obtain ⟨i0, i1, i2, i3⟩ := ins
    exact code_e C n fc g0 xn m ci yn bg og i0 i1 i2 i3 c0 hC h1 (decide_eq_false h1) h3 (decide_eq_false h3) (decide_eq_false (by omega)) (by omega) (by omega) cr h5 (decide_eq_false h5) h7 (decide_eq_false h7) (decide_eq_false (by omega)) (by omega) (by omega) (hc 0 _ rfl) (hc 1 _ rfl) (hc 2 _ rfl) (hc 3 _ rfl)
end
/-- a core just made. -/
def NewP (w : World) (a b d o : Int) (cn : Nat) (f l : Bool) (L : List (List I4)) (ds : List Int) (e : Ending) (w' : World) : Prop :=
  ∃ ws C Sw gw Sd gd O Lg St T A Lb n4 n6 fv hv bv rows ps, e = .returned (.tuple #[.pointer (some ⟨C, 0, none⟩), .int .i64 0]) ∧ Hid (CoW w w' a b d o cn f l L ws ds C Sw gw Sd gd O Lg St T A Lb n4 n6 fv hv bv rows ps 0 0 0)
theorem new_p (mn : Nat) (pa : Option Addr) (pn pc : Nat) (L : List (List I4)) (ya : Option Addr) (yn yc : Nat) (xs : List Int) (a b d o : Int) (cn : Nat) (f l : Bool) (R : Nat) (w : World)
    (hP : PM w (.slice pa pn pc) L) (hI : Inp w ya yn xs) (hok : coE (mn : Int) L yn ⟨a, b, (cn : Int), d, o, f, l⟩ = 0) (hR : a * (4 + d) + (cn : Int) * (2 + (b + 1) * 4) = (R : Int)) (hmn : mn ≤ 1048576) :
    Calls Try.prog 8 #[.agg #[.int .i64 (mn : Int), .slice pa pn pc], .slice ya yn yc, .agg #[.int .i64 a, .int .i64 b, .int .i64 (cn : Int), .int .i64 d, .int .i64 o, .bool f, .bool l]] w (NewP w a b d o cn f l L (dsN mn xs yn)) := by
  refine (new_v mn pa pn pc L ya yn yc xs a b d o cn f l R w hP hI hok hR hmn).mono ?_
  rintro e w' ⟨C, Sw, gw, Sd, gd, O, Lg, St, T, A, Lb, qf, n4, n6, fv, hv, bv, rows, rfl, hc⟩
  exact ⟨_, C, Sw, gw, Sd, gd, O, Lg, St, T, A, Lb, n4, n6, fv, hv, bv, rows, _, rfl, Lib.hid hc.out.go⟩
end Go.Proofs.Ytbmndjedgedbdaa.co
namespace Go.Proofs.Ytbmndjedgedbdaa.co
open Go.ChangeShapes Go.WideShapes Go.ChangeAt Go.RowKit
open Go.Proofs.Ytbmndjedgedbdaa.pr
attribute [local go_sem ↓] Go.wp_at_zero Go.wp_at_succ
attribute [local go_sem] Oper.semAt_some
set_option linter.unusedVariables false
set_option linter.unusedSimpArgs false
theorem eq_ins (w : World) : Sem.run Try.prog (binOp .eql 68 (.agg #[.int .i64 17, .int .i64 1, .int .i64 0, .int .i64 0]) (.agg #[.int .i64 17, .int .i64 1, .int .i64 0, .int .i64 0])) w = .ok (.bool true) w := by kernel_rfl
set_option maxRecDepth 20000 in
set_option maxHeartbeats 2000000 in
theorem works_v (w : World) : Calls Try.prog 6 #[] w fun e w' => e = .returned (.bool true) ∧ Below w.heap.size w w' := by
  have heq := eq_ins
  have hW : ∃ W, (((w.alloc (.cells #[.int .i64 17, .int .i64 1, .int .i64 0, .int .i64 0, .int .i64 0, .int .i64 0, .int .i64 0, .int .i64 0] 68)).alloc (.cells #[.slice (some ⟨w.heap.size, 0, none⟩) 2 2] 69)).alloc (.cells #[.int .i64 2, .slice (some ⟨w.heap.size + 1, 0, none⟩) 1 1] 24)).alloc (.cells #[.int .i64 7] 3) = W := ⟨_, rfl⟩
  obtain ⟨W, hW⟩ := hW
  have hbW : Below w.heap.size w W := by rw [← hW]; go_grown
  have b0 : W.heap[w.heap.size]? = some (.cells #[.int .i64 17, .int .i64 1, .int .i64 0, .int .i64 0, .int .i64 0, .int .i64 0, .int .i64 0, .int .i64 0] 68 (0, 0)) := by
    rw [← hW]; exact bl_blk (heap_new w _) (by go_grown)
  have b1 : W.heap[w.heap.size + 1]? = some (.cells #[.slice (some ⟨w.heap.size, 0, none⟩) 2 2] 69 (0, 0)) := by
    rw [← hW]; exact bl_blk (heap_newk (w.alloc _) _ (by simp)) (by go_grown)
  have b3 : W.heap[w.heap.size + 1 + 1 + 1]? = some (.cells #[.int .i64 7] 3 (0, 0)) := by
    rw [← hW]; exact heap_newk _ _ (by simp)
  have hPM : PM W (.slice (some ⟨w.heap.size + 1, 0, none⟩) 1 1) L1w := pm1 b1 (OR.rv recI (or_lit b0 rfl (by omega) rfl))
  have hIn : Inp W (some ⟨w.heap.size + 1 + 1 + 1, 0, none⟩) 1 [7] := ⟨rfl, fun i hi => ⟨w.heap.size + 1 + 1 + 1, 0, rfl, by
    obtain rfl : i = 0 := by omega
    exact ro.cel b3 0⟩⟩
  have HNew : Hid (Calls Try.prog 8 #[.agg #[.int .i64 2, .slice (some ⟨w.heap.size + 1, 0, none⟩) 1 1], .slice (some ⟨w.heap.size + 1 + 1 + 1, 0, none⟩) 1 1, .agg #[.int .i64 1, .int .i64 1, .int .i64 2, .int .i64 2, .int .i64 3, .bool false, .bool false]] W (NewP W 1 1 2 3 2 false false L1w (dsN 2 [7] 1))) := Lib.hid (new_p 2 (some ⟨w.heap.size + 1, 0, none⟩) 1 1 L1w (some ⟨w.heap.size + 1 + 1 + 1, 0, none⟩) 1 1 [7] 1 1 2 3 2 false false 26 W hPM hIn (co_0 pr1 1 ⟨1, 1, 2, 2, 3, false, false⟩ (show Okay 1 2 1 2 by unfold Okay; omega) (by decide) (by decide) (by decide)) (by decide) (by omega))
  have HBW := Lib.hid hbW
  have HW := Lib.hid hW
  clear hW hbW b0 b1 b3 hPM hIn
  go_enter Try.func6, Try.ntmps6
  go_upto_region 3 with (go_at_call 8; rw [HW.out]; (with_reducible refine HNew.out.mono ?_); rintro _ w3 ⟨ws, C, Sw, gw, Sd, gd, O, Lg, St, T, A, Lb, n4, n6, fv, hv, bv, rows, ps, rfl, H3⟩)
  have HA : Hid (Calls Try.prog 30 #[.pointer (some ⟨C, 0, none⟩), .agg #[.int .i64 1, .int .i64 0, .int .i64 0, .int .i64 0, .int .i64 0]] w3 fun e w' => e = .returned (.tuple #[.int .i64 7, .bool true]) ∧ Below w3.heap.size w3 w') := Lib.hid (ask1 (dsN 2 [7] 1) 7 0 0 0 0 rfl H3.out.oo H3.out.dd (by rw [dsN_len]; omega) (by rw [dsN_len]; omega) rfl)
  have hTP : ∀ x : Nat, pt x = .pointer (some ⟨x, 0, none⟩) := fun _ => rfl
  go_upto_region 6 with (go_at_call 30; (with_reducible refine HA.out.mono ?_); rintro _ w4 ⟨rfl, hb4⟩)
  have H4 := Lib.hid (H3.out.below hb4)
  clear hb4
  go_upto_region 7 with (first | (go_at_call 33; (with_reducible refine (serial_v (se := 0) H4.out.oo (by omega) (by omega)).mono ?_); rintro _ w5 ⟨rfl, h5⟩; have H5 := Lib.hid (h5 ▸ H4.out.serial 1); clear h5) | (go_at_call 33; (with_reducible refine (serial_v (se := 1) H5.out.oo (by omega) (by omega)).mono ?_); rintro _ w6 ⟨rfl, h6⟩; have H6 := Lib.hid (h6 ▸ H5.out.serial 2); clear h6))
  go_upto_region 8 with (go_at_call 32; (with_reducible refine (stop_go H6.out.oo 1 0).mono ?_); rintro _ w7 ⟨rfl, h7⟩; have H7 := Lib.hid (h7 ▸ H6.out.stop 1 0); clear h7)
  go_upto_region 9 with (go_at_call 16; (with_reducible refine (status_v H7.out.oo).mono ?_); rintro _ w8 ⟨rfl, q8, h8⟩; have H8 : Hid (CoW W w8 1 1 2 3 2 false false L1w ws (dsN 2 [7] 1) C Sw gw Sd gd O Lg St T A Lb n4 n6 fv hv bv rows ps 2 1 0) := Lib.hid (by rw [h8]; exact H7.out.below (ghb (Below.refl _ _) q8)); clear h8)
  have HCd : Hid (Calls Try.prog 34 #[.pointer (some ⟨C, 0, none⟩), .int .i64 0, .int .i64 0] w8 fun e w' => e = .returned (.agg #[.int .i64 17, .int .i64 1, .int .i64 0, .int .i64 0]) ∧ Below w8.heap.size w8 w') := Lib.hid (H8.out.code 0 0)
  go_wp2_with (first | (go_at_call 34; (with_reducible refine HCd.out.mono ?_); rintro _ w9 ⟨rfl, h9⟩; have H9 := Lib.hid (H8.out.below h9); clear h9) | (go_at_call 17; (with_reducible refine (frames_v H9.out.oo rfl).mono ?_); rintro _ _ ⟨rfl, rfl⟩) | (go_at_call 35; (with_reducible refine H9.out.used.mono ?_); rintro _ w10 ⟨rfl, h10⟩; have H10 := Lib.hid (H9.out.below h10); clear h10))
  go_ret
  exact ⟨rfl, bl_tr HBW.out H10.out.bb⟩
end Go.Proofs.Ytbmndjedgedbdaa.co
