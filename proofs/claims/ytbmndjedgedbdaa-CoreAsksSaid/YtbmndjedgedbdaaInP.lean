/- Forms of operations, and what operands may be (layer 3). -/
import Derived.Test.YtbmndjedgedbdaaCut
import Derived.Laws.RangeString
import Derived.Lib.OthersKept
import Derived.Deep.RegionHeld3
namespace Go.Proofs.Ytbmndjedgedbdaa.ins
open Go.ChangeShapes Go.WideShapes Go.ChangeAt Go.RowKit
open Go.Proofs.Ytbmndjedgedbdaa.bin Go.Proofs.Ytbmndjedgedbdaa.bits
set_option linter.unusedVariables false
set_option linter.unusedSimpArgs false
def frm : Nat → List UInt8
  | 1 => [114, 110]
  | 2 | 13 | 14 => [114, 114]
  | 3 | 4 | 5 | 6 | 7 | 8 | 9 | 10 | 11 | 12 | 15 | 16 => [114, 114, 114]
  | 17 | 23 | 24 => [114]
  | 18 => [116]
  | 19 => [114, 116]
  | 20 | 22 => [102]
  | _ => []
def frmI (op : Int) : List UInt8 := if 0 ≤ op then frm op.toNat else []
def okL (c : UInt8) (n : Int) : Bool := if c = 114 then decide (0 ≤ n ∧ n < 8) else if c = 102 then decide (0 ≤ n ∧ n < 16) else if c = 116 then decide (0 ≤ n ∧ n < 200) else decide (-32768 ≤ n ∧ n ≤ 32767)
def wd (c : UInt8) : Nat := if c = 114 ∨ c = 102 then 1 else 2
def chkL : List UInt8 → List Int → Int
  | [], fs => if fs.all (· == 0) then 0 else 4
  | c :: f, n :: fs => if okL c n then chkL f fs else 3
  | _ :: _, [] => 0
def chkI (op A B C : Int) : Int := if op < 0 ∨ 25 < op then 5 else chkL (frmI op) [A, B, C]
def PF (op : Int) (f : List UInt8) : Prop := ∀ w : World, Calls Try.prog 80 #[.int .i64 op] w fun e w' => e = .returned (.string ⟨f.toArray⟩) ∧ w = w'
def RF (op : Int) (f : List UInt8) : Prop := ∀ w : World, Calls Try.prog 71 #[.int .i64 op] w fun e w' => e = .returned (.string ⟨f.toArray⟩) ∧ Below w.heap.size w w'
theorem pf_0 : PF 0 (frm 0) := by
  intro w
  go_enter Try.func80, Try.ntmps80
  go_wp2_with fail
  go_ret
  exact ⟨rfl, rfl⟩
theorem rf_0 : RF 0 (frm 0) := by
  intro w
  go_enter Try.func71, Try.ntmps71
  go_wp2_with (go_at_call 78; go_in)
  go_ret
  exact ⟨rfl, by go_grown⟩
theorem pf_1 : PF 1 (frm 1) := by
  intro w
  go_enter Try.func80, Try.ntmps80
  go_wp2_with fail
  go_ret
  exact ⟨rfl, rfl⟩
theorem rf_1 : RF 1 (frm 1) := by
  intro w
  go_enter Try.func71, Try.ntmps71
  go_wp2_with (go_at_call 78; go_in)
  go_ret
  exact ⟨rfl, by go_grown⟩
theorem pf_2 : PF 2 (frm 2) := by
  intro w
  go_enter Try.func80, Try.ntmps80
  go_wp2_with fail
  go_ret
  exact ⟨rfl, rfl⟩
theorem rf_2 : RF 2 (frm 2) := by
  intro w
  go_enter Try.func71, Try.ntmps71
  go_wp2_with (go_at_call 78; go_in)
  go_ret
  exact ⟨rfl, by go_grown⟩
theorem pf_3 : PF 3 (frm 3) := by
  intro w
  go_enter Try.func80, Try.ntmps80
  go_wp2_with fail
  go_ret
  exact ⟨rfl, rfl⟩
theorem rf_3 : RF 3 (frm 3) := by
  intro w
  go_enter Try.func71, Try.ntmps71
  go_wp2_with (go_at_call 78; go_in)
  go_ret
  exact ⟨rfl, by go_grown⟩
theorem pf_4 : PF 4 (frm 4) := by
  intro w
  go_enter Try.func80, Try.ntmps80
  go_wp2_with fail
  go_ret
  exact ⟨rfl, rfl⟩
theorem rf_4 : RF 4 (frm 4) := by
  intro w
  go_enter Try.func71, Try.ntmps71
  go_wp2_with (go_at_call 78; go_in)
  go_ret
  exact ⟨rfl, by go_grown⟩
theorem pf_5 : PF 5 (frm 5) := by
  intro w
  go_enter Try.func80, Try.ntmps80
  go_wp2_with fail
  go_ret
  exact ⟨rfl, rfl⟩
theorem rf_5 : RF 5 (frm 5) := by
  intro w
  go_enter Try.func71, Try.ntmps71
  go_wp2_with (go_at_call 78; go_in)
  go_ret
  exact ⟨rfl, by go_grown⟩
theorem pf_6 : PF 6 (frm 6) := by
  intro w
  go_enter Try.func80, Try.ntmps80
  go_wp2_with fail
  go_ret
  exact ⟨rfl, rfl⟩
theorem rf_6 : RF 6 (frm 6) := by
  intro w
  go_enter Try.func71, Try.ntmps71
  go_wp2_with (go_at_call 78; go_in)
  go_ret
  exact ⟨rfl, by go_grown⟩
theorem pf_7 : PF 7 (frm 7) := by
  intro w
  go_enter Try.func80, Try.ntmps80
  go_wp2_with fail
  go_ret
  exact ⟨rfl, rfl⟩
theorem rf_7 : RF 7 (frm 7) := by
  intro w
  go_enter Try.func71, Try.ntmps71
  go_wp2_with (go_at_call 78; go_in)
  go_ret
  exact ⟨rfl, by go_grown⟩
theorem pf_8 : PF 8 (frm 8) := by
  intro w
  go_enter Try.func80, Try.ntmps80
  go_wp2_with fail
  go_ret
  exact ⟨rfl, rfl⟩
theorem rf_8 : RF 8 (frm 8) := by
  intro w
  go_enter Try.func71, Try.ntmps71
  go_wp2_with (go_at_call 78; go_in)
  go_ret
  exact ⟨rfl, by go_grown⟩
theorem pf_9 : PF 9 (frm 9) := by
  intro w
  go_enter Try.func80, Try.ntmps80
  go_wp2_with fail
  go_ret
  exact ⟨rfl, rfl⟩
theorem rf_9 : RF 9 (frm 9) := by
  intro w
  go_enter Try.func71, Try.ntmps71
  go_wp2_with (go_at_call 78; go_in)
  go_ret
  exact ⟨rfl, by go_grown⟩
theorem pf_10 : PF 10 (frm 10) := by
  intro w
  go_enter Try.func80, Try.ntmps80
  go_wp2_with fail
  go_ret
  exact ⟨rfl, rfl⟩
theorem rf_10 : RF 10 (frm 10) := by
  intro w
  go_enter Try.func71, Try.ntmps71
  go_wp2_with (go_at_call 78; go_in)
  go_ret
  exact ⟨rfl, by go_grown⟩
theorem pf_11 : PF 11 (frm 11) := by
  intro w
  go_enter Try.func80, Try.ntmps80
  go_wp2_with fail
  go_ret
  exact ⟨rfl, rfl⟩
theorem rf_11 : RF 11 (frm 11) := by
  intro w
  go_enter Try.func71, Try.ntmps71
  go_wp2_with (go_at_call 78; go_in)
  go_ret
  exact ⟨rfl, by go_grown⟩
theorem pf_12 : PF 12 (frm 12) := by
  intro w
  go_enter Try.func80, Try.ntmps80
  go_wp2_with fail
  go_ret
  exact ⟨rfl, rfl⟩
theorem rf_12 : RF 12 (frm 12) := by
  intro w
  go_enter Try.func71, Try.ntmps71
  go_wp2_with (go_at_call 78; go_in)
  go_ret
  exact ⟨rfl, by go_grown⟩
theorem pf_13 : PF 13 (frm 13) := by
  intro w
  go_enter Try.func80, Try.ntmps80
  go_wp2_with fail
  go_ret
  exact ⟨rfl, rfl⟩
theorem rf_13 : RF 13 (frm 13) := by
  intro w
  go_enter Try.func71, Try.ntmps71
  go_wp2_with (go_at_call 78; go_in)
  go_ret
  exact ⟨rfl, by go_grown⟩
theorem pf_14 : PF 14 (frm 14) := by
  intro w
  go_enter Try.func80, Try.ntmps80
  go_wp2_with fail
  go_ret
  exact ⟨rfl, rfl⟩
theorem rf_14 : RF 14 (frm 14) := by
  intro w
  go_enter Try.func71, Try.ntmps71
  go_wp2_with (go_at_call 78; go_in)
  go_ret
  exact ⟨rfl, by go_grown⟩
theorem pf_15 : PF 15 (frm 15) := by
  intro w
  go_enter Try.func80, Try.ntmps80
  go_wp2_with fail
  go_ret
  exact ⟨rfl, rfl⟩
theorem rf_15 : RF 15 (frm 15) := by
  intro w
  go_enter Try.func71, Try.ntmps71
  go_wp2_with (go_at_call 78; go_in)
  go_ret
  exact ⟨rfl, by go_grown⟩
theorem pf_16 : PF 16 (frm 16) := by
  intro w
  go_enter Try.func80, Try.ntmps80
  go_wp2_with fail
  go_ret
  exact ⟨rfl, rfl⟩
theorem rf_16 : RF 16 (frm 16) := by
  intro w
  go_enter Try.func71, Try.ntmps71
  go_wp2_with (go_at_call 78; go_in)
  go_ret
  exact ⟨rfl, by go_grown⟩
theorem pf_17 : PF 17 (frm 17) := by
  intro w
  go_enter Try.func80, Try.ntmps80
  go_wp2_with fail
  go_ret
  exact ⟨rfl, rfl⟩
theorem rf_17 : RF 17 (frm 17) := by
  intro w
  go_enter Try.func71, Try.ntmps71
  go_wp2_with (go_at_call 78; go_in)
  go_ret
  exact ⟨rfl, by go_grown⟩
theorem pf_18 : PF 18 (frm 18) := by
  intro w
  go_enter Try.func80, Try.ntmps80
  go_wp2_with fail
  go_ret
  exact ⟨rfl, rfl⟩
theorem rf_18 : RF 18 (frm 18) := by
  intro w
  go_enter Try.func71, Try.ntmps71
  go_wp2_with (go_at_call 78; go_in)
  go_ret
  exact ⟨rfl, by go_grown⟩
theorem pf_19 : PF 19 (frm 19) := by
  intro w
  go_enter Try.func80, Try.ntmps80
  go_wp2_with fail
  go_ret
  exact ⟨rfl, rfl⟩
theorem rf_19 : RF 19 (frm 19) := by
  intro w
  go_enter Try.func71, Try.ntmps71
  go_wp2_with (go_at_call 78; go_in)
  go_ret
  exact ⟨rfl, by go_grown⟩
theorem pf_20 : PF 20 (frm 20) := by
  intro w
  go_enter Try.func80, Try.ntmps80
  go_wp2_with fail
  go_ret
  exact ⟨rfl, rfl⟩
theorem rf_20 : RF 20 (frm 20) := by
  intro w
  go_enter Try.func71, Try.ntmps71
  go_wp2_with (go_at_call 78; go_in)
  go_ret
  exact ⟨rfl, by go_grown⟩
theorem pf_21 : PF 21 (frm 21) := by
  intro w
  go_enter Try.func80, Try.ntmps80
  go_wp2_with fail
  go_ret
  exact ⟨rfl, rfl⟩
theorem rf_21 : RF 21 (frm 21) := by
  intro w
  go_enter Try.func71, Try.ntmps71
  go_wp2_with (go_at_call 78; go_in)
  go_ret
  exact ⟨rfl, by go_grown⟩
theorem pf_22 : PF 22 (frm 22) := by
  intro w
  go_enter Try.func80, Try.ntmps80
  go_wp2_with fail
  go_ret
  exact ⟨rfl, rfl⟩
theorem rf_22 : RF 22 (frm 22) := by
  intro w
  go_enter Try.func71, Try.ntmps71
  go_wp2_with (go_at_call 78; go_in)
  go_ret
  exact ⟨rfl, by go_grown⟩
theorem pf_23 : PF 23 (frm 23) := by
  intro w
  go_enter Try.func80, Try.ntmps80
  go_wp2_with fail
  go_ret
  exact ⟨rfl, rfl⟩
theorem rf_23 : RF 23 (frm 23) := by
  intro w
  go_enter Try.func71, Try.ntmps71
  go_wp2_with (go_at_call 78; go_in)
  go_ret
  exact ⟨rfl, by go_grown⟩
theorem pf_24 : PF 24 (frm 24) := by
  intro w
  go_enter Try.func80, Try.ntmps80
  go_wp2_with fail
  go_ret
  exact ⟨rfl, rfl⟩
theorem rf_24 : RF 24 (frm 24) := by
  intro w
  go_enter Try.func71, Try.ntmps71
  go_wp2_with (go_at_call 78; go_in)
  go_ret
  exact ⟨rfl, by go_grown⟩
theorem pf_25 : PF 25 (frm 25) := by
  intro w
  go_enter Try.func80, Try.ntmps80
  go_wp2_with fail
  go_ret
  exact ⟨rfl, rfl⟩
theorem rf_25 : RF 25 (frm 25) := by
  intro w
  go_enter Try.func71, Try.ntmps71
  go_wp2_with (go_at_call 78; go_in)
  go_ret
  exact ⟨rfl, by go_grown⟩
theorem pf_no (op : Int) (h : op < 0 ∨ 25 < op) : PF op [] := by
  intro w
  have e1 : (op == 1) = false := by simp; omega
  have e2 : (op == 2) = false := by simp; omega
  have e3 : (op == 3) = false := by simp; omega
  have e4 : (op == 4) = false := by simp; omega
  have e5 : (op == 5) = false := by simp; omega
  have e6 : (op == 6) = false := by simp; omega
  have e7 : (op == 7) = false := by simp; omega
  have e8 : (op == 8) = false := by simp; omega
  have e9 : (op == 9) = false := by simp; omega
  have e10 : (op == 10) = false := by simp; omega
  have e11 : (op == 11) = false := by simp; omega
  have e12 : (op == 12) = false := by simp; omega
  have e13 : (op == 13) = false := by simp; omega
  have e14 : (op == 14) = false := by simp; omega
  have e15 : (op == 15) = false := by simp; omega
  have e16 : (op == 16) = false := by simp; omega
  have e17 : (op == 17) = false := by simp; omega
  have e18 : (op == 18) = false := by simp; omega
  have e19 : (op == 19) = false := by simp; omega
  have e20 : (op == 20) = false := by simp; omega
  have e21 : (op == 21) = false := by simp; omega
  have e22 : (op == 22) = false := by simp; omega
  have e23 : (op == 23) = false := by simp; omega
  have e24 : (op == 24) = false := by simp; omega
  have e25 : (op == 25) = false := by simp; omega
  clear h
  go_enter Try.func80, Try.ntmps80
  go_wp2_with fail
  go_ret
  exact ⟨rfl, rfl⟩
theorem rf_no (op : Int) (h : op < 0 ∨ 25 < op) : RF op [] := by
  intro w
  by_cases h1 : op < 0
  · go_enter Try.func71, Try.ntmps71
    go_wp2_with fail
    go_ret
    exact ⟨rfl, Below.refl _ _⟩
  · have h2 : 25 < op := by omega
    go_enter Try.func71, Try.ntmps71
    go_wp2_with fail
    go_ret
    exact ⟨rfl, Below.refl _ _⟩
theorem frmI_no (op : Int) (h : op < 0 ∨ 25 < op) : frmI op = [] := by
  unfold frmI
  split
  · obtain ⟨n, hn⟩ : ∃ n : Nat, op = (n : Int) + 26 := ⟨(op - 26).toNat, by omega⟩
    subst hn
    rw [show ((n : Int) + 26).toNat = n + 26 by omega]
    rfl
  · rfl
theorem op_cases (op : Int) (h1 : 0 ≤ op) (h2 : op ≤ 25) : op = 0 ∨ op = 1 ∨ op = 2 ∨ op = 3 ∨ op = 4 ∨ op = 5 ∨ op = 6 ∨ op = 7 ∨ op = 8 ∨ op = 9 ∨ op = 10 ∨ op = 11 ∨ op = 12 ∨ op = 13 ∨ op = 14 ∨ op = 15 ∨ op = 16 ∨ op = 17 ∨ op = 18 ∨ op = 19 ∨ op = 20 ∨ op = 21 ∨ op = 22 ∨ op = 23 ∨ op = 24 ∨ op = 25 := by omega
theorem pf_of (op : Int) : PF op (frmI op) := by
  by_cases h : op < 0 ∨ 25 < op
  · rw [frmI_no op h]; exact pf_no op h
  · rcases op_cases op (by omega) (by omega) with rfl | rfl | rfl | rfl | rfl | rfl | rfl | rfl | rfl | rfl | rfl | rfl | rfl | rfl | rfl | rfl | rfl | rfl | rfl | rfl | rfl | rfl | rfl | rfl | rfl | rfl
    · rw [show frmI 0 = frm 0 from by decide]; exact pf_0
    · rw [show frmI 1 = frm 1 from by decide]; exact pf_1
    · rw [show frmI 2 = frm 2 from by decide]; exact pf_2
    · rw [show frmI 3 = frm 3 from by decide]; exact pf_3
    · rw [show frmI 4 = frm 4 from by decide]; exact pf_4
    · rw [show frmI 5 = frm 5 from by decide]; exact pf_5
    · rw [show frmI 6 = frm 6 from by decide]; exact pf_6
    · rw [show frmI 7 = frm 7 from by decide]; exact pf_7
    · rw [show frmI 8 = frm 8 from by decide]; exact pf_8
    · rw [show frmI 9 = frm 9 from by decide]; exact pf_9
    · rw [show frmI 10 = frm 10 from by decide]; exact pf_10
    · rw [show frmI 11 = frm 11 from by decide]; exact pf_11
    · rw [show frmI 12 = frm 12 from by decide]; exact pf_12
    · rw [show frmI 13 = frm 13 from by decide]; exact pf_13
    · rw [show frmI 14 = frm 14 from by decide]; exact pf_14
    · rw [show frmI 15 = frm 15 from by decide]; exact pf_15
    · rw [show frmI 16 = frm 16 from by decide]; exact pf_16
    · rw [show frmI 17 = frm 17 from by decide]; exact pf_17
    · rw [show frmI 18 = frm 18 from by decide]; exact pf_18
    · rw [show frmI 19 = frm 19 from by decide]; exact pf_19
    · rw [show frmI 20 = frm 20 from by decide]; exact pf_20
    · rw [show frmI 21 = frm 21 from by decide]; exact pf_21
    · rw [show frmI 22 = frm 22 from by decide]; exact pf_22
    · rw [show frmI 23 = frm 23 from by decide]; exact pf_23
    · rw [show frmI 24 = frm 24 from by decide]; exact pf_24
    · rw [show frmI 25 = frm 25 from by decide]; exact pf_25
theorem rf_of (op : Int) : RF op (frmI op) := by
  by_cases h : op < 0 ∨ 25 < op
  · rw [frmI_no op h]; exact rf_no op h
  · rcases op_cases op (by omega) (by omega) with rfl | rfl | rfl | rfl | rfl | rfl | rfl | rfl | rfl | rfl | rfl | rfl | rfl | rfl | rfl | rfl | rfl | rfl | rfl | rfl | rfl | rfl | rfl | rfl | rfl | rfl
    · rw [show frmI 0 = frm 0 from by decide]; exact rf_0
    · rw [show frmI 1 = frm 1 from by decide]; exact rf_1
    · rw [show frmI 2 = frm 2 from by decide]; exact rf_2
    · rw [show frmI 3 = frm 3 from by decide]; exact rf_3
    · rw [show frmI 4 = frm 4 from by decide]; exact rf_4
    · rw [show frmI 5 = frm 5 from by decide]; exact rf_5
    · rw [show frmI 6 = frm 6 from by decide]; exact rf_6
    · rw [show frmI 7 = frm 7 from by decide]; exact rf_7
    · rw [show frmI 8 = frm 8 from by decide]; exact rf_8
    · rw [show frmI 9 = frm 9 from by decide]; exact rf_9
    · rw [show frmI 10 = frm 10 from by decide]; exact rf_10
    · rw [show frmI 11 = frm 11 from by decide]; exact rf_11
    · rw [show frmI 12 = frm 12 from by decide]; exact rf_12
    · rw [show frmI 13 = frm 13 from by decide]; exact rf_13
    · rw [show frmI 14 = frm 14 from by decide]; exact rf_14
    · rw [show frmI 15 = frm 15 from by decide]; exact rf_15
    · rw [show frmI 16 = frm 16 from by decide]; exact rf_16
    · rw [show frmI 17 = frm 17 from by decide]; exact rf_17
    · rw [show frmI 18 = frm 18 from by decide]; exact rf_18
    · rw [show frmI 19 = frm 19 from by decide]; exact rf_19
    · rw [show frmI 20 = frm 20 from by decide]; exact rf_20
    · rw [show frmI 21 = frm 21 from by decide]; exact rf_21
    · rw [show frmI 22 = frm 22 from by decide]; exact rf_22
    · rw [show frmI 23 = frm 23 from by decide]; exact rf_23
    · rw [show frmI 24 = frm 24 from by decide]; exact rf_24
    · rw [show frmI 25 = frm 25 from by decide]; exact rf_25
theorem known_v (op : Int) (b : Bool) (h : decide (0 ≤ op ∧ op ≤ 25) = b) (w : World) : Calls Try.prog 79 #[.int .i64 op] w fun e w' => e = .returned (.bool b) ∧ w = w' := by
  by_cases h1 : 0 ≤ op
  · have hb : b = decide (op < 26) := by rw [← h]; by_cases h2 : op ≤ 25 <;> simp [h1, h2] <;> omega
    subst hb
    clear h
    go_enter Try.func79, Try.ntmps79
    go_wp2_with fail
    go_ret
    exact ⟨rfl, rfl⟩
  · have hb : b = false := by rw [← h]; simp [h1]
    subst hb
    clear h
    go_enter Try.func79, Try.ntmps79
    go_wp2_with fail
    go_ret
    exact ⟨rfl, rfl⟩
theorem width_1 (c : UInt8) (h : c = 114 ∨ c = 102) (w : World) : Calls Try.prog 83 #[.int .u8 (c.toNat : Int)] w fun e w' => e = .returned (.int .i64 1) ∧ w = w' := by
  rcases h with rfl | rfl
  all_goals
    go_enter Try.func83, Try.ntmps83
    go_wp2_with fail
    go_ret
    exact ⟨rfl, rfl⟩
theorem width_2 (c : UInt8) (h : c = 110 ∨ c = 116) (w : World) : Calls Try.prog 83 #[.int .u8 (c.toNat : Int)] w fun e w' => e = .returned (.int .i64 2) ∧ w = w' := by
  rcases h with rfl | rfl
  all_goals
    go_enter Try.func83, Try.ntmps83
    go_wp2_with fail
    go_ret
    exact ⟨rfl, rfl⟩
theorem within_r (n : Int) (b : Bool) (h : okL 114 n = b) (w : World) : Calls Try.prog 81 #[.int .u8 114, .int .i64 n] w fun e w' => e = .returned (.bool b) ∧ w = w' := by
  have h' : decide (0 ≤ n ∧ n < 8) = b := h
  by_cases h1 : 0 ≤ n
  · have hb : b = decide (n < 8) := by rw [← h']; by_cases h2 : n < 8 <;> simp [h1, h2]
    subst hb
    clear h h'
    go_enter Try.func81, Try.ntmps81
    go_wp2_with fail
    go_ret
    exact ⟨rfl, rfl⟩
  · have hb : b = false := by rw [← h']; simp [h1]
    subst hb
    clear h h'
    go_enter Try.func81, Try.ntmps81
    go_wp2_with fail
    go_ret
    exact ⟨rfl, rfl⟩
theorem within_f (n : Int) (b : Bool) (h : okL 102 n = b) (w : World) : Calls Try.prog 81 #[.int .u8 102, .int .i64 n] w fun e w' => e = .returned (.bool b) ∧ w = w' := by
  have h' : decide (0 ≤ n ∧ n < 16) = b := h
  by_cases h1 : 0 ≤ n
  · have hb : b = decide (n < 16) := by rw [← h']; by_cases h2 : n < 16 <;> simp [h1, h2]
    subst hb
    clear h h'
    go_enter Try.func81, Try.ntmps81
    go_wp2_with fail
    go_ret
    exact ⟨rfl, rfl⟩
  · have hb : b = false := by rw [← h']; simp [h1]
    subst hb
    clear h h'
    go_enter Try.func81, Try.ntmps81
    go_wp2_with fail
    go_ret
    exact ⟨rfl, rfl⟩
theorem within_t (n : Int) (b : Bool) (h : okL 116 n = b) (w : World) : Calls Try.prog 81 #[.int .u8 116, .int .i64 n] w fun e w' => e = .returned (.bool b) ∧ w = w' := by
  have h' : decide (0 ≤ n ∧ n < 200) = b := h
  by_cases h1 : 0 ≤ n
  · have hb : b = decide (n < 200) := by rw [← h']; by_cases h2 : n < 200 <;> simp [h1, h2]
    subst hb
    clear h h'
    go_enter Try.func81, Try.ntmps81
    go_wp2_with fail
    go_ret
    exact ⟨rfl, rfl⟩
  · have hb : b = false := by rw [← h']; simp [h1]
    subst hb
    clear h h'
    go_enter Try.func81, Try.ntmps81
    go_wp2_with fail
    go_ret
    exact ⟨rfl, rfl⟩
theorem fit2 (n : Int) : (sgV n 2 == n) = decide (-32768 ≤ n ∧ n ≤ 32767) := by
  unfold sgV
  rw [show pw 2 = 65536 from rfl]
  by_cases h : -32768 ≤ n ∧ n ≤ 32767
  · rw [decide_eq_true h]
    simp only [beq_iff_eq]
    split <;> omega
  · rw [decide_eq_false h]
    simp only [beq_eq_false_iff_ne, ne_eq]
    split <;> omega
theorem within_n (n : Int) (b : Bool) (h : okL 110 n = b) (w : World) : Calls Try.prog 81 #[.int .u8 110, .int .i64 n] w fun e w' => e = .returned (.bool b) ∧ w = w' := by
  have h' : decide (-32768 ≤ n ∧ n ≤ 32767) = b := h
  rw [← fit2] at h'
  have C1 := fun w => width_2 110 (.inl rfl) w
  have C2 := fun w => fits_any n 2 w
  rw [show hz 2 = 2 from rfl, h'] at C2
  replace C1 := Lib.hid C1
  replace C2 := Lib.hid C2
  clear h h'
  go_enter Try.func81, Try.ntmps81
  go_wp2_with (first | (go_at_call 83; (refine (C1.out _).mono ?_); rintro e w' ⟨rfl, rfl⟩) | (go_at_call 82; (refine (C2.out _).mono ?_); rintro e w' ⟨rfl, rfl⟩))
  go_ret
  exact ⟨rfl, rfl⟩
theorem ends_r (w : World) : Calls Try.prog 72 #[.string ⟨#[114]⟩] w fun e w' => e = .returned (.tuple #[.int .i64 0, .int .i64 7]) ∧ w = w' := by
  go_enter Try.func72, Try.ntmps72
  go_wp2_with fail
  go_ret2
  exact ⟨rfl, rfl⟩
theorem ends_f (w : World) : Calls Try.prog 72 #[.string ⟨#[102]⟩] w fun e w' => e = .returned (.tuple #[.int .i64 0, .int .i64 15]) ∧ w = w' := by
  go_enter Try.func72, Try.ntmps72
  go_wp2_with fail
  go_ret2
  exact ⟨rfl, rfl⟩
theorem ends_t (w : World) : Calls Try.prog 72 #[.string ⟨#[116]⟩] w fun e w' => e = .returned (.tuple #[.int .i64 0, .int .i64 199]) ∧ w = w' := by
  go_enter Try.func72, Try.ntmps72
  go_wp2_with fail
  go_ret2
  exact ⟨rfl, rfl⟩
theorem ends_n (w : World) : Calls Try.prog 72 #[.string ⟨#[110]⟩] w fun e w' => e = .returned (.tuple #[.int .i64 (-32768), .int .i64 32767]) ∧ w = w' := by
  go_enter Try.func72, Try.ntmps72
  go_wp2_with fail
  go_ret2
  exact ⟨rfl, rfl⟩
end Go.Proofs.Ytbmndjedgedbdaa.ins
namespace Go.Proofs.Ytbmndjedgedbdaa.ins
open Go.ChangeShapes Go.WideShapes Go.ChangeAt Go.RowKit
open Go.Proofs.Ytbmndjedgedbdaa.bin Go.Proofs.Ytbmndjedgedbdaa.bits
set_option linter.unusedVariables false
set_option linter.unusedSimpArgs false
theorem kc {W W' : World} {B j : Nat} {v : Value} (h : W.cell? ⟨B, j, none⟩ = some v) (hb : Below W.heap.size W W') : W'.cell? ⟨B, j, none⟩ = some v :=
  (hb.cell (p := ⟨B, j, none⟩) (World.block_lt_of_cell? W _ h)).trans h
/-- one of the four letters -/
def Lt (x : UInt8) : Prop := x = 114 ∨ x = 110 ∨ x = 116 ∨ x = 102
theorem within_v (x : UInt8) (hx : Lt x) (n : Int) (b : Bool) (h : okL x n = b) (w : World) : Calls Try.prog 81 #[.int .u8 (x.toNat : Int), .int .i64 n] w fun e w' => e = .returned (.bool b) ∧ w = w' := by
  rcases hx with rfl | rfl | rfl | rfl
  · exact within_r n b h w
  · exact within_n n b h w
  · exact within_t n b h w
  · exact within_f n b h w
def loL (x : UInt8) : Int := if x = 110 then -32768 else 0
def hiL (x : UInt8) : Int := if x = 114 then 7 else if x = 102 then 15 else if x = 116 then 199 else 32767
theorem ends_v (x : UInt8) (hx : Lt x) (w : World) : Calls Try.prog 72 #[.string ⟨#[x]⟩] w fun e w' => e = .returned (.tuple #[.int .i64 (loL x), .int .i64 (hiL x)]) ∧ w = w' := by
  rcases hx with rfl | rfl | rfl | rfl
  · exact ends_r w
  · exact ends_n w
  · exact ends_t w
  · exact ends_f w
theorem okL_iff (x : UInt8) (hx : Lt x) (n : Int) : okL x n = decide (loL x ≤ n ∧ n ≤ hiL x) := by
  rcases hx with rfl | rfl | rfl | rfl
  · show decide (0 ≤ n ∧ n < 8) = decide (0 ≤ n ∧ n ≤ 7)
    rw [decide_eq_decide]; omega
  · rfl
  · show decide (0 ≤ n ∧ n < 200) = decide (0 ≤ n ∧ n ≤ 199)
    rw [decide_eq_decide]; omega
  · show decide (0 ≤ n ∧ n < 16) = decide (0 ≤ n ∧ n ≤ 15)
    rw [decide_eq_decide]; omega
theorem lt_128 (x : UInt8) (hx : Lt x) : x.toNat < 128 := by
  rcases hx with rfl | rfl | rfl | rfl <;> decide
theorem frm_ok : ∀ n : Nat, (frm n).length ≤ 3 ∧ ∀ x ∈ frm n, Lt x := by
  intro n
  have key : ∀ l : List UInt8, l.length ≤ 3 → l.all (fun x => x == 114 || x == 110 || x == 116 || x == 102) = true → l.length ≤ 3 ∧ ∀ x ∈ l, Lt x := by
    intro l h1 h2
    refine ⟨h1, fun x hx => ?_⟩
    have := List.all_eq_true.1 h2 x hx
    simp only [Bool.or_eq_true, beq_iff_eq] at this
    unfold Lt
    rcases this with ((h | h) | h) | h <;> simp [h]
  unfold frm
  split <;> exact key _ (by decide) (by decide)
theorem frmI_ok (op : Int) : (frmI op).length ≤ 3 ∧ ∀ x ∈ frmI op, Lt x := by
  unfold frmI
  split
  · exact frm_ok _
  · exact ⟨by simp, by simp⟩
/-- what is cut off, step by step -/
theorem drop_at {α : Type} [Inhabited α] (l : List α) (d : α) (i : Nat) (h : i < l.length) : l.drop i = l.getD i d :: l.drop (i + 1) := by
  rw [List.drop_eq_getElem_cons h]
  congr 1
  simp [List.getD_eq_getElem?_getD, List.getElem?_eq_getElem h]
theorem str_at (f : List UInt8) (i : Nat) (h : i < (⟨f.toArray⟩ : ByteArray).size) : (⟨f.toArray⟩ : ByteArray)[i]'h = f.getD i 0 := by
  have h2 : i < f.length := by
    have h3 : i < f.toArray.size := h
    simpa using h3
  show f.toArray[i] = _
  simp [List.getD_eq_getElem?_getD, List.getElem?_eq_getElem h2]
theorem str_size (f : List UInt8) : (⟨f.toArray⟩ : ByteArray).size = f.length := by show f.toArray.size = _; simp
theorem getD_Lt {f : List UInt8} (h : ∀ x ∈ f, Lt x) {i : Nat} (hi : i < f.length) : Lt (f.getD i 0) := by
  rw [List.getD_eq_getElem?_getD, List.getElem?_eq_getElem hi]
  exact h _ (List.getElem_mem hi)
theorem heap_new (w : World) (cs : Array Value) (e : TypeId) : (w.alloc (.cells cs e)).heap[w.heap.size]? = some (.cells cs e (0, 0)) := by
  show (w.heap.push _)[w.heap.size]? = _
  simp
theorem tr3 {a b c : World} (h1 : Below a.heap.size a b) (h2 : Below b.heap.size b c) : Below a.heap.size a c := h1.trans (h2.mono h1.size)
theorem iter_dd (W : World) (s : ByteArray) (q n p : Nat) : ((W.drewN q).iter s p).drewN n = (W.drewN (q + n)).iter s p := by
  rw [← World.drewN_drewN]; rfl
theorem iter_pos (W : World) (s : ByteArray) (q p g : Nat) (h : W.heap.size = g) : ((W.drewN q).iter s p).iterPos g = p := by
  subst h
  unfold World.iterPos
  have : ((W.drewN q).iter s p).heap[W.heap.size]? = some (.stringIter s p) := World.iter_heap (W.drewN q) s p
  rw [this]
theorem iter_below (W : World) (s : ByteArray) (q p : Nat) : Below W.heap.size W ((W.drewN q).iter s p) := (below_drewN (Below.refl _ _) q).alloc (Nat.le_refl _) _
def three (A B C : Int) : List Int := [A, B, C]
theorem three_cell {w : World} {g : Nat} {A B C : Int} {e : Nat} (h : w.heap[g]? = some (.cells #[.int .i64 A, .int .i64 B, .int .i64 C] e (0, 0))) (i : Nat) (hi : i < 3) : w.cell? ⟨g, i, none⟩ = some (.int .i64 ((three A B C).getD i 0)) := by
  match i, hi with
  | 0, _ => simp [World.cell?, h, three]
  | 1, _ => simp [World.cell?, h, three]
  | 2, _ => simp [World.cell?, h, three]
set_option maxRecDepth 20000 in
set_option maxHeartbeats 4000000 in
theorem pchk_v (op A B C c : Int) (f : List UInt8) (w : World) (ho : 0 ≤ op) (ho2 : op ≤ 25) (hl : f.length ≤ 3) (hL : Hid (∀ x ∈ f, Lt x)) (hf : Hid (PF op f)) (hc : chkL f (three A B C) = c) :
    Calls Try.prog 74 #[.agg #[.int .i64 op, .int .i64 A, .int .i64 B, .int .i64 C]] w fun e w' => e = .returned (.int .i64 c) ∧ Below w.heap.size w w' := by
  have CK := Lib.hid (fun w => known_v op true (by simp [ho, ho2]) w)
  obtain ⟨W, hW⟩ : ∃ W, (w.alloc (.cells #[.int .i64 op, .int .i64 A, .int .i64 B, .int .i64 C] 68)).alloc (.cells #[.int .i64 A, .int .i64 B, .int .i64 C] 134) = W := ⟨_, rfl⟩
  have hb0 : Below w.heap.size w W := by rw [← hW]; go_grown
  have hs0 : W.heap.size = w.heap.size + 1 + 1 := by rw [← hW]; simp
  have hcell : W.heap[w.heap.size + 1]? = some (.cells #[.int .i64 A, .int .i64 B, .int .i64 C] 134 (0, 0)) := by
    rw [← hW]
    have := heap_new (w.alloc (.cells #[.int .i64 op, .int .i64 A, .int .i64 B, .int .i64 C] 68)) #[.int .i64 A, .int .i64 B, .int .i64 C] 134
    simpa using this
  have HCL : Hid (∀ (q pos i : Nat), i < 3 → ((W.drewN q).iter ⟨f.toArray⟩ pos).cell? ⟨w.heap.size + 1, i, none⟩ = some (.int .i64 ((three A B C).getD i 0))) := Lib.hid fun q pos i hi => by
    refine kc (W := W.drewN q) (three_cell (w := W.drewN q) hcell i hi) ?_
    unfold World.iter; go_grown
  have HB0 := Lib.hid hb0
  have HW := Lib.hid hW
  have hc0 : Hid (chkL (f.drop 0) ((three A B C).drop 0) = c) := Lib.hid (by simpa using hc)
  have hfs := str_size f
  clear hc hW hcell hb0
  go_enter Try.func74, Try.ntmps74
  go_wp2_with (first | (go_at_call 79; (refine (CK.out _).mono ?_); rintro e w' ⟨rfl, rfl⟩) | (go_at_call 80; (refine (hf.out _).mono ?_); rintro e w' ⟨rfl, rfl⟩))
  rw [HW.out]
  go_loopw [24] (fun _ wr => ∃ pos q, wr = (W.drewN q).iter ⟨f.toArray⟩ pos ∧ pos ≤ f.length ∧ Hid (chkL (f.drop pos) ((three A B C).drop pos) = c)) (fun _ wr => f.length - wr.iterPos (w.heap.size + 1 + 1))
  case atStart => exact ⟨0, 0, rfl, by omega, hc0⟩
  case round =>
    clear hc0
    obtain ⟨pos, q, rfl, hpl, HC⟩ := hrel
    by_cases hlt : pos < f.length
    · have hps : pos < (⟨f.toArray⟩ : ByteArray).size := by rw [hfs]; exact hlt
      have hxL : Lt (f.getD pos 0) := getD_Lt hL.out hlt
      have hat := str_at f pos hps
      have hd : f.drop pos = f.getD pos 0 :: f.drop (pos + 1) := drop_at f 0 pos hlt
      have hd3 : (three A B C).drop pos = (three A B C).getD pos 0 :: (three A B C).drop (pos + 1) := drop_at _ 0 pos (by simp [three]; omega)
      have hcl := fun q pos' => HCL.out q pos' pos (by omega)
      obtain ⟨x, hx⟩ : ∃ x, f.getD pos 0 = x := ⟨_, rfl⟩
      obtain ⟨n, hn⟩ : ∃ n, (three A B C).getD pos 0 = n := ⟨_, rfl⟩
      rw [hx] at hxL hat hd
      rw [hn] at hd3 hcl
      have hc1 := HC.out
      rw [hd, hd3] at hc1
      have hnx : ∀ ty, (Instr.next (.pointer (some ⟨w.heap.size + 1 + 1, 0, none⟩)) true ty).run Try.prog ((W.drewN q).iter ⟨f.toArray⟩ pos) = .ok (.tuple #[.bool true, .int .i64 pos, .int .i32 (x.toNat : Int)]) ((W.drewN q).iter ⟨f.toArray⟩ (pos + 1)) := fun ty => by
        rw [← hs0, ← hat]
        exact run_next_ascii (P := Try.prog) (W.drewN q) ⟨f.toArray⟩ pos ty hps (by rw [hat]; exact lt_128 x hxL)
      have hplI : (pos : Int) < (f.length : Int) := by omega
      have CW := Lib.hid (fun b hb w => within_v x hxL n b hb w)
      clear hx hn hd hd3 HC hxL
      cases hok : okL x n with
      | false =>
        have h3 : c = 3 := by rw [← hc1]; simp [chkL, hok]
        subst h3
        clear hc1
        go_wp2_with fail
        go_quiet ((go_at_call 81; exact quiet_eq (CW.out false hok _)))
        go_wp2_with fail
        go_ret
        exact ⟨rfl, below_drewN (tr3 HB0.out (iter_below _ _ _ _)) _⟩
      | true =>
        have HC1 : Hid (chkL (f.drop (pos + 1)) ((three A B C).drop (pos + 1)) = c) := Lib.hid (by rw [← hc1]; simp [chkL, hok])
        clear hc1
        go_wp2_with fail
        go_quiet ((go_at_call 81; exact quiet_eq (CW.out true hok _)))
        go_wp2_with fail
        go_roundw
        case rel => exact ⟨pos + 1, q + nq, iter_dd _ _ _ _ _, by omega, HC1⟩
        case measure => rw [iter_dd, iter_pos _ _ _ _ _ hs0, iter_pos _ _ _ _ _ hs0]; omega
    · obtain rfl : pos = f.length := by omega
      have hnx : ∀ ty, (Instr.next (.pointer (some ⟨w.heap.size + 1 + 1, 0, none⟩)) true ty).run Try.prog ((W.drewN q).iter ⟨f.toArray⟩ f.length) = .ok (.tuple #[.bool false]) ((W.drewN q).iter ⟨f.toArray⟩ f.length) := fun ty => by
        rw [← hs0]
        exact run_next_end (P := Try.prog) (W.drewN q) ⟨f.toArray⟩ f.length ty (by rw [hfs]; omega)
      obtain ⟨W1, hW1⟩ : ∃ W1, (W.drewN q).iter ⟨f.toArray⟩ f.length = W1 := ⟨_, rfl⟩
      have hB1 : Below w.heap.size w W1 := by rw [← hW1]; exact tr3 HB0.out (iter_below _ _ _ _)
      have hcl : Hid (∀ i, i < 3 → W1.cell? ⟨w.heap.size + 1, i, none⟩ = some (.int .i64 ((three A B C).getD i 0))) := Lib.hid (by rw [← hW1]; exact HCL.out q f.length)
      have hbl : w.heap.size + 1 < W1.heap.size := World.block_lt_of_cell? _ _ (hcl.out 0 (by omega))
      have hc1 : Hid (chkL [] ((three A B C).drop f.length) = c) := Lib.hid (by have := HC.out; rw [List.drop_length] at this; exact this)
      have hflI : (f.length : Int) ≤ 3 := by omega
      have HB1 := Lib.hid hB1
      obtain ⟨l, hfl⟩ : ∃ l, f.length = l := ⟨_, rfl⟩
      have hfs2 := hfs
      rw [hfl] at hl hflI hc1 hW1 hnx hfs2 ⊢
      rw [hW1] at hnx ⊢
      clear hW1 hB1 HC HCL HW HB0 CK
      have HFL := Lib.hid hfl
      clear hfl hfs
      by_cases h3 : l = 3
      · subst h3
        have hc2 : c = 0 := by rw [← hc1.out]; simp [chkL, three]
        subst hc2
        clear hc1
        go_wp2_with fail
        go_loop [39] (fun i => i = .int .i64 0) (fun _ => 0)
        case atStart => rfl
        case round =>
          subst hrel
          go_wp2_with fail
          go_ret
          exact ⟨rfl, HB1.out⟩
      · have hne : ¬ 3 = l := by omega
        have hsub : ((3 - l : Nat) : Int) = 3 - (l : Int) := by omega
        have hc2 : Hid (chkL [] ((three A B C).drop (l + 0)) = c) := hc1
        clear hc1
        go_wp2_with fail
        go_loop [39] (fun i => ∃ j : Nat, i = .int .i64 (j : Int) ∧ l + j ≤ 3 ∧ Hid (chkL [] ((three A B C).drop (l + j)) = c)) (fun i => 3 - (intOf i).toNat)
        case atStart => exact ⟨0, rfl, by omega, hc2⟩
        case round =>
          clear hc2
          obtain ⟨j, rfl, hj, HC⟩ := hrel
          by_cases hlt : l + j < 3
          · have hjl : (j : Int) < ((3 - l : Nat) : Int) := by omega
            have hx := hcl.out (l + j) hlt
            have hd3 : (three A B C).drop (l + j) = (three A B C).getD (l + j) 0 :: (three A B C).drop (l + j + 1) := drop_at _ 0 _ (by simp [three]; omega)
            obtain ⟨n, hn⟩ : ∃ n, (three A B C).getD (l + j) 0 = n := ⟨_, rfl⟩
            rw [hn] at hx hd3
            have hc1 := HC.out
            rw [hd3] at hc1
            clear hn hd3 HC
            by_cases h0 : n = 0
            · subst h0
              have HC1 : Hid (chkL [] ((three A B C).drop (l + (j + 1))) = c) := Lib.hid (by rw [← hc1]; simp [chkL, Nat.add_assoc])
              clear hc1
              go_wp2_with fail
              go_round
              case rel => exact ⟨j + 1, by go_num, by omega, HC1⟩
              case measure => simp [intOf]; omega
            · have h0b : (n == 0) = false := by simpa using h0
              have h0n : (n != 0) = true := by simpa using h0
              have h4 : c = 4 := by rw [← hc1]; simp [chkL, h0]
              subst h4
              clear hc1
              go_wp2_with fail
              go_ret
              exact ⟨rfl, HB1.out⟩
          · have hjl : ¬ (j : Int) < ((3 - l : Nat) : Int) := by omega
            have hc0 : c = 0 := by rw [← HC.out, List.drop_eq_nil_of_le (by simp [three]; omega)]; rfl
            subst hc0
            clear HC
            go_wp2_with fail
            go_ret
            exact ⟨rfl, HB1.out⟩
end Go.Proofs.Ytbmndjedgedbdaa.ins
namespace Go.Proofs.Ytbmndjedgedbdaa.ins
open Go.ChangeShapes Go.WideShapes Go.ChangeAt Go.RowKit
open Go.Proofs.Ytbmndjedgedbdaa.bin Go.Proofs.Ytbmndjedgedbdaa.bits
set_option linter.unusedVariables false
set_option linter.unusedSimpArgs false
theorem str_cut (f : List UInt8) (i : Nat) (h : i < f.length) : (⟨f.toArray⟩ : ByteArray).extract i (i + 1) = ⟨#[f.getD i 0]⟩ := by
  rw [ByteArray.ext_iff, ByteArray.data_extract]
  apply Array.ext'
  rw [Array.toList_extract, List.extract_eq_take_drop, show i + 1 - i = 1 by omega]
  show List.take 1 (List.drop i f) = [f.getD i 0]
  rw [List.drop_eq_getElem_cons h, List.getD_eq_getElem?_getD, List.getElem?_eq_getElem h]
  rfl
set_option maxRecDepth 20000 in
set_option maxHeartbeats 4000000 in
theorem rchk_v (op A B C c : Int) (f : List UInt8) (w : World) (ho : 0 ≤ op) (ho2 : op ≤ 25) (hl : f.length ≤ 3) (hL : Hid (∀ x ∈ f, Lt x)) (hf : Hid (RF op f)) (hc : chkL f (three A B C) = c) :
    Calls Try.prog 61 #[.agg #[.int .i64 op, .int .i64 A, .int .i64 B, .int .i64 C]] w fun e w' => e = .returned (.int .i64 c) ∧ Below w.heap.size w w' := by
  have hc0 : Hid (chkL (f.drop 0) ((three A B C).drop 0) = c) := Lib.hid (by simpa using hc)
  have hfs := str_size f
  have hov : ¬ 9223372036854775807 < f.length := by omega
  clear hc
  go_enter Try.func61, Try.ntmps61
  go_wp2_with fail
  refine (hf.out _).mono ?_
  rintro e w1 ⟨rfl, hb⟩
  have r1 : w1.cell? ⟨w.heap.size, 1, none⟩ = some (.int .i64 A) := kc (by go_simp) hb
  have r2 : w1.cell? ⟨w.heap.size, 2, none⟩ = some (.int .i64 B) := kc (by go_simp) hb
  have r3 : w1.cell? ⟨w.heap.size, 3, none⟩ = some (.int .i64 C) := kc (by go_simp) hb
  have hw1 : Below w.heap.size w w1 := Below.trans (by go_grown) (hb.mono (by simp))
  obtain ⟨W, hW⟩ : ∃ W, w1.alloc (.cells #[.int .i64 A, .int .i64 B, .int .i64 C] 3) = W := ⟨_, rfl⟩
  have hWb : Below w1.heap.size w1 W := by rw [← hW]; go_grown
  have hcell : W.heap[w1.heap.size]? = some (.cells #[.int .i64 A, .int .i64 B, .int .i64 C] 3 (0, 0)) := by rw [← hW]; exact heap_new _ _ _
  have HCL : Hid (∀ i, i < 3 → W.cell? ⟨w1.heap.size, i, none⟩ = some (.int .i64 ((three A B C).getD i 0))) := Lib.hid (three_cell hcell)
  have hbl : w1.heap.size < W.heap.size := (Array.getElem?_eq_some_iff.1 hcell).1
  have HB := Lib.hid (tr3 hw1 hWb)
  have HW := Lib.hid hW
  clear hb hw1 hWb hcell hW
  go_wp2_with fail
  rw [HW.out]
  go_loop [5] (fun i => ∃ pos : Nat, i = .int .i64 (pos : Int) ∧ pos ≤ f.length ∧ Hid (chkL (f.drop pos) ((three A B C).drop pos) = c)) (fun i => f.length - (intOf i).toNat)
  case atStart => exact ⟨0, rfl, by omega, hc0⟩
  case round =>
    clear hc0
    obtain ⟨pos, rfl, hpl, HC⟩ := hrel
    by_cases hlt : pos < f.length
    · have hxL : Lt (f.getD pos 0) := getD_Lt hL.out hlt
      have hcut := str_cut f pos hlt
      have hd : f.drop pos = f.getD pos 0 :: f.drop (pos + 1) := drop_at f 0 pos hlt
      have hd3 : (three A B C).drop pos = (three A B C).getD pos 0 :: (three A B C).drop (pos + 1) := drop_at _ 0 pos (by simp [three]; omega)
      have hcl := HCL.out pos (by omega)
      obtain ⟨x, hx⟩ : ∃ x, f.getD pos 0 = x := ⟨_, rfl⟩
      obtain ⟨n, hn⟩ : ∃ n, (three A B C).getD pos 0 = n := ⟨_, rfl⟩
      rw [hx] at hxL hcut hd
      rw [hn] at hd3 hcl
      have hc1 := HC.out
      rw [hd, hd3] at hc1
      have hiff := okL_iff x hxL n
      have CE := Lib.hid (fun w => ends_v x hxL w)
      obtain ⟨lo, hlo⟩ : ∃ lo, loL x = lo := ⟨_, rfl⟩
      obtain ⟨hi, hhi⟩ : ∃ hi, hiL x = hi := ⟨_, rfl⟩
      rw [hlo, hhi] at hiff CE
      clear hx hn hd hd3 HC hxL hlo hhi
      by_cases h1 : n < lo
      · have h3 : c = 3 := by rw [← hc1]; simp [chkL, hiff]; omega
        subst h3
        clear hc1 hiff
        go_wp2_with (go_at_call 72; (refine (CE.out _).mono ?_); rintro e w' ⟨rfl, rfl⟩)
        go_ret
        exact ⟨rfl, HB.out⟩
      · by_cases h2 : hi < n
        · have h3 : c = 3 := by rw [← hc1]; simp [chkL, hiff]; omega
          subst h3
          clear hc1 hiff
          go_wp2_with (go_at_call 72; (refine (CE.out _).mono ?_); rintro e w' ⟨rfl, rfl⟩)
          go_ret
          exact ⟨rfl, HB.out⟩
        · have HC1 : Hid (chkL (f.drop (pos + 1)) ((three A B C).drop (pos + 1)) = c) := Lib.hid (by
            rw [← hc1]
            have : okL x n = true := by rw [hiff]; simp; omega
            simp [chkL, this])
          clear hc1 hiff
          go_wp2_with (go_at_call 72; (refine (CE.out _).mono ?_); rintro e w' ⟨rfl, rfl⟩)
          go_round
          case rel => exact ⟨pos + 1, by go_num, by omega, HC1⟩
          case measure => simp [intOf]; omega
    · obtain rfl : pos = f.length := by omega
      have hc2 : Hid (chkL [] ((three A B C).drop f.length) = c) := Lib.hid (by have := HC.out; rw [List.drop_length] at this; exact this)
      clear HC
      go_wp2_with fail
      go_loop [8] (fun i => ∃ j : Nat, i = .int .i64 (j : Int) ∧ j ≤ 3 ∧ Hid (chkL [] ((three A B C).drop j) = c)) (fun i => 3 - (intOf i).toNat)
      case atStart => exact ⟨f.length, rfl, by omega, hc2⟩
      case round =>
        clear hc2
        obtain ⟨j, rfl, hj, HC⟩ := hrel
        by_cases hlt : j < 3
        · have hx := HCL.out j hlt
          have hd3 : (three A B C).drop j = (three A B C).getD j 0 :: (three A B C).drop (j + 1) := drop_at _ 0 _ (by simp [three]; omega)
          obtain ⟨n, hn⟩ : ∃ n, (three A B C).getD j 0 = n := ⟨_, rfl⟩
          rw [hn] at hx hd3
          have hc1 := HC.out
          rw [hd3] at hc1
          clear hn hd3 HC
          by_cases h0 : n = 0
          · subst h0
            have HC1 : Hid (chkL [] ((three A B C).drop (j + 1)) = c) := Lib.hid (by rw [← hc1]; simp [chkL])
            clear hc1
            go_wp2_with fail
            go_round
            case rel => exact ⟨j + 1, by go_num, by omega, HC1⟩
            case measure => simp [intOf]; omega
          · have h0b : (n == 0) = false := by simpa using h0
            have h0n : (n != 0) = true := by simpa using h0
            have h4 : c = 4 := by rw [← hc1]; simp [chkL, h0]
            subst h4
            clear hc1
            go_wp2_with fail
            go_ret
            exact ⟨rfl, HB.out⟩
        · have hc0 : c = 0 := by rw [← HC.out, List.drop_eq_nil_of_le (by simp [three]; omega)]; rfl
          subst hc0
          clear HC
          go_wp2_with fail
          go_ret
          exact ⟨rfl, HB.out⟩
theorem pchk_of (op A B C c : Int) (w : World) (hc : chkI op A B C = c) :
    Calls Try.prog 74 #[.agg #[.int .i64 op, .int .i64 A, .int .i64 B, .int .i64 C]] w fun e w' => e = .returned (.int .i64 c) ∧ Below w.heap.size w w' := by
  unfold chkI at hc
  by_cases h : op < 0 ∨ 25 < op
  · rw [if_pos h] at hc
    subst hc
    have CK := Lib.hid (fun w => known_v op false (by simp; omega) w)
    go_enter Try.func74, Try.ntmps74
    go_wp2_with (first | (go_at_call 79; (refine (CK.out _).mono ?_); rintro e w' ⟨rfl, rfl⟩))
    go_ret
    exact ⟨rfl, by go_grown⟩
  · rw [if_neg h] at hc
    exact pchk_v op A B C c (frmI op) w (by omega) (by omega) (frmI_ok op).1 (Lib.hid (frmI_ok op).2) (Lib.hid (pf_of op)) hc
theorem rchk_of (op A B C c : Int) (w : World) (hc : chkI op A B C = c) :
    Calls Try.prog 61 #[.agg #[.int .i64 op, .int .i64 A, .int .i64 B, .int .i64 C]] w fun e w' => e = .returned (.int .i64 c) ∧ Below w.heap.size w w' := by
  unfold chkI at hc
  by_cases h : op < 0 ∨ 25 < op
  · rw [if_pos h] at hc
    subst hc
    by_cases h1 : op < 0
    · go_enter Try.func61, Try.ntmps61
      go_wp2_with fail
      go_ret
      exact ⟨rfl, by go_grown⟩
    · have h2 : 25 < op := by omega
      go_enter Try.func61, Try.ntmps61
      go_wp2_with fail
      go_ret
      exact ⟨rfl, by go_grown⟩
  · rw [if_neg h] at hc
    exact rchk_v op A B C c (frmI op) w (by omega) (by omega) (frmI_ok op).1 (Lib.hid (frmI_ok op).2) (Lib.hid (rf_of op)) hc
end Go.Proofs.Ytbmndjedgedbdaa.ins
namespace Go.Proofs.Ytbmndjedgedbdaa.ins
open Go.ChangeShapes Go.WideShapes Go.ChangeAt Go.RowKit
open Go.Proofs.Ytbmndjedgedbdaa.bin Go.Proofs.Ytbmndjedgedbdaa.bits
set_option linter.unusedVariables false
set_option linter.unusedSimpArgs false
def encL : List UInt8 → List Int → List UInt8
  | [], _ => []
  | c :: f, n :: fs => putB n (wd c) ++ encL f fs
  | _ :: _, [] => []
def pad (l : List UInt8) : List UInt8 := l ++ List.replicate (4 - l.length) 0
def encI (op A B C : Int) : List UInt8 := pad (byteAt op 0 :: encL (frmI op) (three A B C))
theorem pad_step (l : List UInt8) (h : l.length < 4) : pad (l ++ [0]) = pad l := by
  unfold pad
  rw [List.append_assoc, List.length_append]
  congr 1
  rw [show 4 - l.length = (4 - (l.length + 1)) + 1 by omega, List.replicate_succ]
  rfl
theorem pad_full (l : List UInt8) (h : 4 ≤ l.length) : pad l = l := by
  unfold pad
  rw [show 4 - l.length = 0 by omega]
  simp
theorem wd_pos (x : UInt8) : 1 ≤ wd x ∧ wd x ≤ 2 := by unfold wd; split <;> omega
theorem wd_hz (x : UInt8) : hz ((wd x : Nat) : Int) = wd x := by unfold wd; split <;> rfl
theorem width_v (x : UInt8) (hx : Lt x) (w : World) : Calls Try.prog 83 #[.int .u8 (x.toNat : Int)] w fun e w' => e = .returned (.int .i64 ((wd x : Nat) : Int)) ∧ w = w' := by
  rcases hx with rfl | rfl | rfl | rfl
  · exact width_1 114 (.inl rfl) w
  · exact width_2 110 (.inl rfl) w
  · exact width_2 116 (.inr rfl) w
  · exact width_1 102 (.inr rfl) w
theorem zero_byte : putB 0 1 = [0] := by decide
theorem kb {W W' : World} {B : Nat} {o : Obj} (h : W.heap[B]? = some o) (hb : Below W.heap.size W W') : W'.heap[B]? = some o :=
  (hb.block B (Array.getElem?_eq_some_iff.1 h).1).trans h
set_option maxRecDepth 20000 in
set_option maxHeartbeats 4000000 in
theorem chkI_op {op A B C : Int} (h : chkI op A B C = 0) : 0 ≤ op ∧ op ≤ 25 := by
  unfold chkI at h
  by_cases h1 : op < 0 ∨ 25 < op
  · rw [if_pos h1] at h; omega
  · omega
theorem str_app (s : List UInt8) : (⟨s.toArray⟩ : ByteArray) ++ ⟨#[0]⟩ = ⟨(s ++ [0]).toArray⟩ := by
  rw [ByteArray.ext_iff, ByteArray.data_append]
  apply Array.ext'
  simp

end Go.Proofs.Ytbmndjedgedbdaa.ins
namespace Go.Proofs.Ytbmndjedgedbdaa.ins
open Go.ChangeShapes Go.WideShapes Go.ChangeAt Go.RowKit
open Go.Proofs.Ytbmndjedgedbdaa.bin Go.Proofs.Ytbmndjedgedbdaa.bits
set_option linter.unusedVariables false
set_option linter.unusedSimpArgs false
def valB (c : UInt8) (l : List UInt8) : Int := if c = 110 then sgV (ofB l) 2 else (ofB l : Int)
def readL : List UInt8 → List UInt8 → Int × List Int × List UInt8
  | [], r => (0, [], r)
  | c :: f, r => if okL c (valB c (r.take (wd c))) then ((readL f (r.drop (wd c))).1, valB c (r.take (wd c)) :: (readL f (r.drop (wd c))).2.1, (readL f (r.drop (wd c))).2.2) else (3, [], r)
def sumW : List UInt8 → Nat
  | [] => 0
  | c :: f => wd c + sumW f
theorem sumW_frm : ∀ n : Nat, sumW (frm n) ≤ 3 := by
  intro n
  unfold frm
  split <;> decide
theorem sumW_frmI (op : Int) : sumW (frmI op) ≤ 3 := by
  unfold frmI
  split
  · exact sumW_frm _
  · decide
/-- what is wrong with bytes -/
def getE (l : List UInt8) : Int :=
  if l.length < 4 then 1 else if 4 < l.length then 2
  else if 25 < (l.getD 0 0).toNat then 5
  else if (readL (frm (l.getD 0 0).toNat) (l.drop 1)).1 ≠ 0 then 3
  else if (readL (frm (l.getD 0 0).toNat) (l.drop 1)).2.2.all (· == 0) then 0 else 4
/-- what they are, where nothing is wrong -/
def getV (l : List UInt8) (i : Nat) : Int := if getE l = 0 then (if i = 0 then ((l.getD 0 0).toNat : Int) else (readL (frm (l.getD 0 0).toNat) (l.drop 1)).2.1.getD (i - 1) 0) else 0
theorem set_blk (w : World) (b i : Nat) (v : Value) {cs : Array Value} {e : TypeId} (h : w.heap[b]? = some (.cells cs e (0, 0))) : (w.setCell ⟨b, i, none⟩ v).heap[b]? = some (.cells (cs.set! i v) e (0, 0)) := by
  obtain ⟨hlt, hk⟩ := Array.getElem?_eq_some_iff.1 h
  show (w.heap.modify b _)[b]? = _
  rw [Array.getElem?_eq_getElem (by rw [Array.size_modify]; exact hlt), Array.getElem_modify_self, hk]
  rfl
theorem set_oth (w : World) (b i j : Nat) (v : Value) (h : j ≠ b) : (w.setCell ⟨b, i, none⟩ v).heap[j]? = w.heap[j]? := by
  show (w.heap.modify b _)[j]? = _
  rw [Array.getElem?_modify]
  simp [Ne.symm h]
theorem set_size (w : World) (b i : Nat) (v : Value) : (w.setCell ⟨b, i, none⟩ v).heap.size = w.heap.size := by
  show (w.heap.modify b _).size = _
  simp
def row3 (vs : List Int) : Array Value := #[.int .i64 (vs.getD 0 0), .int .i64 (vs.getD 1 0), .int .i64 (vs.getD 2 0)]
theorem row3_set (vs : List Int) (n : Int) (h : vs.length < 3) : (row3 vs).set! vs.length (.int .i64 n) = row3 (vs ++ [n]) := by
  match vs, h with
  | [], _ => rfl
  | [a], _ => rfl
  | [a, b], _ => rfl
set_option maxRecDepth 20000 in
set_option maxRecDepth 20000 in
theorem str_drop (r : List UInt8) (h : Nat) : (⟨r.toArray⟩ : ByteArray).extract h (⟨r.toArray⟩ : ByteArray).size = ⟨(r.drop h).toArray⟩ := by
  rw [str_size, ByteArray.ext_iff, ByteArray.data_extract]
  apply Array.ext'
  rw [Array.toList_extract, List.extract_eq_take_drop]
  show List.take (r.length - h) (List.drop h r) = r.drop h
  exact List.take_of_length_le (by rw [List.length_drop]; omega)
/-- What is there while an instruction is read: the result, the cut, the fields, the letters. -/
theorem row3_cell {w : World} {g : Nat} {vs : List Int} {e : Nat} (h : w.heap[g]? = some (.cells (row3 vs) e (0, 0))) (i : Nat) (hi : i < 3) : w.cell? ⟨g, i, none⟩ = some (.int .i64 (vs.getD i 0)) ∧ w.frozen? ⟨g, i, none⟩ = false := by
  constructor
  · match i, hi with
    | 0, _ => simp [World.cell?, h, row3]
    | 1, _ => simp [World.cell?, h, row3]
    | 2, _ => simp [World.cell?, h, row3]
  · simp [World.frozen?, h]
def GV (l : List UInt8) : Value := .tuple #[.agg #[.int .i64 (getV l 0), .int .i64 (getV l 1), .int .i64 (getV l 2), .int .i64 (getV l 3)], .int .i64 (getE l)]
def gz (e : Int) : Value := .tuple #[.agg #[.int .i64 0, .int .i64 0, .int .i64 0, .int .i64 0], .int .i64 e]
theorem gv_bad (l : List UInt8) (e : Int) (h : getE l = e) (he : e ≠ 0) : GV l = gz e := by
  have : ∀ i, getV l i = 0 := fun i => by unfold getV; rw [if_neg (by omega)]
  unfold GV gz
  rw [this, this, this, this, h]
theorem getE_cons (b : UInt8) (rest : List UInt8) (hr : rest.length = 3) : getE (b :: rest) = if 25 < b.toNat then 5 else if (readL (frm b.toNat) rest).1 ≠ 0 then 3 else if (readL (frm b.toNat) rest).2.2.all (· == 0) = true then 0 else 4 := by
  have h4 : (b :: rest).length = 4 := by simp [hr]
  unfold getE
  simp only [h4, List.getD_cons_zero, List.drop_succ_cons, List.drop_zero]
  rw [if_neg (by decide), if_neg (by decide)]
theorem ge_five (b : UInt8) (rest : List UInt8) (hr : rest.length = 3) (h : 25 < b.toNat) : getE (b :: rest) = 5 := by
  rw [getE_cons b rest hr, if_pos h]
theorem ge_three (b : UInt8) (rest : List UInt8) (hr : rest.length = 3) (h : ¬ 25 < b.toNat) (hT : (readL (frm b.toNat) rest).1 ≠ 0) : getE (b :: rest) = 3 := by
  rw [getE_cons b rest hr, if_neg h, if_pos hT]
theorem ge_four (b : UInt8) (rest : List UInt8) (hr : rest.length = 3) (h : ¬ 25 < b.toNat) (hT : (readL (frm b.toNat) rest).1 = 0) (hz : (readL (frm b.toNat) rest).2.2.all (· == 0) = false) : getE (b :: rest) = 4 := by
  rw [getE_cons b rest hr, if_neg h, if_neg (by rw [hT]; decide), if_neg (by rw [hz]; decide)]
theorem gv_good (b : UInt8) (rest : List UInt8) (vs : List Int) (hr : rest.length = 3) (h : ¬ 25 < b.toNat) (hT : (readL (frm b.toNat) rest).1 = 0) (hz : (readL (frm b.toNat) rest).2.2.all (· == 0) = true) (hv : (readL (frm b.toNat) rest).2.1 = vs) : GV (b :: rest) = .tuple #[.agg #[.int .i64 (b.toNat : Int), .int .i64 (vs.getD 0 0), .int .i64 (vs.getD 1 0), .int .i64 (vs.getD 2 0)], .int .i64 0] := by
  have hE : getE (b :: rest) = 0 := by rw [getE_cons b rest hr, if_neg h, if_neg (by rw [hT]; decide), if_pos hz]
  have hV : ∀ i, getV (b :: rest) i = if i = 0 then (b.toNat : Int) else vs.getD (i - 1) 0 := fun i => by
    unfold getV
    rw [if_pos hE]
    simp only [List.getD_cons_zero, List.drop_succ_cons, List.drop_zero]
    rw [hv]
  unfold GV
  rw [hV, hV, hV, hV, hE]
  rfl
theorem ofB_one (b : UInt8) : (ofB [b] : Int) = (b.toNat : Int) := by simp [ofB]
theorem frm_nat (n : Nat) : frmI (n : Int) = frm n := by unfold frmI; rw [if_pos (by omega)]; rfl
theorem valB_n (l : List UInt8) : valB 110 l = sgV (ofB l) 2 := by unfold valB; rw [if_pos rfl]
theorem valB_o (x : UInt8) (l : List UInt8) (h : x ≠ 110) : valB x l = (ofB l : Int) := by unfold valB; rw [if_neg h]
theorem frz {w : World} {g : Nat} {cs : Array Value} {e : TypeId} (h : w.heap[g]? = some (.cells cs e (0, 0))) (i : Nat) : w.frozen? ⟨g, i, none⟩ = false := by simp [World.frozen?, h]
theorem cel {w : World} {g : Nat} {cs : Array Value} {e : TypeId} (h : w.heap[g]? = some (.cells cs e (0, 0))) (i : Nat) : w.cell? ⟨g, i, none⟩ = cs[i]? := by simp [World.cell?, h]
theorem res_ins {fn : Func} {A : Array Value} {W : World} {g : Nat} {a b c d e : Value} {T : TypeId} (hfn : fn.results = #[.cell 2 68, .tmp 3]) (h2 : A.getD 2 undef = .pointer (some ⟨g, 0, none⟩)) (h3 : A.getD 3 undef = e) (hF : W.heap[g]? = some (.cells #[a, b, c, d] T (0, 0))) :
    (results fn A).run Try.prog W = .ok (.tuple #[.agg #[a, b, c, d], e]) W := by
  rw [Array.getD_eq_getD_getElem?] at h2 h3
  have c0 : W.cell? ⟨g, 0, none⟩ = some a := cel hF 0
  have c1 : W.cell? ⟨g, 1, none⟩ = some b := cel hF 1
  have c2 : W.cell? ⟨g, 2, none⟩ = some c := cel hF 2
  have c3 : W.cell? ⟨g, 3, none⟩ = some d := cel hF 3
  simp [results, hfn, h2, h3, go_sem, c0, c1, c2, c3]
def st4 (w : World) (g : Nat) (a b c d : Value) : World := (((w.setCell ⟨g, 0, none⟩ a).setCell ⟨g, 1, none⟩ b).setCell ⟨g, 2, none⟩ c).setCell ⟨g, 3, none⟩ d
theorem st4_blk {w : World} {g : Nat} {a b c d a' b' c' d' : Value} {e : TypeId} (h : w.heap[g]? = some (.cells #[a, b, c, d] e (0, 0))) : (st4 w g a' b' c' d').heap[g]? = some (.cells #[a', b', c', d'] e (0, 0)) := by
  have h0 := set_blk w g 0 a' h
  have h1 := set_blk _ g 1 b' h0
  have h2 := set_blk _ g 2 c' h1
  exact set_blk _ g 3 d' h2
theorem st4_below {w0 w : World} {B g : Nat} (h : Below B w0 w) (hg : B ≤ g) (a b c d : Value) : Below B w0 (st4 w g a b c d) :=
  (((h.setCell (p := ⟨g, 0, none⟩) hg _).setCell (p := ⟨g, 1, none⟩) hg _).setCell (p := ⟨g, 2, none⟩) hg _).setCell (p := ⟨g, 3, none⟩) hg _

end Go.Proofs.Ytbmndjedgedbdaa.ins
namespace Go.Proofs.Ytbmndjedgedbdaa.ins
open Go.ChangeShapes Go.WideShapes Go.ChangeAt Go.RowKit
open Go.Proofs.Ytbmndjedgedbdaa.bin Go.Proofs.Ytbmndjedgedbdaa.bits
set_option linter.unusedVariables false
set_option linter.unusedSimpArgs false
theorem u8_of (n : Int) (h0 : 0 ≤ n) (h1 : n < 256) : ((UInt8.ofNat n.toNat).toNat : Int) = n := by
  rw [UInt8.toNat_ofNat']; omega
theorem byte0 (n : Int) : ((byteAt n 0).toNat : Int) = n % 256 := by rw [byteAt_val]; simp
theorem byte1 (n : Int) : ((byteAt n 1).toNat : Int) = n / 256 % 256 := by rw [byteAt_val]; simp
theorem putB1 (n : Int) : putB n 1 = [byteAt n 0] := rfl
theorem putB2 (n : Int) : putB n 2 = [byteAt n 1, byteAt n 0] := rfl
theorem ofB2 (a b : UInt8) : (ofB [a, b] : Int) = (a.toNat : Int) * 256 + b.toNat := by simp [ofB]
/-- an operand in its bounds is read as it was put -/
theorem val_put (c : UInt8) (hc : Lt c) (n : Int) (h : okL c n = true) : valB c (putB n (wd c)) = n := by
  rcases hc with rfl | rfl | rfl | rfl
  · have h' : 0 ≤ n ∧ n < 8 := of_decide_eq_true h
    show ((ofB (putB n 1) : Nat) : Int) = n
    rw [putB1, ofB_one, byte0]; omega
  · have h' : -32768 ≤ n ∧ n ≤ 32767 := of_decide_eq_true h
    show valB 110 (putB n 2) = n
    rw [valB_n, putB2, ofB2, byte0, byte1]
    unfold sgV
    rw [show pw 2 = 65536 from rfl]
    split <;> omega
  · have h' : 0 ≤ n ∧ n < 200 := of_decide_eq_true h
    show ((ofB (putB n 2) : Nat) : Int) = n
    rw [putB2, ofB2, byte0, byte1]; omega
  · have h' : 0 ≤ n ∧ n < 16 := of_decide_eq_true h
    show ((ofB (putB n 1) : Nat) : Int) = n
    rw [putB1, ofB_one, byte0]; omega
theorem read_enc (f : List UInt8) : ∀ (fs : List Int) (z : List UInt8), (∀ x ∈ f, Lt x) → chkL f fs = 0 → f.length ≤ fs.length → readL f (encL f fs ++ z) = (0, fs.take f.length, z) := by
  induction f with
  | nil => intro fs z _ _ _; simp [readL, encL]
  | cons c f ih =>
    intro fs z hL hc hl
    cases fs with
    | nil => simp at hl
    | cons n fs =>
      have hk : okL c n = true := by
        unfold chkL at hc
        by_cases h : okL c n = true
        · exact h
        · rw [if_neg h] at hc; omega
      have hc2 : chkL f fs = 0 := by unfold chkL at hc; rw [if_pos hk] at hc; exact hc
      have hlen := putB_len n (wd c)
      have ht : (encL (c :: f) (n :: fs) ++ z).take (wd c) = putB n (wd c) := by
        show (putB n (wd c) ++ encL f fs ++ z).take (wd c) = _
        rw [List.append_assoc]
        exact List.take_left' hlen
      have hd : (encL (c :: f) (n :: fs) ++ z).drop (wd c) = encL f fs ++ z := by
        show (putB n (wd c) ++ encL f fs ++ z).drop (wd c) = _
        rw [List.append_assoc]
        exact List.drop_left' hlen
      unfold readL
      rw [ht, hd, val_put c (hL c (by simp)) n hk, if_pos hk, ih fs z (fun x hx => hL x (by simp [hx])) hc2 (by simpa using hl)]
      simp
theorem chkL_rest (f : List UInt8) : ∀ (fs : List Int), chkL f fs = 0 → f.length ≤ fs.length → ∀ x ∈ fs.drop f.length, x = 0 := by
  induction f with
  | nil =>
    intro fs h _ x hx
    unfold chkL at h
    by_cases ha : fs.all (· == 0) = true
    · have := List.all_eq_true.1 ha x (by simpa using hx)
      simpa using this
    · rw [if_neg ha] at h; omega
  | cons c f ih =>
    intro fs h hl
    cases fs with
    | nil => simp at hl
    | cons n fs =>
      unfold chkL at h
      by_cases hk : okL c n = true
      · rw [if_pos hk] at h
        simpa using ih fs h (by simpa using hl)
      · rw [if_neg hk] at h; omega
theorem enc_len (f : List UInt8) : ∀ fs : List Int, f.length ≤ fs.length → (encL f fs).length = sumW f := by
  induction f with
  | nil => intro fs _; rfl
  | cons c f ih =>
    intro fs hl
    cases fs with
    | nil => simp at hl
    | cons n fs =>
      show (putB n (wd c) ++ encL f fs).length = wd c + sumW f
      rw [List.length_append, putB_len, ih fs (by simpa using hl)]
theorem encI_len (op A B C : Int) : (encI op A B C).length = 4 := by
  unfold encI pad
  have h1 := enc_len (frmI op) (three A B C) (by have := (frmI_ok op).1; simpa [three] using this)
  have h2 := sumW_frmI op
  rw [List.length_append, List.length_replicate, List.length_cons, h1]
  omega
/-- what is put is got -/
theorem get_put (op A B C : Int) (h : chkI op A B C = 0) : GV (encI op A B C) = .tuple #[.agg #[.int .i64 op, .int .i64 A, .int .i64 B, .int .i64 C], .int .i64 0] := by
  obtain ⟨h0, h25⟩ := chkI_op h
  have hf := frmI_ok op
  have hch : chkL (frmI op) (three A B C) = 0 := by
    unfold chkI at h
    rwa [if_neg (by omega)] at h
  have hlen := encI_len op A B C
  have hle : (frmI op).length ≤ (three A B C).length := by simpa [three] using hf.1
  have hb : ((byteAt op 0).toNat : Int) = op := by rw [byte0]; omega
  have hbn : frm (byteAt op 0).toNat = frmI op := by rw [← frm_nat, hb]
  obtain ⟨z, hz, hz0⟩ : ∃ z, encI op A B C = byteAt op 0 :: (encL (frmI op) (three A B C) ++ z) ∧ ∀ x ∈ z, x = 0 := by
    unfold encI pad
    exact ⟨_, rfl, fun x hx => (List.mem_replicate.1 hx).2⟩
  have hr : (encL (frmI op) (three A B C) ++ z).length = 3 := by rw [hz] at hlen; simpa using hlen
  have hrd := read_enc (frmI op) (three A B C) z hf.2 hch hle
  rw [hz, gv_good (byteAt op 0) _ ((three A B C).take (frmI op).length) hr (by omega) (by rw [hbn, hrd]) (by rw [hbn, hrd]; exact List.all_eq_true.2 fun x hx => by simp [hz0 x hx]) (by rw [hbn, hrd]), hb]
  have hrest := chkL_rest (frmI op) (three A B C) hch hle
  have hg : ∀ i, i < 3 → ((three A B C).take (frmI op).length).getD i 0 = (three A B C).getD i 0 := by
    intro i hi
    by_cases hil : i < (frmI op).length
    · simp [List.getD_eq_getElem?_getD, List.getElem?_take_of_lt hil]
    · rw [List.getD_eq_getElem?_getD, List.getElem?_eq_none (by rw [List.length_take]; omega)]
      have h3 : i < (three A B C).length := by simpa [three] using hi
      rw [List.getD_eq_getElem?_getD, List.getElem?_eq_getElem h3]
      have hm : (three A B C)[i] ∈ (three A B C).drop (frmI op).length := by
        rw [List.mem_iff_getElem]
        refine ⟨i - (frmI op).length, by rw [List.length_drop]; omega, ?_⟩
        rw [List.getElem_drop]
        congr 1
        omega
      exact (hrest _ hm).symm
  rw [hg 0 (by omega), hg 1 (by omega), hg 2 (by omega)]
  rfl
theorem u8_ext {a b : UInt8} (h : (a.toNat : Int) = b.toNat) : a = b := UInt8.toNat_inj.1 (by omega)
theorem put_val (c : UInt8) (hc : Lt c) (r : List UInt8) (h : wd c ≤ r.length) : putB (valB c (r.take (wd c))) (wd c) = r.take (wd c) := by
  have k2 : ∀ a b : UInt8, ∀ n : Int, n % 65536 = (a.toNat : Int) * 256 + b.toNat → putB n 2 = [a, b] := by
    intro a b n hn
    have ha := a.toNat_lt
    have hb := b.toNat_lt
    rw [putB2, u8_ext (a := byteAt n 1) (b := a) (by rw [byte1]; omega), u8_ext (a := byteAt n 0) (b := b) (by rw [byte0]; omega)]
  have k1 : ∀ a : UInt8, ∀ n : Int, n = (a.toNat : Int) → putB n 1 = [a] := by
    intro a n hn
    have ha := a.toNat_lt
    rw [putB1, u8_ext (a := byteAt n 0) (b := a) (by rw [byte0]; omega)]
  rcases hc with rfl | rfl | rfl | rfl
  · obtain ⟨a, r', rfl⟩ : ∃ a r', r = a :: r' := by
      cases r with
      | nil => simp [wd] at h
      | cons a r' => exact ⟨a, r', rfl⟩
    exact k1 a _ (ofB_one a)
  · obtain ⟨a, b, r', rfl⟩ : ∃ a b r', r = a :: b :: r' := by
      match r, h with
      | a :: b :: r', _ => exact ⟨a, b, r', rfl⟩
    have ha := a.toNat_lt
    have hb := b.toNat_lt
    refine k2 a b _ ?_
    show valB 110 [a, b] % 65536 = _
    rw [valB_n, ofB2]
    unfold sgV
    rw [show pw 2 = 65536 from rfl]
    split <;> omega
  · obtain ⟨a, b, r', rfl⟩ : ∃ a b r', r = a :: b :: r' := by
      match r, h with
      | a :: b :: r', _ => exact ⟨a, b, r', rfl⟩
    have ha := a.toNat_lt
    have hb := b.toNat_lt
    refine k2 a b _ ?_
    show (((ofB [a, b] : Nat) : Int)) % 65536 = _
    rw [ofB2]
    omega
  · obtain ⟨a, r', rfl⟩ : ∃ a r', r = a :: r' := by
      cases r with
      | nil => simp [wd] at h
      | cons a r' => exact ⟨a, r', rfl⟩
    exact k1 a _ (ofB_one a)
theorem enc_read (f : List UInt8) : ∀ (r : List UInt8), (∀ x ∈ f, Lt x) → (readL f r).1 = 0 → sumW f ≤ r.length → ∀ y : List Int, (∀ x ∈ y, x = 0) →
    encL f ((readL f r).2.1 ++ y) ++ (readL f r).2.2 = r ∧ chkL f ((readL f r).2.1 ++ y) = 0 ∧ (readL f r).2.1.length = f.length := by
  induction f with
  | nil =>
    intro r _ _ _ y hy
    have : y.all (· == 0) = true := List.all_eq_true.2 fun x hx => by simp [hy x hx]
    simp [readL, encL, chkL, this]
  | cons c f ih =>
    intro r hL h hs y hy
    unfold readL at h ⊢
    by_cases hk : okL c (valB c (r.take (wd c))) = true
    · rw [if_pos hk] at h ⊢
      unfold sumW at hs
      obtain ⟨h1, h2, h3⟩ := ih (r.drop (wd c)) (fun x hx => hL x (by simp [hx])) h (by rw [List.length_drop]; omega) y hy
      refine ⟨?_, ?_, by simp [h3]⟩
      · show putB (valB c (r.take (wd c))) (wd c) ++ encL f ((readL f (r.drop (wd c))).2.1 ++ y) ++ (readL f (r.drop (wd c))).2.2 = r
        rw [List.append_assoc, h1, put_val c (hL c (by simp)) r (by omega)]
        exact List.take_append_drop _ _
      · show (if okL c (valB c (r.take (wd c))) then chkL f ((readL f (r.drop (wd c))).2.1 ++ y) else 3) = 0
        rw [if_pos hk, h2]
    · rw [if_neg hk] at h
      exact absurd h (by simp)
/-- what is got, put, is these bytes -/
theorem put_get (b : UInt8) (rest : List UInt8) (hr : rest.length = 3) (h25 : ¬ 25 < b.toNat) (hT : (readL (frm b.toNat) rest).1 = 0) (hz : (readL (frm b.toNat) rest).2.2.all (· == 0) = true) :
    ∃ A B C : Int, (readL (frm b.toNat) rest).2.1.getD 0 0 = A ∧ (readL (frm b.toNat) rest).2.1.getD 1 0 = B ∧ (readL (frm b.toNat) rest).2.1.getD 2 0 = C ∧ encI (b.toNat : Int) A B C = b :: rest ∧ chkI (b.toNat : Int) A B C = 0 := by
  refine ⟨_, _, _, rfl, rfl, rfl, ?_⟩
  have hf := frm_ok b.toNat
  obtain ⟨vs, hvs⟩ : ∃ vs, (readL (frm b.toNat) rest).2.1 = vs := ⟨_, rfl⟩
  obtain ⟨rm, hrm⟩ : ∃ rm, (readL (frm b.toNat) rest).2.2 = rm := ⟨_, rfl⟩
  have key := enc_read (frm b.toNat) rest hf.2 hT (by have := sumW_frm b.toNat; omega)
  rw [hvs, hrm] at key
  rw [hvs]
  rw [hrm] at hz
  have hvl := (key [] (by simp)).2.2
  have hpad : three (vs.getD 0 0) (vs.getD 1 0) (vs.getD 2 0) = vs ++ List.replicate (3 - vs.length) 0 := by
    match vs, hvl.symm ▸ hf.1 with
    | [], _ => rfl
    | [a], _ => rfl
    | [a, b], _ => rfl
    | [a, b, c], _ => rfl
  obtain ⟨h1, h2, _⟩ := key (List.replicate (3 - vs.length) 0) (fun x hx => (List.mem_replicate.1 hx).2)
  rw [← hpad] at h1 h2
  constructor
  · unfold encI
    rw [frm_nat]
    have hb : byteAt (b.toNat : Int) 0 = b := u8_ext (by rw [byte0]; have := b.toNat_lt; omega)
    rw [hb]
    unfold pad
    have hrl : rm.length + (encL (frm b.toNat) (three (vs.getD 0 0) (vs.getD 1 0) (vs.getD 2 0))).length = 3 := by
      have := congrArg List.length h1
      rw [List.length_append, hr] at this
      omega
    have hrz : rm = List.replicate (4 - (b :: encL (frm b.toNat) (three (vs.getD 0 0) (vs.getD 1 0) (vs.getD 2 0))).length) 0 := by
      rw [List.length_cons]
      refine List.eq_replicate_iff.2 ⟨by omega, fun x hx => ?_⟩
      have := List.all_eq_true.1 hz x hx
      simpa using this
    rw [← hrz]
    show b :: (encL (frm b.toNat) (three (vs.getD 0 0) (vs.getD 1 0) (vs.getD 2 0)) ++ rm) = b :: rest
    rw [h1]
  · unfold chkI
    rw [if_neg (by have := b.toNat_lt; omega), frm_nat]
    exact h2
end Go.Proofs.Ytbmndjedgedbdaa.ins
