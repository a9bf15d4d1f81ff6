/- Forms of operations, and what operands may be (layer 3). -/
import Derived.Test.YtdneblbaofhehaaCut
namespace Go.Proofs.Ytdneblbaofhehaa.ins
open Go.ChangeShapes Go.WideShapes Go.ChangeAt Go.RowKit
open Go.Proofs.Ytdneblbaofhehaa.bin Go.Proofs.Ytdneblbaofhehaa.bits
set_option linter.unusedVariables false
set_option linter.unusedSimpArgs false
def frm : Nat → List UInt8
  | 1 => [114, 110]
  | 2 | 13 | 14 => [114, 114]
  | 3 | 4 | 5 | 6 | 7 | 8 | 9 | 10 | 11 | 12 | 15 | 16 => [114, 114, 114]
  | 17 | 23 | 24 => [114]
  | 18 => [116]
  | 19 => [114, 116]
  | 20 | 22 => [102]
  | _ => []
def frmI (op : Int) : List UInt8 := if 0 ≤ op then frm op.toNat else []
def okL (c : UInt8) (n : Int) : Bool := if c = 114 then decide (0 ≤ n ∧ n < 8) else if c = 102 then decide (0 ≤ n ∧ n < 16) else if c = 116 then decide (0 ≤ n ∧ n < 200) else decide (-32768 ≤ n ∧ n ≤ 32767)
def wd (c : UInt8) : Nat := if c = 114 ∨ c = 102 then 1 else 2
def chkL : List UInt8 → List Int → Int
  | [], fs => if fs.all (· == 0) then 0 else 4
  | c :: f, n :: fs => if okL c n then chkL f fs else 3
  | _ :: _, [] => 0
def chkI (op A B C : Int) : Int := if op < 0 ∨ 25 < op then 5 else chkL (frmI op) [A, B, C]
def PF (op : Int) (f : List UInt8) : Prop := ∀ w : World, Calls Try.prog 36 #[.int .i64 op] w fun e w' => e = .returned (.string ⟨f.toArray⟩) ∧ w = w'
def RF (op : Int) (f : List UInt8) : Prop := ∀ w : World, Calls Try.prog 33 #[.int .i64 op] w fun e w' => e = .returned (.string ⟨f.toArray⟩) ∧ Below w.heap.size w w'
theorem pf_0 : PF 0 (frm 0) := by
  intro w
  go_enter Try.func36, Try.ntmps36
  go_wp2_with fail
  go_ret
  exact ⟨rfl, rfl⟩
theorem rf_0 : RF 0 (frm 0) := by
  intro w
  go_enter Try.func33, Try.ntmps33
  go_wp2_with (go_at_call 38; go_in)
  go_ret
  exact ⟨rfl, by go_grown⟩
theorem pf_1 : PF 1 (frm 1) := by
  intro w
  go_enter Try.func36, Try.ntmps36
  go_wp2_with fail
  go_ret
  exact ⟨rfl, rfl⟩
theorem rf_1 : RF 1 (frm 1) := by
  intro w
  go_enter Try.func33, Try.ntmps33
  go_wp2_with (go_at_call 38; go_in)
  go_ret
  exact ⟨rfl, by go_grown⟩
theorem pf_2 : PF 2 (frm 2) := by
  intro w
  go_enter Try.func36, Try.ntmps36
  go_wp2_with fail
  go_ret
  exact ⟨rfl, rfl⟩
theorem rf_2 : RF 2 (frm 2) := by
  intro w
  go_enter Try.func33, Try.ntmps33
  go_wp2_with (go_at_call 38; go_in)
  go_ret
  exact ⟨rfl, by go_grown⟩
theorem pf_3 : PF 3 (frm 3) := by
  intro w
  go_enter Try.func36, Try.ntmps36
  go_wp2_with fail
  go_ret
  exact ⟨rfl, rfl⟩
theorem rf_3 : RF 3 (frm 3) := by
  intro w
  go_enter Try.func33, Try.ntmps33
  go_wp2_with (go_at_call 38; go_in)
  go_ret
  exact ⟨rfl, by go_grown⟩
theorem pf_4 : PF 4 (frm 4) := by
  intro w
  go_enter Try.func36, Try.ntmps36
  go_wp2_with fail
  go_ret
  exact ⟨rfl, rfl⟩
theorem rf_4 : RF 4 (frm 4) := by
  intro w
  go_enter Try.func33, Try.ntmps33
  go_wp2_with (go_at_call 38; go_in)
  go_ret
  exact ⟨rfl, by go_grown⟩
theorem pf_5 : PF 5 (frm 5) := by
  intro w
  go_enter Try.func36, Try.ntmps36
  go_wp2_with fail
  go_ret
  exact ⟨rfl, rfl⟩
theorem rf_5 : RF 5 (frm 5) := by
  intro w
  go_enter Try.func33, Try.ntmps33
  go_wp2_with (go_at_call 38; go_in)
  go_ret
  exact ⟨rfl, by go_grown⟩
theorem pf_6 : PF 6 (frm 6) := by
  intro w
  go_enter Try.func36, Try.ntmps36
  go_wp2_with fail
  go_ret
  exact ⟨rfl, rfl⟩
theorem rf_6 : RF 6 (frm 6) := by
  intro w
  go_enter Try.func33, Try.ntmps33
  go_wp2_with (go_at_call 38; go_in)
  go_ret
  exact ⟨rfl, by go_grown⟩
theorem pf_7 : PF 7 (frm 7) := by
  intro w
  go_enter Try.func36, Try.ntmps36
  go_wp2_with fail
  go_ret
  exact ⟨rfl, rfl⟩
theorem rf_7 : RF 7 (frm 7) := by
  intro w
  go_enter Try.func33, Try.ntmps33
  go_wp2_with (go_at_call 38; go_in)
  go_ret
  exact ⟨rfl, by go_grown⟩
theorem pf_8 : PF 8 (frm 8) := by
  intro w
  go_enter Try.func36, Try.ntmps36
  go_wp2_with fail
  go_ret
  exact ⟨rfl, rfl⟩
theorem rf_8 : RF 8 (frm 8) := by
  intro w
  go_enter Try.func33, Try.ntmps33
  go_wp2_with (go_at_call 38; go_in)
  go_ret
  exact ⟨rfl, by go_grown⟩
theorem pf_9 : PF 9 (frm 9) := by
  intro w
  go_enter Try.func36, Try.ntmps36
  go_wp2_with fail
  go_ret
  exact ⟨rfl, rfl⟩
theorem rf_9 : RF 9 (frm 9) := by
  intro w
  go_enter Try.func33, Try.ntmps33
  go_wp2_with (go_at_call 38; go_in)
  go_ret
  exact ⟨rfl, by go_grown⟩
theorem pf_10 : PF 10 (frm 10) := by
  intro w
  go_enter Try.func36, Try.ntmps36
  go_wp2_with fail
  go_ret
  exact ⟨rfl, rfl⟩
theorem rf_10 : RF 10 (frm 10) := by
  intro w
  go_enter Try.func33, Try.ntmps33
  go_wp2_with (go_at_call 38; go_in)
  go_ret
  exact ⟨rfl, by go_grown⟩
theorem pf_11 : PF 11 (frm 11) := by
  intro w
  go_enter Try.func36, Try.ntmps36
  go_wp2_with fail
  go_ret
  exact ⟨rfl, rfl⟩
theorem rf_11 : RF 11 (frm 11) := by
  intro w
  go_enter Try.func33, Try.ntmps33
  go_wp2_with (go_at_call 38; go_in)
  go_ret
  exact ⟨rfl, by go_grown⟩
theorem pf_12 : PF 12 (frm 12) := by
  intro w
  go_enter Try.func36, Try.ntmps36
  go_wp2_with fail
  go_ret
  exact ⟨rfl, rfl⟩
theorem rf_12 : RF 12 (frm 12) := by
  intro w
  go_enter Try.func33, Try.ntmps33
  go_wp2_with (go_at_call 38; go_in)
  go_ret
  exact ⟨rfl, by go_grown⟩
theorem pf_13 : PF 13 (frm 13) := by
  intro w
  go_enter Try.func36, Try.ntmps36
  go_wp2_with fail
  go_ret
  exact ⟨rfl, rfl⟩
theorem rf_13 : RF 13 (frm 13) := by
  intro w
  go_enter Try.func33, Try.ntmps33
  go_wp2_with (go_at_call 38; go_in)
  go_ret
  exact ⟨rfl, by go_grown⟩
theorem pf_14 : PF 14 (frm 14) := by
  intro w
  go_enter Try.func36, Try.ntmps36
  go_wp2_with fail
  go_ret
  exact ⟨rfl, rfl⟩
theorem rf_14 : RF 14 (frm 14) := by
  intro w
  go_enter Try.func33, Try.ntmps33
  go_wp2_with (go_at_call 38; go_in)
  go_ret
  exact ⟨rfl, by go_grown⟩
theorem pf_15 : PF 15 (frm 15) := by
  intro w
  go_enter Try.func36, Try.ntmps36
  go_wp2_with fail
  go_ret
  exact ⟨rfl, rfl⟩
theorem rf_15 : RF 15 (frm 15) := by
  intro w
  go_enter Try.func33, Try.ntmps33
  go_wp2_with (go_at_call 38; go_in)
  go_ret
  exact ⟨rfl, by go_grown⟩
theorem pf_16 : PF 16 (frm 16) := by
  intro w
  go_enter Try.func36, Try.ntmps36
  go_wp2_with fail
  go_ret
  exact ⟨rfl, rfl⟩
theorem rf_16 : RF 16 (frm 16) := by
  intro w
  go_enter Try.func33, Try.ntmps33
  go_wp2_with (go_at_call 38; go_in)
  go_ret
  exact ⟨rfl, by go_grown⟩
theorem pf_17 : PF 17 (frm 17) := by
  intro w
  go_enter Try.func36, Try.ntmps36
  go_wp2_with fail
  go_ret
  exact ⟨rfl, rfl⟩
theorem rf_17 : RF 17 (frm 17) := by
  intro w
  go_enter Try.func33, Try.ntmps33
  go_wp2_with (go_at_call 38; go_in)
  go_ret
  exact ⟨rfl, by go_grown⟩
theorem pf_18 : PF 18 (frm 18) := by
  intro w
  go_enter Try.func36, Try.ntmps36
  go_wp2_with fail
  go_ret
  exact ⟨rfl, rfl⟩
theorem rf_18 : RF 18 (frm 18) := by
  intro w
  go_enter Try.func33, Try.ntmps33
  go_wp2_with (go_at_call 38; go_in)
  go_ret
  exact ⟨rfl, by go_grown⟩
theorem pf_19 : PF 19 (frm 19) := by
  intro w
  go_enter Try.func36, Try.ntmps36
  go_wp2_with fail
  go_ret
  exact ⟨rfl, rfl⟩
theorem rf_19 : RF 19 (frm 19) := by
  intro w
  go_enter Try.func33, Try.ntmps33
  go_wp2_with (go_at_call 38; go_in)
  go_ret
  exact ⟨rfl, by go_grown⟩
theorem pf_20 : PF 20 (frm 20) := by
  intro w
  go_enter Try.func36, Try.ntmps36
  go_wp2_with fail
  go_ret
  exact ⟨rfl, rfl⟩
theorem rf_20 : RF 20 (frm 20) := by
  intro w
  go_enter Try.func33, Try.ntmps33
  go_wp2_with (go_at_call 38; go_in)
  go_ret
  exact ⟨rfl, by go_grown⟩
theorem pf_21 : PF 21 (frm 21) := by
  intro w
  go_enter Try.func36, Try.ntmps36
  go_wp2_with fail
  go_ret
  exact ⟨rfl, rfl⟩
theorem rf_21 : RF 21 (frm 21) := by
  intro w
  go_enter Try.func33, Try.ntmps33
  go_wp2_with (go_at_call 38; go_in)
  go_ret
  exact ⟨rfl, by go_grown⟩
theorem pf_22 : PF 22 (frm 22) := by
  intro w
  go_enter Try.func36, Try.ntmps36
  go_wp2_with fail
  go_ret
  exact ⟨rfl, rfl⟩
theorem rf_22 : RF 22 (frm 22) := by
  intro w
  go_enter Try.func33, Try.ntmps33
  go_wp2_with (go_at_call 38; go_in)
  go_ret
  exact ⟨rfl, by go_grown⟩
theorem pf_23 : PF 23 (frm 23) := by
  intro w
  go_enter Try.func36, Try.ntmps36
  go_wp2_with fail
  go_ret
  exact ⟨rfl, rfl⟩
theorem rf_23 : RF 23 (frm 23) := by
  intro w
  go_enter Try.func33, Try.ntmps33
  go_wp2_with (go_at_call 38; go_in)
  go_ret
  exact ⟨rfl, by go_grown⟩
theorem pf_24 : PF 24 (frm 24) := by
  intro w
  go_enter Try.func36, Try.ntmps36
  go_wp2_with fail
  go_ret
  exact ⟨rfl, rfl⟩
theorem rf_24 : RF 24 (frm 24) := by
  intro w
  go_enter Try.func33, Try.ntmps33
  go_wp2_with (go_at_call 38; go_in)
  go_ret
  exact ⟨rfl, by go_grown⟩
theorem pf_25 : PF 25 (frm 25) := by
  intro w
  go_enter Try.func36, Try.ntmps36
  go_wp2_with fail
  go_ret
  exact ⟨rfl, rfl⟩
theorem rf_25 : RF 25 (frm 25) := by
  intro w
  go_enter Try.func33, Try.ntmps33
  go_wp2_with (go_at_call 38; go_in)
  go_ret
  exact ⟨rfl, by go_grown⟩
theorem pf_no (op : Int) (h : op < 0 ∨ 25 < op) : PF op [] := by
  intro w
  have e1 : (op == 1) = false := by simp; omega
  have e2 : (op == 2) = false := by simp; omega
  have e3 : (op == 3) = false := by simp; omega
  have e4 : (op == 4) = false := by simp; omega
  have e5 : (op == 5) = false := by simp; omega
  have e6 : (op == 6) = false := by simp; omega
  have e7 : (op == 7) = false := by simp; omega
  have e8 : (op == 8) = false := by simp; omega
  have e9 : (op == 9) = false := by simp; omega
  have e10 : (op == 10) = false := by simp; omega
  have e11 : (op == 11) = false := by simp; omega
  have e12 : (op == 12) = false := by simp; omega
  have e13 : (op == 13) = false := by simp; omega
  have e14 : (op == 14) = false := by simp; omega
  have e15 : (op == 15) = false := by simp; omega
  have e16 : (op == 16) = false := by simp; omega
  have e17 : (op == 17) = false := by simp; omega
  have e18 : (op == 18) = false := by simp; omega
  have e19 : (op == 19) = false := by simp; omega
  have e20 : (op == 20) = false := by simp; omega
  have e21 : (op == 21) = false := by simp; omega
  have e22 : (op == 22) = false := by simp; omega
  have e23 : (op == 23) = false := by simp; omega
  have e24 : (op == 24) = false := by simp; omega
  have e25 : (op == 25) = false := by simp; omega
  clear h
  go_enter Try.func36, Try.ntmps36
  go_wp2_with fail
  go_ret
  exact ⟨rfl, rfl⟩
theorem rf_no (op : Int) (h : op < 0 ∨ 25 < op) : RF op [] := by
  intro w
  by_cases h1 : op < 0
  · go_enter Try.func33, Try.ntmps33
    go_wp2_with fail
    go_ret
    exact ⟨rfl, Below.refl _ _⟩
  · have h2 : 25 < op := by omega
    go_enter Try.func33, Try.ntmps33
    go_wp2_with fail
    go_ret
    exact ⟨rfl, Below.refl _ _⟩
theorem frmI_no (op : Int) (h : op < 0 ∨ 25 < op) : frmI op = [] := by
  unfold frmI
  split
  · obtain ⟨n, hn⟩ : ∃ n : Nat, op = (n : Int) + 26 := ⟨(op - 26).toNat, by omega⟩
    subst hn
    rw [show ((n : Int) + 26).toNat = n + 26 by omega]
    rfl
  · rfl
theorem op_cases (op : Int) (h1 : 0 ≤ op) (h2 : op ≤ 25) : op = 0 ∨ op = 1 ∨ op = 2 ∨ op = 3 ∨ op = 4 ∨ op = 5 ∨ op = 6 ∨ op = 7 ∨ op = 8 ∨ op = 9 ∨ op = 10 ∨ op = 11 ∨ op = 12 ∨ op = 13 ∨ op = 14 ∨ op = 15 ∨ op = 16 ∨ op = 17 ∨ op = 18 ∨ op = 19 ∨ op = 20 ∨ op = 21 ∨ op = 22 ∨ op = 23 ∨ op = 24 ∨ op = 25 := by omega
theorem pf_of (op : Int) : PF op (frmI op) := by
  by_cases h : op < 0 ∨ 25 < op
  · rw [frmI_no op h]; exact pf_no op h
  · rcases op_cases op (by omega) (by omega) with rfl | rfl | rfl | rfl | rfl | rfl | rfl | rfl | rfl | rfl | rfl | rfl | rfl | rfl | rfl | rfl | rfl | rfl | rfl | rfl | rfl | rfl | rfl | rfl | rfl | rfl
    · rw [show frmI 0 = frm 0 from by decide]; exact pf_0
    · rw [show frmI 1 = frm 1 from by decide]; exact pf_1
    · rw [show frmI 2 = frm 2 from by decide]; exact pf_2
    · rw [show frmI 3 = frm 3 from by decide]; exact pf_3
    · rw [show frmI 4 = frm 4 from by decide]; exact pf_4
    · rw [show frmI 5 = frm 5 from by decide]; exact pf_5
    · rw [show frmI 6 = frm 6 from by decide]; exact pf_6
    · rw [show frmI 7 = frm 7 from by decide]; exact pf_7
    · rw [show frmI 8 = frm 8 from by decide]; exact pf_8
    · rw [show frmI 9 = frm 9 from by decide]; exact pf_9
    · rw [show frmI 10 = frm 10 from by decide]; exact pf_10
    · rw [show frmI 11 = frm 11 from by decide]; exact pf_11
    · rw [show frmI 12 = frm 12 from by decide]; exact pf_12
    · rw [show frmI 13 = frm 13 from by decide]; exact pf_13
    · rw [show frmI 14 = frm 14 from by decide]; exact pf_14
    · rw [show frmI 15 = frm 15 from by decide]; exact pf_15
    · rw [show frmI 16 = frm 16 from by decide]; exact pf_16
    · rw [show frmI 17 = frm 17 from by decide]; exact pf_17
    · rw [show frmI 18 = frm 18 from by decide]; exact pf_18
    · rw [show frmI 19 = frm 19 from by decide]; exact pf_19
    · rw [show frmI 20 = frm 20 from by decide]; exact pf_20
    · rw [show frmI 21 = frm 21 from by decide]; exact pf_21
    · rw [show frmI 22 = frm 22 from by decide]; exact pf_22
    · rw [show frmI 23 = frm 23 from by decide]; exact pf_23
    · rw [show frmI 24 = frm 24 from by decide]; exact pf_24
    · rw [show frmI 25 = frm 25 from by decide]; exact pf_25
theorem rf_of (op : Int) : RF op (frmI op) := by
  by_cases h : op < 0 ∨ 25 < op
  · rw [frmI_no op h]; exact rf_no op h
  · rcases op_cases op (by omega) (by omega) with rfl | rfl | rfl | rfl | rfl | rfl | rfl | rfl | rfl | rfl | rfl | rfl | rfl | rfl | rfl | rfl | rfl | rfl | rfl | rfl | rfl | rfl | rfl | rfl | rfl | rfl
    · rw [show frmI 0 = frm 0 from by decide]; exact rf_0
    · rw [show frmI 1 = frm 1 from by decide]; exact rf_1
    · rw [show frmI 2 = frm 2 from by decide]; exact rf_2
    · rw [show frmI 3 = frm 3 from by decide]; exact rf_3
    · rw [show frmI 4 = frm 4 from by decide]; exact rf_4
    · rw [show frmI 5 = frm 5 from by decide]; exact rf_5
    · rw [show frmI 6 = frm 6 from by decide]; exact rf_6
    · rw [show frmI 7 = frm 7 from by decide]; exact rf_7
    · rw [show frmI 8 = frm 8 from by decide]; exact rf_8
    · rw [show frmI 9 = frm 9 from by decide]; exact rf_9
    · rw [show frmI 10 = frm 10 from by decide]; exact rf_10
    · rw [show frmI 11 = frm 11 from by decide]; exact rf_11
    · rw [show frmI 12 = frm 12 from by decide]; exact rf_12
    · rw [show frmI 13 = frm 13 from by decide]; exact rf_13
    · rw [show frmI 14 = frm 14 from by decide]; exact rf_14
    · rw [show frmI 15 = frm 15 from by decide]; exact rf_15
    · rw [show frmI 16 = frm 16 from by decide]; exact rf_16
    · rw [show frmI 17 = frm 17 from by decide]; exact rf_17
    · rw [show frmI 18 = frm 18 from by decide]; exact rf_18
    · rw [show frmI 19 = frm 19 from by decide]; exact rf_19
    · rw [show frmI 20 = frm 20 from by decide]; exact rf_20
    · rw [show frmI 21 = frm 21 from by decide]; exact rf_21
    · rw [show frmI 22 = frm 22 from by decide]; exact rf_22
    · rw [show frmI 23 = frm 23 from by decide]; exact rf_23
    · rw [show frmI 24 = frm 24 from by decide]; exact rf_24
    · rw [show frmI 25 = frm 25 from by decide]; exact rf_25
theorem known_v (op : Int) (b : Bool) (h : decide (0 ≤ op ∧ op ≤ 25) = b) (w : World) : Calls Try.prog 35 #[.int .i64 op] w fun e w' => e = .returned (.bool b) ∧ w = w' := by
  by_cases h1 : 0 ≤ op
  · have hb : b = decide (op < 26) := by rw [← h]; by_cases h2 : op ≤ 25 <;> simp [h1, h2] <;> omega
    subst hb
    clear h
    go_enter Try.func35, Try.ntmps35
    go_wp2_with fail
    go_ret
    exact ⟨rfl, rfl⟩
  · have hb : b = false := by rw [← h]; simp [h1]
    subst hb
    clear h
    go_enter Try.func35, Try.ntmps35
    go_wp2_with fail
    go_ret
    exact ⟨rfl, rfl⟩
theorem width_1 (c : UInt8) (h : c = 114 ∨ c = 102) (w : World) : Calls Try.prog 40 #[.int .u8 (c.toNat : Int)] w fun e w' => e = .returned (.int .i64 1) ∧ w = w' := by
  rcases h with rfl | rfl
  all_goals
    go_enter Try.func40, Try.ntmps40
    go_wp2_with fail
    go_ret
    exact ⟨rfl, rfl⟩
theorem width_2 (c : UInt8) (h : c = 110 ∨ c = 116) (w : World) : Calls Try.prog 40 #[.int .u8 (c.toNat : Int)] w fun e w' => e = .returned (.int .i64 2) ∧ w = w' := by
  rcases h with rfl | rfl
  all_goals
    go_enter Try.func40, Try.ntmps40
    go_wp2_with fail
    go_ret
    exact ⟨rfl, rfl⟩
theorem within_r (n : Int) (b : Bool) (h : okL 114 n = b) (w : World) : Calls Try.prog 37 #[.int .u8 114, .int .i64 n] w fun e w' => e = .returned (.bool b) ∧ w = w' := by
  have h' : decide (0 ≤ n ∧ n < 8) = b := h
  by_cases h1 : 0 ≤ n
  · have hb : b = decide (n < 8) := by rw [← h']; by_cases h2 : n < 8 <;> simp [h1, h2]
    subst hb
    clear h h'
    go_enter Try.func37, Try.ntmps37
    go_wp2_with fail
    go_ret
    exact ⟨rfl, rfl⟩
  · have hb : b = false := by rw [← h']; simp [h1]
    subst hb
    clear h h'
    go_enter Try.func37, Try.ntmps37
    go_wp2_with fail
    go_ret
    exact ⟨rfl, rfl⟩
theorem within_f (n : Int) (b : Bool) (h : okL 102 n = b) (w : World) : Calls Try.prog 37 #[.int .u8 102, .int .i64 n] w fun e w' => e = .returned (.bool b) ∧ w = w' := by
  have h' : decide (0 ≤ n ∧ n < 16) = b := h
  by_cases h1 : 0 ≤ n
  · have hb : b = decide (n < 16) := by rw [← h']; by_cases h2 : n < 16 <;> simp [h1, h2]
    subst hb
    clear h h'
    go_enter Try.func37, Try.ntmps37
    go_wp2_with fail
    go_ret
    exact ⟨rfl, rfl⟩
  · have hb : b = false := by rw [← h']; simp [h1]
    subst hb
    clear h h'
    go_enter Try.func37, Try.ntmps37
    go_wp2_with fail
    go_ret
    exact ⟨rfl, rfl⟩
theorem within_t (n : Int) (b : Bool) (h : okL 116 n = b) (w : World) : Calls Try.prog 37 #[.int .u8 116, .int .i64 n] w fun e w' => e = .returned (.bool b) ∧ w = w' := by
  have h' : decide (0 ≤ n ∧ n < 200) = b := h
  by_cases h1 : 0 ≤ n
  · have hb : b = decide (n < 200) := by rw [← h']; by_cases h2 : n < 200 <;> simp [h1, h2]
    subst hb
    clear h h'
    go_enter Try.func37, Try.ntmps37
    go_wp2_with fail
    go_ret
    exact ⟨rfl, rfl⟩
  · have hb : b = false := by rw [← h']; simp [h1]
    subst hb
    clear h h'
    go_enter Try.func37, Try.ntmps37
    go_wp2_with fail
    go_ret
    exact ⟨rfl, rfl⟩
theorem fit2 (n : Int) : (sgV n 2 == n) = decide (-32768 ≤ n ∧ n ≤ 32767) := by
  unfold sgV
  rw [show pw 2 = 65536 from rfl]
  by_cases h : -32768 ≤ n ∧ n ≤ 32767
  · rw [decide_eq_true h]
    simp only [beq_iff_eq]
    split <;> omega
  · rw [decide_eq_false h]
    simp only [beq_eq_false_iff_ne, ne_eq]
    split <;> omega
theorem within_n (n : Int) (b : Bool) (h : okL 110 n = b) (w : World) : Calls Try.prog 37 #[.int .u8 110, .int .i64 n] w fun e w' => e = .returned (.bool b) ∧ w = w' := by
  have h' : decide (-32768 ≤ n ∧ n ≤ 32767) = b := h
  rw [← fit2] at h'
  have C1 := fun w => width_2 110 (.inl rfl) w
  have C2 := fun w => fits_any n 2 w
  rw [show hz 2 = 2 from rfl, h'] at C2
  replace C1 := Lib.hid C1
  replace C2 := Lib.hid C2
  clear h h'
  go_enter Try.func37, Try.ntmps37
  go_wp2_with (first | (go_at_call 40; (refine (C1.out _).mono ?_); rintro e w' ⟨rfl, rfl⟩) | (go_at_call 39; (refine (C2.out _).mono ?_); rintro e w' ⟨rfl, rfl⟩))
  go_ret
  exact ⟨rfl, rfl⟩
theorem ends_r (w : World) : Calls Try.prog 34 #[.string ⟨#[114]⟩] w fun e w' => e = .returned (.tuple #[.int .i64 0, .int .i64 7]) ∧ w = w' := by
  go_enter Try.func34, Try.ntmps34
  go_wp2_with fail
  go_ret2
  exact ⟨rfl, rfl⟩
theorem ends_f (w : World) : Calls Try.prog 34 #[.string ⟨#[102]⟩] w fun e w' => e = .returned (.tuple #[.int .i64 0, .int .i64 15]) ∧ w = w' := by
  go_enter Try.func34, Try.ntmps34
  go_wp2_with fail
  go_ret2
  exact ⟨rfl, rfl⟩
theorem ends_t (w : World) : Calls Try.prog 34 #[.string ⟨#[116]⟩] w fun e w' => e = .returned (.tuple #[.int .i64 0, .int .i64 199]) ∧ w = w' := by
  go_enter Try.func34, Try.ntmps34
  go_wp2_with fail
  go_ret2
  exact ⟨rfl, rfl⟩
theorem ends_n (w : World) : Calls Try.prog 34 #[.string ⟨#[110]⟩] w fun e w' => e = .returned (.tuple #[.int .i64 (-32768), .int .i64 32767]) ∧ w = w' := by
  go_enter Try.func34, Try.ntmps34
  go_wp2_with fail
  go_ret2
  exact ⟨rfl, rfl⟩
end Go.Proofs.Ytdneblbaofhehaa.ins
