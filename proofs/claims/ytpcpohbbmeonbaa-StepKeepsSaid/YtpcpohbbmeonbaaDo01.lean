/- What any operation of layer 1 makes of two numbers: the program's answer and the reference's are one. -/
import Derived.Test.YtpcpohbbmeonbaaRef01
namespace Go.Proofs.Ytpcpohbbmeonbaa.ref01
open Go.ChangeShapes Go.WideShapes Go.ChangeAt Go.RowKit
open Go.Proofs.Ytpcpohbbmeonbaa.bin
set_option linter.unusedVariables false

set_option maxHeartbeats 4000000 in
theorem rdo_other (op a b : Int) (w : World) (ho : op < 3 ∨ 12 < op) : Calls Try.prog 53 #[.int .i64 op, .int .i64 a, .int .i64 b] w fun e w' => e = .returned (.tuple #[.int .i64 0, .int .i64 0]) ∧ w = w' := by
  obtain ⟨x, hx, hxa, hxl⟩ := u64_of a
  obtain ⟨y, hy, hyb, hyl⟩ := u64_of b
  have e3 : (op == 3) = false := by simp; omega
  have e4 : (op == 4) = false := by simp; omega
  have e5 : (op == 5) = false := by simp; omega
  have e6 : (op == 6) = false := by simp; omega
  have e7 : (op == 7) = false := by simp; omega
  have e8 : (op == 8) = false := by simp; omega
  have e9 : (op == 9) = false := by simp; omega
  have e10 : (op == 10) = false := by simp; omega
  have e11 : (op == 11) = false := by simp; omega
  have e12 : (op == 12) = false := by simp; omega
  clear hxa hyb ho
  go_enter Try.func53, Try.ntmps53
  go_wp2_with fail
  go_loop [10, 13] (fun n i => ∃ k : Nat, k ≤ 64 ∧ i = .int .i64 k ∧ n = .int .u64 0) (fun _ i => 64 - (intOf i).toNat)
  case atStart => exact ⟨0, by omega, rfl, rfl⟩
  case round =>
    obtain ⟨k, hk, rfl, rfl⟩ := hrel
    by_cases hlt : k < 64
    · obtain ⟨p, hp⟩ : ∃ p, Hid (x / 2 ^ k % 2 = p) := ⟨_, Lib.hid rfl⟩
      obtain ⟨q, hq⟩ : ∃ q, Hid (y / 2 ^ k % 2 = q) := ⟨_, Lib.hid rfl⟩
      have hpc : p = 0 ∨ p = 1 := by have := hp.out; omega
      have hqc : q = 0 ∨ q = 1 := by have := hq.out; omega
      rcases hpc with rfl | rfl <;> rcases hqc with rfl | rfl
      all_goals
        go_wp2_with fail
        refine (bit_v x k _ _ hxl hlt hp).mono ?_
        rintro e w' ⟨rfl, rfl⟩
        go_wp2_with fail
        refine (bit_v y k _ _ hyl hlt hq).mono ?_
        rintro e w' ⟨rfl, rfl⟩
        go_wp2_with fail
        go_round
        case rel => exact ⟨k + 1, by omega, by go_num, rfl⟩
        case measure => simp [intOf] <;> omega
    · go_wp2_with fail
      go_ret2
      exact ⟨rfl, rfl⟩

theorem number_v (b : Bool) (w : World) : Calls Try.prog 59 #[.bool b] w fun e w' => e = .returned (.int .i64 (if b then 1 else 0)) ∧ w = w' := by
  cases b
  · go_enter Try.func59, Try.ntmps59
    go_wp2
    go_ret
    exact ⟨rfl, rfl⟩
  · go_enter Try.func59, Try.ntmps59
    go_wp2
    go_ret
    exact ⟨rfl, rfl⟩
theorem known_v (op : Int) (w : World) : Calls Try.prog 49 #[.int .i64 op] w fun e w' => e = .returned (.bool (decide (3 ≤ op) && decide (op ≤ 12))) ∧ w = w' := by
  by_cases h1 : 3 ≤ op
  · by_cases h2 : op ≤ 12
    · rw [decide_eq_true h1, decide_eq_true h2]
      go_enter Try.func49, Try.ntmps49
      go_wp2
      go_ret
      exact ⟨rfl, rfl⟩
    · rw [decide_eq_true h1, decide_eq_false h2]
      go_enter Try.func49, Try.ntmps49
      go_wp2
      go_ret
      exact ⟨rfl, rfl⟩
  · rw [decide_eq_false h1]
    go_enter Try.func49, Try.ntmps49
    go_wp2
    go_ret
    exact ⟨rfl, rfl⟩
theorem pdo_add (a b v : Int) (w : World) (hv : Hid (wrap64 (a + b) = v)) : Calls Try.prog 50 #[.int .i64 3, .int .i64 a, .int .i64 b] w fun e w' => e = .returned (.tuple #[.int .i64 v, .int .i64 0]) ∧ w = w' := by
  go_enter Try.func50, Try.ntmps50
  go_wp2_with (go_at_call 59; refine (number_v _ _).mono ?_; rintro e w' ⟨rfl, rfl⟩)
  go_ret2
  exact ⟨by rw [← hv.out]; rfl, rfl⟩
theorem pdo_sub (a b v : Int) (w : World) (hv : Hid (wrap64 (a - b) = v)) : Calls Try.prog 50 #[.int .i64 4, .int .i64 a, .int .i64 b] w fun e w' => e = .returned (.tuple #[.int .i64 v, .int .i64 0]) ∧ w = w' := by
  go_enter Try.func50, Try.ntmps50
  go_wp2_with (go_at_call 59; refine (number_v _ _).mono ?_; rintro e w' ⟨rfl, rfl⟩)
  go_ret2
  exact ⟨by rw [← hv.out]; rfl, rfl⟩
theorem pdo_mul (a b v : Int) (w : World) (hv : Hid (wrap64 (a * b) = v)) : Calls Try.prog 50 #[.int .i64 5, .int .i64 a, .int .i64 b] w fun e w' => e = .returned (.tuple #[.int .i64 v, .int .i64 0]) ∧ w = w' := by
  go_enter Try.func50, Try.ntmps50
  go_wp2_with (go_at_call 59; refine (number_v _ _).mono ?_; rintro e w' ⟨rfl, rfl⟩)
  go_ret2
  exact ⟨by rw [← hv.out]; rfl, rfl⟩
theorem pdo_div (a b v : Int) (w : World) (h0 : ¬ b = 0) (hv : Hid (wrap64 (a.tdiv b) = v)) : Calls Try.prog 50 #[.int .i64 6, .int .i64 a, .int .i64 b] w fun e w' => e = .returned (.tuple #[.int .i64 v, .int .i64 0]) ∧ w = w' := by
  have hz : (b == 0) = false := by simpa using h0
  go_enter Try.func50, Try.ntmps50
  go_wp2_with (go_at_call 59; refine (number_v _ _).mono ?_; rintro e w' ⟨rfl, rfl⟩)
  go_ret2
  exact ⟨by rw [← hv.out]; rfl, rfl⟩
theorem pdo_mod (a b v : Int) (w : World) (h0 : ¬ b = 0) (hv : Hid (a.tmod b = v)) : Calls Try.prog 50 #[.int .i64 7, .int .i64 a, .int .i64 b] w fun e w' => e = .returned (.tuple #[.int .i64 v, .int .i64 0]) ∧ w = w' := by
  have hz : (b == 0) = false := by simpa using h0
  go_enter Try.func50, Try.ntmps50
  go_wp2_with (go_at_call 59; refine (number_v _ _).mono ?_; rintro e w' ⟨rfl, rfl⟩)
  go_ret2
  exact ⟨by rw [← hv.out]; rfl, rfl⟩
theorem pdo_less (a b v : Int) (w : World) (hv : Hid ((if a < b then (1 : Int) else 0) = v)) : Calls Try.prog 50 #[.int .i64 8, .int .i64 a, .int .i64 b] w fun e w' => e = .returned (.tuple #[.int .i64 v, .int .i64 0]) ∧ w = w' := by
  have hv := hv.out
  by_cases h : a < b
  · rw [if_pos h] at hv
    subst hv
    have hd : decide (a < b) = true := by simpa using h
    go_enter Try.func50, Try.ntmps50
    go_wp2_with (go_at_call 59; refine (number_v _ _).mono ?_; rintro e w' ⟨rfl, rfl⟩)
    go_ret2
    exact ⟨rfl, rfl⟩
  · rw [if_neg h] at hv
    subst hv
    have hd : decide (a < b) = false := by simpa using h
    go_enter Try.func50, Try.ntmps50
    go_wp2_with (go_at_call 59; refine (number_v _ _).mono ?_; rintro e w' ⟨rfl, rfl⟩)
    go_ret2
    exact ⟨rfl, rfl⟩
theorem pdo_same (a b v : Int) (w : World) (hv : Hid ((if a = b then (1 : Int) else 0) = v)) : Calls Try.prog 50 #[.int .i64 9, .int .i64 a, .int .i64 b] w fun e w' => e = .returned (.tuple #[.int .i64 v, .int .i64 0]) ∧ w = w' := by
  have hv := hv.out
  by_cases h : a = b
  · rw [if_pos h] at hv
    subst hv
    subst h
    go_enter Try.func50, Try.ntmps50
    go_wp2_with (go_at_call 59; refine (number_v _ _).mono ?_; rintro e w' ⟨rfl, rfl⟩)
    go_ret2
    exact ⟨rfl, rfl⟩
  · rw [if_neg h] at hv
    subst hv
    have hd : (a == b) = false := by simpa using h
    go_enter Try.func50, Try.ntmps50
    go_wp2_with (go_at_call 59; refine (number_v _ _).mono ?_; rintro e w' ⟨rfl, rfl⟩)
    go_ret2
    exact ⟨rfl, rfl⟩
theorem pdo_and (a b v : Int) (w : World) (hv : Hid (Go.bits .and .i64 a b = v)) : Calls Try.prog 50 #[.int .i64 10, .int .i64 a, .int .i64 b] w fun e w' => e = .returned (.tuple #[.int .i64 v, .int .i64 0]) ∧ w = w' := by
  go_enter Try.func50, Try.ntmps50
  go_wp2_with (go_at_call 59; refine (number_v _ _).mono ?_; rintro e w' ⟨rfl, rfl⟩)
  go_ret2
  exact ⟨by rw [← hv.out]; rfl, rfl⟩
theorem pdo_or (a b v : Int) (w : World) (hv : Hid (Go.bits .or .i64 a b = v)) : Calls Try.prog 50 #[.int .i64 11, .int .i64 a, .int .i64 b] w fun e w' => e = .returned (.tuple #[.int .i64 v, .int .i64 0]) ∧ w = w' := by
  go_enter Try.func50, Try.ntmps50
  go_wp2_with (go_at_call 59; refine (number_v _ _).mono ?_; rintro e w' ⟨rfl, rfl⟩)
  go_ret2
  exact ⟨by rw [← hv.out]; rfl, rfl⟩
theorem pdo_xor (a b v : Int) (w : World) (hv : Hid (Go.bits .xor .i64 a b = v)) : Calls Try.prog 50 #[.int .i64 12, .int .i64 a, .int .i64 b] w fun e w' => e = .returned (.tuple #[.int .i64 v, .int .i64 0]) ∧ w = w' := by
  go_enter Try.func50, Try.ntmps50
  go_wp2_with (go_at_call 59; refine (number_v _ _).mono ?_; rintro e w' ⟨rfl, rfl⟩)
  go_ret2
  exact ⟨by rw [← hv.out]; rfl, rfl⟩
theorem pdo_none6 (a : Int) (w : World) : Calls Try.prog 50 #[.int .i64 6, .int .i64 a, .int .i64 0] w fun e w' => e = .returned (.tuple #[.int .i64 0, .int .i64 1]) ∧ w = w' := by
  go_enter Try.func50, Try.ntmps50
  go_wp2_with fail
  go_ret2
  exact ⟨rfl, rfl⟩
theorem pdo_none7 (a : Int) (w : World) : Calls Try.prog 50 #[.int .i64 7, .int .i64 a, .int .i64 0] w fun e w' => e = .returned (.tuple #[.int .i64 0, .int .i64 1]) ∧ w = w' := by
  go_enter Try.func50, Try.ntmps50
  go_wp2_with fail
  go_ret2
  exact ⟨rfl, rfl⟩
theorem pdo_other (op a b : Int) (w : World) (ho : op < 3 ∨ 12 < op) : Calls Try.prog 50 #[.int .i64 op, .int .i64 a, .int .i64 b] w fun e w' => e = .returned (.tuple #[.int .i64 0, .int .i64 0]) ∧ w = w' := by
  have e3 : (op == 3) = false := by simp; omega
  have e4 : (op == 4) = false := by simp; omega
  have e5 : (op == 5) = false := by simp; omega
  have e6 : (op == 6) = false := by simp; omega
  have e7 : (op == 7) = false := by simp; omega
  have e8 : (op == 8) = false := by simp; omega
  have e9 : (op == 9) = false := by simp; omega
  have e10 : (op == 10) = false := by simp; omega
  have e11 : (op == 11) = false := by simp; omega
  have e12 : (op == 12) = false := by simp; omega
  clear ho
  go_enter Try.func50, Try.ntmps50
  go_wp2_with fail
  go_ret2
  exact ⟨rfl, rfl⟩
/-- what an operation makes of two numbers, and its fault -/
def doV (op a b : Int) : Int × Int :=
  if op = 3 then (wrap64 (a + b), 0) else if op = 4 then (wrap64 (a - b), 0) else if op = 5 then (wrap64 (a * b), 0)
  else if op = 6 then (if b = 0 then (0, 1) else (wrap64 (a.tdiv b), 0)) else if op = 7 then (if b = 0 then (0, 1) else (a.tmod b, 0))
  else if op = 8 then (if a < b then 1 else 0, 0) else if op = 9 then (if a = b then 1 else 0, 0)
  else if op = 10 then (Go.bits .and .i64 a b, 0) else if op = 11 then (Go.bits .or .i64 a b, 0) else if op = 12 then (Go.bits .xor .i64 a b, 0) else (0, 0)
theorem op_cases (op : Int) : (op < 3 ∨ 12 < op) ∨ op = 3 ∨ op = 4 ∨ op = 5 ∨ op = 6 ∨ op = 7 ∨ op = 8 ∨ op = 9 ∨ op = 10 ∨ op = 11 ∨ op = 12 := by omega
theorem doV_other (op a b : Int) (ho : op < 3 ∨ 12 < op) : doV op a b = (0, 0) := by
  unfold doV; rw [if_neg (by omega), if_neg (by omega), if_neg (by omega), if_neg (by omega), if_neg (by omega), if_neg (by omega), if_neg (by omega), if_neg (by omega), if_neg (by omega), if_neg (by omega)]
theorem pdo_v (op a b n f : Int) (w : World) (h : Hid (doV op a b = (n, f))) : Calls Try.prog 50 #[.int .i64 op, .int .i64 a, .int .i64 b] w fun e w' => e = .returned (.tuple #[.int .i64 n, .int .i64 f]) ∧ w = w' := by
  have h := h.out
  rcases op_cases op with ho | rfl | rfl | rfl | rfl | rfl | rfl | rfl | rfl | rfl | rfl
  · rw [doV_other op a b ho] at h; cases h; exact pdo_other op a b w ho
  · cases h; exact pdo_add a b _ w (Lib.hid rfl)
  · cases h; exact pdo_sub a b _ w (Lib.hid rfl)
  · cases h; exact pdo_mul a b _ w (Lib.hid rfl)
  · by_cases h0 : b = 0
    · subst h0; cases h; exact pdo_none6 a w
    · rw [show doV 6 a b = (wrap64 (a.tdiv b), 0) from if_neg h0] at h; cases h; exact pdo_div a b _ w h0 (Lib.hid rfl)
  · by_cases h0 : b = 0
    · subst h0; cases h; exact pdo_none7 a w
    · rw [show doV 7 a b = (a.tmod b, 0) from if_neg h0] at h; cases h; exact pdo_mod a b _ w h0 (Lib.hid rfl)
  · cases h; exact pdo_less a b _ w (Lib.hid rfl)
  · cases h; exact pdo_same a b _ w (Lib.hid rfl)
  · cases h; exact pdo_and a b _ w (Lib.hid rfl)
  · cases h; exact pdo_or a b _ w (Lib.hid rfl)
  · cases h; exact pdo_xor a b _ w (Lib.hid rfl)
theorem rdo_v (op a b n f : Int) (w : World) (ha1 : -9223372036854775808 ≤ a) (ha2 : a ≤ 9223372036854775807) (hb1 : -9223372036854775808 ≤ b) (hb2 : b ≤ 9223372036854775807) (h : Hid (doV op a b = (n, f))) : Calls Try.prog 53 #[.int .i64 op, .int .i64 a, .int .i64 b] w fun e w' => e = .returned (.tuple #[.int .i64 n, .int .i64 f]) ∧ w = w' := by
  have h := h.out
  rcases op_cases op with ho | rfl | rfl | rfl | rfl | rfl | rfl | rfl | rfl | rfl | rfl
  · rw [doV_other op a b ho] at h; cases h; exact rdo_other op a b w ho
  · cases h; exact rdo_add a b _ w (Lib.hid rfl)
  · cases h; exact rdo_sub a b _ w (Lib.hid rfl)
  · cases h; exact rdo_mul a b _ w (Lib.hid rfl)
  · by_cases h0 : b = 0
    · subst h0; cases h; exact rdo_none 6 a w (Or.inl rfl)
    · rw [show doV 6 a b = (wrap64 (a.tdiv b), 0) from if_neg h0] at h; cases h; exact rdo_div a b _ w ha1 ha2 hb1 hb2 h0 (Lib.hid rfl)
  · by_cases h0 : b = 0
    · subst h0; cases h; exact rdo_none 7 a w (Or.inr rfl)
    · rw [show doV 7 a b = (a.tmod b, 0) from if_neg h0] at h; cases h; exact rdo_mod a b _ w ha1 ha2 hb1 hb2 h0 (Lib.hid rfl)
  · cases h; exact rdo_less a b w
  · cases h; exact rdo_same a b w
  · cases h; exact rdo_and a b _ w (Lib.hid rfl)
  · cases h; exact rdo_or a b _ w (Lib.hid rfl)
  · cases h; exact rdo_xor a b _ w (Lib.hid rfl)
end Go.Proofs.Ytpcpohbbmeonbaa.ref01
