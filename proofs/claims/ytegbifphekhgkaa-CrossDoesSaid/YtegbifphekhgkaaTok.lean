/- The contracts of the functions of layer 15 (token). -/
import Derived.Test.YtegbifphekhgkaaKit
import Derived.WalkKit
import Derived.ProofKit
import Derived.OpenShut
import Derived.Below
import Derived.Lib.Hide
import Derived.WalkSmall
import Derived.Deep.QuietTactic
import Derived.BigQuiet
namespace Go.Proofs.Ytegbifphekhgkaa
open Go.ChangeShapes Go.WideShapes Go.ChangeAt Go.RowKit

theorem and20 (n : Int) : bits .and .i64 n 1048575 = n % 1048576 := by
  have h127 : (BitVec.ofInt 64 1048575).toNat = 2 ^ 20 - 1 := by decide
  have key : (BitVec.ofInt 64 n &&& BitVec.ofInt 64 1048575).toNat = (n % ((2 ^ 64 : Nat) : Int)).toNat % 2 ^ 20 := by
    rw [BitVec.toNat_and, BitVec.toNat_ofInt, h127, Nat.and_two_pow_sub_one_eq_mod]
  show IntKind.i64.wrap ((BitVec.ofInt 64 n &&& BitVec.ofInt 64 1048575).toNat : Nat) = n % 1048576
  rw [key, IntKind.wrap_i64]
  omega

def tHeld (n : Int) : Int := if n < 0 then 0 else if 1048575 < n then 1048575 else n
theorem tHeld_bd (n : Int) : 0 ≤ tHeld n ∧ tHeld n ≤ 1048575 := by unfold tHeld; split <;> (try split) <;> omega
theorem tHeld_in (n : Int) (h1 : 0 ≤ n) (h2 : n ≤ 1048575) : tHeld n = n := by unfold tHeld; split <;> (try split) <;> omega
def tAll (n : Int) : Int := if n < 0 then 0 else if 1152921504606846975 < n then 1152921504606846975 else n
theorem tAll_bd (n : Int) : 0 ≤ tAll n ∧ tAll n ≤ 1152921504606846975 := by unfold tAll; split <;> (try split) <;> omega
def tOf (l i s : Int) : Int := (tHeld l * 1048576 + tHeld i) * 1048576 + tHeld s

theorem held_any (n : Int) (w : World) : Calls Try.prog 114 #[.int .i64 n] w fun e w' => e = .returned (.int .i64 (tHeld n)) ∧ w = w' := by
  by_cases h1 : n < 0
  · have e : tHeld n = 0 := by unfold tHeld; rw [if_pos h1]
    rw [e]
    go_enter Try.func114, Try.ntmps114
    go_wp2
    go_ret
    exact ⟨rfl, rfl⟩
  · by_cases h2 : 1048575 < n
    · have e : tHeld n = 1048575 := by unfold tHeld; rw [if_neg h1, if_pos h2]
      rw [e]
      go_enter Try.func114, Try.ntmps114
      go_wp2
      go_ret
      exact ⟨rfl, rfl⟩
    · have e : tHeld n = n := by unfold tHeld; rw [if_neg h1, if_neg h2]
      rw [e]
      go_enter Try.func114, Try.ntmps114
      go_wp2
      go_ret
      exact ⟨rfl, rfl⟩

theorem of_any (l i s : Int) (w : World) : Calls Try.prog 106 #[.int .i64 l, .int .i64 i, .int .i64 s] w fun e w' => e = .returned (.int .i64 (tOf l i s)) ∧ w = w' := by
  have h1 := tHeld_bd l
  have h2 := tHeld_bd i
  have h3 := tHeld_bd s
  go_enter Try.func106, Try.ntmps106
  go_wp2_with (go_at_call 114; refine (held_any _ _).mono ?_; rintro e w' ⟨rfl, rfl⟩)
  go_ret
  exact ⟨rfl, rfl⟩
def tPart (t : Int) (d : Int) : Int := tAll t / d % 1048576
theorem part_any (t : Int) (from_ : Int) (d : Int) (w : World) (hd : d = 2 ^ from_.toNat) (hf : from_ = 0 ∨ from_ = 20 ∨ from_ = 40) : Calls Try.prog 103 #[.int .i64 t, .int .i64 from_] w fun e w' => e = .returned (.int .i64 (tPart t d)) ∧ w = w' := by
  have key : ∀ x, bits .and .i64 x 1048575 = x % 1048576 := and20
  subst hd
  by_cases h1 : t < 0
  · have e : tPart t (2 ^ from_.toNat) = 0 := by unfold tPart tAll; rw [if_pos h1]; simp
    rw [e]
    rcases hf with rfl | rfl | rfl <;> (
      go_enter Try.func103, Try.ntmps103
      go_wp2
      go_ret
      exact ⟨by rfl, rfl⟩)
  · by_cases h2 : 1152921504606846975 < t
    · have e : tAll t = 1152921504606846975 := by unfold tAll; rw [if_neg h1, if_pos h2]
      unfold tPart
      rw [e]
      rcases hf with rfl | rfl | rfl <;> (
        go_enter Try.func103, Try.ntmps103
        go_wp2
        go_ret
        exact ⟨by rfl, rfl⟩)
    · have e : tAll t = t := by unfold tAll; rw [if_neg h1, if_neg h2]
      unfold tPart
      rw [e]
      rcases hf with rfl | rfl | rfl <;> (
        go_enter Try.func103, Try.ntmps103
        go_wp2
        go_ret
        exact ⟨by simp, rfl⟩)
theorem iter_any (t : Int) (w : World) : Calls Try.prog 105 #[.int .i64 t] w fun e w' => e = .returned (.int .i64 (tPart t 1048576)) ∧ w = w' := by
  go_enter Try.func105, Try.ntmps105
  go_wp2_with (go_at_call 103; refine (part_any _ _ 1048576 _ (by decide) (by omega)).mono ?_; rintro e w' ⟨rfl, rfl⟩)
  go_ret
  exact ⟨rfl, rfl⟩
theorem stage_any (t : Int) (w : World) : Calls Try.prog 88 #[.int .i64 t] w fun e w' => e = .returned (.int .i64 (tPart t 1)) ∧ w = w' := by
  go_enter Try.func88, Try.ntmps88
  go_wp2_with (go_at_call 103; refine (part_any _ _ 1 _ (by decide) (by omega)).mono ?_; rintro e w' ⟨rfl, rfl⟩)
  go_ret
  exact ⟨rfl, rfl⟩
def tIs (t : Int) : Bool := decide (1099511627776 ≤ t ∧ t ≤ 1152921504606846975)
theorem tIs_yes {t : Int} (h1 : 1099511627776 ≤ t) (h2 : t ≤ 1152921504606846975) : tIs t = true := by unfold tIs; simp; omega
theorem tIs_no {t : Int} (h : t < 1099511627776 ∨ 1152921504606846975 < t) : tIs t = false := by unfold tIs; simp; omega
theorem is_any (t : Int) (w : World) : Calls Try.prog 104 #[.int .i64 t] w fun e w' => e = .returned (.bool (tIs t)) ∧ w = w' := by
  by_cases h1 : 1099511627776 ≤ t
  · by_cases h2 : t ≤ 1152921504606846975
    · rw [tIs_yes h1 h2]
      go_enter Try.func104, Try.ntmps104
      go_wp2
      go_ret
      exact ⟨rfl, rfl⟩
    · rw [tIs_no (by omega)]
      go_enter Try.func104, Try.ntmps104
      go_wp2
      go_ret
      exact ⟨rfl, rfl⟩
  · rw [tIs_no (by omega)]
    go_enter Try.func104, Try.ntmps104
    go_wp2
    go_ret
    exact ⟨rfl, rfl⟩
theorem is_val (t : Int) (b : Bool) (w : World) (h : tIs t = b) : Calls Try.prog 104 #[.int .i64 t] w fun e w' => e = .returned (.bool b) ∧ w = w' := by
  rw [← h]
  exact is_any t w
theorem next_no (t c : Int) (w : World) (h : tIs t = false ∨ c ≤ tPart t 1) : Calls Try.prog 89 #[.int .i64 t, .int .i64 c] w fun e w' => e = .returned (.tuple #[.int .i64 0, .bool false]) ∧ w = w' := by
  cases hi : tIs t with
  | false =>
    have HI := Lib.hid hi
    clear hi h
    go_enter Try.func89, Try.ntmps89
    go_wp2_with fail
    refine (is_any _ _).mono ?_
    rintro e w' ⟨rfl, rfl⟩
    rw [HI.out]
    go_wp2_with fail
    go_ret2
    exact ⟨rfl, rfl⟩
  | true =>
    have h' : c ≤ tPart t 1 := by rcases h with h | h; exact absurd (hi.symm.trans h) (by decide); exact h
    have HI := Lib.hid hi
    clear hi h
    go_enter Try.func89, Try.ntmps89
    go_wp2_with fail
    refine (is_any _ _).mono ?_
    rintro e w' ⟨rfl, rfl⟩
    rw [HI.out]
    go_wp2_with (go_at_call 88; refine (stage_any _ _).mono ?_; rintro e w' ⟨rfl, rfl⟩)
    go_ret2
    exact ⟨rfl, rfl⟩
theorem next_yes (t c : Int) (w : World) (hi : tIs t = true) (h : tPart t 1 < c) : Calls Try.prog 89 #[.int .i64 t, .int .i64 c] w fun e w' => e = .returned (.tuple #[.int .i64 (tPart t 1048576), .bool true]) ∧ w = w' := by
  have HI := Lib.hid hi
  clear hi
  go_enter Try.func89, Try.ntmps89
  go_wp2_with fail
  refine (is_any _ _).mono ?_
  rintro e w' ⟨rfl, rfl⟩
  rw [HI.out]
  go_wp2_with (first | (go_at_call 88; refine (stage_any _ _).mono ?_; rintro e w' ⟨rfl, rfl⟩) | (go_at_call 105; refine (iter_any _ _).mono ?_; rintro e w' ⟨rfl, rfl⟩))
  go_ret2
  exact ⟨rfl, rfl⟩
/- the reference -/
theorem rheld_any (n m v : Int) (w : World) (hv : v = if n < 0 then 0 else if m < n then m else n) : Calls Try.prog 85 #[.int .i64 n, .int .i64 m] w fun e w' => e = .returned (.int .i64 v) ∧ w = w' := by
  by_cases h1 : n < 0
  · obtain rfl : v = 0 := by rw [hv, if_pos h1]
    clear hv
    go_enter Try.func85, Try.ntmps85
    go_wp2
    go_ret
    exact ⟨rfl, rfl⟩
  · by_cases h2 : m < n
    · obtain rfl : v = m := by rw [hv, if_neg h1, if_pos h2]
      clear hv
      go_enter Try.func85, Try.ntmps85
      go_wp2
      go_ret
      exact ⟨rfl, rfl⟩
    · obtain rfl : v = n := by rw [hv, if_neg h1, if_neg h2]
      clear hv
      go_enter Try.func85, Try.ntmps85
      go_wp2
      go_ret
      exact ⟨rfl, rfl⟩
theorem rof_any (l i s : Int) (w : World) : Calls Try.prog 59 #[.int .i64 l, .int .i64 i, .int .i64 s] w fun e w' => e = .returned (.int .i64 (tOf l i s)) ∧ w = w' := by
  have h1 := tHeld_bd l
  have h2 := tHeld_bd i
  have h3 := tHeld_bd s
  go_enter Try.func59, Try.ntmps59
  go_wp2_with (go_at_call 85; refine (rheld_any _ _ (tHeld _) _ rfl).mono ?_; rintro e w' ⟨rfl, rfl⟩)
  go_ret
  exact ⟨rfl, rfl⟩
theorem rparts_any (t : Int) (w : World) : Calls Try.prog 63 #[.int .i64 t] w fun e w' => e = .returned (.agg #[.int .i64 (tPart t 1099511627776), .int .i64 (tPart t 1048576), .int .i64 (tPart t 1)]) ∧ Below w.heap.size w w' := by
  have h1 := tAll_bd t
  go_enter Try.func63, Try.ntmps63
  go_wp2_with (go_at_call 85; refine (rheld_any _ _ (tAll _) _ rfl).mono ?_; rintro e w' ⟨rfl, rfl⟩)
  have e1 : tPart t 1099511627776 = tAll t / 1048576 / 1048576 := by unfold tPart; omega
  have e2 : tPart t 1048576 = tAll t / 1048576 % 1048576 := rfl
  have e3 : tPart t 1 = tAll t % 1048576 := by unfold tPart; omega
  exact bodyPost_ret (v := .agg #[.int .i64 (tAll t / 1048576 / 1048576), .int .i64 (tAll t / 1048576 % 1048576), .int .i64 (tAll t % 1048576)]) (by simp [results, Try.results63, go_sem]) rfl ⟨by rw [e1, e2, e3], (Below.refl _ _).alloc (Nat.le_refl _) _⟩
theorem pt0 (a b c : Int) (w : World) : (part 3 #[.int .i64 a, .int .i64 b, .int .i64 c] 0).run Try.prog w = .ok (.int .i64 a) w := by kernel_rfl
theorem pt1 (a b c : Int) (w : World) : (part 3 #[.int .i64 a, .int .i64 b, .int .i64 c] 1).run Try.prog w = .ok (.int .i64 b) w := by kernel_rfl
theorem pt2 (a b c : Int) (w : World) : (part 3 #[.int .i64 a, .int .i64 b, .int .i64 c] 2).run Try.prog w = .ok (.int .i64 c) w := by kernel_rfl
theorem tPart_loop (a b c : Int) (h0 : 0 ≤ a) (h1 : a ≤ 1048575) (h2 : 0 ≤ b) (h3 : b ≤ 1048575) (h4 : 0 ≤ c) (h5 : c ≤ 1048575) :
    tOf a b c = (a * 1048576 + b) * 1048576 + c ∧ tPart (tOf a b c) 1099511627776 = a ∧ tPart (tOf a b c) 1048576 = b ∧ tPart (tOf a b c) 1 = c ∧ tIs (tOf a b c) = decide (0 < a) := by
  have e : tOf a b c = (a * 1048576 + b) * 1048576 + c := by unfold tOf; rw [tHeld_in a h0 h1, tHeld_in b h2 h3, tHeld_in c h4 h5]
  have e2 : tAll (tOf a b c) = (a * 1048576 + b) * 1048576 + c := by rw [e]; unfold tAll; rw [if_neg (by omega), if_neg (by omega)]
  refine ⟨e, ?_, ?_, ?_, ?_⟩
  · unfold tPart; rw [e2]; omega
  · unfold tPart; rw [e2]; omega
  · unfold tPart; rw [e2]; omega
  · unfold tIs; rw [e]; apply decide_eq_decide.2; omega

def tNextB (t c : Int) : Bool := tIs t && decide (tPart t 1 < c)
def tNextN (t c : Int) : Int := if tNextB t c then tPart t 1048576 else 0
theorem next_any (t c : Int) (w : World) : Calls Try.prog 89 #[.int .i64 t, .int .i64 c] w fun e w' => e = .returned (.tuple #[.int .i64 (tNextN t c), .bool (tNextB t c)]) ∧ w = w' := by
  cases h : tNextB t c with
  | true =>
    have e : tNextN t c = tPart t 1048576 := by unfold tNextN; rw [if_pos h]
    rw [e]
    unfold tNextB at h
    simp only [Bool.and_eq_true, decide_eq_true_eq] at h
    exact next_yes t c w h.1 h.2
  | false =>
    have e : tNextN t c = 0 := by unfold tNextN; rw [if_neg (by rw [h]; decide)]
    rw [e]
    unfold tNextB at h
    simp only [Bool.and_eq_false_iff, decide_eq_false_iff_not] at h
    exact next_no t c w (h.imp id (by omega))
end Go.Proofs.Ytegbifphekhgkaa
