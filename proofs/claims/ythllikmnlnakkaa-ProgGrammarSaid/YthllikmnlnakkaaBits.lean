/- The contracts of the functions of layer 2 (bits) on numbers, and of the reference. -/
import Derived.Test.YthllikmnlnakkaaKit
namespace Go.Proofs.Ythllikmnlnakkaa.bits
open Go.ChangeShapes Go.WideShapes Go.ChangeAt Go.RowKit
set_option linter.unusedVariables false

theorem andMask (k : Nat) (m : Int) (hm : (BitVec.ofInt 64 m).toNat = 2 ^ k - 1) (hk : k ≤ 62) (n : Int) : Go.bits .and .i64 n m = n % (2 ^ k : Nat) := by
  have key : (BitVec.ofInt 64 n &&& BitVec.ofInt 64 m).toNat = (n % ((2 ^ 64 : Nat) : Int)).toNat % 2 ^ k := by
    rw [BitVec.toNat_and, BitVec.toNat_ofInt, hm, Nat.and_two_pow_sub_one_eq_mod]
  show IntKind.i64.wrap ((BitVec.ofInt 64 n &&& BitVec.ofInt 64 m).toNat : Nat) = n % (2 ^ k : Nat)
  have hp : (2 ^ k : Nat) ≤ 2 ^ 62 := Nat.pow_le_pow_right (by decide) hk
  have hlt : (n % ((2 ^ 64 : Nat) : Int)).toNat % 2 ^ k < 2 ^ k := Nat.mod_lt _ (Nat.two_pow_pos k)
  rw [key, IntKind.wrap_i64]
  have e : ((((n % ((2 ^ 64 : Nat) : Int)).toNat % 2 ^ k : Nat) : Int)) = n % (2 ^ k : Nat) := by
    rw [Int.natCast_emod, Int.toNat_of_nonneg (Int.emod_nonneg _ (by decide))]
    exact Int.emod_emod_of_dvd _ (by exact_mod_cast Nat.pow_dvd_pow 2 (by omega))
  omega
def hz (n : Int) : Nat := if n < 1 then 1 else if 4 < n then 4 else n.toNat
theorem hz_bd (n : Int) : 1 ≤ hz n ∧ hz n ≤ 4 := by unfold hz; split <;> (try split) <;> omega
theorem hz_cases (n : Int) : hz n = 1 ∨ hz n = 2 ∨ hz n = 3 ∨ hz n = 4 := by have := hz_bd n; omega
def pw : Nat → Int
  | 1 => 256
  | 2 => 65536
  | 3 => 16777216
  | _ => 4294967296
def sgV (n : Int) (h : Nat) : Int := if n % pw h < pw h / 2 then n % pw h else n % pw h - pw h

theorem held_v (n : Int) (h : Nat) (w : World) (hh : hz n = h) : Calls Try.prog 34 #[.int .i64 n] w fun e w' => e = .returned (.int .i64 h) ∧ w = w' := by
  unfold hz at hh
  by_cases h1 : n < 1
  · rw [if_pos h1] at hh
    subst hh
    go_enter Try.func34, Try.ntmps34
    go_wp2
    go_ret
    exact ⟨rfl, rfl⟩
  · by_cases h2 : 4 < n
    · rw [if_neg h1, if_pos h2] at hh
      subst hh
      go_enter Try.func34, Try.ntmps34
      go_wp2
      go_ret
      exact ⟨rfl, rfl⟩
    · rw [if_neg h1, if_neg h2] at hh
      have e : ((h : Nat) : Int) = n := by omega
      rw [e]
      clear hh e
      go_enter Try.func34, Try.ntmps34
      go_wp2
      all_goals (go_ret; exact ⟨rfl, rfl⟩)

theorem size_v (n : Int) (h : Nat) (w : World) (hh : hz n = h) : Calls Try.prog 40 #[.int .i64 n] w fun e w' => e = .returned (.int .i64 h) ∧ w = w' := by
  unfold hz at hh
  by_cases h1 : n < 1
  · rw [if_pos h1] at hh
    subst hh
    go_enter Try.func40, Try.ntmps40
    go_wp2
    go_ret
    exact ⟨rfl, rfl⟩
  · by_cases h2 : 4 < n
    · rw [if_neg h1, if_pos h2] at hh
      subst hh
      go_enter Try.func40, Try.ntmps40
      go_wp2
      go_ret
      exact ⟨rfl, rfl⟩
    · rw [if_neg h1, if_neg h2] at hh
      have e : ((h : Nat) : Int) = n := by omega
      rw [e]
      clear hh e
      go_enter Try.func40, Try.ntmps40
      go_wp2
      all_goals (go_ret; exact ⟨rfl, rfl⟩)

theorem whole1 (n : Int) (w : World) (hh : Hid (hz n = 1)) : Calls Try.prog 39 #[.int .i64 n] w fun e w' => e = .returned (.int .i64 256) ∧ w = w' := by
  go_enter Try.func39, Try.ntmps39
  go_wp2
  refine wp_loop_rounds 2 ?_
  rw [rounds_succ]
  go_wp2_with (go_at_call 40; refine (size_v n 1 _ hh.out).mono ?_; rintro e w' ⟨rfl, rfl⟩)
  rw [rounds_succ]
  go_wp2_with (go_at_call 40; refine (size_v n 1 _ hh.out).mono ?_; rintro e w' ⟨rfl, rfl⟩)
  go_ret
  exact ⟨rfl, rfl⟩

theorem whole2 (n : Int) (w : World) (hh : Hid (hz n = 2)) : Calls Try.prog 39 #[.int .i64 n] w fun e w' => e = .returned (.int .i64 65536) ∧ w = w' := by
  go_enter Try.func39, Try.ntmps39
  go_wp2
  refine wp_loop_rounds 3 ?_
  rw [rounds_succ]
  go_wp2_with (go_at_call 40; refine (size_v n 2 _ hh.out).mono ?_; rintro e w' ⟨rfl, rfl⟩)
  rw [rounds_succ]
  go_wp2_with (go_at_call 40; refine (size_v n 2 _ hh.out).mono ?_; rintro e w' ⟨rfl, rfl⟩)
  rw [rounds_succ]
  go_wp2_with (go_at_call 40; refine (size_v n 2 _ hh.out).mono ?_; rintro e w' ⟨rfl, rfl⟩)
  go_ret
  exact ⟨rfl, rfl⟩

theorem whole3 (n : Int) (w : World) (hh : Hid (hz n = 3)) : Calls Try.prog 39 #[.int .i64 n] w fun e w' => e = .returned (.int .i64 16777216) ∧ w = w' := by
  go_enter Try.func39, Try.ntmps39
  go_wp2
  refine wp_loop_rounds 4 ?_
  rw [rounds_succ]
  go_wp2_with (go_at_call 40; refine (size_v n 3 _ hh.out).mono ?_; rintro e w' ⟨rfl, rfl⟩)
  rw [rounds_succ]
  go_wp2_with (go_at_call 40; refine (size_v n 3 _ hh.out).mono ?_; rintro e w' ⟨rfl, rfl⟩)
  rw [rounds_succ]
  go_wp2_with (go_at_call 40; refine (size_v n 3 _ hh.out).mono ?_; rintro e w' ⟨rfl, rfl⟩)
  rw [rounds_succ]
  go_wp2_with (go_at_call 40; refine (size_v n 3 _ hh.out).mono ?_; rintro e w' ⟨rfl, rfl⟩)
  go_ret
  exact ⟨rfl, rfl⟩

theorem whole4 (n : Int) (w : World) (hh : Hid (hz n = 4)) : Calls Try.prog 39 #[.int .i64 n] w fun e w' => e = .returned (.int .i64 4294967296) ∧ w = w' := by
  go_enter Try.func39, Try.ntmps39
  go_wp2
  refine wp_loop_rounds 5 ?_
  rw [rounds_succ]
  go_wp2_with (go_at_call 40; refine (size_v n 4 _ hh.out).mono ?_; rintro e w' ⟨rfl, rfl⟩)
  rw [rounds_succ]
  go_wp2_with (go_at_call 40; refine (size_v n 4 _ hh.out).mono ?_; rintro e w' ⟨rfl, rfl⟩)
  rw [rounds_succ]
  go_wp2_with (go_at_call 40; refine (size_v n 4 _ hh.out).mono ?_; rintro e w' ⟨rfl, rfl⟩)
  rw [rounds_succ]
  go_wp2_with (go_at_call 40; refine (size_v n 4 _ hh.out).mono ?_; rintro e w' ⟨rfl, rfl⟩)
  rw [rounds_succ]
  go_wp2_with (go_at_call 40; refine (size_v n 4 _ hh.out).mono ?_; rintro e w' ⟨rfl, rfl⟩)
  go_ret
  exact ⟨rfl, rfl⟩

theorem whole_v (n : Int) (v : Int) (w : World) (hh : pw (hz n) = v) : Calls Try.prog 39 #[.int .i64 n] w fun e w' => e = .returned (.int .i64 v) ∧ w = w' := by
  subst hh
  rcases hz_cases n with h | h | h | h <;> rw [h]
  · exact whole1 n w h
  · exact whole2 n w h
  · exact whole3 n w h
  · exact whole4 n w h
theorem rest_v (n m : Int) (w : World) (hm : 256 ≤ m) (hm2 : m ≤ 4294967296) (h1 : -9223372036854775808 ≤ n) (h2 : n ≤ 9223372036854775807) : Calls Try.prog 38 #[.int .i64 n, .int .i64 m] w fun e w' => e = .returned (.int .i64 (n % m)) ∧ w = w' := by
  by_cases h0 : 0 ≤ n
  · go_enter Try.func38, Try.ntmps38
    have hp := Int.emod_nonneg n (show m ≠ 0 by omega)
    go_wp2
    go_ret
    exact ⟨rfl, rfl⟩
  · have hz : (m == 0) = false := by simp; omega
    have hz2 : ¬ m = 0 := by omega
    have e1 := Int.mul_tdiv_add_tmod n m
    have b1 : -m < n.tmod m := by
      have h1 := Int.natAbs_tmod n m
      have h2 : n.natAbs % m.natAbs < m.natAbs := Nat.mod_lt _ (by omega)
      omega
    have b2 : n.tmod m ≤ 0 := by
      have := Int.tmod_nonneg m (show 0 ≤ -n by omega)
      rw [Int.neg_tmod] at this; omega
    have hem : n % m = if n.tmod m < 0 then n.tmod m + m else n.tmod m := by
      have h3 : n % m = n.tmod m % m := by
        have e2 : n = n.tmod m + m * n.tdiv m := by omega
        have e3 := congrArg (· % m) e2
        simp only [Int.add_mul_emod_self_left] at e3
        exact e3
      rw [h3]
      split
      · rw [← Int.add_emod_right, Int.emod_eq_of_lt (by omega) (by omega)]
      · rw [Int.emod_eq_of_lt (by omega) (by omega)]
    rw [hem]
    clear e1 hem
    by_cases h3 : n.tmod m < 0
    · rw [if_pos h3]
      go_enter Try.func38, Try.ntmps38
      go_wp2
      go_ret
      exact ⟨rfl, rfl⟩
    · rw [if_neg h3]
      go_enter Try.func38, Try.ntmps38
      go_wp2
      go_ret
      exact ⟨rfl, rfl⟩

theorem signed1_lo (n k : Int) (w : World) (hh : Hid (hz k = 1)) (h1 : 0 ≤ n % 256) (h2 : n % 256 < 128) : Calls Try.prog 44 #[.int .i64 n, .int .i64 k] w fun e w' => e = .returned (.int .i64 (n % 256)) ∧ w = w' := by
  have key : ∀ x, Go.bits .and .i64 x 255 = x % 256 := andMask 8 255 (by decide) (by decide)
  go_enter Try.func44, Try.ntmps44
  go_wp2_with (go_at_call 34; refine (held_v k 1 _ hh.out).mono ?_; rintro e w' ⟨rfl, rfl⟩)
  go_ret
  exact ⟨rfl, rfl⟩
theorem signed1_hi (n k : Int) (w : World) (hh : Hid (hz k = 1)) (h1 : n % 256 < 256) (h2 : 128 ≤ n % 256) : Calls Try.prog 44 #[.int .i64 n, .int .i64 k] w fun e w' => e = .returned (.int .i64 (n % 256 - 256)) ∧ w = w' := by
  have key : ∀ x, Go.bits .and .i64 x 255 = x % 256 := andMask 8 255 (by decide) (by decide)
  go_enter Try.func44, Try.ntmps44
  go_wp2_with (go_at_call 34; refine (held_v k 1 _ hh.out).mono ?_; rintro e w' ⟨rfl, rfl⟩)
  go_ret
  exact ⟨rfl, rfl⟩

theorem signed2_lo (n k : Int) (w : World) (hh : Hid (hz k = 2)) (h1 : 0 ≤ n % 65536) (h2 : n % 65536 < 32768) : Calls Try.prog 44 #[.int .i64 n, .int .i64 k] w fun e w' => e = .returned (.int .i64 (n % 65536)) ∧ w = w' := by
  have key : ∀ x, Go.bits .and .i64 x 65535 = x % 65536 := andMask 16 65535 (by decide) (by decide)
  go_enter Try.func44, Try.ntmps44
  go_wp2_with (go_at_call 34; refine (held_v k 2 _ hh.out).mono ?_; rintro e w' ⟨rfl, rfl⟩)
  go_ret
  exact ⟨rfl, rfl⟩
theorem signed2_hi (n k : Int) (w : World) (hh : Hid (hz k = 2)) (h1 : n % 65536 < 65536) (h2 : 32768 ≤ n % 65536) : Calls Try.prog 44 #[.int .i64 n, .int .i64 k] w fun e w' => e = .returned (.int .i64 (n % 65536 - 65536)) ∧ w = w' := by
  have key : ∀ x, Go.bits .and .i64 x 65535 = x % 65536 := andMask 16 65535 (by decide) (by decide)
  go_enter Try.func44, Try.ntmps44
  go_wp2_with (go_at_call 34; refine (held_v k 2 _ hh.out).mono ?_; rintro e w' ⟨rfl, rfl⟩)
  go_ret
  exact ⟨rfl, rfl⟩

theorem signed3_lo (n k : Int) (w : World) (hh : Hid (hz k = 3)) (h1 : 0 ≤ n % 16777216) (h2 : n % 16777216 < 8388608) : Calls Try.prog 44 #[.int .i64 n, .int .i64 k] w fun e w' => e = .returned (.int .i64 (n % 16777216)) ∧ w = w' := by
  have key : ∀ x, Go.bits .and .i64 x 16777215 = x % 16777216 := andMask 24 16777215 (by decide) (by decide)
  go_enter Try.func44, Try.ntmps44
  go_wp2_with (go_at_call 34; refine (held_v k 3 _ hh.out).mono ?_; rintro e w' ⟨rfl, rfl⟩)
  go_ret
  exact ⟨rfl, rfl⟩
theorem signed3_hi (n k : Int) (w : World) (hh : Hid (hz k = 3)) (h1 : n % 16777216 < 16777216) (h2 : 8388608 ≤ n % 16777216) : Calls Try.prog 44 #[.int .i64 n, .int .i64 k] w fun e w' => e = .returned (.int .i64 (n % 16777216 - 16777216)) ∧ w = w' := by
  have key : ∀ x, Go.bits .and .i64 x 16777215 = x % 16777216 := andMask 24 16777215 (by decide) (by decide)
  go_enter Try.func44, Try.ntmps44
  go_wp2_with (go_at_call 34; refine (held_v k 3 _ hh.out).mono ?_; rintro e w' ⟨rfl, rfl⟩)
  go_ret
  exact ⟨rfl, rfl⟩

theorem signed4_lo (n k : Int) (w : World) (hh : Hid (hz k = 4)) (h1 : 0 ≤ n % 4294967296) (h2 : n % 4294967296 < 2147483648) : Calls Try.prog 44 #[.int .i64 n, .int .i64 k] w fun e w' => e = .returned (.int .i64 (n % 4294967296)) ∧ w = w' := by
  have key : ∀ x, Go.bits .and .i64 x 4294967295 = x % 4294967296 := andMask 32 4294967295 (by decide) (by decide)
  go_enter Try.func44, Try.ntmps44
  go_wp2_with (go_at_call 34; refine (held_v k 4 _ hh.out).mono ?_; rintro e w' ⟨rfl, rfl⟩)
  go_ret
  exact ⟨rfl, rfl⟩
theorem signed4_hi (n k : Int) (w : World) (hh : Hid (hz k = 4)) (h1 : n % 4294967296 < 4294967296) (h2 : 2147483648 ≤ n % 4294967296) : Calls Try.prog 44 #[.int .i64 n, .int .i64 k] w fun e w' => e = .returned (.int .i64 (n % 4294967296 - 4294967296)) ∧ w = w' := by
  have key : ∀ x, Go.bits .and .i64 x 4294967295 = x % 4294967296 := andMask 32 4294967295 (by decide) (by decide)
  go_enter Try.func44, Try.ntmps44
  go_wp2_with (go_at_call 34; refine (held_v k 4 _ hh.out).mono ?_; rintro e w' ⟨rfl, rfl⟩)
  go_ret
  exact ⟨rfl, rfl⟩

theorem signed_any (n k : Int) (w : World) : Calls Try.prog 44 #[.int .i64 n, .int .i64 k] w fun e w' => e = .returned (.int .i64 (sgV n (hz k))) ∧ w = w' := by
  unfold sgV
  rcases hz_cases k with h | h | h | h <;> rw [h]
  · rw [show pw 1 = 256 from rfl]
    by_cases h2 : n % 256 < 256 / 2
    · rw [if_pos h2]; exact signed1_lo n k w h (by omega) (by omega)
    · rw [if_neg h2]; exact signed1_hi n k w h (by omega) (by omega)
  · rw [show pw 2 = 65536 from rfl]
    by_cases h2 : n % 65536 < 65536 / 2
    · rw [if_pos h2]; exact signed2_lo n k w h (by omega) (by omega)
    · rw [if_neg h2]; exact signed2_hi n k w h (by omega) (by omega)
  · rw [show pw 3 = 16777216 from rfl]
    by_cases h2 : n % 16777216 < 16777216 / 2
    · rw [if_pos h2]; exact signed3_lo n k w h (by omega) (by omega)
    · rw [if_neg h2]; exact signed3_hi n k w h (by omega) (by omega)
  · rw [show pw 4 = 4294967296 from rfl]
    by_cases h2 : n % 4294967296 < 4294967296 / 2
    · rw [if_pos h2]; exact signed4_lo n k w h (by omega) (by omega)
    · rw [if_neg h2]; exact signed4_hi n k w h (by omega) (by omega)
theorem fits_any (n k : Int) (w : World) : Calls Try.prog 51 #[.int .i64 n, .int .i64 k] w fun e w' => e = .returned (.bool (sgV n (hz k) == n)) ∧ w = w' := by
  go_enter Try.func51, Try.ntmps51
  go_wp2_with (go_at_call 44; refine (signed_any _ _ _).mono ?_; rintro e w' ⟨rfl, rfl⟩)
  go_ret
  exact ⟨rfl, rfl⟩
theorem pw_bd (h : Nat) : 256 ≤ pw h ∧ pw h ≤ 4294967296 ∧ pw h / 2 * 2 = pw h := by
  unfold pw; split <;> omega
theorem rsigned_any (n k : Int) (w : World) (h1 : -9223372036854775808 ≤ n) (h2 : n ≤ 9223372036854775807) : Calls Try.prog 48 #[.int .i64 n, .int .i64 k] w fun e w' => e = .returned (.int .i64 (sgV n (hz k))) ∧ w = w' := by
  unfold sgV
  obtain ⟨P, hP⟩ : ∃ P, pw (hz k) = P := ⟨_, rfl⟩
  have hb := pw_bd (hz k)
  rw [hP] at hb ⊢
  have HP := Lib.hid hP
  have m0 := Int.emod_nonneg n (show P ≠ 0 by omega)
  have m1 := Int.emod_lt_of_pos n (show 0 < P by omega)
  obtain ⟨b0, b1, b2⟩ := hb
  have HB := Lib.hid b2
  clear hP b2
  by_cases hc : n % P < P / 2
  · rw [if_pos hc]
    go_enter Try.func48, Try.ntmps48
    go_wp2_with (first | (go_at_call 39; refine (whole_v k P _ HP.out).mono ?_; rintro e w' ⟨rfl, rfl⟩) | (go_at_call 38; refine (rest_v n P _ b0 b1 h1 h2).mono ?_; rintro e w' ⟨rfl, rfl⟩))
    go_ret
    exact ⟨rfl, rfl⟩
  · rw [if_neg hc]
    go_enter Try.func48, Try.ntmps48
    go_wp2_with (first | (go_at_call 39; refine (whole_v k P _ HP.out).mono ?_; rintro e w' ⟨rfl, rfl⟩) | (go_at_call 38; refine (rest_v n P _ b0 b1 h1 h2).mono ?_; rintro e w' ⟨rfl, rfl⟩))
    go_ret
    exact ⟨rfl, rfl⟩
end Go.Proofs.Ythllikmnlnakkaa.bits
