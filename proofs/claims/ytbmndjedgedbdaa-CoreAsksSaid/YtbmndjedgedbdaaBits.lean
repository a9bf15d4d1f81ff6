/- The contracts of the functions of layer 2 (bits) on numbers, and of the reference. -/
import Derived.Test.YtbmndjedgedbdaaKit
namespace Go.Proofs.Ytbmndjedgedbdaa.bits
open Go.ChangeShapes Go.WideShapes Go.ChangeAt Go.RowKit
set_option linter.unusedVariables false

theorem andMask (k : Nat) (m : Int) (hm : (BitVec.ofInt 64 m).toNat = 2 ^ k - 1) (hk : k ≤ 62) (n : Int) : Go.bits .and .i64 n m = n % (2 ^ k : Nat) := by
  have key : (BitVec.ofInt 64 n &&& BitVec.ofInt 64 m).toNat = (n % ((2 ^ 64 : Nat) : Int)).toNat % 2 ^ k := by
    rw [BitVec.toNat_and, BitVec.toNat_ofInt, hm, Nat.and_two_pow_sub_one_eq_mod]
  show IntKind.i64.wrap ((BitVec.ofInt 64 n &&& BitVec.ofInt 64 m).toNat : Nat) = n % (2 ^ k : Nat)
  have hp : (2 ^ k : Nat) ≤ 2 ^ 62 := Nat.pow_le_pow_right (by decide) hk
  have hlt : (n % ((2 ^ 64 : Nat) : Int)).toNat % 2 ^ k < 2 ^ k := Nat.mod_lt _ (Nat.two_pow_pos k)
  rw [key, IntKind.wrap_i64]
  have e : ((((n % ((2 ^ 64 : Nat) : Int)).toNat % 2 ^ k : Nat) : Int)) = n % (2 ^ k : Nat) := by
    rw [Int.natCast_emod, Int.toNat_of_nonneg (Int.emod_nonneg _ (by decide))]
    exact Int.emod_emod_of_dvd _ (by exact_mod_cast Nat.pow_dvd_pow 2 (by omega))
  omega
def hz (n : Int) : Nat := if n < 1 then 1 else if 4 < n then 4 else n.toNat
theorem hz_bd (n : Int) : 1 ≤ hz n ∧ hz n ≤ 4 := by unfold hz; split <;> (try split) <;> omega
theorem hz_cases (n : Int) : hz n = 1 ∨ hz n = 2 ∨ hz n = 3 ∨ hz n = 4 := by have := hz_bd n; omega
def pw : Nat → Int
  | 1 => 256
  | 2 => 65536
  | 3 => 16777216
  | _ => 4294967296
def sgV (n : Int) (h : Nat) : Int := if n % pw h < pw h / 2 then n % pw h else n % pw h - pw h

theorem held_v (n : Int) (h : Nat) (w : World) (hh : hz n = h) : Calls Try.prog 85 #[.int .i64 n] w fun e w' => e = .returned (.int .i64 h) ∧ w = w' := by
  unfold hz at hh
  by_cases h1 : n < 1
  · rw [if_pos h1] at hh
    subst hh
    go_enter Try.func85, Try.ntmps85
    go_wp2
    go_ret
    exact ⟨rfl, rfl⟩
  · by_cases h2 : 4 < n
    · rw [if_neg h1, if_pos h2] at hh
      subst hh
      go_enter Try.func85, Try.ntmps85
      go_wp2
      go_ret
      exact ⟨rfl, rfl⟩
    · rw [if_neg h1, if_neg h2] at hh
      have e : ((h : Nat) : Int) = n := by omega
      rw [e]
      clear hh e
      go_enter Try.func85, Try.ntmps85
      go_wp2
      all_goals (go_ret; exact ⟨rfl, rfl⟩)

theorem signed1_lo (n k : Int) (w : World) (hh : Hid (hz k = 1)) (h1 : 0 ≤ n % 256) (h2 : n % 256 < 128) : Calls Try.prog 84 #[.int .i64 n, .int .i64 k] w fun e w' => e = .returned (.int .i64 (n % 256)) ∧ w = w' := by
  have key : ∀ x, Go.bits .and .i64 x 255 = x % 256 := andMask 8 255 (by decide) (by decide)
  go_enter Try.func84, Try.ntmps84
  go_wp2_with (go_at_call 85; refine (held_v k 1 _ hh.out).mono ?_; rintro e w' ⟨rfl, rfl⟩)
  go_ret
  exact ⟨rfl, rfl⟩
theorem signed1_hi (n k : Int) (w : World) (hh : Hid (hz k = 1)) (h1 : n % 256 < 256) (h2 : 128 ≤ n % 256) : Calls Try.prog 84 #[.int .i64 n, .int .i64 k] w fun e w' => e = .returned (.int .i64 (n % 256 - 256)) ∧ w = w' := by
  have key : ∀ x, Go.bits .and .i64 x 255 = x % 256 := andMask 8 255 (by decide) (by decide)
  go_enter Try.func84, Try.ntmps84
  go_wp2_with (go_at_call 85; refine (held_v k 1 _ hh.out).mono ?_; rintro e w' ⟨rfl, rfl⟩)
  go_ret
  exact ⟨rfl, rfl⟩

theorem signed2_lo (n k : Int) (w : World) (hh : Hid (hz k = 2)) (h1 : 0 ≤ n % 65536) (h2 : n % 65536 < 32768) : Calls Try.prog 84 #[.int .i64 n, .int .i64 k] w fun e w' => e = .returned (.int .i64 (n % 65536)) ∧ w = w' := by
  have key : ∀ x, Go.bits .and .i64 x 65535 = x % 65536 := andMask 16 65535 (by decide) (by decide)
  go_enter Try.func84, Try.ntmps84
  go_wp2_with (go_at_call 85; refine (held_v k 2 _ hh.out).mono ?_; rintro e w' ⟨rfl, rfl⟩)
  go_ret
  exact ⟨rfl, rfl⟩
theorem signed2_hi (n k : Int) (w : World) (hh : Hid (hz k = 2)) (h1 : n % 65536 < 65536) (h2 : 32768 ≤ n % 65536) : Calls Try.prog 84 #[.int .i64 n, .int .i64 k] w fun e w' => e = .returned (.int .i64 (n % 65536 - 65536)) ∧ w = w' := by
  have key : ∀ x, Go.bits .and .i64 x 65535 = x % 65536 := andMask 16 65535 (by decide) (by decide)
  go_enter Try.func84, Try.ntmps84
  go_wp2_with (go_at_call 85; refine (held_v k 2 _ hh.out).mono ?_; rintro e w' ⟨rfl, rfl⟩)
  go_ret
  exact ⟨rfl, rfl⟩

theorem signed3_lo (n k : Int) (w : World) (hh : Hid (hz k = 3)) (h1 : 0 ≤ n % 16777216) (h2 : n % 16777216 < 8388608) : Calls Try.prog 84 #[.int .i64 n, .int .i64 k] w fun e w' => e = .returned (.int .i64 (n % 16777216)) ∧ w = w' := by
  have key : ∀ x, Go.bits .and .i64 x 16777215 = x % 16777216 := andMask 24 16777215 (by decide) (by decide)
  go_enter Try.func84, Try.ntmps84
  go_wp2_with (go_at_call 85; refine (held_v k 3 _ hh.out).mono ?_; rintro e w' ⟨rfl, rfl⟩)
  go_ret
  exact ⟨rfl, rfl⟩
theorem signed3_hi (n k : Int) (w : World) (hh : Hid (hz k = 3)) (h1 : n % 16777216 < 16777216) (h2 : 8388608 ≤ n % 16777216) : Calls Try.prog 84 #[.int .i64 n, .int .i64 k] w fun e w' => e = .returned (.int .i64 (n % 16777216 - 16777216)) ∧ w = w' := by
  have key : ∀ x, Go.bits .and .i64 x 16777215 = x % 16777216 := andMask 24 16777215 (by decide) (by decide)
  go_enter Try.func84, Try.ntmps84
  go_wp2_with (go_at_call 85; refine (held_v k 3 _ hh.out).mono ?_; rintro e w' ⟨rfl, rfl⟩)
  go_ret
  exact ⟨rfl, rfl⟩

theorem signed4_lo (n k : Int) (w : World) (hh : Hid (hz k = 4)) (h1 : 0 ≤ n % 4294967296) (h2 : n % 4294967296 < 2147483648) : Calls Try.prog 84 #[.int .i64 n, .int .i64 k] w fun e w' => e = .returned (.int .i64 (n % 4294967296)) ∧ w = w' := by
  have key : ∀ x, Go.bits .and .i64 x 4294967295 = x % 4294967296 := andMask 32 4294967295 (by decide) (by decide)
  go_enter Try.func84, Try.ntmps84
  go_wp2_with (go_at_call 85; refine (held_v k 4 _ hh.out).mono ?_; rintro e w' ⟨rfl, rfl⟩)
  go_ret
  exact ⟨rfl, rfl⟩
theorem signed4_hi (n k : Int) (w : World) (hh : Hid (hz k = 4)) (h1 : n % 4294967296 < 4294967296) (h2 : 2147483648 ≤ n % 4294967296) : Calls Try.prog 84 #[.int .i64 n, .int .i64 k] w fun e w' => e = .returned (.int .i64 (n % 4294967296 - 4294967296)) ∧ w = w' := by
  have key : ∀ x, Go.bits .and .i64 x 4294967295 = x % 4294967296 := andMask 32 4294967295 (by decide) (by decide)
  go_enter Try.func84, Try.ntmps84
  go_wp2_with (go_at_call 85; refine (held_v k 4 _ hh.out).mono ?_; rintro e w' ⟨rfl, rfl⟩)
  go_ret
  exact ⟨rfl, rfl⟩

theorem signed_any (n k : Int) (w : World) : Calls Try.prog 84 #[.int .i64 n, .int .i64 k] w fun e w' => e = .returned (.int .i64 (sgV n (hz k))) ∧ w = w' := by
  unfold sgV
  rcases hz_cases k with h | h | h | h <;> rw [h]
  · rw [show pw 1 = 256 from rfl]
    by_cases h2 : n % 256 < 256 / 2
    · rw [if_pos h2]; exact signed1_lo n k w h (by omega) (by omega)
    · rw [if_neg h2]; exact signed1_hi n k w h (by omega) (by omega)
  · rw [show pw 2 = 65536 from rfl]
    by_cases h2 : n % 65536 < 65536 / 2
    · rw [if_pos h2]; exact signed2_lo n k w h (by omega) (by omega)
    · rw [if_neg h2]; exact signed2_hi n k w h (by omega) (by omega)
  · rw [show pw 3 = 16777216 from rfl]
    by_cases h2 : n % 16777216 < 16777216 / 2
    · rw [if_pos h2]; exact signed3_lo n k w h (by omega) (by omega)
    · rw [if_neg h2]; exact signed3_hi n k w h (by omega) (by omega)
  · rw [show pw 4 = 4294967296 from rfl]
    by_cases h2 : n % 4294967296 < 4294967296 / 2
    · rw [if_pos h2]; exact signed4_lo n k w h (by omega) (by omega)
    · rw [if_neg h2]; exact signed4_hi n k w h (by omega) (by omega)
theorem fits_any (n k : Int) (w : World) : Calls Try.prog 82 #[.int .i64 n, .int .i64 k] w fun e w' => e = .returned (.bool (sgV n (hz k) == n)) ∧ w = w' := by
  go_enter Try.func82, Try.ntmps82
  go_wp2_with (go_at_call 84; refine (signed_any _ _ _).mono ?_; rintro e w' ⟨rfl, rfl⟩)
  go_ret
  exact ⟨rfl, rfl⟩
theorem pw_bd (h : Nat) : 256 ≤ pw h ∧ pw h ≤ 4294967296 ∧ pw h / 2 * 2 = pw h := by
  unfold pw; split <;> omega
end Go.Proofs.Ytbmndjedgedbdaa.bits
