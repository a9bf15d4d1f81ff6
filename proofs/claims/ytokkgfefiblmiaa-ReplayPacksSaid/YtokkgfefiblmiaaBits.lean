/- The contracts of the functions of layer 2 (bits) on numbers, and of the reference. -/
import Derived.Test.YtokkgfefiblmiaaKit
namespace Go.Proofs.Ytokkgfefiblmiaa.bits
open Go.ChangeShapes Go.WideShapes Go.ChangeAt Go.RowKit
set_option linter.unusedVariables false

theorem andMask (k : Nat) (m : Int) (hm : (BitVec.ofInt 64 m).toNat = 2 ^ k - 1) (hk : k ≤ 62) (n : Int) : Go.bits .and .i64 n m = n % (2 ^ k : Nat) := by
  have key : (BitVec.ofInt 64 n &&& BitVec.ofInt 64 m).toNat = (n % ((2 ^ 64 : Nat) : Int)).toNat % 2 ^ k := by
    rw [BitVec.toNat_and, BitVec.toNat_ofInt, hm, Nat.and_two_pow_sub_one_eq_mod]
  show IntKind.i64.wrap ((BitVec.ofInt 64 n &&& BitVec.ofInt 64 m).toNat : Nat) = n % (2 ^ k : Nat)
  have hp : (2 ^ k : Nat) ≤ 2 ^ 62 := Nat.pow_le_pow_right (by decide) hk
  have hlt : (n % ((2 ^ 64 : Nat) : Int)).toNat % 2 ^ k < 2 ^ k := Nat.mod_lt _ (Nat.two_pow_pos k)
  rw [key, IntKind.wrap_i64]
  have e : ((((n % ((2 ^ 64 : Nat) : Int)).toNat % 2 ^ k : Nat) : Int)) = n % (2 ^ k : Nat) := by
    rw [Int.natCast_emod, Int.toNat_of_nonneg (Int.emod_nonneg _ (by decide))]
    exact Int.emod_emod_of_dvd _ (by exact_mod_cast Nat.pow_dvd_pow 2 (by omega))
  omega
def hz (n : Int) : Nat := if n < 1 then 1 else if 4 < n then 4 else n.toNat
theorem hz_bd (n : Int) : 1 ≤ hz n ∧ hz n ≤ 4 := by unfold hz; split <;> (try split) <;> omega
theorem hz_cases (n : Int) : hz n = 1 ∨ hz n = 2 ∨ hz n = 3 ∨ hz n = 4 := by have := hz_bd n; omega
def pw : Nat → Int
  | 1 => 256
  | 2 => 65536
  | 3 => 16777216
  | _ => 4294967296
def sgV (n : Int) (h : Nat) : Int := if n % pw h < pw h / 2 then n % pw h else n % pw h - pw h

theorem held_v (n : Int) (h : Nat) (w : World) (hh : hz n = h) : Calls Try.prog 38 #[.int .i64 n] w fun e w' => e = .returned (.int .i64 h) ∧ w = w' := by
  unfold hz at hh
  by_cases h1 : n < 1
  · rw [if_pos h1] at hh
    subst hh
    go_enter Try.func38, Try.ntmps38
    go_wp2
    go_ret
    exact ⟨rfl, rfl⟩
  · by_cases h2 : 4 < n
    · rw [if_neg h1, if_pos h2] at hh
      subst hh
      go_enter Try.func38, Try.ntmps38
      go_wp2
      go_ret
      exact ⟨rfl, rfl⟩
    · rw [if_neg h1, if_neg h2] at hh
      have e : ((h : Nat) : Int) = n := by omega
      rw [e]
      clear hh e
      go_enter Try.func38, Try.ntmps38
      go_wp2
      all_goals (go_ret; exact ⟨rfl, rfl⟩)

theorem pw_bd (h : Nat) : 256 ≤ pw h ∧ pw h ≤ 4294967296 ∧ pw h / 2 * 2 = pw h := by
  unfold pw; split <;> omega
end Go.Proofs.Ytokkgfefiblmiaa.bits
