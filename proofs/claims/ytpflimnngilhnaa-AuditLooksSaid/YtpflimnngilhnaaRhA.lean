/- Sets of numbers, 64 a word: one more, all of another one, is one in it, how many (layer 31). -/
import Derived.Test.YtpflimnngilhnaaKit
import Derived.Test.YtpflimnngilhnaaRhP
import Derived.Laws.BitsAllLaws
import Derived.Deep.OwnRows
import Derived.Outline
namespace Go.Proofs.Ytpflimnngilhnaa.rh
open Go.ChangeShapes Go.WideShapes Go.ChangeAt Go.RowKit
set_option linter.unusedVariables false
set_option linter.unusedSimpArgs false
theorem andMask (k : Nat) (m : Int) (hm : (BitVec.ofInt 64 m).toNat = 2 ^ k - 1) (hk : k ≤ 62) (n : Int) : Go.bits .and .i64 n m = n % (2 ^ k : Nat) := by
  have key : (BitVec.ofInt 64 n &&& BitVec.ofInt 64 m).toNat = (n % ((2 ^ 64 : Nat) : Int)).toNat % 2 ^ k := by
    rw [BitVec.toNat_and, BitVec.toNat_ofInt, hm, Nat.and_two_pow_sub_one_eq_mod]
  show IntKind.i64.wrap ((BitVec.ofInt 64 n &&& BitVec.ofInt 64 m).toNat : Nat) = n % (2 ^ k : Nat)
  have hp : (2 ^ k : Nat) ≤ 2 ^ 62 := Nat.pow_le_pow_right (by decide) hk
  have hlt : (n % ((2 ^ 64 : Nat) : Int)).toNat % 2 ^ k < 2 ^ k := Nat.mod_lt _ (Nat.two_pow_pos k)
  rw [key, IntKind.wrap_i64]
  have e : ((((n % ((2 ^ 64 : Nat) : Int)).toNat % 2 ^ k : Nat) : Int)) = n % (2 ^ k : Nat) := by
    rw [Int.natCast_emod, Int.toNat_of_nonneg (Int.emod_nonneg _ (by decide))]
    exact Int.emod_emod_of_dvd _ (by exact_mod_cast Nat.pow_dvd_pow 2 (by omega))
  omega
theorem wrapN (n : Nat) (h : n < 18446744073709551616) : IntKind.u64.wrap (n : Int) = (n : Int) := by
  simp [IntKind.wrap, IntKind.bits, IntKind.signed]; omega
theorem andN (a b : Nat) (m : Int) (ha : a < 18446744073709551616) (hb : b < 18446744073709551616) (e : m = (b : Int)) : bits .and .u64 (a : Int) m = ((a &&& b : Nat) : Int) := by rw [e]; exact u64_and_nat a b ha hb
theorem and_lt (a b : Nat) : a &&& b ≤ b := Nat.and_le_right
theorem ones_num (x : Nat) (hx : x < 18446744073709551616) : ∃ y1 y2 y3 y4 y5 y6 : Nat, IntKind.u64.wrap (bits .and .u64 ((x : Int) / 2) 6148914691236517205 + bits .and .u64 (x : Int) 6148914691236517205) = (y1 : Int) ∧
    IntKind.u64.wrap (bits .and .u64 ((y1 : Int) / 4) 3689348814741910323 + bits .and .u64 (y1 : Int) 3689348814741910323) = (y2 : Int) ∧
    bits .and .u64 (IntKind.u64.wrap ((y2 : Int) / 16 + (y2 : Int))) 1085102592571150095 = (y3 : Int) ∧
    IntKind.u64.wrap ((y3 : Int) + (y3 : Int) / 256) = (y4 : Int) ∧ IntKind.u64.wrap ((y4 : Int) + (y4 : Int) / 65536) = (y5 : Int) ∧ IntKind.u64.wrap ((y5 : Int) + (y5 : Int) / 4294967296) = (y6 : Int) ∧ (y6 : Int) < 9223372036854775807 ∧
    bits .and .i64 (y6 : Int) 127 = ((cnt x.testBit 64 : Nat) : Int) := by
  have m0 : mk 0x55 8 = 6148914691236517205 := by decide
  have m1 : mk 0x33 8 = 3689348814741910323 := by decide
  have m2 : mk 0x0f 8 = 1085102592571150095 := by decide
  have b1 := and_lt (x / 2) 6148914691236517205
  have b2 := and_lt x 6148914691236517205
  have e1 : s1 8 x = (x / 2 &&& 6148914691236517205) + (x &&& 6148914691236517205) := by unfold s1; rw [m0, Nat.shiftRight_eq_div_pow]
  obtain ⟨y1, hy1⟩ : ∃ y1, s1 8 x = y1 := ⟨_, rfl⟩
  have b3 := and_lt (y1 / 4) 3689348814741910323
  have b4 := and_lt y1 3689348814741910323
  have e2 : s2 8 y1 = (y1 / 4 &&& 3689348814741910323) + (y1 &&& 3689348814741910323) := by unfold s2; rw [m1, Nat.shiftRight_eq_div_pow]
  obtain ⟨y2, hy2⟩ : ∃ y2, s2 8 y1 = y2 := ⟨_, rfl⟩
  have e3 : s3 8 y2 = (y2 / 16 + y2) &&& 1085102592571150095 := by unfold s3; rw [m2, Nat.shiftRight_eq_div_pow]
  obtain ⟨y, hy, hlt, hc⟩ := ones_of x hx
  have hy3 : s3 8 y2 = y := by rw [← hy2, ← hy1]; exact hy
  refine ⟨y1, y2, y, y + y / 256, y + y / 256 + (y + y / 256) / 65536, y + y / 256 + (y + y / 256) / 65536 + (y + y / 256 + (y + y / 256) / 65536) / 4294967296, ?_, ?_, ?_, ?_, ?_, ?_, ?_, ?_⟩
  · rw [show (x : Int) / 2 = ((x / 2 : Nat) : Int) by omega, andN _ 6148914691236517205 6148914691236517205 (by omega) (by decide) rfl, andN _ 6148914691236517205 6148914691236517205 hx (by decide) rfl, ← Int.natCast_add, wrapN _ (by omega), ← e1, hy1]
  · rw [show (y1 : Int) / 4 = ((y1 / 4 : Nat) : Int) by omega, andN _ 3689348814741910323 3689348814741910323 (by omega) (by decide) rfl, andN _ 3689348814741910323 3689348814741910323 (by omega) (by decide) rfl, ← Int.natCast_add, wrapN _ (by omega), ← e2, hy2]
  · rw [show (y2 : Int) / 16 = ((y2 / 16 : Nat) : Int) by omega, ← Int.natCast_add, wrapN _ (by omega), andN _ 1085102592571150095 1085102592571150095 (by omega) (by decide) rfl, ← e3, hy3]
  · rw [show (y : Int) / 256 = ((y / 256 : Nat) : Int) by omega, ← Int.natCast_add, wrapN _ (by omega)]
  · rw [show ((y + y / 256 : Nat) : Int) / 65536 = (((y + y / 256) / 65536 : Nat) : Int) by omega, ← Int.natCast_add, wrapN _ (by omega)]
  · rw [show ((y + y / 256 + (y + y / 256) / 65536 : Nat) : Int) / 4294967296 = (((y + y / 256 + (y + y / 256) / 65536) / 4294967296 : Nat) : Int) by omega, ← Int.natCast_add, wrapN _ (by omega)]
  · omega
  · rw [andMask 7 127 (by decide) (by decide), ← hc]
    norm_cast
theorem bit_num (x r : Nat) (hx : x < 18446744073709551616) : (bits .and .u64 ((x : Int) / 2 ^ r) 1 != 0) = x.testBit r := by
  have e : ((x : Int) / 2 ^ r) = ((x / 2 ^ r : Nat) : Int) := by rw [Int.natCast_ediv, Int.natCast_pow]; rfl
  have hl : x / 2 ^ r < 18446744073709551616 := Nat.lt_of_le_of_lt (Nat.div_le_self _ _) hx
  rw [e, andN _ 1 1 hl (by decide) rfl, Nat.testBit_eq_decide_div_mod_eq, Nat.and_one_is_mod]
  have h := Nat.mod_lt (x / 2 ^ r) (show 0 < 2 by decide)
  generalize x / 2 ^ r % 2 = m at *
  by_cases hm : m = 1
  · subst hm; rfl
  · obtain rfl : m = 0 := by omega
    rfl
end Go.Proofs.Ytpflimnngilhnaa.rh
