/- Plain facts on sums, products, quotients and bits that are reckoned as one does by hand. No Go in sight. -/
import Derived.WalkKit
import Derived.OpenShut
import Derived.Laws.BitsAllLaws
import Derived.Lib.Hide
namespace Go.Proofs.Ytbmndjedgedbdaa.bin
open Go.RowKit

theorem p64_eq : 18446744073709551616 = 2 ^ 64 := by decide
theorem div_two_pow_int (n : Nat) (k : Nat) : ((n : Int) / 2 ^ k) = ((n / 2 ^ k : Nat) : Int) := by
  rw [Int.natCast_ediv, Int.natCast_pow]; rfl
theorem mul_two_pow_int (n : Nat) (k : Nat) : ((n : Int) * 2 ^ k) = ((n * 2 ^ k : Nat) : Int) := by
  rw [Int.natCast_mul, Int.natCast_pow]; rfl
theorem wrap_u64_nat (n : Nat) : IntKind.u64.wrap (n : Int) = ((n % 18446744073709551616 : Nat) : Int) := by
  rw [Int.natCast_emod]; simp [IntKind.wrap, IntKind.bits, IntKind.signed]
theorem bits_u64_and (a b : Nat) (ha : a < 18446744073709551616) (hb : b < 18446744073709551616) : Go.bits .and .u64 (a : Int) (b : Int) = ((a &&& b : Nat) : Int) := by
  show IntKind.u64.wrap ((BitVec.ofInt 64 a &&& BitVec.ofInt 64 b).toNat : Nat) = _
  rw [wrap_u64_nat, BitVec.toNat_and, BitVec.toNat_ofInt, BitVec.toNat_ofInt]
  have h1 : ((a : Int) % ((2 ^ 64 : Nat) : Int)).toNat = a := by omega
  have h2 : ((b : Int) % ((2 ^ 64 : Nat) : Int)).toNat = b := by omega
  rw [h1, h2, Nat.mod_eq_of_lt]
  exact Nat.lt_of_le_of_lt Nat.and_le_left ha
theorem bits_u64_or (a b : Nat) (ha : a < 18446744073709551616) (hb : b < 18446744073709551616) : Go.bits .or .u64 (a : Int) (b : Int) = ((a ||| b : Nat) : Int) := by
  show IntKind.u64.wrap ((BitVec.ofInt 64 a ||| BitVec.ofInt 64 b).toNat : Nat) = _
  rw [wrap_u64_nat, BitVec.toNat_or, BitVec.toNat_ofInt, BitVec.toNat_ofInt]
  have h1 : ((a : Int) % ((2 ^ 64 : Nat) : Int)).toNat = a := by omega
  have h2 : ((b : Int) % ((2 ^ 64 : Nat) : Int)).toNat = b := by omega
  rw [h1, h2, Nat.mod_eq_of_lt]
  rw [p64_eq] at *
  exact Nat.or_lt_two_pow ha hb
theorem pow_lt (k : Nat) (h : k ≤ 63) : 2 ^ k * 2 ≤ 18446744073709551616 := by
  rw [p64_eq, ← Nat.pow_succ]; exact Nat.pow_le_pow_right (by decide) (by omega)
theorem or_add (n k b : Nat) (hn : n < 2 ^ k) : n ||| (b * 2 ^ k) = n + b * 2 ^ k := by
  rw [Nat.mul_comm, Nat.or_comm, ← Nat.two_pow_add_eq_or_of_lt hn, Nat.add_comm]

theorem and1 (s : Nat) (hs : s < 18446744073709551616) : Go.bits .and .u64 (s : Int) 1 = ((s % 2 : Nat) : Int) := by
  rw [show (1 : Int) = ((1 : Nat) : Int) from rfl, bits_u64_and _ _ hs (by decide), Nat.and_one_is_mod]
theorem shl_lt (x k : Nat) (h : x * 2 ^ k < 18446744073709551616) : IntKind.u64.wrap ((x : Int) * 2 ^ k) = ((x * 2 ^ k : Nat) : Int) := by
  rw [mul_two_pow_int, wrap_u64_nat, Nat.mod_eq_of_lt h]
theorem shl_any (x k : Nat) : IntKind.u64.wrap ((x : Int) * 2 ^ k) = ((x * 2 ^ k % 18446744073709551616 : Nat) : Int) := by
  rw [mul_two_pow_int, wrap_u64_nat]
theorem bit_step (m s k : Nat) (hm : m < 2 ^ k) (hs : s < 18446744073709551616) (hk : k < 64) : Go.bits .or .u64 (m : Int) (IntKind.u64.wrap (Go.bits .and .u64 (s : Int) 1 * 2 ^ k)) = ((m + s % 2 * 2 ^ k : Nat) : Int) := by
  have hp := pow_lt k (by omega)
  have h2 : s % 2 * 2 ^ k ≤ 1 * 2 ^ k := Nat.mul_le_mul_right _ (by omega)
  rw [and1 s hs, shl_lt _ _ (by omega), bits_u64_or _ _ (by omega) (by omega), or_add _ _ _ hm]

theorem not_u64 (n : Nat) (hn : n < 18446744073709551616) : Go.bits .xor .u64 IntKind.u64.max (n : Int) = ((18446744073709551616 - 1 - n : Nat) : Int) := by
  show IntKind.u64.wrap ((BitVec.ofInt 64 IntKind.u64.max ^^^ BitVec.ofInt 64 n).toNat : Nat) = _
  have e : BitVec.ofInt 64 IntKind.u64.max = BitVec.allOnes 64 := by decide
  rw [e, BitVec.allOnes_xor, BitVec.toNat_not, BitVec.toNat_ofInt, wrap_u64_nat]
  have h2 : ((n : Int) % ((2 ^ 64 : Nat) : Int)).toNat = n := by omega
  rw [h2, Nat.mod_eq_of_lt (by omega), p64_eq]
theorem wrap64_congr (n m : Int) (h : n % 18446744073709551616 = m % 18446744073709551616) : wrap64 n = wrap64 m := by
  unfold wrap64; omega
theorem mul_back (x y : Nat) (a b : Int) (hx : (x : Int) = a % 18446744073709551616) (hy : (y : Int) = b % 18446744073709551616) : wrap64 ((x * y % 18446744073709551616 : Nat) : Int) = wrap64 (a * b) := by
  apply wrap64_congr
  rw [Int.natCast_emod, Int.natCast_mul, hx, hy, show ((18446744073709551616 : Nat) : Int) = 18446744073709551616 from rfl, Int.emod_emod_of_dvd _ (Int.dvd_refl _), ← Int.mul_emod]
theorem quo_same (a b : Int) (h : (decide (a < 0) != decide (b < 0)) = false) : ((a.natAbs / b.natAbs : Nat) : Int) = a.tdiv b := by
  rw [Int.ofNat_tdiv]
  by_cases ha : a < 0
  · have hb : b < 0 := by simpa [ha] using h
    rw [Int.ofNat_natAbs_of_nonpos (by omega), Int.ofNat_natAbs_of_nonpos (by omega), Int.neg_tdiv, Int.tdiv_neg, Int.neg_neg]
  · have hb : ¬ b < 0 := by intro hb; simp [hb, ha] at h
    rw [Int.natAbs_of_nonneg (by omega), Int.natAbs_of_nonneg (by omega)]
theorem quo_other (a b : Int) (h : (decide (a < 0) != decide (b < 0)) = true) : -((a.natAbs / b.natAbs : Nat) : Int) = a.tdiv b := by
  rw [Int.ofNat_tdiv]
  by_cases ha : a < 0
  · have hb : ¬ b < 0 := by intro hb; simp [hb, ha] at h
    rw [Int.ofNat_natAbs_of_nonpos (by omega), Int.natAbs_of_nonneg (by omega), Int.neg_tdiv, Int.neg_neg]
  · have hb : b < 0 := by
      rcases Int.lt_or_le b 0 with hb | hb
      · exact hb
      · simp [ha, Int.not_lt.2 hb] at h
    rw [Int.natAbs_of_nonneg (by omega), Int.ofNat_natAbs_of_nonpos (by omega), Int.tdiv_neg, Int.neg_neg]
theorem rest_same (a b : Int) (h : ¬ a < 0) : ((a.natAbs % b.natAbs : Nat) : Int) = a.tmod b := by
  rw [← Int.natAbs_tmod]
  exact Int.natAbs_of_nonneg (Int.tmod_nonneg b (by omega))
theorem rest_other (a b : Int) (h : a < 0) : -((a.natAbs % b.natAbs : Nat) : Int) = a.tmod b := by
  rw [← Int.natAbs_tmod]
  have h1 : 0 ≤ (-a).tmod b := Int.tmod_nonneg b (by omega)
  rw [Int.neg_tmod] at h1
  rw [Int.ofNat_natAbs_of_nonpos (by omega), Int.neg_neg]
theorem bits_i64 (x y : Nat) (a b : Int) (hx : (x : Int) = a % 18446744073709551616) (hy : (y : Int) = b % 18446744073709551616) :
    Go.bits .and .i64 a b = wrap64 ((x &&& y : Nat) : Int) ∧ Go.bits .or .i64 a b = wrap64 ((x ||| y : Nat) : Int) ∧ Go.bits .xor .i64 a b = wrap64 ((x ^^^ y : Nat) : Int) := by
  have e1 : (BitVec.ofInt 64 a).toNat = x := by rw [BitVec.toNat_ofInt]; omega
  have e2 : (BitVec.ofInt 64 b).toNat = y := by rw [BitVec.toNat_ofInt]; omega
  refine ⟨?_, ?_, ?_⟩
  · show IntKind.i64.wrap ((BitVec.ofInt 64 a &&& BitVec.ofInt 64 b).toNat : Nat) = _
    rw [BitVec.toNat_and, e1, e2, IntKind.wrap_i64]; unfold wrap64; omega
  · show IntKind.i64.wrap ((BitVec.ofInt 64 a ||| BitVec.ofInt 64 b).toNat : Nat) = _
    rw [BitVec.toNat_or, e1, e2, IntKind.wrap_i64]; unfold wrap64; omega
  · show IntKind.i64.wrap ((BitVec.ofInt 64 a ^^^ BitVec.ofInt 64 b).toNat : Nat) = _
    rw [BitVec.toNat_xor, e1, e2, IntKind.wrap_i64]; unfold wrap64; omega
theorem low_succ (n k t : Nat) (h : n / 2 ^ k % 2 = t) : n % 2 ^ (k + 1) = n % 2 ^ k + t * 2 ^ k := by
  rw [Nat.mod_pow_succ, h, Nat.mul_comm]
theorem bit_of (n k : Nat) (b : Bool) (h : n.testBit k = b) : n / 2 ^ k % 2 = if b then 1 else 0 := by
  rw [Nat.testBit_eq_decide_div_mod_eq] at h
  rcases Nat.mod_two_eq_zero_or_one (n / 2 ^ k) with e | e <;> rw [e] at h <;> subst h <;> simp [e]
theorem or_bit (m k : Nat) (hm : m < 2 ^ k) (hk : k < 64) : Go.bits .or .u64 (m : Int) (IntKind.u64.wrap (2 ^ k)) = ((m + 2 ^ k : Nat) : Int) := by
  have hp := pow_lt k (by omega)
  have e : (2 : Int) ^ k = ((1 : Nat) : Int) * 2 ^ k := by simp
  have h := or_add m k 1 hm
  rw [Nat.one_mul] at h
  rw [e, shl_lt 1 k (by omega), Nat.one_mul, bits_u64_or _ _ (by omega) (by omega), h]

/-- the sum of the last k bits -/
def addS (a b k : Nat) : Nat := a % 2 ^ k + b % 2 ^ k
theorem addS_succ (a b k s : Nat) (hs : s = a / 2 ^ k % 2 + b / 2 ^ k % 2 + addS a b k / 2 ^ k) :
    addS a b (k + 1) % 2 ^ (k + 1) = addS a b k % 2 ^ k + s % 2 * 2 ^ k ∧ addS a b (k + 1) / 2 ^ (k + 1) = s / 2 := by
  have hp : 0 < 2 ^ k := Nat.two_pow_pos k
  have h : addS a b (k + 1) = addS a b k % 2 ^ k + s % 2 * 2 ^ k + 2 ^ (k + 1) * (s / 2) := by
    unfold addS at *
    rw [Nat.mod_pow_succ, Nat.mod_pow_succ]
    have e1 := Nat.div_add_mod (a % 2 ^ k + b % 2 ^ k) (2 ^ k)
    have e2 := Nat.div_add_mod s 2
    obtain ⟨S, hS⟩ : ∃ S, a % 2 ^ k + b % 2 ^ k = S := ⟨_, rfl⟩
    rw [hS] at e1 hs ⊢
    have e4 : 2 ^ k * s = 2 ^ k * (2 * (s / 2)) + 2 ^ k * (s % 2) := by rw [← Nat.mul_add, e2]
    have e5 : 2 ^ k * s = 2 ^ k * (a / 2 ^ k % 2) + 2 ^ k * (b / 2 ^ k % 2) + 2 ^ k * (S / 2 ^ k) := by rw [hs, Nat.mul_add, Nat.mul_add]
    rw [Nat.pow_succ, Nat.mul_assoc, Nat.mul_comm (s % 2)]
    generalize 2 ^ k * (a / 2 ^ k % 2) = u1 at *
    generalize 2 ^ k * (b / 2 ^ k % 2) = u2 at *
    generalize 2 ^ k * (S / 2 ^ k) = u3 at *
    generalize 2 ^ k * (2 * (s / 2)) = u4 at *
    generalize 2 ^ k * (s % 2) = u5 at *
    generalize 2 ^ k * s = u6 at *
    generalize a % 2 ^ k = u7 at *
    generalize b % 2 ^ k = u8 at *
    generalize S % 2 ^ k = u9 at *
    omega
  have hlt : addS a b k % 2 ^ k + s % 2 * 2 ^ k < 2 ^ (k + 1) := by
    have h1 := Nat.mod_lt (addS a b k) hp
    have h2 : s % 2 * 2 ^ k ≤ 1 * 2 ^ k := Nat.mul_le_mul_right _ (by omega)
    rw [Nat.pow_succ]; omega
  rw [h]
  constructor
  · rw [Nat.add_mul_mod_self_left, Nat.mod_eq_of_lt hlt]
  · rw [Nat.add_mul_div_left _ _ (Nat.two_pow_pos _), Nat.div_eq_of_lt hlt, Nat.zero_add]
theorem addS_zero (a b : Nat) : addS a b 0 = 0 := by simp [addS, Nat.mod_one]
theorem addS_all (a b : Nat) (ha : a < 18446744073709551616) (hb : b < 18446744073709551616) : addS a b 64 % 2 ^ 64 = (a + b) % 18446744073709551616 := by
  rw [p64_eq] at *; unfold addS; rw [Nat.mod_eq_of_lt ha, Nat.mod_eq_of_lt hb]
theorem addS_lt (a b k : Nat) : addS a b k / 2 ^ k ≤ 1 := by
  have hp : 0 < 2 ^ k := Nat.two_pow_pos k
  have h1 := Nat.mod_lt a hp
  have h2 := Nat.mod_lt b hp
  have h3 : addS a b k < 2 ^ k * 2 := by unfold addS; omega
  have := Nat.div_lt_of_lt_mul h3
  omega

def timesS (a b k : Nat) : Nat := a * (b % 2 ^ k) % 18446744073709551616
theorem timesS_zero (a b : Nat) : timesS a b 0 = 0 := by simp [timesS, Nat.mod_one]
theorem timesS_one (a b k : Nat) (h : b / 2 ^ k % 2 = 1) : timesS a b (k + 1) = (timesS a b k + a * 2 ^ k % 18446744073709551616) % 18446744073709551616 := by
  unfold timesS
  rw [Nat.mod_pow_succ, h, Nat.mul_one, Nat.mul_add, Nat.add_mod]
theorem timesS_none (a b k : Nat) (h : b / 2 ^ k % 2 = 0) : timesS a b (k + 1) = timesS a b k := by
  unfold timesS
  rw [Nat.mod_pow_succ, h, Nat.mul_zero, Nat.add_zero]
theorem timesS_all (a b : Nat) (hb : b < 18446744073709551616) : timesS a b 64 = a * b % 18446744073709551616 := by
  unfold timesS; rw [p64_eq] at *; rw [Nat.mod_eq_of_lt hb]
theorem timesS_lt (a b k : Nat) : timesS a b k < 18446744073709551616 := Nat.mod_lt _ (by decide)

/-- the quotient and the rest of the first bits: those from k on -/
def longR (a b k : Nat) : Nat := a / 2 ^ k % b
def longQ (a b k : Nat) : Nat := a / 2 ^ k / b * 2 ^ k
theorem half (a k : Nat) : a / 2 ^ k = 2 * (a / 2 ^ (k + 1)) + a / 2 ^ k % 2 := by
  have e : a / 2 ^ k / 2 = a / 2 ^ (k + 1) := by rw [Nat.div_div_eq_div_mul, ← Nat.pow_succ]
  rw [← e]
  omega
theorem longR_lt (a b k : Nat) (hb : 0 < b) : longR a b k < b := Nat.mod_lt _ hb
theorem long_lo (a b k : Nat) (hb : 0 < b) (h : 2 * longR a b (k + 1) + a / 2 ^ k % 2 < b) :
    longR a b k = 2 * longR a b (k + 1) + a / 2 ^ k % 2 ∧ longQ a b k = longQ a b (k + 1) := by
  unfold longR longQ at *
  have e := half a k
  have d := Nat.div_add_mod (a / 2 ^ (k + 1)) b
  generalize a / 2 ^ (k + 1) = X at *
  generalize a / 2 ^ k % 2 = t at *
  have e2 : a / 2 ^ k = (2 * (X % b) + t) + b * (2 * (X / b)) := by
    rw [e]
    have : 2 * (b * (X / b) + X % b) = b * (2 * (X / b)) + 2 * (X % b) := by rw [Nat.mul_add, Nat.mul_left_comm]
    omega
  rw [e2]
  constructor
  · rw [Nat.add_mul_mod_self_left, Nat.mod_eq_of_lt h]
  · rw [Nat.add_mul_div_left _ _ hb, Nat.div_eq_of_lt h, Nat.zero_add, Nat.pow_succ, Nat.mul_comm 2 (X / b), Nat.mul_assoc, Nat.mul_comm 2 (2 ^ k)]
theorem long_hi (a b k : Nat) (hb : 0 < b) (h : b ≤ 2 * longR a b (k + 1) + a / 2 ^ k % 2) :
    longR a b k = 2 * longR a b (k + 1) + a / 2 ^ k % 2 - b ∧ longQ a b k = longQ a b (k + 1) + 2 ^ k := by
  have hr := longR_lt a b (k + 1) hb
  unfold longR longQ at *
  have e := half a k
  have ht : a / 2 ^ k % 2 < 2 := Nat.mod_lt _ (by decide)
  have d := Nat.div_add_mod (a / 2 ^ (k + 1)) b
  generalize a / 2 ^ (k + 1) = X at *
  generalize a / 2 ^ k % 2 = t at *
  have e2 : a / 2 ^ k = (2 * (X % b) + t - b) + b * (2 * (X / b) + 1) := by
    rw [e]
    have : 2 * (b * (X / b) + X % b) = b * (2 * (X / b)) + 2 * (X % b) := by rw [Nat.mul_add, Nat.mul_left_comm]
    rw [Nat.mul_add]
    omega
  have hlt : 2 * (X % b) + t - b < b := by omega
  rw [e2]
  constructor
  · rw [Nat.add_mul_mod_self_left, Nat.mod_eq_of_lt hlt]
  · rw [Nat.add_mul_div_left _ _ hb, Nat.div_eq_of_lt hlt, Nat.zero_add, Nat.add_mul, Nat.one_mul, Nat.pow_succ, Nat.mul_comm 2 (X / b), Nat.mul_assoc, Nat.mul_comm 2 (2 ^ k)]
theorem long_end (a b : Nat) (ha : a < 18446744073709551616) : longR a b 64 = 0 ∧ longQ a b 64 = 0 := by
  unfold longR longQ; rw [p64_eq] at ha; rw [Nat.div_eq_of_lt ha]; simp
theorem long_all (a b : Nat) : longR a b 0 = a % b ∧ longQ a b 0 = a / b := by
  unfold longR longQ; simp
/-- longQ has no bit below k -/
theorem longQ_or (a b k : Nat) : longQ a b (k + 1) ||| 2 ^ k = longQ a b (k + 1) + 2 ^ k := by
  unfold longQ
  have h : 2 ^ k < 2 ^ (k + 1) := Nat.pow_lt_pow_right (by decide) (by omega)
  rw [Nat.mul_comm, ← Nat.two_pow_add_eq_or_of_lt h]
theorem longQ_le (a b k : Nat) : longQ a b k ≤ a := by
  unfold longQ
  rw [Nat.div_div_eq_div_mul, Nat.mul_comm (2 ^ k) b, ← Nat.div_div_eq_div_mul]
  exact Nat.le_trans (Nat.div_mul_le_self _ _) (Nat.div_le_self _ _)
end Go.Proofs.Ytbmndjedgedbdaa.bin
