/- Plain facts on whole numbers that go round, and on their bits. No Go in sight. -/
import Derived.WalkKit
import Derived.OpenShut
import Derived.Laws.BitsAllLaws
namespace Go.Proofs.Ytgbeghaojkhiaaa
open Go.RowKit

theorem wrap64_comm (a b : Int) : wrap64 (a + b) = wrap64 (b + a) := by rw [Int.add_comm]
theorem wrap64_sub_add (a b : Int) (h1 : -9223372036854775808 ≤ a) (h2 : a ≤ 9223372036854775807) : wrap64 (wrap64 (b + a) - b) = a := by
  unfold wrap64; omega
theorem wrap64_id (a : Int) (h1 : -9223372036854775808 ≤ a) (h2 : a ≤ 9223372036854775807) : wrap64 a = a := by
  unfold wrap64; omega
theorem wf_lo {a : Int} (h : (Lit.int .i64 a).wf = true) : -9223372036854775808 ≤ a ∧ a ≤ 9223372036854775807 := by
  exact bounds_i64 h

theorem ofInt_toInt (n : Nat) : IntKind.i64.wrap (n : Int) = (BitVec.ofNat 64 n).toInt := by
  rw [IntKind.wrap_i64, BitVec.toInt_ofNat', Int.bmod_def]
  omega
theorem bits_xor_bv (x y : Int) : bits .xor .i64 x y = (BitVec.ofInt 64 x ^^^ BitVec.ofInt 64 y).toInt := by
  show IntKind.i64.wrap ((BitVec.ofInt 64 x ^^^ BitVec.ofInt 64 y).toNat : Int) = _
  rw [ofInt_toInt _, BitVec.ofNat_toNat, BitVec.setWidth_eq]
theorem bits_and_bv (x y : Int) : bits .and .i64 x y = (BitVec.ofInt 64 x &&& BitVec.ofInt 64 y).toInt := by
  show IntKind.i64.wrap ((BitVec.ofInt 64 x &&& BitVec.ofInt 64 y).toNat : Int) = _
  rw [ofInt_toInt _, BitVec.ofNat_toNat, BitVec.setWidth_eq]
theorem bits_or_bv (x y : Int) : bits .or .i64 x y = (BitVec.ofInt 64 x ||| BitVec.ofInt 64 y).toInt := by
  show IntKind.i64.wrap ((BitVec.ofInt 64 x ||| BitVec.ofInt 64 y).toNat : Int) = _
  rw [ofInt_toInt _, BitVec.ofNat_toNat, BitVec.setWidth_eq]
theorem toInt_ofInt_in (a : Int) (h1 : -9223372036854775808 ≤ a) (h2 : a ≤ 9223372036854775807) : (BitVec.ofInt 64 a).toInt = a := by
  rw [BitVec.toInt_ofInt, Int.bmod_def]; omega
theorem xor_back (a b : Int) (h1 : -9223372036854775808 ≤ a) (h2 : a ≤ 9223372036854775807) : bits .xor .i64 (bits .xor .i64 a b) b = a := by
  rw [bits_xor_bv, bits_xor_bv, BitVec.ofInt_toInt, BitVec.xor_assoc, BitVec.xor_self, BitVec.xor_zero, toInt_ofInt_in a h1 h2]

theorem nat_and_or : ∀ a b : Nat, (a &&& b) + (a ||| b) = a + b := by
  intro a
  induction a using Nat.strongRecOn with
  | _ a ih =>
    intro b
    by_cases h0 : a = 0
    · subst h0; simp
    · have := ih (a / 2) (by omega) (b / 2)
      have e1 := Nat.and_div_two (a := a) (b := b)
      have e2 := Nat.or_div_two (a := a) (b := b)
      have e3 : (a &&& b) % 2 = (a % 2) &&& (b % 2) := Nat.and_mod_two_pow (n := 1)
      have e4 : (a ||| b) % 2 = (a % 2) ||| (b % 2) := Nat.or_mod_two_pow (n := 1)
      rcases Nat.mod_two_eq_zero_or_one a with ha | ha <;> rcases Nat.mod_two_eq_zero_or_one b with hb | hb <;> rw [ha, hb] at e3 e4 <;> simp only [Nat.zero_and, Nat.and_zero, Nat.and_self, Nat.zero_or, Nat.or_zero, Nat.or_self] at e3 e4 <;> omega
theorem nat_xor_and : ∀ a b : Nat, (a ^^^ b) + 2 * (a &&& b) = a + b := by
  intro a
  induction a using Nat.strongRecOn with
  | _ a ih =>
    intro b
    by_cases h0 : a = 0
    · subst h0; simp
    · have := ih (a / 2) (by omega) (b / 2)
      have e1 := Nat.and_div_two (a := a) (b := b)
      have e2 := Nat.xor_div_two (a := a) (b := b)
      have e3 : (a &&& b) % 2 = (a % 2) &&& (b % 2) := Nat.and_mod_two_pow (n := 1)
      have e4 : (a ^^^ b) % 2 = (a % 2) ^^^ (b % 2) := Nat.xor_mod_two_pow (n := 1)
      rcases Nat.mod_two_eq_zero_or_one a with ha | ha <;> rcases Nat.mod_two_eq_zero_or_one b with hb | hb <;> rw [ha, hb] at e3 e4 <;> simp only [Nat.zero_and, Nat.and_zero, Nat.and_self, Nat.zero_xor, Nat.xor_zero, Nat.xor_self] at e3 e4 <;> omega
theorem bv_and_or (x y : BitVec 64) : (x &&& y) + (x ||| y) = x + y := by
  apply BitVec.eq_of_toNat_eq
  rw [BitVec.toNat_add, BitVec.toNat_add, BitVec.toNat_and, BitVec.toNat_or, nat_and_or]
theorem bv_or_sub (x y : BitVec 64) : (x ||| y) - (x &&& y) = x ^^^ y := by
  have h : (x ^^^ y) + (x &&& y) = x ||| y := by
    apply BitVec.eq_of_toNat_eq
    rw [BitVec.toNat_add, BitVec.toNat_and, BitVec.toNat_or, BitVec.toNat_xor]
    have h1 := nat_and_or x.toNat y.toNat
    have h2 := nat_xor_and x.toNat y.toNat
    have h3 : x.toNat ||| y.toNat < 2 ^ 64 := Nat.or_lt_two_pow x.isLt y.isLt
    rw [show (x.toNat ^^^ y.toNat) + (x.toNat &&& y.toNat) = x.toNat ||| y.toNat from by omega]
    exact Nat.mod_eq_of_lt h3
  rw [← h, BitVec.add_sub_cancel]
theorem wrap64_bv (n : Int) : wrap64 n = (BitVec.ofInt 64 n).toInt := by
  rw [BitVec.toInt_ofInt, Int.bmod_def]; unfold wrap64; omega
theorem and_or_sum (a b : Int) : wrap64 (bits .and .i64 a b + bits .or .i64 a b) = wrap64 (a + b) := by
  rw [wrap64_bv, wrap64_bv, bits_and_bv, bits_or_bv, BitVec.ofInt_add, BitVec.ofInt_toInt, BitVec.ofInt_toInt, bv_and_or, BitVec.ofInt_add]
theorem or_sub_and (a b : Int) : wrap64 (bits .or .i64 a b - bits .and .i64 a b) = bits .xor .i64 a b := by
  rw [wrap64_bv, bits_and_bv, bits_or_bv, bits_xor_bv, Int.sub_eq_add_neg, BitVec.ofInt_add, BitVec.ofInt_neg, BitVec.ofInt_toInt, BitVec.ofInt_toInt, ← BitVec.sub_eq_add_neg, bv_or_sub]
def sumW (zs : List Int) : Int := zs.foldl (fun s z => wrap64 (s + z)) 0
theorem sumW_snoc (zs : List Int) (z : Int) : sumW (zs ++ [z]) = wrap64 (sumW zs + z) := by simp [sumW]
theorem take_snoc (zs : List Int) (k : Nat) (h : k < zs.length) : zs.take (k + 1) = zs.take k ++ [zs.getD k 0] := by
  rw [List.take_succ_eq_append_getElem h]; simp [h]
theorem wrap_wrap (a b : Int) : wrap64 (wrap64 a + b) = wrap64 (a + b) := by unfold wrap64; omega
theorem fold_wrap (zs : List Int) : ∀ a : Int, zs.foldl (fun s z => wrap64 (s + z)) (wrap64 a) = wrap64 (a + zs.sum) := by
  induction zs with
  | nil => intro a; simp
  | cons z zs ih => intro a; rw [List.foldl_cons, wrap_wrap, ih, List.sum_cons, Int.add_assoc]
theorem sumW_eq (zs : List Int) : sumW zs = wrap64 zs.sum := by
  have h := fold_wrap zs 0
  rw [Int.zero_add, show wrap64 0 = 0 from by unfold wrap64; omega] at h
  exact h
theorem sumW_two (a b : Int) : sumW [a, b] = wrap64 (a + b) := by rw [sumW_eq]; simp

theorem div_back (a b : Int) (h1 : -9223372036854775808 ≤ a) (h2 : a ≤ 9223372036854775807) : wrap64 (wrap64 (wrap64 (a.tdiv b) * b) + a.tmod b) = a := by
  have e := Int.tdiv_mul_add_tmod a b
  generalize hq : a.tdiv b = q at *
  generalize hr : a.tmod b = r at *
  rw [wrap64_bv, wrap64_bv, wrap64_bv, BitVec.ofInt_add, BitVec.ofInt_toInt, BitVec.ofInt_mul, BitVec.ofInt_toInt, ← BitVec.ofInt_mul, ← BitVec.ofInt_add, e, toInt_ofInt_in a h1 h2]
end Go.Proofs.Ytgbeghaojkhiaaa
