/- The contracts of layer 2's Cut (New, Num, Left, Done), of the reference's Of and Fits. -/
import Derived.Test.YtbmndjedgedbdaaPut
namespace Go.Proofs.Ytbmndjedgedbdaa.bits
open Go.ChangeShapes Go.WideShapes Go.ChangeAt Go.RowKit
open Go.Proofs.Ytbmndjedgedbdaa.bin
set_option linter.unusedVariables false
set_option linter.unusedSimpArgs false


/-- the number that bytes are -/
def ofB (l : List UInt8) : Nat := l.foldl (fun n b => n * 256 + b.toNat) 0
theorem ofB_snoc (l : List UInt8) (b : UInt8) : ofB (l ++ [b]) = ofB l * 256 + b.toNat := by simp [ofB]
theorem foldB_lt (l : List UInt8) : ∀ n : Nat, l.foldl (fun n b => n * 256 + b.toNat) n < (n + 1) * 256 ^ l.length := by
  induction l with
  | nil => intro n; simp
  | cons b l ih =>
    intro n
    have h := ih (n * 256 + b.toNat)
    have hb := b.toNat_lt
    rw [List.foldl_cons, List.length_cons, Nat.pow_succ, Nat.mul_comm (256 ^ l.length) 256, ← Nat.mul_assoc]
    exact Nat.lt_of_lt_of_le h (Nat.mul_le_mul_right _ (by omega))
theorem ofB_lt (l : List UInt8) : ofB l < 256 ^ l.length := by
  have h := foldB_lt l 0
  unfold ofB
  omega
theorem ofB_lt4 (l : List UInt8) (h : l.length ≤ 4) : ofB l < 4294967296 :=
  Nat.lt_of_lt_of_le (ofB_lt l) (Nat.pow_le_pow_right (by decide) h)
theorem ofB_lt3 (l : List UInt8) (h : l.length ≤ 3) : ofB l < 16777216 :=
  Nat.lt_of_lt_of_le (ofB_lt l) (Nat.pow_le_pow_right (by decide) h)
theorem take_snocB (l : List UInt8) (k : Nat) (h : k < l.length) : l.take (k + 1) = l.take k ++ [l[k]] := by
  rw [List.take_succ_eq_append_getElem h]
theorem or_i64 (n b : Nat) (hn : n < 16777216) (hb : b < 256) : Go.bits .or .i64 ((n : Int) * 256) (b : Int) = ((n * 256 + b : Nat) : Int) := by
  show IntKind.i64.wrap ((BitVec.ofInt 64 ((n : Int) * 256) ||| BitVec.ofInt 64 b).toNat : Nat) = _
  rw [BitVec.toNat_or, BitVec.toNat_ofInt, BitVec.toNat_ofInt]
  have h1 : (((n : Int) * 256) % ((2 ^ 64 : Nat) : Int)).toNat = n * 2 ^ 8 := by omega
  have h2 : ((b : Int) % ((2 ^ 64 : Nat) : Int)).toNat = b := by omega
  rw [h1, h2, Nat.or_comm, or_add b 8 n (by omega), IntKind.wrap_i64]
  omega

end Go.Proofs.Ytbmndjedgedbdaa.bits
