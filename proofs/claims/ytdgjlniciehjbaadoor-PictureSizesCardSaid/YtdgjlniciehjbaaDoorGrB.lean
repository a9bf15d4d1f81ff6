/- Nodes in the plane (layer 33): floats of whole numbers, Node, Iter, Stage. -/
import Derived.Test.YtdgjlniciehjbaaDoorGrA
import Derived.Test.YtdgjlniciehjbaaDoorFlt
import Derived.Test.YtdgjlniciehjbaaDoorRo
import Derived.Test.YtdgjlniciehjbaaDoorKit
import Derived.Test.YtdgjlniciehjbaaDoorMat
import Derived.Test.YtdgjlniciehjbaaDoorIntR
import Derived.Tactics2
import Derived.Handy
import Derived.Deep.RegionHeld3
import Derived.Deep.DrawnRows
import Derived.BigQuiet
import Derived.Deep.CutBlock
import Derived.Laws.StructEq
import Derived.Laws.Cover2
import Derived.Laws.Cover3
import Derived.Laws.FloatArith
import Derived.Laws.ComplexArith
namespace Go.Proofs.YtdgjlniciehjbaaDoor.gr
open Go.ChangeShapes Go.WideShapes Go.ChangeAt Go.RowKit
open Go.Proofs.YtdgjlniciehjbaaDoor.fl
set_option linter.unusedVariables false
set_option linter.unusedSimpArgs false
def hd (n : Int) : Nat := (min (max n 0) 1048576).toNat
theorem hd_le (n : Int) : hd n ≤ 1048576 := by unfold hd; omega
theorem hd_lt (n : Int) : hd n < 2 ^ 52 := by have := hd_le n; omega
theorem hd_of {n : Int} (h : 0 ≤ n) (h2 : n ≤ 1048576) : ((hd n : Nat) : Int) = n := by unfold hd; omega
theorem hd_eq {a b : Nat} (ha : a ≤ 1048576) (hb : b ≤ 1048576) : hd (a : Int) = hd (b : Int) ↔ a = b := by unfold hd; omega
/-- the node's value. -/
def cx (i k : Int) : Value := .complex .f64 (enc (hd i)) (enc (hd k))
theorem foi (n : Nat) : floatOfInt .f64 (n : Int) = enc n := by
  unfold floatOfInt FloatKind.nearest enc
  have : decide ((n : Int) < 0) = false := by simp
  rw [this]
  rfl
theorem ord {a b : Nat} (ha : a < 2 ^ 52) (hb : b < 2 ^ 52) : FloatKind.f64.format.order (enc a) (enc b) = some (compare (a : Int) (b : Int)) := order_enc ha hb
theorem fti {n : Nat} (hn : n < 2 ^ 52) : floatToIntVal .f64 (enc n) .i64 = some (n : Int) := by
  unfold floatToIntVal
  have h : (FloatKind.f64.decode (enc n)).toInt .zero = some (n : Int) := toInt_enc hn
  rw [h]
  simp only []
  rw [if_pos]
  constructor
  · show (-9223372036854775808 : Int) ≤ n; omega
  · show (n : Int) ≤ 9223372036854775807; omega
theorem enc_0 : enc 0 = 0 := by decide
theorem enc_1 : enc 1 = 4607182418800017408 := by decide
theorem enc_20 : enc 1048576 = 4697254411347427328 := by decide
theorem gt0 {n : Nat} (hn : n < 2 ^ 52) : (FloatKind.f64.format.order (enc n) 0 == some .gt) = decide (0 < n) := by
  have h := ord hn (b := 0) (by decide)
  rw [enc_0] at h
  rw [h]
  rcases Nat.eq_zero_or_pos n with rfl | h1
  · decide
  · rw [show compare (n : Int) ((0 : Nat) : Int) = .gt by
      show compareOfLessAndEq _ _ = _
      unfold compareOfLessAndEq
      rw [if_neg (by omega), if_neg (by omega)]]
    simp [h1]
theorem gt20 {n : Nat} (hn : n < 2 ^ 52) : (FloatKind.f64.format.order (enc n) 4697254411347427328 == some .gt) = decide (1048576 < n) := by
  have h := ord hn (b := 1048576) (by decide)
  rw [enc_20] at h
  rw [h]
  show (some (compareOfLessAndEq _ _) == _) = _
  unfold compareOfLessAndEq
  rcases Nat.lt_trichotomy n 1048576 with h1 | h1 | h1
  · rw [if_pos (by omega)]; simp; omega
  · subst h1; decide
  · rw [if_neg (by omega), if_neg (by omega)]; simp [h1]
theorem eqo {a b : Nat} (ha : a < 2 ^ 52) (hb : b < 2 ^ 52) : (FloatKind.f64.format.order (enc a) (enc b) == some .eq) = decide (a = b) := by
  rw [ord ha hb]
  show (some (compareOfLessAndEq _ _) == _) = _
  unfold compareOfLessAndEq
  rcases Nat.lt_trichotomy a b with h1 | h1 | h1
  · rw [if_pos (by omega)]; simp; omega
  · subst h1; simp
  · rw [if_neg (by omega), if_neg (by omega)]; simp; omega

end Go.Proofs.YtdgjlniciehjbaaDoor.gr
