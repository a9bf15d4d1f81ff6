/- Nodes in the plane (layer 33): floats of whole numbers, Node, Iter, Stage. -/
import Derived.Test.YtgbeghaojkhiaaaGrA
import Derived.Test.YtgbeghaojkhiaaaFlt
import Derived.Test.YtgbeghaojkhiaaaRo
import Derived.Test.YtgbeghaojkhiaaaKit
import Derived.Test.YtgbeghaojkhiaaaMat
import Derived.Test.YtgbeghaojkhiaaaIntR
import Derived.Tactics2
import Derived.Handy
import Derived.Deep.RegionHeld3
import Derived.Deep.DrawnRows
import Derived.BigQuiet
import Derived.Deep.CutBlock
import Derived.Laws.StructEq
import Derived.Laws.Cover2
import Derived.Laws.Cover3
import Derived.Laws.FloatArith
import Derived.Laws.ComplexArith
namespace Go.Proofs.Ytgbeghaojkhiaaa.gr
open Go.ChangeShapes Go.WideShapes Go.ChangeAt Go.RowKit
open Go.Proofs.Ytgbeghaojkhiaaa.fl
set_option linter.unusedVariables false
set_option linter.unusedSimpArgs false
def hd (n : Int) : Nat := (min (max n 0) 1048576).toNat
theorem hd_le (n : Int) : hd n ≤ 1048576 := by unfold hd; omega
theorem hd_lt (n : Int) : hd n < 2 ^ 52 := by have := hd_le n; omega
theorem hd_of {n : Int} (h : 0 ≤ n) (h2 : n ≤ 1048576) : ((hd n : Nat) : Int) = n := by unfold hd; omega
theorem hd_eq {a b : Nat} (ha : a ≤ 1048576) (hb : b ≤ 1048576) : hd (a : Int) = hd (b : Int) ↔ a = b := by unfold hd; omega
/-- the node's value. -/
def cx (i k : Int) : Value := .complex .f64 (enc (hd i)) (enc (hd k))
theorem foi (n : Nat) : floatOfInt .f64 (n : Int) = enc n := by
  unfold floatOfInt FloatKind.nearest enc
  have : decide ((n : Int) < 0) = false := by simp
  rw [this]
  rfl
theorem ord {a b : Nat} (ha : a < 2 ^ 52) (hb : b < 2 ^ 52) : FloatKind.f64.format.order (enc a) (enc b) = some (compare (a : Int) (b : Int)) := order_enc ha hb
theorem fti {n : Nat} (hn : n < 2 ^ 52) : floatToIntVal .f64 (enc n) .i64 = some (n : Int) := by
  unfold floatToIntVal
  have h : (FloatKind.f64.decode (enc n)).toInt .zero = some (n : Int) := toInt_enc hn
  rw [h]
  simp only []
  rw [if_pos]
  constructor
  · show (-9223372036854775808 : Int) ≤ n; omega
  · show (n : Int) ≤ 9223372036854775807; omega
theorem enc_0 : enc 0 = 0 := by decide
theorem enc_1 : enc 1 = 4607182418800017408 := by decide
theorem enc_20 : enc 1048576 = 4697254411347427328 := by decide
theorem gt0 {n : Nat} (hn : n < 2 ^ 52) : (FloatKind.f64.format.order (enc n) 0 == some .gt) = decide (0 < n) := by
  have h := ord hn (b := 0) (by decide)
  rw [enc_0] at h
  rw [h]
  rcases Nat.eq_zero_or_pos n with rfl | h1
  · decide
  · rw [show compare (n : Int) ((0 : Nat) : Int) = .gt by
      show compareOfLessAndEq _ _ = _
      unfold compareOfLessAndEq
      rw [if_neg (by omega), if_neg (by omega)]]
    simp [h1]
theorem gt20 {n : Nat} (hn : n < 2 ^ 52) : (FloatKind.f64.format.order (enc n) 4697254411347427328 == some .gt) = decide (1048576 < n) := by
  have h := ord hn (b := 1048576) (by decide)
  rw [enc_20] at h
  rw [h]
  show (some (compareOfLessAndEq _ _) == _) = _
  unfold compareOfLessAndEq
  rcases Nat.lt_trichotomy n 1048576 with h1 | h1 | h1
  · rw [if_pos (by omega)]; simp; omega
  · subst h1; decide
  · rw [if_neg (by omega), if_neg (by omega)]; simp [h1]
theorem eqo {a b : Nat} (ha : a < 2 ^ 52) (hb : b < 2 ^ 52) : (FloatKind.f64.format.order (enc a) (enc b) == some .eq) = decide (a = b) := by
  rw [ord ha hb]
  show (some (compareOfLessAndEq _ _) == _) = _
  unfold compareOfLessAndEq
  rcases Nat.lt_trichotomy a b with h1 | h1 | h1
  · rw [if_pos (by omega)]; simp; omega
  · subst h1; simp
  · rw [if_neg (by omega), if_neg (by omega)]; simp; omega
theorem held_v (w : World) (n : Int) : Calls Try.prog 31 #[.int .i64 n] w fun e w' => e = .returned (.int .i64 (hd n)) ∧ w = w' := by
  have key : ∀ x : Int, x = ((hd n : Nat) : Int) → Ending.returned (Value.int .i64 x) = Ending.returned (Value.int .i64 ((hd n : Nat) : Int)) := by
    rintro x rfl
    rfl
  unfold hd at key ⊢
  go_enter Try.func31, Try.ntmps31
  go_wp2
  all_goals try go_ret
  all_goals refine ⟨key _ ?_, rfl⟩
  all_goals (try split at *) <;> omega
theorem node_v (w : World) (i k : Int) : Calls Try.prog 16 #[.int .i64 i, .int .i64 k] w fun e w' => e = .returned (cx i k) ∧ w = w' := by
  go_enter Try.func16, Try.ntmps16
  go_wp2_with (first | (go_at_call 31; refine (held_v _ _).mono ?_; rintro e w' ⟨rfl, rfl⟩) | fail)
  all_goals first | (go_ret; exact ⟨rfl, rfl⟩) | exact ⟨rfl, rfl⟩ | skip
set_option maxRecDepth 1000000 in
theorem whole_v (w : World) (n : Nat) (hn : n ≤ 1048576) : Calls Try.prog 45 #[.float .f64 (enc n)] w fun e w' => e = .returned (.int .i64 n) ∧ w = w' := by
  have h1 := gt0 (n := n) (by omega)
  have h2 := gt20 (n := n) (by omega)
  have h3 : decide (1048576 < n) = false := by simp; omega
  have h4 := fti (n := n) (by omega)
  rw [h3] at h2
  obtain ⟨X, hX⟩ : ∃ X, enc n = X := ⟨_, rfl⟩
  rw [hX] at h1 h2 h4 ⊢
  clear hX
  have hcv : ∀ w', Sem.run Try.prog (convert 76 3 (.float .f64 X)) w' = .ok (.int .i64 n) w' := fun w' => run_convert_float_int w' _ _ _ _ _ _ (by simp [Try.underlying76]) Try.underlying3 h4
  clear h4
  by_cases h0 : 0 < n
  · rw [decide_eq_true h0] at h1
    go_enter Try.func45, Try.ntmps45
    go_wp2_with fail
    all_goals first | (go_ret; exact ⟨rfl, rfl⟩) | exact ⟨rfl, rfl⟩ | skip
  obtain rfl : n = 0 := by omega
  rw [decide_eq_false h0] at h1
  go_enter Try.func45, Try.ntmps45
  go_wp2
  all_goals first | (go_ret; exact ⟨rfl, rfl⟩) | exact ⟨rfl, rfl⟩ | skip
theorem iter_v (w : World) (i k : Int) : Calls Try.prog 40 #[cx i k] w fun e w' => e = .returned (.int .i64 (hd i)) ∧ w = w' := by
  have hw := whole_v w (hd i) (hd_le i)
  unfold cx
  go_enter Try.func40, Try.ntmps40
  go_wp2_with (first | (go_at_call 45; refine hw.mono ?_; rintro e w' ⟨rfl, rfl⟩) | fail)
  all_goals first | (go_ret; exact ⟨rfl, rfl⟩) | exact ⟨rfl, rfl⟩ | skip
theorem stage_v (w : World) (i k : Int) : Calls Try.prog 41 #[cx i k] w fun e w' => e = .returned (.int .i64 (hd k)) ∧ w = w' := by
  have hw := whole_v w (hd k) (hd_le k)
  unfold cx
  go_enter Try.func41, Try.ntmps41
  go_wp2_with (first | (go_at_call 45; refine hw.mono ?_; rintro e w' ⟨rfl, rfl⟩) | fail)
  all_goals first | (go_ret; exact ⟨rfl, rfl⟩) | exact ⟨rfl, rfl⟩ | skip
end Go.Proofs.Ytgbeghaojkhiaaa.gr
