/- How many steps a run needs: the contracts of bound.Steps and of the reference's Steps. -/
import Derived.Test.YtpcpohbbmeonbabPlan
namespace Go.Proofs.Ytpcpohbbmeonbab
open Go.ChangeShapes Go.WideShapes Go.ChangeAt Go.RowKit
set_option linter.unusedVariables false
def stRaw (N P W : Int) : Int := 16 * W * (P + 1) * (P + 1) * (64 * (N + 2) + 1)
def stV (n p w : Int) : Int := if stRaw (hd n 0 1048576) (hd p 1 64) (hd w 1 1024) < 1099511627776 then stRaw (hd n 0 1048576) (hd p 1 64) (hd w 1 1024) else 1099511627776
theorem mul_bd {a b A B : Int} (ha : 0 ≤ a) (hA : a ≤ A) (hb : 0 ≤ b) (hB : b ≤ B) : 0 ≤ a * b ∧ a * b ≤ A * B :=
  ⟨Int.mul_nonneg ha hb, Int.mul_le_mul hA hB hb (Int.le_trans ha hA)⟩
theorem st_bd (N P W : Int) (n0 : 0 ≤ N) (n1 : N ≤ 1048576) (p0 : 1 ≤ P) (p1 : P ≤ 64) (w0 : 1 ≤ W) (w1 : W ≤ 1024) :
    (0 ≤ 16 * W * (P + 1) ∧ 16 * W * (P + 1) ≤ 1064960) ∧ (0 ≤ 16 * W * (P + 1) * (P + 1) ∧ 16 * W * (P + 1) * (P + 1) ≤ 69222400) ∧ (0 ≤ stRaw N P W ∧ stRaw N P W ≤ 4645545557057600000) := by
  have h1 : 0 ≤ 16 * W * (P + 1) ∧ 16 * W * (P + 1) ≤ 16384 * 65 := mul_bd (by omega) (by omega) (by omega) (by omega)
  have h2 : 0 ≤ 16 * W * (P + 1) * (P + 1) ∧ 16 * W * (P + 1) * (P + 1) ≤ 1064960 * 65 := mul_bd h1.1 (by omega) (by omega) (by omega)
  have h3 : 0 ≤ 16 * W * (P + 1) * (P + 1) * (64 * (N + 2) + 1) ∧ 16 * W * (P + 1) * (P + 1) * (64 * (N + 2) + 1) ≤ 69222400 * 67108993 := mul_bd h2.1 (by omega) (by omega) (by omega)
  refine ⟨⟨h1.1, by omega⟩, ⟨h2.1, by omega⟩, h3.1, ?_⟩
  unfold stRaw
  omega
theorem steps_core (n p w N P W : Int) (world : World) (hn : Hid (hd n 0 1048576 = N)) (hp : Hid (hd p 1 64 = P)) (hw : Hid (hd w 1 1024 = W)) (hlt : stRaw N P W < 1099511627776) (n0 : 0 ≤ N) (n1 : N ≤ 1048576) (p0 : 1 ≤ P) (p1 : P ≤ 64) (w0 : 1 ≤ W) (w1 : W ≤ 1024) :
    Calls Try.prog 31 #[.int .i64 n, .int .i64 p, .int .i64 w] world fun e w' => e = .returned (.int .i64 (stRaw N P W)) ∧ world = w' := by
  obtain ⟨h1, h2, h3⟩ := st_bd N P W n0 n1 p0 p1 w0 w1
  unfold stRaw at *
  go_enter Try.func31, Try.ntmps31
  go_wp2_with fail
  refine (held37 n 0 1048576 N _ (by decide) hn.out).mono ?_
  rintro e w' ⟨rfl, rfl⟩
  go_wp2_with fail
  refine (held37 p 1 64 P _ (by decide) hp.out).mono ?_
  rintro e w' ⟨rfl, rfl⟩
  go_wp2_with fail
  refine (held37 w 1 1024 W _ (by decide) hw.out).mono ?_
  rintro e w' ⟨rfl, rfl⟩
  go_wp2_with fail
  go_ret
  exact ⟨rfl, rfl⟩
theorem steps_great (n p w N P W : Int) (world : World) (hn : Hid (hd n 0 1048576 = N)) (hp : Hid (hd p 1 64 = P)) (hw : Hid (hd w 1 1024 = W)) (hlt : ¬ stRaw N P W < 1099511627776) (n0 : 0 ≤ N) (n1 : N ≤ 1048576) (p0 : 1 ≤ P) (p1 : P ≤ 64) (w0 : 1 ≤ W) (w1 : W ≤ 1024) :
    Calls Try.prog 31 #[.int .i64 n, .int .i64 p, .int .i64 w] world fun e w' => e = .returned (.int .i64 1099511627776) ∧ world = w' := by
  obtain ⟨h1, h2, h3⟩ := st_bd N P W n0 n1 p0 p1 w0 w1
  unfold stRaw at *
  go_enter Try.func31, Try.ntmps31
  go_wp2_with fail
  refine (held37 n 0 1048576 N _ (by decide) hn.out).mono ?_
  rintro e w' ⟨rfl, rfl⟩
  go_wp2_with fail
  refine (held37 p 1 64 P _ (by decide) hp.out).mono ?_
  rintro e w' ⟨rfl, rfl⟩
  go_wp2_with fail
  refine (held37 w 1 1024 W _ (by decide) hw.out).mono ?_
  rintro e w' ⟨rfl, rfl⟩
  go_wp2_with fail
  all_goals (go_ret; first | exact ⟨rfl, rfl⟩ | exact ⟨congrArg (fun x => Ending.returned (Value.int .i64 x)) (show 16 * W * (P + 1) * (P + 1) * (64 * (N + 2) + 1) = 1099511627776 from by omega), rfl⟩)
theorem steps_any (n p w : Int) (world : World) : Calls Try.prog 31 #[.int .i64 n, .int .i64 p, .int .i64 w] world fun e w' => e = .returned (.int .i64 (stV n p w)) ∧ world = w' := by
  have b1 := hd_bd n 0 1048576 (by decide)
  have b2 := hd_bd p 1 64 (by decide)
  have b3 := hd_bd w 1 1024 (by decide)
  unfold stV
  by_cases h : stRaw (hd n 0 1048576) (hd p 1 64) (hd w 1 1024) < 1099511627776
  · rw [if_pos h]
    exact steps_core n p w _ _ _ world rfl rfl rfl h b1.1 b1.2 b2.1 b2.2 b3.1 b3.2
  · rw [if_neg h]
    exact steps_great n p w _ _ _ world rfl rfl rfl h b1.1 b1.2 b2.1 b2.2 b3.1 b3.2

set_option maxHeartbeats 1000000 in
theorem works35 (w : World) : Calls Try.prog 28 #[] w fun e w' => e = .returned (.bool true) ∧ Below w.heap.size w w' := by
  have e1 : stV 0 1 1 = 8256 := by decide
  go_enter Try.func28, Try.ntmps28
  go_wp2_with fail
  refine (params_ok _ 2 2 3 3 2 4 _ (show (if (3 : Int) < 1 then 1 else 3) = 3 from by decide) (by decide) (by decide) (by decide) (by decide) (by decide) (by decide) (by decide)).mono ?_
  rintro e w1 ⟨rfl, hb1⟩
  have hb : Below w.heap.size w w1 := by
    refine Below.trans ?_ (hb1.mono (by simp; omega))
    go_grown
  clear hb1
  go_wp2_with (go_at_call 31; refine (steps_any _ _ _ _).mono ?_; rintro e w' ⟨rfl, rfl⟩)
  go_ret
  have hz := hb.size
  exact ⟨rfl, by go_grown⟩
end Go.Proofs.Ytpcpohbbmeonbab
