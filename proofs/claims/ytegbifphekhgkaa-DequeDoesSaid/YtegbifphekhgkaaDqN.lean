/- The reference's New (layer 13). -/
import Derived.Test.YtegbifphekhgkaaDqS2
namespace Go.Proofs.Ytegbifphekhgkaa
open Go.ChangeShapes Go.WideShapes Go.ChangeAt Go.RowKit
attribute [local go_sem ↓] Go.wp_at_zero Go.wp_at_succ
set_option linter.unusedVariables false
set_option linter.unusedSimpArgs false
set_option maxRecDepth 20000 in
theorem rnew_of (kd : Int) (P D : Nat) (t x : Int) (w : World) (h0 : 0 ≤ t) (h1 : t ≤ 1000000) :
    Calls Try.prog 15 #[.int .i64 kd, .int .i64 (P : Int), .int .i64 (D : Int), .int .i64 t, .int .i64 x] w fun e w' => e = .returned (.agg (Rk.cs ⟨kd, P, D, 0, t, x, 0, 0, false, false⟩)) ∧ Below w.heap.size w w' := by
  have m1 : (if t < 0 then (0 : Int) else t) = t := by rw [if_neg (by omega)]
  have m2 : (if (1099511627776 : Int) < t then (1099511627776 : Int) else t) = t := by rw [if_neg (by omega)]
  have m3 : ¬ t < 0 := by omega
  have m4 : ¬ (1099511627776 : Int) < t := by omega
  have hh1 : max t 0 = t := by omega
  have hh2 : min t 1099511627776 = t := by omega
  unfold Rk.cs
  go_enter Try.func15, Try.ntmps15
  go_wp2_with fail
  refine bodyPost_ret (v := .agg #[.int .i64 kd, .int .i64 (P : Int), .int .i64 (D : Int), .int .i64 0, .int .i64 t, .int .i64 x, .int .i64 0, .int .i64 0, .bool false, .bool false]) (by simp [results, Try.results15, go_sem]) rfl ⟨rfl, by go_grown⟩
end Go.Proofs.Ytegbifphekhgkaa
