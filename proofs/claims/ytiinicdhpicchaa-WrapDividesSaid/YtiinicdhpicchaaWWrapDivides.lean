/- A quotient times the divisor and what is left is the dividend, what is left is nearer to 0 than the divisor and has the sign of the dividend: the law WrapDivides answers true. No condition. -/
import Derived.Test.YtiinicdhpicchaaBase
import Derived.Deep.RegionWith
namespace Go.Proofs.Ytiinicdhpicchaa.wrapDivides
open Go.ChangeShapes Go.WideShapes Go.ChangeAt Go.RowKit
set_option linter.unusedVariables false

set_option maxHeartbeats 400000 in
theorem walk_zero (a0 : Int) (w : World) (w0 : (Lit.int .i64 a0).wf = true) :
    Calls Try.prog 5 #[.int .i64 a0, .int .i64 0] w fun e w' => e = .returned (.bool true) ∧ Below w.heap.size w w' := by
  go_enter Try.func5, Try.ntmps5
  go_wp2_with (first | (go_at_call 10; refine (works_any _).mono ?_; rintro e w' ⟨rfl, hb1⟩) | (go_at_call 8; go_in))
  go_ret
  exact ⟨rfl, hb1⟩
theorem do_div (a b q : Int) (w : World) (hn : ¬ b = 0) (hz : (b == 0) = false) (hq : wrap64 (a.tdiv b) = q) : Calls Try.prog 8 #[.int .i64 6, .int .i64 a, .int .i64 b] w fun e w' => e = .returned (.tuple #[.int .i64 q, .int .i64 0]) ∧ w = w' := by
  rw [← hq]
  clear hq
  go_enter Try.func8, Try.ntmps8
  go_wp2
  go_ret2
  exact ⟨rfl, rfl⟩
theorem do_mod (a b r : Int) (w : World) (hn : ¬ b = 0) (hz : (b == 0) = false) (hr : a.tmod b = r) : Calls Try.prog 8 #[.int .i64 7, .int .i64 a, .int .i64 b] w fun e w' => e = .returned (.tuple #[.int .i64 r, .int .i64 0]) ∧ w = w' := by
  rw [← hr]
  clear hr
  go_enter Try.func8, Try.ntmps8
  go_wp2
  go_ret2
  exact ⟨rfl, rfl⟩
theorem do_mul (a b r : Int) (w : World) (hr : wrap64 (a * b) = r) : Calls Try.prog 8 #[.int .i64 5, .int .i64 a, .int .i64 b] w fun e w' => e = .returned (.tuple #[.int .i64 r, .int .i64 0]) ∧ w = w' := by
  rw [← hr]
  clear hr
  go_enter Try.func8, Try.ntmps8
  go_wp2
  go_ret2
  exact ⟨rfl, rfl⟩
theorem do_add (a b r : Int) (w : World) (hr : wrap64 (a + b) = r) : Calls Try.prog 8 #[.int .i64 3, .int .i64 a, .int .i64 b] w fun e w' => e = .returned (.tuple #[.int .i64 r, .int .i64 0]) ∧ w = w' := by
  rw [← hr]
  clear hr
  go_enter Try.func8, Try.ntmps8
  go_wp2
  go_ret2
  exact ⟨rfl, rfl⟩
set_option maxHeartbeats 400000 in
theorem c0 (a0 a1 q r p : Int) (w : World) (hn : ¬ a1 = 0) (hz : (a1 == 0) = false) (hq : Hid (wrap64 (a0.tdiv a1) = q)) (hr : Hid (a0.tmod a1 = r)) (hp : Hid (wrap64 (q * a1) = p)) (hs : Hid (wrap64 (p + r) = a0)) (hlo : -9223372036854775808 ≤ a1) (hhi : a1 ≤ 9223372036854775807) (h0 : (r == 0) = true) :
    Calls Try.prog 5 #[.int .i64 a0, .int .i64 a1] w fun e w' => e = .returned (.bool true) ∧ Below w.heap.size w w' := by
  go_enter Try.func5, Try.ntmps5
  go_wp2_with (first | (go_at_call 10; refine (works_any _).mono ?_; rintro e w' ⟨rfl, hb1⟩) | (go_at_call_of 8 (Value.int IntKind.i64 6); refine (do_div a0 a1 q _ hn hz hq.out).mono ?_; rintro e w' ⟨rfl, rfl⟩) | (go_at_call_of 8 (Value.int IntKind.i64 7); refine (do_mod a0 a1 r _ hn hz hr.out).mono ?_; rintro e w' ⟨rfl, rfl⟩) | (go_at_call_of 8 (Value.int IntKind.i64 5); refine (do_mul q a1 p _ hp.out).mono ?_; rintro e w' ⟨rfl, rfl⟩) | (go_at_call_of 8 (Value.int IntKind.i64 3); refine (do_add p r a0 _ hs.out).mono ?_; rintro e w' ⟨rfl, rfl⟩))
  go_ret
  exact ⟨rfl, hb1⟩
set_option maxHeartbeats 400000 in
theorem cp (a0 a1 q r p : Int) (w : World) (hn : ¬ a1 = 0) (hz : (a1 == 0) = false) (hq : Hid (wrap64 (a0.tdiv a1) = q)) (hr : Hid (a0.tmod a1 = r)) (hp : Hid (wrap64 (q * a1) = p)) (hs : Hid (wrap64 (p + r) = a0)) (hlo : -9223372036854775808 ≤ a1) (hhi : a1 ≤ 9223372036854775807) (h0 : (r == 0) = false) (h1 : 0 < a1) (h2 : r < a1) (h3 : -a1 < r) (hsg : Hid ((decide (r < 0) == decide (a0 < 0)) = true)) :
    Calls Try.prog 5 #[.int .i64 a0, .int .i64 a1] w fun e w' => e = .returned (.bool true) ∧ Below w.heap.size w w' := by
  go_enter Try.func5, Try.ntmps5
  go_wp2_with (first | (go_at_call 10; refine (works_any _).mono ?_; rintro e w' ⟨rfl, hb1⟩) | (go_at_call_of 8 (Value.int IntKind.i64 6); refine (do_div a0 a1 q _ hn hz hq.out).mono ?_; rintro e w' ⟨rfl, rfl⟩) | (go_at_call_of 8 (Value.int IntKind.i64 7); refine (do_mod a0 a1 r _ hn hz hr.out).mono ?_; rintro e w' ⟨rfl, rfl⟩) | (go_at_call_of 8 (Value.int IntKind.i64 5); refine (do_mul q a1 p _ hp.out).mono ?_; rintro e w' ⟨rfl, rfl⟩) | (go_at_call_of 8 (Value.int IntKind.i64 3); refine (do_add p r a0 _ hs.out).mono ?_; rintro e w' ⟨rfl, rfl⟩))
  go_ret
  exact ⟨congrArg (fun b => Ending.returned (.bool b)) hsg.out, hb1⟩
set_option maxHeartbeats 400000 in
theorem cn (a0 a1 q r p : Int) (w : World) (hn : ¬ a1 = 0) (hz : (a1 == 0) = false) (hq : Hid (wrap64 (a0.tdiv a1) = q)) (hr : Hid (a0.tmod a1 = r)) (hp : Hid (wrap64 (q * a1) = p)) (hs : Hid (wrap64 (p + r) = a0)) (hlo : -9223372036854775808 ≤ a1) (hhi : a1 ≤ 9223372036854775807) (h0 : (r == 0) = false) (h1 : a1 < 0) (h2 : a1 < r) (h3 : r < -a1) (h6 : (a1 == -9223372036854775808) = false) (h7 : -9223372036854775807 ≤ a1) (hsg : Hid ((decide (r < 0) == decide (a0 < 0)) = true)) :
    Calls Try.prog 5 #[.int .i64 a0, .int .i64 a1] w fun e w' => e = .returned (.bool true) ∧ Below w.heap.size w w' := by
  go_enter Try.func5, Try.ntmps5
  go_wp2_with (first | (go_at_call 10; refine (works_any _).mono ?_; rintro e w' ⟨rfl, hb1⟩) | (go_at_call_of 8 (Value.int IntKind.i64 6); refine (do_div a0 a1 q _ hn hz hq.out).mono ?_; rintro e w' ⟨rfl, rfl⟩) | (go_at_call_of 8 (Value.int IntKind.i64 7); refine (do_mod a0 a1 r _ hn hz hr.out).mono ?_; rintro e w' ⟨rfl, rfl⟩) | (go_at_call_of 8 (Value.int IntKind.i64 5); refine (do_mul q a1 p _ hp.out).mono ?_; rintro e w' ⟨rfl, rfl⟩) | (go_at_call_of 8 (Value.int IntKind.i64 3); refine (do_add p r a0 _ hs.out).mono ?_; rintro e w' ⟨rfl, rfl⟩))
  go_ret
  exact ⟨congrArg (fun b => Ending.returned (.bool b)) hsg.out, hb1⟩
set_option maxHeartbeats 400000 in
theorem cm (a0 a1 q r p : Int) (w : World) (hn : ¬ a1 = 0) (hz : (a1 == 0) = false) (hq : Hid (wrap64 (a0.tdiv a1) = q)) (hr : Hid (a0.tmod a1 = r)) (hp : Hid (wrap64 (q * a1) = p)) (hs : Hid (wrap64 (p + r) = a0)) (hlo : -9223372036854775808 ≤ a1) (hhi : a1 ≤ 9223372036854775807) (h0 : (r == 0) = false) (h1 : a1 < 0) (h2 : a1 < r) (h6 : (a1 == -9223372036854775808) = true) (hsg : Hid ((decide (r < 0) == decide (a0 < 0)) = true)) :
    Calls Try.prog 5 #[.int .i64 a0, .int .i64 a1] w fun e w' => e = .returned (.bool true) ∧ Below w.heap.size w w' := by
  go_enter Try.func5, Try.ntmps5
  go_wp2_with (first | (go_at_call 10; refine (works_any _).mono ?_; rintro e w' ⟨rfl, hb1⟩) | (go_at_call_of 8 (Value.int IntKind.i64 6); refine (do_div a0 a1 q _ hn hz hq.out).mono ?_; rintro e w' ⟨rfl, rfl⟩) | (go_at_call_of 8 (Value.int IntKind.i64 7); refine (do_mod a0 a1 r _ hn hz hr.out).mono ?_; rintro e w' ⟨rfl, rfl⟩) | (go_at_call_of 8 (Value.int IntKind.i64 5); refine (do_mul q a1 p _ hp.out).mono ?_; rintro e w' ⟨rfl, rfl⟩) | (go_at_call_of 8 (Value.int IntKind.i64 3); refine (do_add p r a0 _ hs.out).mono ?_; rintro e w' ⟨rfl, rfl⟩))
  go_ret
  exact ⟨congrArg (fun b => Ending.returned (.bool b)) hsg.out, hb1⟩

theorem sign_of (a b : Int) : (a.tmod b == 0) = false → (decide (a.tmod b < 0) == decide (a < 0)) = true := by
  intro h
  have hne : a.tmod b ≠ 0 := by simpa using h
  rcases Int.lt_or_le a 0 with ha | ha
  · have h1 : 0 ≤ (-a).tmod b := Int.tmod_nonneg b (by omega)
    rw [Int.neg_tmod] at h1
    have : a.tmod b < 0 := by omega
    simp [this, ha]
  · have h1 : 0 ≤ a.tmod b := Int.tmod_nonneg b ha
    have e1 : decide (a.tmod b < 0) = false := by simp; omega
    have e2 : decide (a < 0) = false := by simp; omega
    rw [e1, e2]; rfl
theorem near_of (a b : Int) (hb : b ≠ 0) : a.tmod b < (b.natAbs : Int) ∧ -(b.natAbs : Int) < a.tmod b := by
  have h1 := Int.natAbs_tmod a b
  have h2 : a.natAbs % b.natAbs < b.natAbs := Nat.mod_lt _ (by omega)
  omega
theorem walk (a0 : Int) (a1 : Int) (w : World) (w0 : (Lit.int .i64 a0).wf = true) (w1 : (Lit.int .i64 a1).wf = true) :
    Calls Try.prog 5 #[.int .i64 a0, .int .i64 a1] w fun e w' => e = .returned (.bool true) ∧ Below w.heap.size w w' := by
  by_cases hn : a1 = 0
  · subst hn; exact walk_zero a0 w w0
  have ha := wf_lo w0
  have hb := wf_lo w1
  have hz : (a1 == 0) = false := by simpa using hn
  have hs := div_back a0 a1 ha.1 ha.2
  have hnear := near_of a0 a1 hn
  by_cases h0 : (a0.tmod a1 == 0) = true
  · exact c0 a0 a1 _ _ _ w hn hz rfl rfl rfl hs hb.1 hb.2 h0
  have h0' : (a0.tmod a1 == 0) = false := by simpa using h0
  have hsg := sign_of a0 a1 h0'
  by_cases hp : 0 < a1
  · exact cp a0 a1 _ _ _ w hn hz rfl rfl rfl hs hb.1 hb.2 h0' hp (by omega) (by omega) hsg
  by_cases hm : a1 = -9223372036854775808
  · exact cm a0 a1 _ _ _ w hn hz rfl rfl rfl hs hb.1 hb.2 h0' (by omega) (by omega) (by simpa using hm) hsg
  · exact cn a0 a1 _ _ _ w hn hz rfl rfl rfl hs hb.1 hb.2 h0' (by omega) (by omega) (by omega) (by simpa using hm) (by omega) hsg
end Go.Proofs.Ytiinicdhpicchaa.wrapDivides
