/- The reference's steps of layer 13. -/
import Derived.Test.YtegbifphekhgkaaDqR
import Derived.BigQuiet
import Derived.Deep.RegionHeld3
import Derived.Deep.DrawnRows
namespace Go.Proofs.Ytegbifphekhgkaa
open Go.ChangeShapes Go.WideShapes Go.ChangeAt Go.RowKit
attribute [local go_sem ↓] Go.wp_at_zero Go.wp_at_succ
set_option linter.unusedVariables false
set_option linter.unusedSimpArgs false
def RPost (B n : Nat) (w : World) (r' : Rk) (xs' : List Int) (e : Ending) (w' : World) : Prop :=
  ∃ ad cp, e = .returned (.tuple #[.agg r'.cs, .slice ad n cp]) ∧ OI w' B (.slice ad n cp) xs' ∧ Below w.heap.size w w'
set_option maxRecDepth 20000 in
theorem rpush0_no (r : Rk) (B n : Nat) (ad : Option Addr) (cp : Nat) (xs : List Int) (h : Int) (w : World) (hl : xs.length = n) (hP : r.P < n) (hP2 : r.P ≤ 1000) (hD : r.D ≤ 256) (ha : r.at_ = 0) (ht : 0 ≤ r.t) (ht2 : r.t ≤ 1000000) (hh : Hid (xs.getD r.P 0 = h)) (hh0 : -1000000 ≤ h) (hh1 : h ≤ 1000000) (hc : r.t - h < (r.D : Int) - 1) (ho : OI w B (.slice ad n cp) xs) :
    Calls Try.prog 54 #[.agg r.cs, .slice ad n cp] w (RPost B n w { r with at_ := 1 } xs) := by
  have hw1 : IntKind.i64.wrap (r.t - h) = r.t - h := by rw [IntKind.wrap_i64]; omega
  have hw2 : IntKind.i64.wrap ((r.D : Int) - 1) = (r.D : Int) - 1 := by rw [IntKind.wrap_i64]; omega
  have hdc : decide ((r.D : Int) - 1 ≤ r.t - h) = false := by simp; omega
  have HV := Lib.hid (view_of_own ho)
  have HO := Lib.hid ho
  clear ho
  unfold Rk.cs
  rw [ha]
  go_enter Try.func54, Try.ntmps54
  go_wp2_with fail
  have C : Hid (∀ W q, Below w.heap.size w W → Calls Try.prog 81 #[.slice ad n cp, .int .i64 (r.P : Int)] (W.drewN q) fun e w'' => e = .returned (.int .i64 h) ∧ ∃ m, w'' = W.drewN m) := Lib.hid (fun W q hb => (rword_of _ xs r.P h (W.drewN q) (HV.out.below (below_drewN hb q)) (by omega) hh).mono fun _ _ hh => ⟨hh.1, q, hh.2⟩)
  go_quiet ((go_at_call 81; exact C.out _ _ (by go_grown)))
  go_wp2_with fail
  refine bodyPost_ret (v := .tuple #[.agg ({ r with at_ := 1 } : Rk).cs, .slice ad n cp]) ?_ rfl ⟨ad, cp, rfl, OI.below HO.out (by go_grown; all_goals exact below_drewN (by go_grown) _), by go_grown; all_goals exact below_drewN (by go_grown) _⟩
  simp [results, Try.results54, go_sem, Rk.cs]
end Go.Proofs.Ytegbifphekhgkaa
