/- The reference's steps that wait for their turn (layer 13). -/
import Derived.Test.YtegbifphekhgkaaDqU
namespace Go.Proofs.Ytegbifphekhgkaa
open Go.ChangeShapes Go.WideShapes Go.ChangeAt Go.RowKit
attribute [local go_sem ↓] Go.wp_at_zero Go.wp_at_succ
set_option linter.unusedVariables false
set_option linter.unusedSimpArgs false
set_option maxRecDepth 20000 in
set_option maxHeartbeats 2000000 in
theorem rpop4_yes (r : Rk) (B n : Nat) (ad : Option Addr) (cp : Nat) (xs : List Int) (v : Int) (w : World) (hl : xs.length = n) (hn : n ≤ 100000) (hP : (r.P + 3) < n) (hP2 : r.P ≤ 1000) (hD : r.D ≤ 256) (ha : r.at_ = 4) (hv : Hid (xs.getD (r.P + 3) 0 = v)) (he : v = r.tn) (ho : OI w B (.slice ad n cp) xs) :
    Calls Try.prog 55 #[.agg r.cs, .slice ad n cp] w (RPost B n w { r with at_ := 5 } xs) := by
  have hwP : ∀ i : Int, 0 ≤ i → i ≤ 4 → IntKind.i64.wrap ((r.P : Int) + i) = (r.P : Int) + i := fun i h1 h2 => by rw [IntKind.wrap_i64]; omega
  have hwa1 := hwP 1 (by omega) (by omega)
  have hwa2 := hwP 2 (by omega) (by omega)
  have hwa3 := hwP 3 (by omega) (by omega)
  clear hwP
  have hdc : (v == r.tn) = true := by rw [he]; simp
  have hln : (r.P : Int) + 3 < (n : Int) := by omega
  have hlb : decide ((r.P : Int) + 3 < (n : Int)) = true := decide_eq_true hln
  clear he
  have HV := Lib.hid (view_of_own ho)
  have HO := Lib.hid ho
  have C : Hid (∀ W q, Below w.heap.size w W → Calls Try.prog 81 #[.slice ad n cp, .int .i64 ((r.P : Int) + 3)] (W.drewN q) fun e w'' => e = .returned (.int .i64 v) ∧ ∃ m, w'' = W.drewN m) := Lib.hid (fun W q hb => by
    rw [show (r.P : Int) + 3 = ((r.P + 3 : Nat) : Int) by omega]
    exact (rword_of _ xs (r.P + 3) v (W.drewN q) (HV.out.below (below_drewN hb q)) (by omega) hv).mono fun _ _ hh => ⟨hh.1, q, hh.2⟩)
  clear ho
  unfold Rk.cs
  rw [ha]
  go_enter Try.func55, Try.ntmps55
  go_wp2_with fail
  go_quiet ((go_at_call 81; exact C.out _ _ (by go_grown)))
  go_wp2_with fail
  refine bodyPost_ret (v := .tuple #[.agg ({ r with at_ := 5 } : Rk).cs, .slice ad n cp]) ?_ rfl ⟨ad, cp, rfl, OI.below HO.out (by go_grown; all_goals exact below_drewN (by go_grown) _), by go_grown; all_goals exact below_drewN (by go_grown) _⟩
  simp [results, Try.results55, go_sem, Rk.cs, ha]
set_option maxRecDepth 20000 in
set_option maxHeartbeats 2000000 in
theorem rpop4_no (r : Rk) (B n : Nat) (ad : Option Addr) (cp : Nat) (xs : List Int) (v : Int) (w : World) (hl : xs.length = n) (hn : n ≤ 100000) (hP : (r.P + 3) < n) (hP2 : r.P ≤ 1000) (hD : r.D ≤ 256) (ha : r.at_ = 4) (hv : Hid (xs.getD (r.P + 3) 0 = v)) (he : ¬ v = r.tn) (ho : OI w B (.slice ad n cp) xs) :
    Calls Try.prog 55 #[.agg r.cs, .slice ad n cp] w (RPost B n w r xs) := by
  have hwP : ∀ i : Int, 0 ≤ i → i ≤ 4 → IntKind.i64.wrap ((r.P : Int) + i) = (r.P : Int) + i := fun i h1 h2 => by rw [IntKind.wrap_i64]; omega
  have hwa1 := hwP 1 (by omega) (by omega)
  have hwa2 := hwP 2 (by omega) (by omega)
  have hwa3 := hwP 3 (by omega) (by omega)
  clear hwP
  have hdc : (v == r.tn) = false := by rw [beq_eq_false_iff_ne]; exact he
  have hln : (r.P : Int) + 3 < (n : Int) := by omega
  have hlb : decide ((r.P : Int) + 3 < (n : Int)) = true := decide_eq_true hln
  have HV := Lib.hid (view_of_own ho)
  have HO := Lib.hid ho
  have C : Hid (∀ W q, Below w.heap.size w W → Calls Try.prog 81 #[.slice ad n cp, .int .i64 ((r.P : Int) + 3)] (W.drewN q) fun e w'' => e = .returned (.int .i64 v) ∧ ∃ m, w'' = W.drewN m) := Lib.hid (fun W q hb => by
    rw [show (r.P : Int) + 3 = ((r.P + 3 : Nat) : Int) by omega]
    exact (rword_of _ xs (r.P + 3) v (W.drewN q) (HV.out.below (below_drewN hb q)) (by omega) hv).mono fun _ _ hh => ⟨hh.1, q, hh.2⟩)
  clear ho
  unfold Rk.cs
  rw [ha]
  go_enter Try.func55, Try.ntmps55
  go_wp2_with fail
  go_quiet ((go_at_call 81; exact C.out _ _ (by go_grown)))
  go_wp2_with fail
  refine bodyPost_ret (v := .tuple #[.agg (r : Rk).cs, .slice ad n cp]) ?_ rfl ⟨ad, cp, rfl, OI.below HO.out (by go_grown; all_goals exact below_drewN (by go_grown) _), by go_grown; all_goals exact below_drewN (by go_grown) _⟩
  simp [results, Try.results55, go_sem, Rk.cs, ha]
set_option maxRecDepth 20000 in
set_option maxHeartbeats 2000000 in
theorem rsteal1_yes (r : Rk) (B n : Nat) (ad : Option Addr) (cp : Nat) (xs : List Int) (v : Int) (w : World) (hl : xs.length = n) (hn : n ≤ 100000) (hP : (r.P + 3) < n) (hP2 : r.P ≤ 1000) (hD : r.D ≤ 256) (ha : r.at_ = 1) (hv : Hid (xs.getD (r.P + 3) 0 = v)) (he : v = r.tn) (ho : OI w B (.slice ad n cp) xs) :
    Calls Try.prog 56 #[.agg r.cs, .slice ad n cp] w (RPost B n w { r with at_ := 2 } xs) := by
  have hwP : ∀ i : Int, 0 ≤ i → i ≤ 4 → IntKind.i64.wrap ((r.P : Int) + i) = (r.P : Int) + i := fun i h1 h2 => by rw [IntKind.wrap_i64]; omega
  have hwa1 := hwP 1 (by omega) (by omega)
  have hwa2 := hwP 2 (by omega) (by omega)
  have hwa3 := hwP 3 (by omega) (by omega)
  clear hwP
  have hdc : (v == r.tn) = true := by rw [he]; simp
  have hln : (r.P : Int) + 3 < (n : Int) := by omega
  have hlb : decide ((r.P : Int) + 3 < (n : Int)) = true := decide_eq_true hln
  clear he
  have HV := Lib.hid (view_of_own ho)
  have HO := Lib.hid ho
  have C : Hid (∀ W q, Below w.heap.size w W → Calls Try.prog 81 #[.slice ad n cp, .int .i64 ((r.P : Int) + 3)] (W.drewN q) fun e w'' => e = .returned (.int .i64 v) ∧ ∃ m, w'' = W.drewN m) := Lib.hid (fun W q hb => by
    rw [show (r.P : Int) + 3 = ((r.P + 3 : Nat) : Int) by omega]
    exact (rword_of _ xs (r.P + 3) v (W.drewN q) (HV.out.below (below_drewN hb q)) (by omega) hv).mono fun _ _ hh => ⟨hh.1, q, hh.2⟩)
  clear ho
  unfold Rk.cs
  rw [ha]
  go_enter Try.func56, Try.ntmps56
  go_wp2_with fail
  go_quiet ((go_at_call 81; exact C.out _ _ (by go_grown)))
  go_wp2_with fail
  refine bodyPost_ret (v := .tuple #[.agg ({ r with at_ := 2 } : Rk).cs, .slice ad n cp]) ?_ rfl ⟨ad, cp, rfl, OI.below HO.out (by go_grown; all_goals exact below_drewN (by go_grown) _), by go_grown; all_goals exact below_drewN (by go_grown) _⟩
  simp [results, Try.results56, go_sem, Rk.cs, ha]
set_option maxRecDepth 20000 in
set_option maxHeartbeats 2000000 in
theorem rsteal1_no (r : Rk) (B n : Nat) (ad : Option Addr) (cp : Nat) (xs : List Int) (v : Int) (w : World) (hl : xs.length = n) (hn : n ≤ 100000) (hP : (r.P + 3) < n) (hP2 : r.P ≤ 1000) (hD : r.D ≤ 256) (ha : r.at_ = 1) (hv : Hid (xs.getD (r.P + 3) 0 = v)) (he : ¬ v = r.tn) (ho : OI w B (.slice ad n cp) xs) :
    Calls Try.prog 56 #[.agg r.cs, .slice ad n cp] w (RPost B n w r xs) := by
  have hwP : ∀ i : Int, 0 ≤ i → i ≤ 4 → IntKind.i64.wrap ((r.P : Int) + i) = (r.P : Int) + i := fun i h1 h2 => by rw [IntKind.wrap_i64]; omega
  have hwa1 := hwP 1 (by omega) (by omega)
  have hwa2 := hwP 2 (by omega) (by omega)
  have hwa3 := hwP 3 (by omega) (by omega)
  clear hwP
  have hdc : (v == r.tn) = false := by rw [beq_eq_false_iff_ne]; exact he
  have hln : (r.P : Int) + 3 < (n : Int) := by omega
  have hlb : decide ((r.P : Int) + 3 < (n : Int)) = true := decide_eq_true hln
  have HV := Lib.hid (view_of_own ho)
  have HO := Lib.hid ho
  have C : Hid (∀ W q, Below w.heap.size w W → Calls Try.prog 81 #[.slice ad n cp, .int .i64 ((r.P : Int) + 3)] (W.drewN q) fun e w'' => e = .returned (.int .i64 v) ∧ ∃ m, w'' = W.drewN m) := Lib.hid (fun W q hb => by
    rw [show (r.P : Int) + 3 = ((r.P + 3 : Nat) : Int) by omega]
    exact (rword_of _ xs (r.P + 3) v (W.drewN q) (HV.out.below (below_drewN hb q)) (by omega) hv).mono fun _ _ hh => ⟨hh.1, q, hh.2⟩)
  clear ho
  unfold Rk.cs
  rw [ha]
  go_enter Try.func56, Try.ntmps56
  go_wp2_with fail
  go_quiet ((go_at_call 81; exact C.out _ _ (by go_grown)))
  go_wp2_with fail
  refine bodyPost_ret (v := .tuple #[.agg (r : Rk).cs, .slice ad n cp]) ?_ rfl ⟨ad, cp, rfl, OI.below HO.out (by go_grown; all_goals exact below_drewN (by go_grown) _), by go_grown; all_goals exact below_drewN (by go_grown) _⟩
  simp [results, Try.results56, go_sem, Rk.cs, ha]
end Go.Proofs.Ytegbifphekhgkaa
