/- The reference's steps that only read (layer 13). -/
import Derived.Test.YtegbifphekhgkaaDqU
namespace Go.Proofs.Ytegbifphekhgkaa
open Go.ChangeShapes Go.WideShapes Go.ChangeAt Go.RowKit
attribute [local go_sem ↓] Go.wp_at_zero Go.wp_at_succ
set_option linter.unusedVariables false
set_option linter.unusedSimpArgs false
set_option maxRecDepth 20000 in
set_option maxHeartbeats 2000000 in
theorem rpop1_yes (r : Rk) (B n : Nat) (ad : Option Addr) (cp : Nat) (xs : List Int) (v : Int) (w : World) (hl : xs.length = n) (hn : n ≤ 100000) (hP : r.P < n) (hP2 : r.P ≤ 1000) (hD : r.D ≤ 256) (ha : r.at_ = 1) (hv : Hid (xs.getD r.P 0 = v)) (ht : -1000000 ≤ r.t) (ht2 : r.t ≤ 1000000) (hc : v ≤ r.t - 1) (ho : OI w B (.slice ad n cp) xs) :
    Calls Try.prog 55 #[.agg r.cs, .slice ad n cp] w (RPost B n w { r with at_ := 10 } xs) := by
  have hwP : ∀ i : Int, 0 ≤ i → i ≤ 4 → IntKind.i64.wrap ((r.P : Int) + i) = (r.P : Int) + i := fun i h1 h2 => by rw [IntKind.wrap_i64]; omega
  have hwa1 := hwP 1 (by omega) (by omega)
  have hwa2 := hwP 2 (by omega) (by omega)
  have hwa3 := hwP 3 (by omega) (by omega)
  clear hwP
  have hw1 : IntKind.i64.wrap (r.t - 1) = r.t - 1 := by rw [IntKind.wrap_i64]; omega
  have hdc : decide (v ≤ r.t - 1) = true := by simp; omega
  have HV := Lib.hid (view_of_own ho)
  have HO := Lib.hid ho
  have C : Hid (∀ W q, Below w.heap.size w W → Calls Try.prog 81 #[.slice ad n cp, .int .i64 (r.P : Int)] (W.drewN q) fun e w'' => e = .returned (.int .i64 v) ∧ ∃ m, w'' = W.drewN m) := Lib.hid (fun W q hb => by
    exact (rword_of _ xs r.P v (W.drewN q) (HV.out.below (below_drewN hb q)) (by omega) hv).mono fun _ _ hh => ⟨hh.1, q, hh.2⟩)
  clear ho
  unfold Rk.cs
  rw [ha]
  go_enter Try.func55, Try.ntmps55
  go_wp2_with fail
  go_quiet ((go_at_call 81; exact C.out _ _ (by go_grown)))
  go_wp2_with fail
  refine bodyPost_ret (v := .tuple #[.agg ({ r with at_ := 10 } : Rk).cs, .slice ad n cp]) ?_ rfl ⟨ad, cp, rfl, OI.below HO.out (by go_grown; all_goals exact below_drewN (by go_grown) _), by go_grown; all_goals exact below_drewN (by go_grown) _⟩
  simp [results, Try.results55, go_sem, Rk.cs, ha]
set_option maxRecDepth 20000 in
set_option maxHeartbeats 2000000 in
theorem rpop1_no (r : Rk) (B n : Nat) (ad : Option Addr) (cp : Nat) (xs : List Int) (v : Int) (w : World) (hl : xs.length = n) (hn : n ≤ 100000) (hP : r.P < n) (hP2 : r.P ≤ 1000) (hD : r.D ≤ 256) (ha : r.at_ = 1) (hv : Hid (xs.getD r.P 0 = v)) (ht : -1000000 ≤ r.t) (ht2 : r.t ≤ 1000000) (hc : ¬ v ≤ r.t - 1) (ho : OI w B (.slice ad n cp) xs) :
    Calls Try.prog 55 #[.agg r.cs, .slice ad n cp] w (RPost B n w { r with at_ := 2 } xs) := by
  have hwP : ∀ i : Int, 0 ≤ i → i ≤ 4 → IntKind.i64.wrap ((r.P : Int) + i) = (r.P : Int) + i := fun i h1 h2 => by rw [IntKind.wrap_i64]; omega
  have hwa1 := hwP 1 (by omega) (by omega)
  have hwa2 := hwP 2 (by omega) (by omega)
  have hwa3 := hwP 3 (by omega) (by omega)
  clear hwP
  have hw1 : IntKind.i64.wrap (r.t - 1) = r.t - 1 := by rw [IntKind.wrap_i64]; omega
  have hdc : decide (v ≤ r.t - 1) = false := by simp; omega
  have HV := Lib.hid (view_of_own ho)
  have HO := Lib.hid ho
  have C : Hid (∀ W q, Below w.heap.size w W → Calls Try.prog 81 #[.slice ad n cp, .int .i64 (r.P : Int)] (W.drewN q) fun e w'' => e = .returned (.int .i64 v) ∧ ∃ m, w'' = W.drewN m) := Lib.hid (fun W q hb => by
    exact (rword_of _ xs r.P v (W.drewN q) (HV.out.below (below_drewN hb q)) (by omega) hv).mono fun _ _ hh => ⟨hh.1, q, hh.2⟩)
  clear ho
  unfold Rk.cs
  rw [ha]
  go_enter Try.func55, Try.ntmps55
  go_wp2_with fail
  go_quiet ((go_at_call 81; exact C.out _ _ (by go_grown)))
  go_wp2_with fail
  refine bodyPost_ret (v := .tuple #[.agg ({ r with at_ := 2 } : Rk).cs, .slice ad n cp]) ?_ rfl ⟨ad, cp, rfl, OI.below HO.out (by go_grown; all_goals exact below_drewN (by go_grown) _), by go_grown; all_goals exact below_drewN (by go_grown) _⟩
  simp [results, Try.results55, go_sem, Rk.cs, ha]
set_option maxRecDepth 20000 in
set_option maxHeartbeats 2000000 in
theorem rpop6_yes (r : Rk) (B n : Nat) (ad : Option Addr) (cp : Nat) (xs : List Int) (v : Int) (w : World) (hl : xs.length = n) (hn : n ≤ 100000) (hP : r.P < n) (hP2 : r.P ≤ 1000) (hD : r.D ≤ 256) (ha : r.at_ = 6) (hv : Hid (xs.getD r.P 0 = v)) (ht : -1000000 ≤ r.t) (ht2 : r.t ≤ 1000000) (hc : v ≤ r.t - 1) (ho : OI w B (.slice ad n cp) xs) :
    Calls Try.prog 55 #[.agg r.cs, .slice ad n cp] w (RPost B n w { r with at_ := 7 } xs) := by
  have hwP : ∀ i : Int, 0 ≤ i → i ≤ 4 → IntKind.i64.wrap ((r.P : Int) + i) = (r.P : Int) + i := fun i h1 h2 => by rw [IntKind.wrap_i64]; omega
  have hwa1 := hwP 1 (by omega) (by omega)
  have hwa2 := hwP 2 (by omega) (by omega)
  have hwa3 := hwP 3 (by omega) (by omega)
  clear hwP
  have hw1 : IntKind.i64.wrap (r.t - 1) = r.t - 1 := by rw [IntKind.wrap_i64]; omega
  have hdc : decide (v ≤ r.t - 1) = true := by simp; omega
  have HV := Lib.hid (view_of_own ho)
  have HO := Lib.hid ho
  have C : Hid (∀ W q, Below w.heap.size w W → Calls Try.prog 81 #[.slice ad n cp, .int .i64 (r.P : Int)] (W.drewN q) fun e w'' => e = .returned (.int .i64 v) ∧ ∃ m, w'' = W.drewN m) := Lib.hid (fun W q hb => by
    exact (rword_of _ xs r.P v (W.drewN q) (HV.out.below (below_drewN hb q)) (by omega) hv).mono fun _ _ hh => ⟨hh.1, q, hh.2⟩)
  clear ho
  unfold Rk.cs
  rw [ha]
  go_enter Try.func55, Try.ntmps55
  go_wp2_with fail
  go_quiet ((go_at_call 81; exact C.out _ _ (by go_grown)))
  go_wp2_with fail
  refine bodyPost_ret (v := .tuple #[.agg ({ r with at_ := 7 } : Rk).cs, .slice ad n cp]) ?_ rfl ⟨ad, cp, rfl, OI.below HO.out (by go_grown; all_goals exact below_drewN (by go_grown) _), by go_grown; all_goals exact below_drewN (by go_grown) _⟩
  simp [results, Try.results55, go_sem, Rk.cs, ha]
set_option maxRecDepth 20000 in
set_option maxHeartbeats 2000000 in
theorem rpop6_no (r : Rk) (B n : Nat) (ad : Option Addr) (cp : Nat) (xs : List Int) (v : Int) (w : World) (hl : xs.length = n) (hn : n ≤ 100000) (hP : r.P < n) (hP2 : r.P ≤ 1000) (hD : r.D ≤ 256) (ha : r.at_ = 6) (hv : Hid (xs.getD r.P 0 = v)) (ht : -1000000 ≤ r.t) (ht2 : r.t ≤ 1000000) (hc : ¬ v ≤ r.t - 1) (ho : OI w B (.slice ad n cp) xs) :
    Calls Try.prog 55 #[.agg r.cs, .slice ad n cp] w (RPost B n w { r with at_ := 8 } xs) := by
  have hwP : ∀ i : Int, 0 ≤ i → i ≤ 4 → IntKind.i64.wrap ((r.P : Int) + i) = (r.P : Int) + i := fun i h1 h2 => by rw [IntKind.wrap_i64]; omega
  have hwa1 := hwP 1 (by omega) (by omega)
  have hwa2 := hwP 2 (by omega) (by omega)
  have hwa3 := hwP 3 (by omega) (by omega)
  clear hwP
  have hw1 : IntKind.i64.wrap (r.t - 1) = r.t - 1 := by rw [IntKind.wrap_i64]; omega
  have hdc : decide (v ≤ r.t - 1) = false := by simp; omega
  have HV := Lib.hid (view_of_own ho)
  have HO := Lib.hid ho
  have C : Hid (∀ W q, Below w.heap.size w W → Calls Try.prog 81 #[.slice ad n cp, .int .i64 (r.P : Int)] (W.drewN q) fun e w'' => e = .returned (.int .i64 v) ∧ ∃ m, w'' = W.drewN m) := Lib.hid (fun W q hb => by
    exact (rword_of _ xs r.P v (W.drewN q) (HV.out.below (below_drewN hb q)) (by omega) hv).mono fun _ _ hh => ⟨hh.1, q, hh.2⟩)
  clear ho
  unfold Rk.cs
  rw [ha]
  go_enter Try.func55, Try.ntmps55
  go_wp2_with fail
  go_quiet ((go_at_call 81; exact C.out _ _ (by go_grown)))
  go_wp2_with fail
  refine bodyPost_ret (v := .tuple #[.agg ({ r with at_ := 8 } : Rk).cs, .slice ad n cp]) ?_ rfl ⟨ad, cp, rfl, OI.below HO.out (by go_grown; all_goals exact below_drewN (by go_grown) _), by go_grown; all_goals exact below_drewN (by go_grown) _⟩
  simp [results, Try.results55, go_sem, Rk.cs, ha]
set_option maxRecDepth 20000 in
set_option maxHeartbeats 2000000 in
theorem rpush0_yes (r : Rk) (B n : Nat) (ad : Option Addr) (cp : Nat) (xs : List Int) (v : Int) (w : World) (hl : xs.length = n) (hn : n ≤ 100000) (hP : r.P < n) (hP2 : r.P ≤ 1000) (hD : r.D ≤ 256) (ha : r.at_ = 0) (hv : Hid (xs.getD r.P 0 = v)) (ht : 0 ≤ r.t) (ht2 : r.t ≤ 1000000) (hh0 : -1000000 ≤ v) (hh1 : v ≤ 1000000) (hc : (r.D : Int) - 1 ≤ r.t - v) (ho : OI w B (.slice ad n cp) xs) :
    Calls Try.prog 54 #[.agg r.cs, .slice ad n cp] w (RPost B n w { r with at_ := (-1), full := true } xs) := by
  have hwP : ∀ i : Int, 0 ≤ i → i ≤ 4 → IntKind.i64.wrap ((r.P : Int) + i) = (r.P : Int) + i := fun i h1 h2 => by rw [IntKind.wrap_i64]; omega
  have hwa1 := hwP 1 (by omega) (by omega)
  have hwa2 := hwP 2 (by omega) (by omega)
  have hwa3 := hwP 3 (by omega) (by omega)
  clear hwP
  have hw1 : IntKind.i64.wrap (r.t - v) = r.t - v := by rw [IntKind.wrap_i64]; omega
  have hw2 : IntKind.i64.wrap ((r.D : Int) - 1) = (r.D : Int) - 1 := by rw [IntKind.wrap_i64]; omega
  have hdc : decide ((r.D : Int) - 1 ≤ r.t - v) = true := by simp; omega
  have HV := Lib.hid (view_of_own ho)
  have HO := Lib.hid ho
  have C : Hid (∀ W q, Below w.heap.size w W → Calls Try.prog 81 #[.slice ad n cp, .int .i64 (r.P : Int)] (W.drewN q) fun e w'' => e = .returned (.int .i64 v) ∧ ∃ m, w'' = W.drewN m) := Lib.hid (fun W q hb => by
    exact (rword_of _ xs r.P v (W.drewN q) (HV.out.below (below_drewN hb q)) (by omega) hv).mono fun _ _ hh => ⟨hh.1, q, hh.2⟩)
  clear ho
  unfold Rk.cs
  rw [ha]
  go_enter Try.func54, Try.ntmps54
  go_wp2_with fail
  go_quiet ((go_at_call 81; exact C.out _ _ (by go_grown)))
  go_wp2_with fail
  refine bodyPost_ret (v := .tuple #[.agg ({ r with at_ := (-1), full := true } : Rk).cs, .slice ad n cp]) ?_ rfl ⟨ad, cp, rfl, OI.below HO.out (by go_grown; all_goals exact below_drewN (by go_grown) _), by go_grown; all_goals exact below_drewN (by go_grown) _⟩
  simp [results, Try.results54, go_sem, Rk.cs, ha]
set_option maxRecDepth 20000 in
set_option maxHeartbeats 2000000 in
theorem rsteal2 (r : Rk) (B n : Nat) (ad : Option Addr) (cp : Nat) (xs : List Int) (v : Int) (w : World) (hl : xs.length = n) (hn : n ≤ 100000) (hP : r.P < n) (hP2 : r.P ≤ 1000) (hD : r.D ≤ 256) (ha : r.at_ = 2) (hv : Hid (xs.getD r.P 0 = v)) (ho : OI w B (.slice ad n cp) xs) :
    Calls Try.prog 56 #[.agg r.cs, .slice ad n cp] w (RPost B n w { r with at_ := 3, h := v } xs) := by
  have hwP : ∀ i : Int, 0 ≤ i → i ≤ 4 → IntKind.i64.wrap ((r.P : Int) + i) = (r.P : Int) + i := fun i h1 h2 => by rw [IntKind.wrap_i64]; omega
  have hwa1 := hwP 1 (by omega) (by omega)
  have hwa2 := hwP 2 (by omega) (by omega)
  have hwa3 := hwP 3 (by omega) (by omega)
  clear hwP
  have HV := Lib.hid (view_of_own ho)
  have HO := Lib.hid ho
  have CW : Hid (∀ W, Below w.heap.size w W → Calls Try.prog 81 #[.slice ad n cp, .int .i64 (r.P : Int)] W fun e w' => e = .returned (.int .i64 v) ∧ w' = W) := Lib.hid fun W hb => rword_of _ xs r.P v W (HV.out.below hb) (by omega) hv
  clear ho
  unfold Rk.cs
  rw [ha]
  go_enter Try.func56, Try.ntmps56
  go_wp2_with fail
  refine (CW.out _ (by go_grown)).mono ?_
  rintro e w3 ⟨rfl, rfl⟩
  go_wp2_with fail
  refine bodyPost_ret (v := .tuple #[.agg ({ r with at_ := 3, h := v } : Rk).cs, .slice ad n cp]) ?_ rfl ⟨ad, cp, rfl, OI.below HO.out (by go_grown), by go_grown⟩
  simp [results, Try.results56, go_sem, Rk.cs, ha]
set_option maxRecDepth 20000 in
set_option maxHeartbeats 2000000 in
theorem rsteal4_yes (r : Rk) (B n : Nat) (ad : Option Addr) (cp : Nat) (xs : List Int) (v : Int) (w : World) (hl : xs.length = n) (hn : n ≤ 100000) (hP : (r.P + 1) < n) (hP2 : r.P ≤ 1000) (hD : r.D ≤ 256) (ha : r.at_ = 4) (hv : Hid (xs.getD (r.P + 1) 0 = v)) (ht : -1000000 ≤ r.h) (ht2 : r.h ≤ 1000000) (hc : v < r.h + 1) (ho : OI w B (.slice ad n cp) xs) :
    Calls Try.prog 56 #[.agg r.cs, .slice ad n cp] w (RPost B n w { r with at_ := 5 } xs) := by
  have hwP : ∀ i : Int, 0 ≤ i → i ≤ 4 → IntKind.i64.wrap ((r.P : Int) + i) = (r.P : Int) + i := fun i h1 h2 => by rw [IntKind.wrap_i64]; omega
  have hwa1 := hwP 1 (by omega) (by omega)
  have hwa2 := hwP 2 (by omega) (by omega)
  have hwa3 := hwP 3 (by omega) (by omega)
  clear hwP
  have hw1 : IntKind.i64.wrap (r.h + 1) = r.h + 1 := by rw [IntKind.wrap_i64]; omega
  have hdc : decide (v < r.h + 1) = true := by simp; omega
  have HV := Lib.hid (view_of_own ho)
  have HO := Lib.hid ho
  have C : Hid (∀ W q, Below w.heap.size w W → Calls Try.prog 81 #[.slice ad n cp, .int .i64 ((r.P : Int) + 1)] (W.drewN q) fun e w'' => e = .returned (.int .i64 v) ∧ ∃ m, w'' = W.drewN m) := Lib.hid (fun W q hb => by
    rw [show (r.P : Int) + 1 = ((r.P + 1 : Nat) : Int) by omega]
    exact (rword_of _ xs (r.P + 1) v (W.drewN q) (HV.out.below (below_drewN hb q)) (by omega) hv).mono fun _ _ hh => ⟨hh.1, q, hh.2⟩)
  clear ho
  unfold Rk.cs
  rw [ha]
  go_enter Try.func56, Try.ntmps56
  go_wp2_with fail
  go_quiet ((go_at_call 81; exact C.out _ _ (by go_grown)))
  go_wp2_with fail
  refine bodyPost_ret (v := .tuple #[.agg ({ r with at_ := 5 } : Rk).cs, .slice ad n cp]) ?_ rfl ⟨ad, cp, rfl, OI.below HO.out (by go_grown; all_goals exact below_drewN (by go_grown) _), by go_grown; all_goals exact below_drewN (by go_grown) _⟩
  simp [results, Try.results56, go_sem, Rk.cs, ha]
set_option maxRecDepth 20000 in
set_option maxHeartbeats 2000000 in
theorem rsteal4_no (r : Rk) (B n : Nat) (ad : Option Addr) (cp : Nat) (xs : List Int) (v : Int) (w : World) (hl : xs.length = n) (hn : n ≤ 100000) (hP : (r.P + 1) < n) (hP2 : r.P ≤ 1000) (hD : r.D ≤ 256) (ha : r.at_ = 4) (hv : Hid (xs.getD (r.P + 1) 0 = v)) (ht : -1000000 ≤ r.h) (ht2 : r.h ≤ 1000000) (hc : ¬ v < r.h + 1) (ho : OI w B (.slice ad n cp) xs) :
    Calls Try.prog 56 #[.agg r.cs, .slice ad n cp] w (RPost B n w { r with at_ := 7 } xs) := by
  have hwP : ∀ i : Int, 0 ≤ i → i ≤ 4 → IntKind.i64.wrap ((r.P : Int) + i) = (r.P : Int) + i := fun i h1 h2 => by rw [IntKind.wrap_i64]; omega
  have hwa1 := hwP 1 (by omega) (by omega)
  have hwa2 := hwP 2 (by omega) (by omega)
  have hwa3 := hwP 3 (by omega) (by omega)
  clear hwP
  have hw1 : IntKind.i64.wrap (r.h + 1) = r.h + 1 := by rw [IntKind.wrap_i64]; omega
  have hdc : decide (v < r.h + 1) = false := by simp; omega
  have HV := Lib.hid (view_of_own ho)
  have HO := Lib.hid ho
  have C : Hid (∀ W q, Below w.heap.size w W → Calls Try.prog 81 #[.slice ad n cp, .int .i64 ((r.P : Int) + 1)] (W.drewN q) fun e w'' => e = .returned (.int .i64 v) ∧ ∃ m, w'' = W.drewN m) := Lib.hid (fun W q hb => by
    rw [show (r.P : Int) + 1 = ((r.P + 1 : Nat) : Int) by omega]
    exact (rword_of _ xs (r.P + 1) v (W.drewN q) (HV.out.below (below_drewN hb q)) (by omega) hv).mono fun _ _ hh => ⟨hh.1, q, hh.2⟩)
  clear ho
  unfold Rk.cs
  rw [ha]
  go_enter Try.func56, Try.ntmps56
  go_wp2_with fail
  go_quiet ((go_at_call 81; exact C.out _ _ (by go_grown)))
  go_wp2_with fail
  refine bodyPost_ret (v := .tuple #[.agg ({ r with at_ := 7 } : Rk).cs, .slice ad n cp]) ?_ rfl ⟨ad, cp, rfl, OI.below HO.out (by go_grown; all_goals exact below_drewN (by go_grown) _), by go_grown; all_goals exact below_drewN (by go_grown) _⟩
  simp [results, Try.results56, go_sem, Rk.cs, ha]
end Go.Proofs.Ytegbifphekhgkaa
