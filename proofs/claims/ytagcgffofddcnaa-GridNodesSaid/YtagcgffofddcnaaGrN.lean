/- Parts of any points of the plane (layer 33): whole, Iter, Stage, Step, Mirror. -/
import Derived.Test.YtagcgffofddcnaaGrM
import Derived.Test.YtagcgffofddcnaaGrR
import Derived.Test.YtagcgffofddcnaaFlx
namespace Go.Proofs.Ytagcgffofddcnaa.gr
open Go.ChangeShapes Go.WideShapes Go.ChangeAt Go.RowKit
open Go.Proofs.Ytagcgffofddcnaa.ro
open Go.Proofs.Ytagcgffofddcnaa.fl (Is U U_pos order_is toInt_is sub_one add_enc is_enc)
open Go.Proofs.Ytagcgffofddcnaa
set_option linter.unusedVariables false
set_option linter.unusedSimpArgs false
abbrev K20 : Nat := 4697254411347427328
abbrev K1 : Nat := 4607182418800017408
abbrev ordF (a b : Nat) : Option Ordering := FloatKind.f64.format.order a b
/-- what is known of a part of a point, and of the whole number p that it is taken for. -/
inductive FX (u p : Nat) : Prop
  | a : ordF u 0 = none → ordF u K20 = none → ordF u u = none → p = 0 → FX u p
  | b (o : Ordering) : o ≠ .gt → ordF u 0 = some o → ordF u K20 = some .lt → ordF u u = some .eq → p = 0 → FX u p
  | c (o : Ordering) (r : Nat) : o ≠ .gt → ordF u 0 = some .gt → ordF u K20 = some .lt → ordF u u = some .eq → p < 1048576 → floatToIntVal .f64 u .i64 = some (p : Int) → ordF (fl.enc p) u = some o → floatBits .sub .f64 u K1 = some r → ordF (fl.enc p) r = some .gt → FX u p
  | d : ordF u 0 = some .gt → ordF u K20 = some .gt → ordF u u = some .eq → p = 1048576 → FX u p
  | e : ordF u 0 = some .gt → ordF u K20 = some .eq → ordF u u = some .eq → floatToIntVal .f64 u .i64 = some 1048576 → p = 1048576 → FX u p
theorem cmp_lt {a b : Int} (h : a < b) : compare a b = .lt := by
  show compareOfLessAndEq _ _ = _
  unfold compareOfLessAndEq
  rw [if_pos h]
theorem cmp_gt {a b : Int} (h : b < a) : compare a b = .gt := by
  show compareOfLessAndEq _ _ = _
  unfold compareOfLessAndEq
  rw [if_neg (by omega), if_neg (by omega)]
theorem cmp_eq (a : Int) : compare a a = .eq := by
  show compareOfLessAndEq _ _ = _
  unfold compareOfLessAndEq
  rw [if_neg (Int.lt_irrefl _), if_pos rfl]
theorem fti_of {u n : Nat} (h : (Ieee.double.read u).toInt .zero = some (n : Int)) (hn : n < 2 ^ 52) : floatToIntVal .f64 u .i64 = some (n : Int) := by
  unfold floatToIntVal
  have h' : (FloatKind.f64.decode u).toInt .zero = some (n : Int) := h
  rw [h']
  simp only []
  rw [if_pos]
  constructor
  · show (-9223372036854775808 : Int) ≤ n; omega
  · show (n : Int) ≤ 9223372036854775807; omega
theorem fx_num {u : Nat} {z : Int} (h : Is u z) : ∃ p : Nat, FX u p ∧ (z ≤ 0 → p = 0) ∧ (((1048576 * U : Nat) : Int) ≤ z → p = 1048576) ∧ (0 < z → z < ((1048576 * U : Nat) : Int) → ((p * U : Nat) : Int) ≤ z ∧ z < (((p + 1) * U : Nat) : Int)) := by
  have hU := U_pos
  have h0 : Ieee.double.order u 0 = some (compare z 0) := by
    have h9 := order_is h (is_enc (n := 0) (by decide))
    rw [enc_0, Nat.zero_mul] at h9
    exact h9
  have h2 := order_is h (is_enc (n := 1048576) (by decide))
  rw [enc_20] at h2
  have h3 := order_is h h
  rw [cmp_eq] at h3
  rcases Int.lt_or_le 0 z with hz | hz
  · rw [cmp_gt hz] at h0
    obtain ⟨n, hn, hn1, hn2⟩ := toInt_is h hz
    rcases Int.lt_trichotomy z ((1048576 * U : Nat) : Int) with h4 | h4 | h4
    · rw [cmp_lt h4] at h2
      have hnb : n < 1048576 := by
        have : n * U < 1048576 * U := by omega
        exact Nat.lt_of_mul_lt_mul_right this
      obtain ⟨r, hr, hr2⟩ := sub_one h hz hn1 hn2 (by omega)
      rw [enc_1] at hr
      have h5 := order_is (is_enc (n := n) (by omega)) h
      obtain ⟨o, ho⟩ : ∃ o, compare ((n * U : Nat) : Int) z = o := ⟨_, rfl⟩
      rw [ho] at h5
      refine ⟨n, .c o r ?_ h0 h2 h3 hnb (fti_of hn (by omega)) h5 hr hr2, by omega, by omega, fun _ _ => ⟨hn1, hn2⟩⟩
      rintro rfl
      rcases Int.lt_or_eq_of_le hn1 with h6 | h6
      · rw [cmp_lt h6] at ho; cases ho
      · rw [h6, cmp_eq] at ho; cases ho
    · rw [h4, cmp_eq] at h2
      have hn3 : n = 1048576 := by
        have a1 : n * U ≤ 1048576 * U := by omega
        have a2 : 1048576 * U < (n + 1) * U := by omega
        have b1 := Nat.le_of_mul_le_mul_right a1 hU
        have b2 := Nat.lt_of_mul_lt_mul_right a2
        omega
      subst hn3
      exact ⟨1048576, .e h0 h2 h3 (fti_of hn (by decide)) rfl, by omega, fun _ => rfl, by omega⟩
    · rw [cmp_gt h4] at h2
      exact ⟨1048576, .d h0 h2 h3 rfl, by omega, fun _ => rfl, by omega⟩
  · have h4 : z < ((1048576 * U : Nat) : Int) := by
      have : 0 < 1048576 * U := by omega
      omega
    rw [cmp_lt h4] at h2
    obtain ⟨o, ho⟩ : ∃ o, compare z (0 : Int) = o := ⟨_, rfl⟩
    rw [ho] at h0
    refine ⟨0, .b o ?_ h0 h2 h3 rfl, fun _ => rfl, by omega, by omega⟩
    rintro rfl
    rcases Int.lt_or_eq_of_le hz with h6 | h6
    · rw [cmp_lt h6] at ho; cases ho
    · rw [h6, cmp_eq] at ho; cases ho
theorem fx_whole {u n : Nat} (h : Is u ((n * U : Nat) : Int)) : FX u (min n 1048576) := by
  have hU := U_pos
  obtain ⟨p, h1, h2, h3, h4⟩ := fx_num h
  have : p = min n 1048576 := by
    rcases Nat.eq_zero_or_pos n with h5 | h5
    · subst h5
      rw [h2 (by omega)]
      rfl
    · rcases Nat.lt_or_ge n 1048576 with h6 | h6
      · have a1 : 0 < n * U := Nat.mul_pos h5 hU
        have a2 : n * U < 1048576 * U := Nat.mul_lt_mul_of_pos_right h6 hU
        obtain ⟨b1, b2⟩ := h4 (by omega) (by omega)
        have c1 := Nat.le_of_mul_le_mul_right (Int.ofNat_le.1 b1) hU
        have c2 := Nat.lt_of_mul_lt_mul_right (Int.ofNat_lt.1 b2)
        omega
      · have a2 : 1048576 * U ≤ n * U := Nat.mul_le_mul_right _ h6
        rw [h3 (by omega)]
        omega
  rw [← this]
  exact h1
set_option maxRecDepth 20000 in
theorem fx_all (u : Nat) : ∃ p, FX u p := by
  have k0 : Ieee.double.read 0 = .number false 0 (-1074) := by decide
  have k2 : ∃ m e, Ieee.double.read K20 = .number false m e := ⟨_, _, rfl⟩
  obtain ⟨m2, e2, k2⟩ := k2
  cases hr : Ieee.double.read u with
  | number s m e =>
    have hb : m < 2 ^ 53 ∧ -1074 ≤ e := by
      unfold Ieee.Format.read at hr
      simp only at hr
      have hbn : Ieee.double.binade = 2 ^ 52 := rfl
      have hlp : Ieee.double.leastPlace = -1074 := rfl
      split at hr
      · cases hr
        rename_i h9
        rw [hbn] at h9
        exact ⟨by omega, by rw [hlp]; omega⟩
      · split at hr
        · cases hr
          rw [hbn, hlp]
          have := Nat.mod_lt (u % Ieee.double.signWeight) (show 0 < 2 ^ 52 by decide)
          exact ⟨by omega, by omega⟩
        · split at hr <;> cases hr
    obtain ⟨p, hp, _⟩ := fx_num (u := u) ⟨s, m, e, hr, hb.1, hb.2, rfl⟩
    exact ⟨p, hp⟩
  | infinity s =>
    have h0 : ordF u 0 = some (if s then .lt else .gt) := by
      show Ieee.Datum.order _ _ = _
      rw [show FloatKind.f64.format.read u = _ from hr, show FloatKind.f64.format.read 0 = _ from k0]
      rfl
    have h2 : ordF u K20 = some (if s then .lt else .gt) := by
      show Ieee.Datum.order _ _ = _
      rw [show FloatKind.f64.format.read u = _ from hr, show FloatKind.f64.format.read K20 = _ from k2]
      rfl
    have h3 : ordF u u = some .eq := by
      show Ieee.Datum.order _ _ = _
      rw [show FloatKind.f64.format.read u = _ from hr]
      cases s <;> rfl
    cases s with
    | true => exact ⟨0, .b .lt (by decide) h0 h2 h3 rfl⟩
    | false => exact ⟨1048576, .d h0 h2 h3 rfl⟩
  | nan s t =>
    have h0 : ∀ v, ordF u v = none := fun v => by
      show Ieee.Datum.order _ _ = _
      rw [show FloatKind.f64.format.read u = _ from hr]
      rfl
    exact ⟨0, .a (h0 _) (h0 _) (h0 _) rfl⟩
theorem fx_le {u p : Nat} (h : FX u p) : p ≤ 1048576 := by cases h <;> omega
set_option maxRecDepth 20000 in
theorem whole_g {u p : Nat} (h : FX u p) (w : World) : Calls Try.prog 29 #[.float .f64 u] w fun e w' => e = .returned (.int .i64 p) ∧ w = w' := by
  cases h with
  | a h1 h2 h3 h4 =>
    subst h4
    go_enter Try.func29, Try.ntmps29
    go_wp2_with fail
    all_goals first | (go_ret; exact ⟨rfl, rfl⟩) | exact ⟨rfl, rfl⟩ | skip
  | b o ho h1 h2 h3 h4 =>
    subst h4
    have h5 : (ordF u 0 == some .gt) = false := by rw [h1]; cases o <;> first | rfl | exact absurd rfl ho
    clear h1
    go_enter Try.func29, Try.ntmps29
    go_wp2_with fail
    all_goals first | (go_ret; exact ⟨rfl, rfl⟩) | exact ⟨rfl, rfl⟩ | skip
  | c o r ho h1 h2 h3 h4 h5 h6 h7 h8 =>
    have hcv : ∀ w', Sem.run Try.prog (convert 22 3 (.float .f64 u)) w' = .ok (.int .i64 p) w' := fun w' => run_convert_float_int w' _ _ _ _ _ _ (by simp [Try.underlying22]) Try.underlying3 h5
    clear h3 h4 h5 h6 h7 h8
    go_enter Try.func29, Try.ntmps29
    go_wp2_with fail
    all_goals first | (go_ret; exact ⟨rfl, rfl⟩) | exact ⟨rfl, rfl⟩ | skip
  | d h1 h2 h3 h4 =>
    subst h4
    go_enter Try.func29, Try.ntmps29
    go_wp2_with fail
    all_goals first | (go_ret; exact ⟨rfl, rfl⟩) | exact ⟨rfl, rfl⟩ | skip
  | e h1 h2 h3 h5 h4 =>
    subst h4
    have hcv : ∀ w', Sem.run Try.prog (convert 22 3 (.float .f64 u)) w' = .ok (.int .i64 1048576) w' := fun w' => run_convert_float_int w' _ _ _ _ _ _ (by simp [Try.underlying22]) Try.underlying3 h5
    clear h5
    go_enter Try.func29, Try.ntmps29
    go_wp2_with fail
    all_goals first | (go_ret; exact ⟨rfl, rfl⟩) | exact ⟨rfl, rfl⟩ | skip
theorem iter_g {u p : Nat} (h : FX u p) (v : Nat) (w : World) : Calls Try.prog 11 #[.complex .f64 u v] w fun e w' => e = .returned (.int .i64 p) ∧ w = w' := by
  have hw := Lib.hid (fun w => whole_g h w)
  clear h
  go_enter Try.func11, Try.ntmps11
  go_wp2_with fail
  refine (hw.out _).mono ?_
  rintro e w' ⟨rfl, rfl⟩
  go_wp2_with fail
  go_ret
  exact ⟨rfl, rfl⟩
theorem stage_g {v p : Nat} (h : FX v p) (u : Nat) (w : World) : Calls Try.prog 12 #[.complex .f64 u v] w fun e w' => e = .returned (.int .i64 p) ∧ w = w' := by
  have hw := Lib.hid (fun w => whole_g h w)
  clear h
  go_enter Try.func12, Try.ntmps12
  go_wp2_with fail
  refine (hw.out _).mono ?_
  rintro e w' ⟨rfl, rfl⟩
  go_wp2_with fail
  go_ret
  exact ⟨rfl, rfl⟩
theorem mirror_v (i k : Int) (w : World) : Calls Try.prog 13 #[cx i k] w fun e w' => e = .returned (cx k i) ∧ w = w' := by
  have h1 := Lib.hid (fun w => iter_v w i k)
  have h2 := Lib.hid (fun w => stage_v w i k)
  have h3 := fun w => node_v w ((hd k : Nat) : Int) ((hd i : Nat) : Int)
  have e : cx ((hd k : Nat) : Int) ((hd i : Nat) : Int) = cx k i := by
    have := hd_le i
    have := hd_le k
    have a : hd ((hd k : Nat) : Int) = hd k := by unfold hd; omega
    have b : hd ((hd i : Nat) : Int) = hd i := by unfold hd; omega
    unfold cx
    rw [a, b]
  rw [e] at h3
  have h3 := Lib.hid h3
  obtain ⟨X, hX⟩ : ∃ X, cx i k = X := ⟨_, rfl⟩
  obtain ⟨Y, hY⟩ : ∃ X, cx k i = X := ⟨_, rfl⟩
  rw [hX] at h1 h2 ⊢
  rw [hY] at h3 ⊢
  clear hX hY e
  go_enter Try.func13, Try.ntmps13
  go_wp2_with fail
  refine (h2.out _).mono ?_
  rintro e w' ⟨rfl, rfl⟩
  go_wp2_with fail
  refine (h1.out _).mono ?_
  rintro e w' ⟨rfl, rfl⟩
  go_wp2_with fail
  refine (h3.out _).mono ?_
  rintro e w' ⟨rfl, rfl⟩
  go_wp2_with fail
  go_ret
  exact ⟨rfl, rfl⟩
set_option maxRecDepth 20000 in
theorem step_v (i k : Int) (d : Bool) : ∃ r1 r2, FX r1 (min (hd i + if d then 0 else 1) 1048576) ∧ FX r2 (min (hd k + if d then 1 else 0) 1048576) ∧ ∀ w, Calls Try.prog 14 #[cx i k, .bool d] w fun e w' => e = .returned (.complex .f64 r1 r2) ∧ w = w' := by
  have hi := hd_le i
  have hk := hd_le k
  obtain ⟨r1, a1, a2⟩ := add_enc (a := hd i) (b := if d then 0 else 1) (by omega) (by split <;> omega)
  obtain ⟨r2, b1, b2⟩ := add_enc (a := hd k) (b := if d then 1 else 0) (by omega) (by split <;> omega)
  refine ⟨r1, r2, fx_whole a2, fx_whole b2, fun w => ?_⟩
  have hc : cSumBits .add .f64 (fl.enc (hd i)) (fl.enc (hd k)) (fl.enc (if d then 0 else 1)) (fl.enc (if d then 1 else 0)) = some (r1, r2) := by
    unfold cSumBits
    rw [show floatBits .add .f64 (fl.enc (hd i)) (fl.enc (if d then 0 else 1)) = _ from a1, show floatBits .add .f64 (fl.enc (hd k)) (fl.enc (if d then 1 else 0)) = _ from b1]
    rfl
  unfold cx
  obtain ⟨X, hX⟩ : ∃ X, fl.enc (hd i) = X := ⟨_, rfl⟩
  obtain ⟨Y, hY⟩ : ∃ X, fl.enc (hd k) = X := ⟨_, rfl⟩
  rw [hX, hY] at hc ⊢
  clear a1 a2 b1 b2 hX hY
  cases d with
  | true =>
    simp only [if_true] at hc
    rw [enc_0, enc_1] at hc
    have hs : ∀ w', Sem.run Try.prog (binOp .add 24 (.complex .f64 X Y) (.complex .f64 0 4607182418800017408)) w' = .ok (.complex .f64 r1 r2) w' := fun w' => run_complex_sum w' .add (.inl rfl) _ _ _ _ _ _ _ _ hc
    clear hc
    go_enter Try.func14, Try.ntmps14
    go_wp2_with fail
    go_ret
    exact ⟨rfl, rfl⟩
  | false =>
    simp only [Bool.false_eq_true, if_false] at hc
    rw [enc_0, enc_1] at hc
    have hs : ∀ w', Sem.run Try.prog (binOp .add 24 (.complex .f64 X Y) (.complex .f64 4607182418800017408 0)) w' = .ok (.complex .f64 r1 r2) w' := fun w' => run_complex_sum w' .add (.inl rfl) _ _ _ _ _ _ _ _ hc
    clear hc
    go_enter Try.func14, Try.ntmps14
    go_wp2_with fail
    go_ret
    exact ⟨rfl, rfl⟩
end Go.Proofs.Ytagcgffofddcnaa.gr
