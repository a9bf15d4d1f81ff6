/- The contracts of the functions of layer 22 (sink) on lists, and of the reference. -/
import Derived.Test.YtpcpohbbmeonbabView
namespace Go.Proofs.Ytpcpohbbmeonbab
open Go.ChangeShapes Go.WideShapes Go.ChangeAt Go.RowKit
set_option linter.unusedVariables false

def preB (xs ys : List Int) : Bool := decide (xs.length ≤ ys.length) && (xs == ys.take xs.length)
def DifAt (xs ys : List Int) (k : Nat) : Prop :=
  k ≤ xs.length ∧ k ≤ ys.length ∧ (∀ i, i < k → xs.getD i 0 = ys.getD i 0) ∧ (k = xs.length → k < ys.length) ∧ (k = ys.length → k < xs.length) ∧ (k < xs.length → k < ys.length → xs.getD k 0 ≠ ys.getD k 0)

set_option maxHeartbeats 400000 in
theorem begins_any (va vb : Value) (xs ys : List Int) (w : World) (hA : View w va xs) (hB : View w vb ys) :
    Calls Try.prog 24 #[va, vb] w fun e w' => e = .returned (.bool (preB xs ys)) ∧ ∃ n, w' = w.drewN n := by
  unfold preB
  by_cases hl : xs.length ≤ ys.length
  · have e : decide (xs.length ≤ ys.length) = true := decide_eq_true hl
    rw [e, Bool.true_and]
    have hA' := hA
    obtain ⟨a1, c1, rfl, hm1, hn1, hc1⟩ := hA
    obtain ⟨a2, c2, rfl, hm2, hn2, hc2⟩ := hB
    have hT : View w (.slice a2 xs.length c2) (ys.take xs.length) := by
      have hlen : (ys.take xs.length).length = xs.length := by rw [List.length_take]; omega
      refine ⟨a2, c2, by rw [hlen], ⟨by rw [hlen]; omega, hm2.2⟩, fun h => ⟨by rw [hlen]; have := (hn2 h).1; omega, (hn2 h).2⟩, fun hne => ?_⟩
      have hy : ys ≠ [] := by intro h; rw [h] at hne; simp at hne
      obtain ⟨b, off, rfl, hlt, hle, hc⟩ := hc2 hy
      refine ⟨b, off, rfl, hlt, by rw [hlen]; omega, fun i hi => ?_⟩
      rw [hlen] at hi
      rw [hc i (by omega)]
      simp [List.getElem?_take_of_lt hi]
    have hcap : xs.length ≤ c2 := by omega
    have hcm : c2 ≤ 9223372036854775807 := by have := hm2.2; unfold maxLen at this; omega
    have hlm : xs.length ≤ 9223372036854775807 := by omega
    clear hc1 hn1 hn2 hc2 hm1 hm2
    clear e
    generalize ys.length = n2 at *
    go_enter Try.func24, Try.ntmps24
    go_wp2_with fail
    refine (equal_any _ _ xs (ys.take xs.length) _ hA' hT).mono ?_
    rintro e w' ⟨rfl, n, rfl⟩
    go_wp2_with fail
    go_ret
    exact ⟨rfl, n, rfl⟩
  · have e : decide (xs.length ≤ ys.length) = false := decide_eq_false hl
    have e2 : decide ((xs.length : Int) ≤ (ys.length : Int)) = false := decide_eq_false (by omega)
    rw [e, Bool.false_and]
    obtain ⟨a1, c1, rfl, _, _, _⟩ := hA
    obtain ⟨a2, c2, rfl, _, _, _⟩ := hB
    clear e
    go_enter Try.func24, Try.ntmps24
    go_wp2
    go_ret
    exact ⟨rfl, 0, rfl⟩

theorem dif_or (xs ys : List Int) : xs = ys ∨ ∃ k, DifAt xs ys k := by
  induction xs generalizing ys with
  | nil =>
    cases ys with
    | nil => exact .inl rfl
    | cons y ys => exact .inr ⟨0, by simp [DifAt]⟩
  | cons x xs ih =>
    cases ys with
    | nil => exact .inr ⟨0, by simp [DifAt]⟩
    | cons y ys =>
      by_cases h : x = y
      · subst h
        rcases ih ys with rfl | ⟨k, h1, h2, h3, h4, h5, h6⟩
        · exact .inl rfl
        · refine .inr ⟨k + 1, by simp; omega, by simp; omega, ?_, by simp; omega, by simp; omega, ?_⟩
          · intro i hi
            cases i with
            | zero => rfl
            | succ i => simpa using h3 i (by omega)
          · intro a b
            simpa using h6 (by simpa using a) (by simpa using b)
      · exact .inr ⟨0, by simp [DifAt, h]⟩

/- The search of sink.Differ: to place k. -/

set_option maxHeartbeats 400000 in
theorem differ_lt (b1 o1 n1 c1 b2 o2 n2 c2 : Nat) (xs ys : List Int) (k : Nat) (w : World) (ho : n1 < n2) (hm1 : n1 ≤ 9223372036854775807) (hm2 : n2 ≤ 9223372036854775807)
    (hk1 : k ≤ n1) (hall : Hid (∀ i, i < k → xs.getD i 0 = ys.getD i 0)) (hat : Hid (k < n1 → xs.getD k 0 ≠ ys.getD k 0))
    (HC1 : Hid (∀ i, i < n1 → w.cell? ⟨b1, o1 + i, none⟩ = some (.int .i64 (xs.getD i 0)))) (HC2 : Hid (∀ i, i < n2 → w.cell? ⟨b2, o2 + i, none⟩ = some (.int .i64 (ys.getD i 0))))  :
    Calls Try.prog 25 #[.slice (some ⟨b1, o1, none⟩) n1 c1, .slice (some ⟨b2, o2, none⟩) n2 c2] w fun e w' => e = .returned (.tuple #[.int .i64 k, .bool true]) ∧ ∃ n, w' = w.drewN n := by
  go_enter Try.func25, Try.ntmps25
  go_wp2
  go_loopw [14] (fun i wr => ∃ j n : Nat, j ≤ k ∧ i = .int .i64 j ∧ wr = w.drewN n) (fun i _ => k + 1 - (intOf i).toNat)
  case atStart => exact ⟨0, 0, Nat.zero_le _, rfl, rfl⟩
  case round =>
    obtain ⟨j, n, hj, rfl, rfl⟩ := hrel
    by_cases hlt : j < n1
    · have h1 := HC1.out j (by omega)
      have h2 := HC2.out j (by omega)
      by_cases hjk : j < k
      · have hx := hall.out j hjk
        rw [hx] at h1
        clear hx
        generalize ys.getD j 0 = x at h1 h2
        go_wp2_with fail
        go_quiet (fail)
        go_wp2_with fail
        go_roundw
        case rel => exact ⟨j + 1, _, by omega, by go_num, by first | rfl | (simp; rfl)⟩
        case measure => simp [intOf]; omega
      · have hjk' : j = k := by omega
        have hx := hat.out (by omega)
        rw [← hjk'] at hx
        generalize xs.getD j 0 = x at h1 hx
        generalize ys.getD j 0 = y at h2 hx
        have hb : (x != y) = true := by simpa using hx
        have HJ := Lib.hid hjk'
        clear hjk' hx
        go_wp2_with fail
        go_quiet (fail)
        go_wp2_with fail
        go_ret2
        exact ⟨by rw [← HJ.out]; rfl, _, by first | rfl | (simp; rfl)⟩
    · have hjk' : j = n1 := by omega
      have hkk : k = j := by omega
      
      have hne : ((n1 : Int) != (n2 : Int)) = true := by simp; omega
      have HJ := Lib.hid hkk
      have HB := Lib.hid hjk'
      clear hjk' hkk
      go_wp2_with fail
      go_ret2
      exact ⟨by rw [HJ.out, HB.out]; rfl, _, rfl⟩

set_option maxHeartbeats 400000 in
theorem differ_eq (b1 o1 n1 c1 b2 o2 c2 : Nat) (xs ys : List Int) (k : Nat) (w : World)  (hm1 : n1 ≤ 9223372036854775807) (hm2 : n1 ≤ 9223372036854775807)
    (hk1 : k ≤ n1) (hall : Hid (∀ i, i < k → xs.getD i 0 = ys.getD i 0)) (hat : Hid (k < n1 → xs.getD k 0 ≠ ys.getD k 0))
    (HC1 : Hid (∀ i, i < n1 → w.cell? ⟨b1, o1 + i, none⟩ = some (.int .i64 (xs.getD i 0)))) (HC2 : Hid (∀ i, i < n1 → w.cell? ⟨b2, o2 + i, none⟩ = some (.int .i64 (ys.getD i 0)))) (hend : k < n1) :
    Calls Try.prog 25 #[.slice (some ⟨b1, o1, none⟩) n1 c1, .slice (some ⟨b2, o2, none⟩) n1 c2] w fun e w' => e = .returned (.tuple #[.int .i64 k, .bool true]) ∧ ∃ n, w' = w.drewN n := by
  go_enter Try.func25, Try.ntmps25
  go_wp2
  go_loopw [14] (fun i wr => ∃ j n : Nat, j ≤ k ∧ i = .int .i64 j ∧ wr = w.drewN n) (fun i _ => k + 1 - (intOf i).toNat)
  case atStart => exact ⟨0, 0, Nat.zero_le _, rfl, rfl⟩
  case round =>
    obtain ⟨j, n, hj, rfl, rfl⟩ := hrel
    by_cases hlt : j < n1
    · have h1 := HC1.out j (by omega)
      have h2 := HC2.out j (by omega)
      by_cases hjk : j < k
      · have hx := hall.out j hjk
        rw [hx] at h1
        clear hx
        generalize ys.getD j 0 = x at h1 h2
        go_wp2_with fail
        go_quiet (fail)
        go_wp2_with fail
        go_roundw
        case rel => exact ⟨j + 1, _, by omega, by go_num, by first | rfl | (simp; rfl)⟩
        case measure => simp [intOf]; omega
      · have hjk' : j = k := by omega
        have hx := hat.out (by omega)
        rw [← hjk'] at hx
        generalize xs.getD j 0 = x at h1 hx
        generalize ys.getD j 0 = y at h2 hx
        have hb : (x != y) = true := by simpa using hx
        have HJ := Lib.hid hjk'
        clear hjk' hx
        go_wp2_with fail
        go_quiet (fail)
        go_wp2_with fail
        go_ret2
        exact ⟨by rw [← HJ.out]; rfl, _, by first | rfl | (simp; rfl)⟩
    · have hjk' : j = n1 := by omega
      have hkk : k = j := by omega
      exfalso; omega

set_option maxHeartbeats 400000 in
theorem differ_gt (b1 o1 n1 c1 b2 o2 n2 c2 : Nat) (xs ys : List Int) (k : Nat) (w : World) (ho : n2 < n1) (hm1 : n1 ≤ 9223372036854775807) (hm2 : n2 ≤ 9223372036854775807)
    (hk1 : k ≤ n2) (hall : Hid (∀ i, i < k → xs.getD i 0 = ys.getD i 0)) (hat : Hid (k < n2 → xs.getD k 0 ≠ ys.getD k 0))
    (HC1 : Hid (∀ i, i < n1 → w.cell? ⟨b1, o1 + i, none⟩ = some (.int .i64 (xs.getD i 0)))) (HC2 : Hid (∀ i, i < n2 → w.cell? ⟨b2, o2 + i, none⟩ = some (.int .i64 (ys.getD i 0))))  :
    Calls Try.prog 25 #[.slice (some ⟨b1, o1, none⟩) n1 c1, .slice (some ⟨b2, o2, none⟩) n2 c2] w fun e w' => e = .returned (.tuple #[.int .i64 k, .bool true]) ∧ ∃ n, w' = w.drewN n := by
  go_enter Try.func25, Try.ntmps25
  go_wp2
  go_loopw [14] (fun i wr => ∃ j n : Nat, j ≤ k ∧ i = .int .i64 j ∧ wr = w.drewN n) (fun i _ => k + 1 - (intOf i).toNat)
  case atStart => exact ⟨0, 0, Nat.zero_le _, rfl, rfl⟩
  case round =>
    obtain ⟨j, n, hj, rfl, rfl⟩ := hrel
    by_cases hlt : j < n2
    · have h1 := HC1.out j (by omega)
      have h2 := HC2.out j (by omega)
      by_cases hjk : j < k
      · have hx := hall.out j hjk
        rw [hx] at h1
        clear hx
        generalize ys.getD j 0 = x at h1 h2
        go_wp2_with fail
        go_quiet (fail)
        go_wp2_with fail
        go_roundw
        case rel => exact ⟨j + 1, _, by omega, by go_num, by first | rfl | (simp; rfl)⟩
        case measure => simp [intOf]; omega
      · have hjk' : j = k := by omega
        have hx := hat.out (by omega)
        rw [← hjk'] at hx
        generalize xs.getD j 0 = x at h1 hx
        generalize ys.getD j 0 = y at h2 hx
        have hb : (x != y) = true := by simpa using hx
        have HJ := Lib.hid hjk'
        clear hjk' hx
        go_wp2_with fail
        go_quiet (fail)
        go_wp2_with fail
        go_ret2
        exact ⟨by rw [← HJ.out]; rfl, _, by first | rfl | (simp; rfl)⟩
    · have hjk' : j = n2 := by omega
      have hkk : k = j := by omega
      
      have hne : ((n1 : Int) != (n2 : Int)) = true := by simp; omega
      have HJ := Lib.hid hkk
      have HB := Lib.hid hjk'
      clear hjk' hkk
      go_wp2_with fail
      go_ret2
      exact ⟨by rw [HJ.out, HB.out]; rfl, _, rfl⟩

set_option maxHeartbeats 400000 in
theorem differ_same (b1 o1 n1 c1 b2 o2 c2 : Nat) (xs : List Int) (w : World) (hm1 : n1 ≤ 9223372036854775807)
    (HC1 : Hid (∀ i, i < n1 → w.cell? ⟨b1, o1 + i, none⟩ = some (.int .i64 (xs.getD i 0)))) (HC2 : Hid (∀ i, i < n1 → w.cell? ⟨b2, o2 + i, none⟩ = some (.int .i64 (xs.getD i 0)))) :
    Calls Try.prog 25 #[.slice (some ⟨b1, o1, none⟩) n1 c1, .slice (some ⟨b2, o2, none⟩) n1 c2] w fun e w' => e = .returned (.tuple #[.int .i64 0, .bool false]) ∧ ∃ n, w' = w.drewN n := by
  go_enter Try.func25, Try.ntmps25
  go_wp2
  go_loopw [14] (fun i wr => ∃ j n : Nat, j ≤ n1 ∧ i = .int .i64 j ∧ wr = w.drewN n) (fun i _ => n1 - (intOf i).toNat)
  case atStart => exact ⟨0, 0, Nat.zero_le _, rfl, rfl⟩
  case round =>
    obtain ⟨j, n, hj, rfl, rfl⟩ := hrel
    by_cases hlt : j < n1
    · have h1 := HC1.out j (by omega)
      have h2 := HC2.out j (by omega)
      generalize xs.getD j 0 = x at h1 h2
      have d1 : decide ((n1 : Int) ≤ (j : Int)) = false := decide_eq_false (by omega)
      have d2 : decide (n1 ≤ j) = false := decide_eq_false (by omega)
      go_wp2_with fail
      go_quiet (fail)
      go_wp2_with fail
      go_roundw
      case rel => exact ⟨j + 1, _, by omega, by go_num, by first | rfl | (simp; rfl)⟩
      case measure => simp [intOf]; omega
    · go_wp2_with fail
      go_ret2
      exact ⟨rfl, _, rfl⟩

set_option maxHeartbeats 400000 in
theorem rdiffer_same (b1 o1 n1 c1 b2 o2 c2 : Nat) (xs : List Int) (w : World) (hm1 : n1 ≤ 9223372036854775807)
    (HC1 : Hid (∀ i, i < n1 → w.cell? ⟨b1, o1 + i, none⟩ = some (.int .i64 (xs.getD i 0)))) (HC2 : Hid (∀ i, i < n1 → w.cell? ⟨b2, o2 + i, none⟩ = some (.int .i64 (xs.getD i 0)))) :
    Calls Try.prog 26 #[.slice (some ⟨b1, o1, none⟩) n1 c1, .slice (some ⟨b2, o2, none⟩) n1 c2] w fun e w' => e = .returned (.tuple #[.int .i64 0, .bool false]) ∧ ∃ n, w' = w.drewN n := by
  go_enter Try.func26, Try.ntmps26
  go_wp2
  go_loopw [6] (fun i wr => ∃ j n : Nat, j ≤ n1 ∧ i = .int .i64 j ∧ wr = w.drewN n) (fun i _ => n1 - (intOf i).toNat)
  case atStart => exact ⟨0, 0, Nat.zero_le _, rfl, rfl⟩
  case round =>
    obtain ⟨j, n, hj, rfl, rfl⟩ := hrel
    by_cases hlt : j < n1
    · have h1 := HC1.out j (by omega)
      have h2 := HC2.out j (by omega)
      generalize xs.getD j 0 = x at h1 h2
      have d1 : decide ((n1 : Int) ≤ (j : Int)) = false := decide_eq_false (by omega)
      have d2 : decide (n1 ≤ j) = false := decide_eq_false (by omega)
      go_wp2_with fail
      go_quiet (fail)
      go_wp2_with fail
      go_roundw
      case rel => exact ⟨j + 1, _, by omega, by go_num, by first | rfl | (simp; rfl)⟩
      case measure => simp [intOf]; omega
    · go_wp2_with fail
      go_ret2
      exact ⟨rfl, _, rfl⟩

set_option maxHeartbeats 400000 in
theorem rdiffer_a (b1 o1 n1 c1 b2 o2 n2 c2 : Nat) (xs ys : List Int) (k : Nat) (w : World) (hm1 : n1 ≤ 9223372036854775807) (hm2 : n2 ≤ 9223372036854775807)
    (hk1 : k = n1) (hk2 : k < n2) (hall : Hid (∀ i, i < k → xs.getD i 0 = ys.getD i 0))
    (HC1 : Hid (∀ i, i < n1 → w.cell? ⟨b1, o1 + i, none⟩ = some (.int .i64 (xs.getD i 0)))) (HC2 : Hid (∀ i, i < n2 → w.cell? ⟨b2, o2 + i, none⟩ = some (.int .i64 (ys.getD i 0)))) :
    Calls Try.prog 26 #[.slice (some ⟨b1, o1, none⟩) n1 c1, .slice (some ⟨b2, o2, none⟩) n2 c2] w fun e w' => e = .returned (.tuple #[.int .i64 k, .bool true]) ∧ ∃ n, w' = w.drewN n := by
  have HK1 := Lib.hid hk1
  have HK2 := Lib.hid hk2
  clear hk1 hk2
  go_enter Try.func26, Try.ntmps26
  go_wp2
  go_loopw [6] (fun i wr => ∃ j n : Nat, j ≤ k ∧ i = .int .i64 j ∧ wr = w.drewN n) (fun i _ => k + 1 - (intOf i).toNat)
  case atStart => exact ⟨0, 0, Nat.zero_le _, rfl, rfl⟩
  case round =>
    obtain ⟨j, n, hj, rfl, rfl⟩ := hrel
    by_cases hjk : j < k
    · have hk1 := HK1.out
      have hk2 := HK2.out
      have hn1 : j < n1 := by omega
      have hn2 : j < n2 := by omega
      clear hk1 hk2
      have h1 := HC1.out j (by omega)
      have h2 := HC2.out j (by omega)
      have hx := hall.out j hjk
      rw [hx] at h1
      clear hx
      generalize ys.getD j 0 = x at h1 h2
      have d1 : decide ((n1 : Int) ≤ (j : Int)) = false := decide_eq_false (by omega)
      have d2 : decide (n1 ≤ j) = false := decide_eq_false (by omega)
      have d3 : decide ((n2 : Int) ≤ (j : Int)) = false := decide_eq_false (by omega)
      have d4 : decide (n2 ≤ j) = false := decide_eq_false (by omega)
      go_wp2_with fail
      go_quiet (fail)
      go_wp2_with fail
      go_roundw
      case rel => exact ⟨j + 1, _, by omega, by go_num, by first | rfl | (simp; rfl)⟩
      case measure => simp [intOf]; omega
    · have hjk' : j = k := by omega
      have hk1 := HK1.out
      have hk2 := HK2.out
      · skip
        have d1 : decide ((n1 : Int) ≤ (j : Int)) = true := decide_eq_true (by omega)
        have d2 : decide (n1 ≤ j) = true := decide_eq_true (by omega)
        have d3 : decide (j < n1) = false := decide_eq_false (by omega)
        have d4 : decide (j < n2) = true := decide_eq_true (by omega)
        have hn1 : ¬ j < n1 := by omega
        have hn2 : j < n2 := by omega
        have HJ := Lib.hid hjk'
        clear hjk' hk1 hk2
        go_wp2_with fail
        go_quiet (fail)
        go_wp2_with fail
        go_ret2
        exact ⟨by rw [← HJ.out]; rfl, _, by first | rfl | (simp; rfl)⟩

set_option maxHeartbeats 400000 in
theorem rdiffer_b (b1 o1 n1 c1 b2 o2 n2 c2 : Nat) (xs ys : List Int) (k : Nat) (w : World) (hm1 : n1 ≤ 9223372036854775807) (hm2 : n2 ≤ 9223372036854775807)
    (hk1 : k < n1) (hk2 : k = n2) (hall : Hid (∀ i, i < k → xs.getD i 0 = ys.getD i 0))
    (HC1 : Hid (∀ i, i < n1 → w.cell? ⟨b1, o1 + i, none⟩ = some (.int .i64 (xs.getD i 0)))) (HC2 : Hid (∀ i, i < n2 → w.cell? ⟨b2, o2 + i, none⟩ = some (.int .i64 (ys.getD i 0)))) :
    Calls Try.prog 26 #[.slice (some ⟨b1, o1, none⟩) n1 c1, .slice (some ⟨b2, o2, none⟩) n2 c2] w fun e w' => e = .returned (.tuple #[.int .i64 k, .bool true]) ∧ ∃ n, w' = w.drewN n := by
  have HK1 := Lib.hid hk1
  have HK2 := Lib.hid hk2
  clear hk1 hk2
  go_enter Try.func26, Try.ntmps26
  go_wp2
  go_loopw [6] (fun i wr => ∃ j n : Nat, j ≤ k ∧ i = .int .i64 j ∧ wr = w.drewN n) (fun i _ => k + 1 - (intOf i).toNat)
  case atStart => exact ⟨0, 0, Nat.zero_le _, rfl, rfl⟩
  case round =>
    obtain ⟨j, n, hj, rfl, rfl⟩ := hrel
    by_cases hjk : j < k
    · have hk1 := HK1.out
      have hk2 := HK2.out
      have hn1 : j < n1 := by omega
      have hn2 : j < n2 := by omega
      clear hk1 hk2
      have h1 := HC1.out j (by omega)
      have h2 := HC2.out j (by omega)
      have hx := hall.out j hjk
      rw [hx] at h1
      clear hx
      generalize ys.getD j 0 = x at h1 h2
      have d1 : decide ((n1 : Int) ≤ (j : Int)) = false := decide_eq_false (by omega)
      have d2 : decide (n1 ≤ j) = false := decide_eq_false (by omega)
      have d3 : decide ((n2 : Int) ≤ (j : Int)) = false := decide_eq_false (by omega)
      have d4 : decide (n2 ≤ j) = false := decide_eq_false (by omega)
      go_wp2_with fail
      go_quiet (fail)
      go_wp2_with fail
      go_roundw
      case rel => exact ⟨j + 1, _, by omega, by go_num, by first | rfl | (simp; rfl)⟩
      case measure => simp [intOf]; omega
    · have hjk' : j = k := by omega
      have hk1 := HK1.out
      have hk2 := HK2.out
      · skip
        have d1 : decide ((n1 : Int) ≤ (j : Int)) = false := decide_eq_false (by omega)
        have d2 : decide (n1 ≤ j) = false := decide_eq_false (by omega)
        have d3 : decide ((n2 : Int) ≤ (j : Int)) = true := decide_eq_true (by omega)
        have d4 : decide (n2 ≤ j) = true := decide_eq_true (by omega)
        have hn1 : j < n1 := by omega
        have HJ := Lib.hid hjk'
        clear hjk' hk1 hk2
        go_wp2_with fail
        go_quiet (fail)
        go_wp2_with fail
        go_ret2
        exact ⟨by rw [← HJ.out]; rfl, _, by first | rfl | (simp; rfl)⟩

set_option maxHeartbeats 400000 in
theorem rdiffer_d (b1 o1 n1 c1 b2 o2 n2 c2 : Nat) (xs ys : List Int) (k : Nat) (w : World) (hm1 : n1 ≤ 9223372036854775807) (hm2 : n2 ≤ 9223372036854775807)
    (hk1 : k < n1) (hk2 : k < n2) (hat : Hid (xs.getD k 0 ≠ ys.getD k 0)) (hall : Hid (∀ i, i < k → xs.getD i 0 = ys.getD i 0))
    (HC1 : Hid (∀ i, i < n1 → w.cell? ⟨b1, o1 + i, none⟩ = some (.int .i64 (xs.getD i 0)))) (HC2 : Hid (∀ i, i < n2 → w.cell? ⟨b2, o2 + i, none⟩ = some (.int .i64 (ys.getD i 0)))) :
    Calls Try.prog 26 #[.slice (some ⟨b1, o1, none⟩) n1 c1, .slice (some ⟨b2, o2, none⟩) n2 c2] w fun e w' => e = .returned (.tuple #[.int .i64 k, .bool true]) ∧ ∃ n, w' = w.drewN n := by
  have HK1 := Lib.hid hk1
  have HK2 := Lib.hid hk2
  clear hk1 hk2
  go_enter Try.func26, Try.ntmps26
  go_wp2
  go_loopw [6] (fun i wr => ∃ j n : Nat, j ≤ k ∧ i = .int .i64 j ∧ wr = w.drewN n) (fun i _ => k + 1 - (intOf i).toNat)
  case atStart => exact ⟨0, 0, Nat.zero_le _, rfl, rfl⟩
  case round =>
    obtain ⟨j, n, hj, rfl, rfl⟩ := hrel
    by_cases hjk : j < k
    · have hk1 := HK1.out
      have hk2 := HK2.out
      have hn1 : j < n1 := by omega
      have hn2 : j < n2 := by omega
      clear hk1 hk2
      have h1 := HC1.out j (by omega)
      have h2 := HC2.out j (by omega)
      have hx := hall.out j hjk
      rw [hx] at h1
      clear hx
      generalize ys.getD j 0 = x at h1 h2
      have d1 : decide ((n1 : Int) ≤ (j : Int)) = false := decide_eq_false (by omega)
      have d2 : decide (n1 ≤ j) = false := decide_eq_false (by omega)
      have d3 : decide ((n2 : Int) ≤ (j : Int)) = false := decide_eq_false (by omega)
      have d4 : decide (n2 ≤ j) = false := decide_eq_false (by omega)
      go_wp2_with fail
      go_quiet (fail)
      go_wp2_with fail
      go_roundw
      case rel => exact ⟨j + 1, _, by omega, by go_num, by first | rfl | (simp; rfl)⟩
      case measure => simp [intOf]; omega
    · have hjk' : j = k := by omega
      have hk1 := HK1.out
      have hk2 := HK2.out
      · skip
        have d1 : decide ((n1 : Int) ≤ (j : Int)) = false := decide_eq_false (by omega)
        have d2 : decide (n1 ≤ j) = false := decide_eq_false (by omega)
        have d3 : decide ((n2 : Int) ≤ (j : Int)) = false := decide_eq_false (by omega)
        have d4 : decide (n2 ≤ j) = false := decide_eq_false (by omega)
        have hn1 : j < n1 := by omega
        have hn2 : j < n2 := by omega
        have h1 := HC1.out j (by omega)
        have h2 := HC2.out j (by omega)
        have hx := hat.out
        rw [← hjk'] at hx
        generalize xs.getD j 0 = x at h1 hx
        generalize ys.getD j 0 = y at h2 hx
        have hb : (x != y) = true := by simpa using hx
        clear hx
        have HJ := Lib.hid hjk'
        clear hjk' hk1 hk2
        go_wp2_with fail
        go_quiet (fail)
        go_wp2_with fail
        go_ret2
        exact ⟨by rw [← HJ.out]; rfl, _, by first | rfl | (simp; rfl)⟩

theorem differ_00 (a1 a2 : Option Addr) (c1 c2 : Nat) (w : World) :
    Calls Try.prog 25 #[.slice a1 0 c1, .slice a2 0 c2] w fun e w' => e = .returned (.tuple #[.int .i64 0, .bool false]) ∧ ∃ n, w' = w.drewN n := by
  go_enter Try.func25, Try.ntmps25
  go_wp2
  refine wp_loop_rounds 1 ?_
  rw [rounds_succ]
  go_wp2_with fail
  all_goals first
    | (go_ret2; exact ⟨rfl, 0, rfl⟩)
    | (go_ret; exact ⟨rfl, 0, rfl⟩)

theorem differ_0n (a1 a2 : Option Addr) (n c1 c2 : Nat) (w : World) (h0 : 0 < n) (hm : n ≤ 9223372036854775807) :
    Calls Try.prog 25 #[.slice a1 0 c1, .slice a2 n c2] w fun e w' => e = .returned (.tuple #[.int .i64 0, .bool true]) ∧ ∃ n, w' = w.drewN n := by
  go_enter Try.func25, Try.ntmps25
  go_wp2
  refine wp_loop_rounds 2 ?_
  rw [rounds_succ]
  go_wp2_with fail
  all_goals first
    | (go_ret2; exact ⟨rfl, 0, rfl⟩)
    | (go_ret; exact ⟨rfl, 0, rfl⟩)
    | (have d1 : decide ((n : Int) ≤ 0) = false := decide_eq_false (by omega)
       have d2 : decide (n ≤ 0) = false := decide_eq_false (by omega)
       have d3 : decide (n = 0) = false := decide_eq_false (by omega)
       go_quiet (fail)
       go_wp2_with fail
       first
         | (go_ret2; exact ⟨rfl, _, rfl⟩)
         | (go_ret; exact ⟨rfl, _, rfl⟩))

theorem differ_n0 (a1 a2 : Option Addr) (n c1 c2 : Nat) (w : World) (h0 : 0 < n) (hm : n ≤ 9223372036854775807) :
    Calls Try.prog 25 #[.slice a1 n c1, .slice a2 0 c2] w fun e w' => e = .returned (.tuple #[.int .i64 0, .bool true]) ∧ ∃ n, w' = w.drewN n := by
  go_enter Try.func25, Try.ntmps25
  go_wp2
  refine wp_loop_rounds 2 ?_
  rw [rounds_succ]
  go_wp2_with fail
  all_goals first
    | (go_ret2; exact ⟨rfl, 0, rfl⟩)
    | (go_ret; exact ⟨rfl, 0, rfl⟩)
    | (have d1 : decide ((n : Int) ≤ 0) = false := decide_eq_false (by omega)
       have d2 : decide (n ≤ 0) = false := decide_eq_false (by omega)
       have d3 : decide (n = 0) = false := decide_eq_false (by omega)
       go_quiet (fail)
       go_wp2_with fail
       first
         | (go_ret2; exact ⟨rfl, _, rfl⟩)
         | (go_ret; exact ⟨rfl, _, rfl⟩))

theorem rdiffer_00 (a1 a2 : Option Addr) (c1 c2 : Nat) (w : World) :
    Calls Try.prog 26 #[.slice a1 0 c1, .slice a2 0 c2] w fun e w' => e = .returned (.tuple #[.int .i64 0, .bool false]) ∧ ∃ n, w' = w.drewN n := by
  go_enter Try.func26, Try.ntmps26
  go_wp2
  refine wp_loop_rounds 1 ?_
  rw [rounds_succ]
  go_wp2_with fail
  all_goals first
    | (go_ret2; exact ⟨rfl, 0, rfl⟩)
    | (go_ret; exact ⟨rfl, 0, rfl⟩)

theorem rdiffer_0n (a1 a2 : Option Addr) (n c1 c2 : Nat) (w : World) (h0 : 0 < n) (hm : n ≤ 9223372036854775807) :
    Calls Try.prog 26 #[.slice a1 0 c1, .slice a2 n c2] w fun e w' => e = .returned (.tuple #[.int .i64 0, .bool true]) ∧ ∃ n, w' = w.drewN n := by
  go_enter Try.func26, Try.ntmps26
  go_wp2
  refine wp_loop_rounds 2 ?_
  rw [rounds_succ]
  go_wp2_with fail
  all_goals first
    | (go_ret2; exact ⟨rfl, 0, rfl⟩)
    | (go_ret; exact ⟨rfl, 0, rfl⟩)
    | (have d1 : decide ((n : Int) ≤ 0) = false := decide_eq_false (by omega)
       have d2 : decide (n ≤ 0) = false := decide_eq_false (by omega)
       have d3 : decide (n = 0) = false := decide_eq_false (by omega)
       go_quiet (fail)
       go_wp2_with fail
       first
         | (go_ret2; exact ⟨rfl, _, rfl⟩)
         | (go_ret; exact ⟨rfl, _, rfl⟩))

theorem rdiffer_n0 (a1 a2 : Option Addr) (n c1 c2 : Nat) (w : World) (h0 : 0 < n) (hm : n ≤ 9223372036854775807) :
    Calls Try.prog 26 #[.slice a1 n c1, .slice a2 0 c2] w fun e w' => e = .returned (.tuple #[.int .i64 0, .bool true]) ∧ ∃ n, w' = w.drewN n := by
  go_enter Try.func26, Try.ntmps26
  go_wp2
  refine wp_loop_rounds 2 ?_
  rw [rounds_succ]
  go_wp2_with fail
  all_goals first
    | (go_ret2; exact ⟨rfl, 0, rfl⟩)
    | (go_ret; exact ⟨rfl, 0, rfl⟩)
    | (have d1 : decide ((n : Int) ≤ 0) = false := decide_eq_false (by omega)
       have d2 : decide (n ≤ 0) = false := decide_eq_false (by omega)
       have d3 : decide (n = 0) = false := decide_eq_false (by omega)
       go_quiet (fail)
       go_wp2_with fail
       first
         | (go_ret2; exact ⟨rfl, _, rfl⟩)
         | (go_ret; exact ⟨rfl, _, rfl⟩))

theorem differ_at (va vb : Value) (xs ys : List Int) (k : Nat) (w : World) (hA : View w va xs) (hB : View w vb ys) (hd : DifAt xs ys k) :
    Calls Try.prog 25 #[va, vb] w fun e w' => e = .returned (.tuple #[.int .i64 k, .bool true]) ∧ ∃ n, w' = w.drewN n := by
  obtain ⟨h1, h2, h3, h4, h5, h6⟩ := hd
  rcases hA.cases with ⟨rfl, a1, c1, rfl, _, m1⟩ | ⟨hne, b1, o1, c1, rfl, hle1, hlt1, hm1, hc1⟩
  · obtain rfl : k = 0 := by simpa using h1
    have hp : 0 < ys.length := h4 rfl
    obtain ⟨a2, c2, rfl, hm2, _, _⟩ := hB
    have hm := hm2.2
    unfold maxLen at hm
    exact differ_0n a1 a2 ys.length c1 c2 w hp (by omega)
  · rcases hB.cases with ⟨rfl, a2, c2, rfl, _, m2⟩ | ⟨hne2, b2, o2, c2, rfl, hle2, hlt2, hm2, hc2⟩
    · obtain rfl : k = 0 := by simpa using h2
      have hp : 0 < xs.length := h5 rfl
      unfold maxLen at hm1
      exact differ_n0 _ a2 xs.length c1 c2 w hp (by omega)
    · unfold maxLen at hm1 hm2
      · skip
        rcases Nat.lt_trichotomy xs.length ys.length with ho | ho | ho
        · exact differ_lt b1 o1 _ c1 b2 o2 _ c2 xs ys k w ho (by omega) (by omega) (by omega) h3 (fun h => h6 (by omega) (by omega)) hc1 hc2
        · have e : ys.length = xs.length := ho.symm
          rw [e] at hc2 ⊢
          exact differ_eq b1 o1 _ c1 b2 o2 c2 xs ys k w (by omega) (by omega) (by omega) h3 (fun h => h6 (by omega) (by omega)) hc1 hc2 (by omega)
        · exact differ_gt b1 o1 _ c1 b2 o2 _ c2 xs ys k w ho (by omega) (by omega) (by omega) h3 (fun h => h6 (by omega) (by omega)) hc1 hc2

theorem differ_no (va vb : Value) (xs : List Int) (w : World) (hA : View w va xs) (hB : View w vb xs) :
    Calls Try.prog 25 #[va, vb] w fun e w' => e = .returned (.tuple #[.int .i64 0, .bool false]) ∧ ∃ n, w' = w.drewN n := by
  rcases hA.cases with ⟨rfl, a1, c1, rfl, _, m1⟩ | ⟨hne, b1, o1, c1, rfl, hle1, hlt1, hm1, hc1⟩
  · obtain ⟨a2, c2, rfl, hm2, _, _⟩ := hB
    exact differ_00 a1 a2 c1 c2 w
  · rcases hB.cases with ⟨rfl, _⟩ | ⟨hne2, b2, o2, c2, rfl, hle2, hlt2, hm2, hc2⟩
    · exact absurd rfl hne
    · unfold maxLen at hm1
      exact differ_same b1 o1 _ c1 b2 o2 c2 xs w (by omega) hc1 hc2

theorem rdiffer_at (va vb : Value) (xs ys : List Int) (k : Nat) (w : World) (hA : View w va xs) (hB : View w vb ys) (hd : DifAt xs ys k) :
    Calls Try.prog 26 #[va, vb] w fun e w' => e = .returned (.tuple #[.int .i64 k, .bool true]) ∧ ∃ n, w' = w.drewN n := by
  obtain ⟨h1, h2, h3, h4, h5, h6⟩ := hd
  rcases hA.cases with ⟨rfl, a1, c1, rfl, _, m1⟩ | ⟨hne, b1, o1, c1, rfl, hle1, hlt1, hm1, hc1⟩
  · obtain rfl : k = 0 := by simpa using h1
    have hp : 0 < ys.length := h4 rfl
    obtain ⟨a2, c2, rfl, hm2, _, _⟩ := hB
    have hm := hm2.2
    unfold maxLen at hm
    exact rdiffer_0n a1 a2 ys.length c1 c2 w hp (by omega)
  · rcases hB.cases with ⟨rfl, a2, c2, rfl, _, m2⟩ | ⟨hne2, b2, o2, c2, rfl, hle2, hlt2, hm2, hc2⟩
    · obtain rfl : k = 0 := by simpa using h2
      have hp : 0 < xs.length := h5 rfl
      unfold maxLen at hm1
      exact rdiffer_n0 _ a2 xs.length c1 c2 w hp (by omega)
    · unfold maxLen at hm1 hm2
      · skip
        by_cases e1 : k = xs.length
        · exact rdiffer_a b1 o1 _ c1 b2 o2 _ c2 xs ys k w (by omega) (by omega) e1 (h4 e1) h3 hc1 hc2
        · by_cases e2 : k = ys.length
          · exact rdiffer_b b1 o1 _ c1 b2 o2 _ c2 xs ys k w (by omega) (by omega) (h5 e2) e2 h3 hc1 hc2
          · exact rdiffer_d b1 o1 _ c1 b2 o2 _ c2 xs ys k w (by omega) (by omega) (by omega) (by omega) (h6 (by omega) (by omega)) h3 hc1 hc2

theorem rdiffer_no (va vb : Value) (xs : List Int) (w : World) (hA : View w va xs) (hB : View w vb xs) :
    Calls Try.prog 26 #[va, vb] w fun e w' => e = .returned (.tuple #[.int .i64 0, .bool false]) ∧ ∃ n, w' = w.drewN n := by
  rcases hA.cases with ⟨rfl, a1, c1, rfl, _, m1⟩ | ⟨hne, b1, o1, c1, rfl, hle1, hlt1, hm1, hc1⟩
  · obtain ⟨a2, c2, rfl, hm2, _, _⟩ := hB
    exact rdiffer_00 a1 a2 c1 c2 w
  · rcases hB.cases with ⟨rfl, _⟩ | ⟨hne2, b2, o2, c2, rfl, hle2, hlt2, hm2, hc2⟩
    · exact absurd rfl hne
    · unfold maxLen at hm1
      exact rdiffer_same b1 o1 _ c1 b2 o2 c2 xs w (by omega) hc1 hc2

end Go.Proofs.Ytpcpohbbmeonbab
