/- The contract of the reference's Begins, of layer 22. -/
import Derived.Test.YtpcpohbbmeonbabSinkObj
namespace Go.Proofs.Ytpcpohbbmeonbab
open Go.ChangeShapes Go.WideShapes Go.ChangeAt Go.RowKit
set_option linter.unusedVariables false
theorem rb_empty (a b : Option Addr) (c1 n2 c2 : Nat) (w : World) : Calls Try.prog 27 #[.slice a 0 c1, .slice b n2 c2] w fun e w' => e = .returned (.bool true) ∧ ∃ n, w' = w.drewN n := by
  go_enter Try.func27, Try.ntmps27
  go_wp2
  refine wp_loop_rounds 1 ?_
  rw [rounds_succ]
  go_wp2_with fail
  go_ret
  exact ⟨rfl, 0, rfl⟩
theorem rb_n0 (a b : Option Addr) (n c1 c2 : Nat) (w : World) (h0 : 0 < n) (hm : n ≤ 9223372036854775807) : Calls Try.prog 27 #[.slice a n c1, .slice b 0 c2] w fun e w' => e = .returned (.bool false) ∧ ∃ n, w' = w.drewN n := by
  go_enter Try.func27, Try.ntmps27
  go_wp2
  refine wp_loop_rounds 2 ?_
  rw [rounds_succ]
  go_wp2_with fail
  go_quiet (fail)
  go_wp2_with fail
  go_ret
  exact ⟨rfl, _, rfl⟩

set_option maxHeartbeats 400000 in
theorem rb_yes (b1 o1 n1 c1 b2 o2 n2 c2 : Nat) (xs ys : List Int) (k : Nat) (w : World) (hm1 : n1 ≤ 9223372036854775807) (hm2 : n2 ≤ 9223372036854775807)
    (hk1 : k = n1) (hk2 : k ≤ n2) (hall : Hid (∀ i, i < k → xs.getD i 0 = ys.getD i 0))
    (HC1 : Hid (∀ i, i < n1 → w.cell? ⟨b1, o1 + i, none⟩ = some (.int .i64 (xs.getD i 0)))) (HC2 : Hid (∀ i, i < n2 → w.cell? ⟨b2, o2 + i, none⟩ = some (.int .i64 (ys.getD i 0)))) :
    Calls Try.prog 27 #[.slice (some ⟨b1, o1, none⟩) n1 c1, .slice (some ⟨b2, o2, none⟩) n2 c2] w fun e w' => e = .returned (.bool true) ∧ ∃ n, w' = w.drewN n := by
  have HK1 := Lib.hid hk1
  have HK2 := Lib.hid hk2
  clear hk1 hk2
  go_enter Try.func27, Try.ntmps27
  go_wp2
  go_loopw [5] (fun i wr => ∃ j n : Nat, j ≤ k ∧ i = .int .i64 j ∧ wr = w.drewN n) (fun i _ => k + 1 - (intOf i).toNat)
  case atStart => exact ⟨0, 0, Nat.zero_le _, rfl, rfl⟩
  case round =>
    obtain ⟨j, n, hj, rfl, rfl⟩ := hrel
    by_cases hjk : j < k
    · have hk1 := HK1.out
      have hk2 := HK2.out
      have hn1 : j < n1 := by omega
      have hn2 : j < n2 := by omega
      clear hk1 hk2
      have h1 := HC1.out j (by omega)
      have h2 := HC2.out j (by omega)
      have hx := hall.out j hjk
      rw [hx] at h1
      clear hx
      generalize ys.getD j 0 = x at h1 h2
      have d3 : decide ((n2 : Int) ≤ (j : Int)) = false := decide_eq_false (by omega)
      have d4 : decide (n2 ≤ j) = false := decide_eq_false (by omega)
      go_wp2_with fail
      go_quiet (fail)
      go_wp2_with fail
      go_roundw
      case rel => exact ⟨j + 1, _, by omega, by go_num, by first | rfl | (simp; rfl)⟩
      case measure => simp [intOf]; omega
    · have hjk' : j = k := by omega
      have hk1 := HK1.out
      have hk2 := HK2.out
      have hn1 : ¬ j < n1 := by omega
      clear hjk' hk1 hk2
      go_wp2_with fail
      go_ret
      exact ⟨rfl, _, rfl⟩

set_option maxHeartbeats 400000 in
theorem rb_len (b1 o1 n1 c1 b2 o2 n2 c2 : Nat) (xs ys : List Int) (k : Nat) (w : World) (hm1 : n1 ≤ 9223372036854775807) (hm2 : n2 ≤ 9223372036854775807)
    (hk1 : k < n1) (hk2 : k = n2) (hall : Hid (∀ i, i < k → xs.getD i 0 = ys.getD i 0))
    (HC1 : Hid (∀ i, i < n1 → w.cell? ⟨b1, o1 + i, none⟩ = some (.int .i64 (xs.getD i 0)))) (HC2 : Hid (∀ i, i < n2 → w.cell? ⟨b2, o2 + i, none⟩ = some (.int .i64 (ys.getD i 0)))) :
    Calls Try.prog 27 #[.slice (some ⟨b1, o1, none⟩) n1 c1, .slice (some ⟨b2, o2, none⟩) n2 c2] w fun e w' => e = .returned (.bool false) ∧ ∃ n, w' = w.drewN n := by
  have HK1 := Lib.hid hk1
  have HK2 := Lib.hid hk2
  clear hk1 hk2
  go_enter Try.func27, Try.ntmps27
  go_wp2
  go_loopw [5] (fun i wr => ∃ j n : Nat, j ≤ k ∧ i = .int .i64 j ∧ wr = w.drewN n) (fun i _ => k + 1 - (intOf i).toNat)
  case atStart => exact ⟨0, 0, Nat.zero_le _, rfl, rfl⟩
  case round =>
    obtain ⟨j, n, hj, rfl, rfl⟩ := hrel
    by_cases hjk : j < k
    · have hk1 := HK1.out
      have hk2 := HK2.out
      have hn1 : j < n1 := by omega
      have hn2 : j < n2 := by omega
      clear hk1 hk2
      have h1 := HC1.out j (by omega)
      have h2 := HC2.out j (by omega)
      have hx := hall.out j hjk
      rw [hx] at h1
      clear hx
      generalize ys.getD j 0 = x at h1 h2
      have d3 : decide ((n2 : Int) ≤ (j : Int)) = false := decide_eq_false (by omega)
      have d4 : decide (n2 ≤ j) = false := decide_eq_false (by omega)
      go_wp2_with fail
      go_quiet (fail)
      go_wp2_with fail
      go_roundw
      case rel => exact ⟨j + 1, _, by omega, by go_num, by first | rfl | (simp; rfl)⟩
      case measure => simp [intOf]; omega
    · have hjk' : j = k := by omega
      have hk1 := HK1.out
      have hk2 := HK2.out
      have hn1 : j < n1 := by omega
      have d3 : decide ((n2 : Int) ≤ (j : Int)) = true := decide_eq_true (by omega)
      have d4 : decide (n2 ≤ j) = true := decide_eq_true (by omega)
      clear hjk' hk1 hk2
      go_wp2_with fail
      go_quiet (fail)
      go_wp2_with fail
      go_ret
      exact ⟨rfl, _, by first | rfl | (simp; rfl)⟩

set_option maxHeartbeats 400000 in
theorem rb_dif (b1 o1 n1 c1 b2 o2 n2 c2 : Nat) (xs ys : List Int) (k : Nat) (w : World) (hm1 : n1 ≤ 9223372036854775807) (hm2 : n2 ≤ 9223372036854775807)
    (hk1 : k < n1) (hk2 : k < n2) (hat : Hid (xs.getD k 0 ≠ ys.getD k 0)) (hall : Hid (∀ i, i < k → xs.getD i 0 = ys.getD i 0))
    (HC1 : Hid (∀ i, i < n1 → w.cell? ⟨b1, o1 + i, none⟩ = some (.int .i64 (xs.getD i 0)))) (HC2 : Hid (∀ i, i < n2 → w.cell? ⟨b2, o2 + i, none⟩ = some (.int .i64 (ys.getD i 0)))) :
    Calls Try.prog 27 #[.slice (some ⟨b1, o1, none⟩) n1 c1, .slice (some ⟨b2, o2, none⟩) n2 c2] w fun e w' => e = .returned (.bool false) ∧ ∃ n, w' = w.drewN n := by
  have HK1 := Lib.hid hk1
  have HK2 := Lib.hid hk2
  clear hk1 hk2
  go_enter Try.func27, Try.ntmps27
  go_wp2
  go_loopw [5] (fun i wr => ∃ j n : Nat, j ≤ k ∧ i = .int .i64 j ∧ wr = w.drewN n) (fun i _ => k + 1 - (intOf i).toNat)
  case atStart => exact ⟨0, 0, Nat.zero_le _, rfl, rfl⟩
  case round =>
    obtain ⟨j, n, hj, rfl, rfl⟩ := hrel
    by_cases hjk : j < k
    · have hk1 := HK1.out
      have hk2 := HK2.out
      have hn1 : j < n1 := by omega
      have hn2 : j < n2 := by omega
      clear hk1 hk2
      have h1 := HC1.out j (by omega)
      have h2 := HC2.out j (by omega)
      have hx := hall.out j hjk
      rw [hx] at h1
      clear hx
      generalize ys.getD j 0 = x at h1 h2
      have d3 : decide ((n2 : Int) ≤ (j : Int)) = false := decide_eq_false (by omega)
      have d4 : decide (n2 ≤ j) = false := decide_eq_false (by omega)
      go_wp2_with fail
      go_quiet (fail)
      go_wp2_with fail
      go_roundw
      case rel => exact ⟨j + 1, _, by omega, by go_num, by first | rfl | (simp; rfl)⟩
      case measure => simp [intOf]; omega
    · have hjk' : j = k := by omega
      have hk1 := HK1.out
      have hk2 := HK2.out
      have hn1 : j < n1 := by omega
      have hn2 : j < n2 := by omega
      have d3 : decide ((n2 : Int) ≤ (j : Int)) = false := decide_eq_false (by omega)
      have d4 : decide (n2 ≤ j) = false := decide_eq_false (by omega)
      have h1 := HC1.out j (by omega)
      have h2 := HC2.out j (by omega)
      have hx := hat.out
      rw [← hjk'] at hx
      generalize xs.getD j 0 = x at h1 hx
      generalize ys.getD j 0 = y at h2 hx
      have hb : (x != y) = true := by simpa using hx
      clear hx
      clear hjk' hk1 hk2
      go_wp2_with fail
      go_quiet (fail)
      go_wp2_with fail
      go_ret
      exact ⟨rfl, _, by first | rfl | (simp; rfl)⟩

theorem preB_true (xs ys : List Int) (h : xs.length ≤ ys.length) (ha : ∀ i, i < xs.length → xs.getD i 0 = ys.getD i 0) : preB xs ys = true := by
  unfold preB
  rw [Bool.and_eq_true, decide_eq_true_eq, beq_iff_eq]
  refine ⟨h, List.ext_getElem (by rw [List.length_take]; omega) fun i h1 h2 => ?_⟩
  have h3 := ha i h1
  have h4 : i < ys.length := by omega
  rw [List.getElem_take]
  simpa [h1, h4] using h3
theorem preB_false (xs ys : List Int) (k : Nat) (hk : k < xs.length) (h : k < ys.length → xs.getD k 0 ≠ ys.getD k 0) : preB xs ys = false := by
  rw [Bool.eq_false_iff]
  intro hp
  unfold preB at hp
  rw [Bool.and_eq_true, decide_eq_true_eq, beq_iff_eq] at hp
  obtain ⟨h1, h2⟩ := hp
  have h3 : k < ys.length := by omega
  apply h h3
  have h4 := congrArg (fun l : List Int => l.getD k 0) h2
  simpa [hk, h3, List.getElem?_take_of_lt hk] using h4
theorem preC_iff (xs ys : List Int) : preB xs ys = true ↔ xs <+: ys := by
  unfold preB
  rw [Bool.and_eq_true, decide_eq_true_eq, beq_iff_eq]
  constructor
  · rintro ⟨_, h⟩; rw [h]; exact List.take_prefix _ _
  · intro h; exact ⟨h.length_le, (List.prefix_iff_eq_take.1 h)⟩
theorem preC_both (xs ys : List Int) : ((preB xs ys && preB ys xs) == (xs == ys)) = true := by
  rw [beq_iff_eq, Bool.eq_iff_iff, Bool.and_eq_true, beq_iff_eq, preC_iff, preC_iff]
  constructor
  · rintro ⟨h1, h2⟩; exact h1.eq_of_length (Nat.le_antisymm h1.length_le h2.length_le)
  · rintro rfl; exact ⟨List.prefix_refl _, List.prefix_refl _⟩
theorem View.take {w : World} {a : Option Addr} {n c : Nat} {xs : List Int} (h : View w (.slice a n c) xs) (k : Nat) (hk : k ≤ xs.length) : View w (.slice a k c) (xs.take k) := by
  obtain ⟨a', c', hv, hm, hn, hc⟩ := h
  simp only [Value.slice.injEq] at hv
  obtain ⟨rfl, rfl, rfl⟩ := hv
  have hlen : (xs.take k).length = k := by rw [List.length_take]; omega
  refine ⟨_, _, by rw [hlen], ⟨by rw [hlen]; omega, hm.2⟩, fun h => ⟨by rw [hlen]; have := (hn h).1; omega, (hn h).2⟩, fun hne => ?_⟩
  have hy : xs ≠ [] := by intro h; rw [h] at hne; simp at hne
  obtain ⟨b, off, rfl, hlt, hle, hcc⟩ := hc hy
  refine ⟨b, off, rfl, hlt, by rw [hlen]; omega, fun i hi => ?_⟩
  rw [hlen] at hi
  rw [hcc i (by omega)]
  simp [List.getElem?_take_of_lt hi]
theorem View.len {w : World} {a : Option Addr} {n c : Nat} {xs : List Int} (h : View w (.slice a n c) xs) : n = xs.length ∧ n ≤ c ∧ c ≤ maxLen := by
  obtain ⟨a', c', hv, hm, hn, hc⟩ := h
  simp only [Value.slice.injEq] at hv
  obtain ⟨rfl, rfl, rfl⟩ := hv
  exact ⟨rfl, hm⟩
theorem rbegins_any (va vb : Value) (xs ys : List Int) (w : World) (hA : View w va xs) (hB : View w vb ys) :
    Calls Try.prog 27 #[va, vb] w fun e w' => e = .returned (.bool (preB xs ys)) ∧ ∃ n, w' = w.drewN n := by
  rcases hA.cases with ⟨rfl, a1, c1, rfl, _, m1⟩ | ⟨hne, b1, o1, c1, rfl, hle1, hlt1, hm1, hc1⟩
  · obtain ⟨a2, c2, rfl, hm2, _, _⟩ := hB
    rw [preB_true [] ys (Nat.zero_le _) (fun i hi => absurd hi (by simp))]
    exact rb_empty a1 a2 c1 _ c2 w
  · rcases hB.cases with ⟨rfl, a2, c2, rfl, _, m2⟩ | ⟨hne2, b2, o2, c2, rfl, hle2, hlt2, hm2, hc2⟩
    · have hp : 0 < xs.length := List.length_pos_iff.2 hne
      rw [preB_false xs [] 0 hp (fun h => absurd h (by simp))]
      unfold maxLen at hm1
      exact rb_n0 _ a2 xs.length c1 c2 w hp (by omega)
    · unfold maxLen at hm1 hm2
      rcases dif_or xs ys with rfl | ⟨k, h1, h2, h3, h4, h5, h6⟩
      · rw [preB_true xs xs (Nat.le_refl _) (fun i _ => rfl)]
        exact rb_yes b1 o1 _ c1 b2 o2 _ c2 xs xs xs.length w (by omega) (by omega) rfl (Nat.le_refl _) (fun i _ => rfl) hc1 hc2
      · by_cases e1 : k = xs.length
        · rw [preB_true xs ys (by omega) (fun i hi => h3 i (by omega))]
          exact rb_yes b1 o1 _ c1 b2 o2 _ c2 xs ys k w (by omega) (by omega) e1 h2 h3 hc1 hc2
        · rw [preB_false xs ys k (by omega) (fun h => h6 (by omega) h)]
          by_cases e2 : k = ys.length
          · exact rb_len b1 o1 _ c1 b2 o2 _ c2 xs ys k w (by omega) (by omega) (by omega) e2 h3 hc1 hc2
          · exact rb_dif b1 o1 _ c1 b2 o2 _ c2 xs ys k w (by omega) (by omega) (by omega) (by omega) (h6 (by omega) (by omega)) h3 hc1 hc2
end Go.Proofs.Ytpcpohbbmeonbab
