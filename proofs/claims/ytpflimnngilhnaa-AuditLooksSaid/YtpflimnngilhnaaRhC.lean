/- Predecessors: too many; what is wrong with them; in memory of their own (layer 31). -/
import Derived.Test.YtpflimnngilhnaaMat
import Derived.Test.YtpflimnngilhnaaRhB
namespace Go.Proofs.Ytpflimnngilhnaa.rh
open Go.ChangeShapes Go.WideShapes Go.ChangeAt Go.RowKit
set_option linter.unusedVariables false
set_option linter.unusedSimpArgs false
def grB (L : List (List Int)) : Nat → Bool
  | 0 => false
  | k + 1 => grB L k || decide (1002 ≤ k) || decide (60 < (L.getD k []).length)
theorem grB_mono (L : List (List Int)) (m n : Nat) (h : m ≤ n) (hn : grB L n = false) : grB L m = false := by
  induction n with
  | zero => have : m = 0 := by omega
            subst this; exact hn
  | succ n ih =>
    simp only [grB, Bool.or_eq_false_iff] at hn
    by_cases e : m = n + 1
    · subst e; simp only [grB, Bool.or_eq_false_iff]; exact hn
    · exact ih (by omega) hn.1.1
theorem grB_false {L : List (List Int)} {n : Nat} (h : grB L n = false) : n ≤ 1002 ∧ ∀ i, i < n → (L.getD i []).length ≤ 60 := by
  refine ⟨?_, fun i hi => ?_⟩
  · rcases Nat.eq_zero_or_pos n with e | e
    · omega
    · obtain ⟨m, rfl⟩ : ∃ m, n = m + 1 := ⟨n - 1, by omega⟩
      simp only [grB, Bool.or_eq_false_iff, decide_eq_false_iff_not] at h
      omega
  · have := grB_mono L (i + 1) n hi h
    simp only [grB, Bool.or_eq_false_iff, decide_eq_false_iff_not] at this
    omega
set_option maxRecDepth 20000 in
/-- what is wrong with predecessors. -/
def ck (L : List (List Int)) : Int := if 1000 < L.length then 9 else if okB L L.length then 0 else 3
theorem ck_cases (L : List (List Int)) : ck L = 9 ∨ ck L = 3 ∨ (ck L = 0 ∧ L.length ≤ 1000 ∧ okB L L.length = true) := by
  unfold ck
  split
  · exact .inl rfl
  · split
    · exact .inr (.inr ⟨rfl, by omega, by assumption⟩)
    · exact .inr (.inl rfl)
theorem getD_mem {xs : List Int} {j : Nat} (h : j < xs.length) : xs.getD j 0 ∈ xs := by
  rw [List.getD_eq_getElem?_getD, List.getElem?_eq_getElem h]; exact List.getElem_mem _
theorem bad_row {L : List (List Int)} {n k j : Nat} (hn : n = L.length) (h : n ≤ 1000) (hk : k < n) (hj : j < (L.getD k []).length) (hb : ¬ (0 ≤ (L.getD k []).getD j 0 ∧ (L.getD k []).getD j 0 < (k : Int))) : ck L = 3 := by
  unfold ck
  rw [if_neg (by omega), if_neg]
  intro h1
  have h2 := (okB_iff L _).1 h1 k (by omega) ((L.getD k []).getD j 0) (getD_mem hj)
  exact hb h2
theorem check_long (a : Option Addr) (n cap : Nat) (w : World) (h : 1000 < n) : Calls Try.prog 49 #[.slice a n cap] w fun e w' => e = .returned (.int .i64 9) ∧ w = w' := by
  go_enter Try.func49, Try.ntmps49
  go_wp2_with fail
  go_ret
  exact ⟨rfl, rfl⟩
theorem rcheck_long (a : Option Addr) (n cap : Nat) (w : World) (h : 1000 < n) : Calls Try.prog 25 #[.slice a n cap] w fun e w' => e = .returned (.int .i64 9) ∧ w = w' := by
  go_enter Try.func25, Try.ntmps25
  go_wp2_with fail
  go_ret
  exact ⟨rfl, rfl⟩
theorem ok_all {L : List (List Int)} {n : Nat} (hn : n = L.length) (h : n ≤ 1000) (hk : okB L n = true) : ck L = 0 := by
  unfold ck; rw [if_neg (by omega), if_pos (by rw [← hn]; exact hk)]
theorem okR_all {L : List (List Int)} {k m : Nat} (hm : (L.getD k []).length = m) (h0 : okB L k = true) (h : okR k ((L.getD k []).take m) = true) : okB L (k + 1) = true := by
  simp only [okB, h0, Bool.true_and]
  rwa [List.take_of_length_le (by omega)] at h
theorem okR_step {L : List (List Int)} {k j : Nat} {x : Int} (hj : j < (L.getD k []).length) (hx : (L.getD k []).getD j 0 = x) (h : okR k ((L.getD k []).take j) = true) (h1 : 0 ≤ x) (h2 : x < (k : Int)) : okR k ((L.getD k []).take (j + 1)) = true := by
  rw [okR_take _ _ _ hj, h, hx]; simp; omega
set_option maxRecDepth 20000 in
theorem check_of (a : Option Addr) (n cap : Nat) (L : List (List Int)) (c : Int) (w : World) (h : MV w (.slice a n cap) L) (hc : ck L = c) :
    Calls Try.prog 49 #[.slice a n cap] w fun e w' => e = .returned (.int .i64 c) ∧ w = w' := by
  obtain ⟨hnl, hnc, hcm⟩ := h.len
  unfold maxLen at hcm
  by_cases hlong : 1000 < n
  · have : c = 9 := by rw [← hc]; unfold ck; rw [if_pos (by omega)]
    subst this
    exact check_long a n cap w hlong
  have H := Lib.hid h
  have HC := Lib.hid hc
  have HN := Lib.hid hnl
  clear h hc hnl
  go_enter Try.func49, Try.ntmps49
  go_wp2_with fail
  go_loop [12] (fun i => ∃ k : Nat, k ≤ n ∧ i = .int .i64 (k : Int) ∧ Hid (okB L k = true)) (fun i => n - (intOf i).toNat)
  case atStart => exact ⟨0, by omega, rfl, Lib.hid rfl⟩
  case round =>
    obtain ⟨k, hk, rfl, HK⟩ := hrel
    by_cases hlt : k < n
    · obtain ⟨b, o, ai, ci, rfl, hbl, hcl, hv⟩ := H.out.row k hlt
      obtain ⟨_, hm1, hm2⟩ := hv.len
      unfold maxLen at hm2
      have HV := Lib.hid hv
      obtain ⟨m, hm⟩ : ∃ m, (L.getD k []).length = m := ⟨_, rfl⟩
      rw [hm] at hcl HV hm1
      have HM := Lib.hid hm
      have HB := fun j hj hb => bad_row (j := j) HN.out (by omega) hlt hj hb
      have HB' := Lib.hid HB
      clear hv hm HB
      go_wp2_with fail
      go_loop [19] (fun i => ∃ j : Nat, j ≤ m ∧ i = .int .i64 (j : Int) ∧ Hid (okR k ((L.getD k []).take j) = true)) (fun i => m - (intOf i).toNat)
      case atStart => exact ⟨0, by omega, rfl, Lib.hid (by simp [okR])⟩
      case round =>
        obtain ⟨j, hj, rfl, HJ⟩ := hrel
        by_cases hjl : j < m
        · obtain ⟨b2, o2, rfl, hbl2, hcx⟩ := HV.out.at j hjl
          obtain ⟨x, hx⟩ : ∃ x, (L.getD k []).getD j 0 = x := ⟨_, rfl⟩
          rw [hx] at hcx
          have HX := Lib.hid hx
          clear hx
          by_cases h1 : x < 0
          · have HT : Hid (c = 3) := Lib.hid (by rw [← HC.out]; exact HB'.out j (by rw [HM.out]; exact hjl) (by rw [HX.out]; omega))
            go_wp2_with fail
            go_ret
            exact ⟨by rw [HT.out]; rfl, rfl⟩
          · by_cases h2 : x < (k : Int)
            · have HJ2 := Lib.hid (okR_step (by rw [HM.out]; exact hjl) HX.out HJ.out (by omega) h2)
              go_wp2_with fail
              go_round
              case rel => exact ⟨j + 1, by omega, by go_num, HJ2⟩
              case measure => simp [intOf]; omega
            · have HT : Hid (c = 3) := Lib.hid (by rw [← HC.out]; exact HB'.out j (by rw [HM.out]; exact hjl) (by rw [HX.out]; omega))
              have h3 : (k : Int) ≤ x := by omega
              go_wp2_with fail
              go_ret
              exact ⟨by rw [HT.out]; rfl, rfl⟩
        · obtain rfl : j = m := by omega
          have HK2 := Lib.hid (okR_all HM.out HK.out HJ.out)
          go_wp2_with fail
          go_round
          case rel => exact ⟨k + 1, by omega, by go_num, HK2⟩
          case measure => simp [intOf]; omega
    · obtain rfl : k = n := by omega
      have HT : Hid (c = 0) := Lib.hid (by rw [← HC.out]; exact ok_all HN.out (by omega) HK.out)
      go_wp2_with fail
      go_ret
      exact ⟨by rw [HT.out]; rfl, rfl⟩
set_option maxRecDepth 20000 in
theorem rcheck_of (a : Option Addr) (n cap : Nat) (L : List (List Int)) (c : Int) (w : World) (h : MV w (.slice a n cap) L) (hc : ck L = c) :
    Calls Try.prog 25 #[.slice a n cap] w fun e w' => e = .returned (.int .i64 c) ∧ w = w' := by
  obtain ⟨hnl, hnc, hcm⟩ := h.len
  unfold maxLen at hcm
  by_cases hlong : 1000 < n
  · have : c = 9 := by rw [← hc]; unfold ck; rw [if_pos (by omega)]
    subst this
    exact rcheck_long a n cap w hlong
  have H := Lib.hid h
  have HC := Lib.hid hc
  have HN := Lib.hid hnl
  clear h hc hnl
  go_enter Try.func25, Try.ntmps25
  go_wp2_with fail
  go_loop [3] (fun i => ∃ k : Nat, k ≤ n ∧ i = .int .i64 (k : Int) ∧ Hid (okB L k = true)) (fun i => n - (intOf i).toNat)
  case atStart => exact ⟨0, by omega, rfl, Lib.hid rfl⟩
  case round =>
    obtain ⟨k, hk, rfl, HK⟩ := hrel
    by_cases hlt : k < n
    · obtain ⟨b, o, ai, ci, rfl, hbl, hcl, hv⟩ := H.out.row k hlt
      obtain ⟨_, hm1, hm2⟩ := hv.len
      unfold maxLen at hm2
      have HV := Lib.hid hv
      obtain ⟨m, hm⟩ : ∃ m, (L.getD k []).length = m := ⟨_, rfl⟩
      rw [hm] at hcl HV hm1
      have HM := Lib.hid hm
      have HB := fun j hj hb => bad_row (j := j) HN.out (by omega) hlt hj hb
      have HB' := Lib.hid HB
      clear hv hm HB
      go_wp2_with fail
      go_loop [4] (fun i => ∃ j : Nat, j ≤ m ∧ i = .int .i64 (j : Int) ∧ Hid (okR k ((L.getD k []).take j) = true)) (fun i => m - (intOf i).toNat)
      case atStart => exact ⟨0, by omega, rfl, Lib.hid (by simp [okR])⟩
      case round =>
        obtain ⟨j, hj, rfl, HJ⟩ := hrel
        by_cases hjl : j < m
        · obtain ⟨b2, o2, rfl, hbl2, hcx⟩ := HV.out.at j hjl
          obtain ⟨x, hx⟩ : ∃ x, (L.getD k []).getD j 0 = x := ⟨_, rfl⟩
          rw [hx] at hcx
          have HX := Lib.hid hx
          clear hx
          by_cases h1 : x < 0
          · have HT : Hid (c = 3) := Lib.hid (by rw [← HC.out]; exact HB'.out j (by rw [HM.out]; exact hjl) (by rw [HX.out]; omega))
            go_wp2_with fail
            go_ret
            exact ⟨by rw [HT.out]; rfl, rfl⟩
          · by_cases h2 : x < (k : Int)
            · have HJ2 := Lib.hid (okR_step (by rw [HM.out]; exact hjl) HX.out HJ.out (by omega) h2)
              go_wp2_with fail
              go_round
              case rel => exact ⟨j + 1, by omega, by go_num, HJ2⟩
              case measure => simp [intOf]; omega
            · have HT : Hid (c = 3) := Lib.hid (by rw [← HC.out]; exact HB'.out j (by rw [HM.out]; exact hjl) (by rw [HX.out]; omega))
              have h3 : (k : Int) ≤ x := by omega
              go_wp2_with fail
              go_ret
              exact ⟨by rw [HT.out]; rfl, rfl⟩
        · obtain rfl : j = m := by omega
          have HK2 := Lib.hid (okR_all HM.out HK.out HJ.out)
          go_wp2_with fail
          go_round
          case rel => exact ⟨k + 1, by omega, by go_num, HK2⟩
          case measure => simp [intOf]; omega
    · obtain rfl : k = n := by omega
      have HT : Hid (c = 0) := Lib.hid (by rw [← HC.out]; exact ok_all HN.out (by omega) HK.out)
      go_wp2_with fail
      go_ret
      exact ⟨by rw [HT.out]; rfl, rfl⟩
end Go.Proofs.Ytpflimnngilhnaa.rh
