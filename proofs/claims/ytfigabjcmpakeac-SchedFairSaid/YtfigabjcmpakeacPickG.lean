/- The reference's Holds and Window of picks (layer 36). -/
import Derived.Test.YtfigabjcmpakeacPickF
namespace Go.Proofs.Ytfigabjcmpakeac
open Go.ChangeShapes Go.WideShapes Go.ChangeAt Go.RowKit
open Go.Proofs.Ytfigabjcmpakeac.sch
set_option linter.unusedVariables false
set_option linter.unusedSimpArgs false
/-- Is worker j's pick among those from i to k? -/
def Fnd (o : Nat → Nat) (i k j : Nat) (b : Bool) : Prop := (b = true → ∃ q, i ≤ q ∧ q < k ∧ o q = j) ∧ (b = false → ∀ q, i ≤ q → q < k → o q ≠ j)
theorem Fnd.nil (o : Nat → Nat) (i j : Nat) : Fnd o i i j false := ⟨by simp, fun _ q h1 h2 => by omega⟩
theorem Fnd.up {o : Nat → Nat} {i k j : Nat} (h : Fnd o i k j true) : Fnd o i (k + 1) j true :=
  ⟨fun _ => by obtain ⟨q, h1, h2, h3⟩ := h.1 rfl; exact ⟨q, h1, by omega, h3⟩, by simp⟩
theorem Fnd.hit {o : Nat → Nat} {i k j : Nat} (hk : i ≤ k) (h : o k = j) : Fnd o i (k + 1) j true := ⟨fun _ => ⟨k, hk, by omega, h⟩, by simp⟩
theorem Fnd.miss {o : Nat → Nat} {i k j : Nat} (h : Fnd o i k j false) (hm : ¬ o k = j) : Fnd o i (k + 1) j false :=
  ⟨by simp, fun _ q h1 h2 => by
    by_cases e : q = k
    · subst e; exact hm
    · exact h.2 rfl q h1 (by omega)⟩
set_option maxRecDepth 20000 in
set_option maxHeartbeats 4000000 in
theorem holds_of (a : Option Addr) (L cap n wi : Nat) (xs : List PK) (wk m0 : Int) (w : World) (a1 : (if wk < 1 then (1 : Int) else wk) = m0) (a2 : (if 64 < m0 then (64 : Int) else m0) = (n : Int)) (hx : PV w a L cap xs) (hL : L ≤ 100000) (hwi : wi ≤ 100001) (h1w : 1 ≤ wi) :
    Calls Try.prog 20 #[.slice a L cap, .int .i64 wk, .int .i64 (wi : Int)] w fun e w' => e = .returned (.bool (decide (wf (ow xs n) L n ≤ wi))) ∧ w = w' := by
  have hn1 : 1 ≤ n := by split at a1 <;> split at a2 <;> omega
  have hn2 : n ≤ 64 := by split at a1 <;> split at a2 <;> omega
  have C1 := Lib.hid (fun w => team_of wk m0 n w a1 a2)
  have hd0 : ((n : Int) == 0) = false := by simp; omega
  have hd1 : ¬ (n : Int) = 0 := by omega
  have hd2 : ¬ n = 0 := by omega
  have HX := Lib.hid hx
  have HI := Lib.hid (holds_iff (ow xs n) L n wi (fun i _ => ow_lt xs n i hn1))
  clear hx a1 a2
  go_enter Try.func20, Try.ntmps20
  go_wp2_with (first | (go_at_call 21; refine (C1.out _).mono ?_; rintro e w' ⟨rfl, rfl⟩))
  go_loop [8] (fun i => ∃ v : Nat, v ≤ L + 1 ∧ i = .int .i64 (v : Int) ∧ Hid (∀ i, i < v → i + wi ≤ L → ∀ j, j < n → ∃ k, i ≤ k ∧ k < i + wi ∧ ow xs n k = j)) (fun i => L + 1 - (intOf i).toNat)
  case atStart => exact ⟨0, by omega, rfl, Lib.hid fun i hi => by omega⟩
  case round =>
    obtain ⟨v, hv, rfl, hall⟩ := hrel
    by_cases hvn : v + wi ≤ L
    · have hv1 : (v : Int) + (wi : Int) ≤ (L : Int) := by omega
      go_wp2_with fail
      go_loop [9] (fun i => ∃ j : Nat, j ≤ n ∧ i = .int .i64 (j : Int) ∧ Hid (∀ j', j' < j → ∃ k, v ≤ k ∧ k < v + wi ∧ ow xs n k = j')) (fun i => n - (intOf i).toNat)
      case atStart => exact ⟨0, by omega, rfl, Lib.hid fun i hi => by omega⟩
      case round =>
        obtain ⟨j, hj, rfl, hin⟩ := hrel
        by_cases hjn : j < n
        · go_wp2_with fail
          go_loop [10, 11] (fun f i => ∃ (k : Nat) (b : Bool), v ≤ k ∧ k ≤ v + wi ∧ i = .int .i64 (k : Int) ∧ f = .bool b ∧ Hid (Fnd (ow xs n) v k j b)) (fun _ i => v + wi - (intOf i).toNat)
          case atStart => exact ⟨v, false, by omega, by omega, rfl, rfl, Lib.hid (Fnd.nil _ _ _)⟩
          case round =>
            obtain ⟨k, b, hk1, hk2, rfl, rfl, hf⟩ := hrel
            by_cases hlt : k < v + wi
            · have hlt1 : (k : Int) < (v : Int) + (wi : Int) := by omega
              cases b
              · have hkL : k < L := by omega
                have hxl : k < xs.length := by rw [HX.out.1]; exact hkL
                obtain ⟨⟨x1, x2⟩, ex⟩ : ∃ p, xs[k]? = some p := ⟨xs[k], by simp⟩
                obtain ⟨ba, oa, rfl, hba, g0, g1⟩ := HX.out.2.2 k _ ex
                dsimp only at g0
                clear g1
                obtain ⟨q, hq⟩ : ∃ q, ow xs n k = q := ⟨_, rfl⟩
                have hq2 : x1.toNat % n = q := by
                  rw [← hq]; unfold ow; rw [List.getD_eq_getElem?_getD, ex]; rfl
                have HQ := Lib.hid hq
                clear hq ex
                by_cases hqv : q = j
                · subst hqv
                  rcases mod_facts x1 n q hn1 hq2 with ⟨h1, h2, h3⟩ | ⟨h1, h2, h3⟩
                  all_goals
                    clear hq2
                    go_wp2_with fail
                    go_round
                    case rel => exact ⟨k + 1, true, by omega, by omega, by go_num, rfl, Lib.hid (Fnd.hit hk1 HQ.out)⟩
                    case measure => simp [intOf]; omega
                · have hne : ((q : Int) == (j : Int)) = false := by simp; omega
                  have hne2 : ¬ (q : Int) = (j : Int) := by omega
                  rcases mod_facts x1 n q hn1 hq2 with ⟨h1, h2, h3⟩ | ⟨h1, h2, h3⟩
                  all_goals
                    clear hq2
                    go_wp2_with fail
                    go_round
                    case rel => exact ⟨k + 1, false, by omega, by omega, by go_num, rfl, Lib.hid (hf.out.miss (by rw [HQ.out]; exact hqv))⟩
                    case measure => simp [intOf]; omega
              · go_wp2_with fail
                go_round
                case rel => exact ⟨k + 1, true, by omega, by omega, by go_num, rfl, Lib.hid hf.out.up⟩
                case measure => simp [intOf]; omega
            · obtain rfl : k = v + wi := by omega
              have hlt1 : ¬ ((v + wi : Nat) : Int) < (v : Int) + (wi : Int) := by omega
              cases b
              · go_wp2_with fail
                go_ret
                have hno : ¬ wf (ow xs n) L n ≤ wi := fun h => by
                  obtain ⟨q, h1, h2, h3⟩ := HI.out.2 h v hvn j hjn
                  exact hf.out.2 rfl q h1 h2 h3
                exact ⟨by rw [decide_eq_false hno]; rfl, rfl⟩
              · go_wp2_with fail
                go_round
                case rel => exact ⟨j + 1, by omega, by go_num, Lib.hid fun j' hj' => by
                  by_cases e : j' = j
                  · subst e; exact hf.out.1 rfl
                  · exact hin.out j' (by omega)⟩
                case measure => simp [intOf]; omega
        · obtain rfl : j = n := by omega
          go_wp2_with fail
          go_round
          case rel => exact ⟨v + 1, by omega, by go_num, Lib.hid fun i hi hiw j' hj' => by
            by_cases e : i = v
            · subst e; exact hin.out j' hj'
            · exact hall.out i (by omega) hiw j' hj'⟩
          case measure => simp [intOf]; omega
    · have hv1 : ¬ (v : Int) + (wi : Int) ≤ (L : Int) := by omega
      go_wp2_with fail
      go_ret
      have hyes : wf (ow xs n) L n ≤ wi := HI.out.1 fun i hi j hj => hall.out i (by omega) hi j hj
      exact ⟨by rw [decide_eq_true hyes]; rfl, rfl⟩
set_option maxRecDepth 20000 in
set_option maxHeartbeats 4000000 in
theorem rwindow_of (a : Option Addr) (L cap n : Nat) (xs : List PK) (wk m0 v : Int) (ok : Bool) (w : World) (a1 : (if wk < 1 then (1 : Int) else wk) = m0) (a2 : (if 64 < m0 then (64 : Int) else m0) = (n : Int)) (hx : PV w a L cap xs) (hL : L ≤ 100000) (hok : Hid (an (ow xs n) L n = ok)) (hv : Hid ((if ok then ((wf (ow xs n) L n : Nat) : Int) else 0) = v)) :
    Calls Try.prog 8 #[.slice a L cap, .int .i64 wk] w fun e w' => e = .returned (.tuple #[.int .i64 v, .bool ok]) ∧ Below w.heap.size w w' := by
  have hn1 : 1 ≤ n := by split at a1 <;> split at a2 <;> omega
  have hn2 : n ≤ 64 := by split at a1 <;> split at a2 <;> omega
  have C1 := Lib.hid (rcount_of a L cap n xs wk m0 w a1 a2 hx hL)
  have HX := Lib.hid hx
  have HA1 := Lib.hid a1
  have HA2 := Lib.hid a2
  clear hx a1 a2
  go_enter Try.func8, Try.ntmps8
  go_wp2_with fail
  refine C1.out.mono ?_
  rintro e w1 ⟨rfl, hr, hb1⟩
  have R := Lib.hid hr
  have HX1 := Lib.hid (HX.out.below hb1)
  clear hr C1 HX
  go_wp2_with fail
  go_loop [7] (fun i => ∃ j : Nat, j ≤ n ∧ i = .int .i64 (j : Int) ∧ Hid (∀ q, q < j → sn (ow xs n) L q = true)) (fun i => n - (intOf i).toNat)
  case atStart => exact ⟨0, by omega, rfl, Lib.hid fun q hq => by omega⟩
  case round =>
    obtain ⟨j, hj, rfl, hin⟩ := hrel
    by_cases hjn : j < n
    · have cj := rowIs_cell R.out hjn
      obtain ⟨c, hc⟩ : ∃ c, cn (ow xs n) L j = c := ⟨_, rfl⟩
      have hcl : c ≤ L := by rw [← hc]; exact cn_le _ _ _
      rw [hc] at cj
      have HC := Lib.hid hc
      clear hc
      by_cases h0 : c = 0
      · subst h0
        have hf := an_false (show sn (ow xs n) L j = false by rw [sn_cn, HC.out]; rfl) n hjn
        rw [hok.out] at hf
        subst hf
        have hv0 := hv.out
        simp only [Bool.false_eq_true, if_false] at hv0
        subst hv0
        go_wp2_with fail
        go_ret2
        exact ⟨rfl, hb1⟩
      · have hq : ((c : Int) == 0) = false := by simp; omega
        have hq2 : ¬ (c : Int) = 0 := by omega
        have HS : Hid (sn (ow xs n) L j = true) := Lib.hid (by rw [sn_cn, HC.out]; simp; omega)
        go_wp2_with fail
        go_round
        case rel => exact ⟨j + 1, by omega, by go_num, Lib.hid fun q hq => by
          by_cases e : q = j
          · subst e; exact HS.out
          · exact hin.out q (by omega)⟩
        case measure => simp [intOf]; omega
    · obtain rfl : j = n := by omega
      have ht := an_true j hin.out
      rw [hok.out] at ht
      subst ht
      have hv0 := hv.out
      simp only [if_true] at hv0
      have hp := wf_pos (ow xs j) L j hn1
      have hle := wf_le (ow xs j) L j
      have HW : Hid (wf (ow xs j) L j = v.toNat) := Lib.hid (by omega)
      obtain ⟨V, rfl⟩ : ∃ V : Nat, v = (V : Int) := ⟨v.toNat, by omega⟩
      have HWV : Hid (wf (ow xs j) L j = V) := Lib.hid (by have := HW.out; omega)
      rw [HWV.out] at hp hle
      clear hv0 HW R hin
      go_wp2_with fail
      go_loop [8] (fun i => ∃ q : Nat, 1 ≤ q ∧ q ≤ V ∧ i = .int .i64 (q : Int)) (fun i => V - (intOf i).toNat)
      case atStart => exact ⟨1, by omega, by omega, rfl⟩
      case round =>
        obtain ⟨q, hq1, hq2, rfl⟩ := hrel
        have CH := Lib.hid (holds_of a L cap j q xs wk m0 w1 HA1.out HA2.out HX1.out hL (by omega) hq1)
        rw [HWV.out] at CH
        by_cases hlt : q < V
        · have hdf : decide (V ≤ q) = false := by simp; omega
          rw [hdf] at CH
          clear hdf
          go_wp2_with (go_at_call 20; refine CH.out.mono ?_; rintro e w' ⟨rfl, rfl⟩)
          go_round
          case rel => exact ⟨q + 1, by omega, by omega, by go_num⟩
          case measure => simp [intOf]; omega
        · obtain rfl : q = V := by omega
          have hdf : decide (q ≤ q) = true := by simp
          rw [hdf] at CH
          clear hdf
          go_wp2_with (go_at_call 20; refine CH.out.mono ?_; rintro e w' ⟨rfl, rfl⟩)
          go_ret2
          exact ⟨rfl, hb1⟩
end Go.Proofs.Ytfigabjcmpakeac
