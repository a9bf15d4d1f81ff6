/- What is wrong with rows, by the document (layer 33). -/
import Derived.Test.YtagcgffofddcnaaGrR
namespace Go.Proofs.Ytagcgffofddcnaa.gr
open Go.ChangeShapes Go.WideShapes Go.ChangeAt Go.RowKit
open Go.Proofs.Ytagcgffofddcnaa.ro
open Go.Proofs.Ytagcgffofddcnaa
set_option linter.unusedVariables false
set_option linter.unusedSimpArgs false
/-- what is known of a row's first k cells. -/
def preR (l : List C2) (k : Nat) : Prop := 0 < k → l.getD 0 d2 = d2 ∧ badN l (k - 1) = false
theorem rowE_4 {l : List C2} (h1 : ¬ 100 < l.length) (h2 : ¬ l.length = 0) (h : l.getD 0 d2 ≠ d2 ∨ badN l (l.length - 1) = true) : rowE l = 4 := by
  unfold rowE
  rw [if_neg h1, if_neg h2]
  by_cases h3 : l.getD 0 d2 = d2
  · rw [if_neg (fun h9 => h9 h3)]
    rcases h with h | h
    · exact absurd h3 h
    · rw [if_pos h]
  · rw [if_pos h3]
theorem rowE_0 {l : List C2} (h1 : ¬ 100 < l.length) (h2 : ¬ l.length = 0) (h : preR l l.length) : rowE l = 0 := by
  unfold rowE
  obtain ⟨h3, h4⟩ := h (by omega)
  rw [if_neg h1, if_neg h2, if_neg (fun h9 => h9 h3), if_neg (by rw [h4]; decide)]
set_option maxRecDepth 20000 in
set_option maxHeartbeats 8000000 in
theorem rcheck_v (a : Option Addr) (n c : Nat) (L : List (List C2)) (r : Int) (w : World) (h : PM w (.slice a n c) L) (hr : chkE L = r) :
    Calls Try.prog 18 #[.slice a n c] w fun e w' => e = .returned (.int .i64 r) ∧ Below w.heap.size w w' := by
  obtain ⟨hnl, hnc, hcm⟩ := h.len
  unfold maxLen at hcm
  have HR0 := Lib.hid h
  have HNL := Lib.hid hnl
  unfold chkE at hr
  rw [← hnl] at hr
  by_cases h1 : 100 < n
  · rw [if_pos h1] at hr
    subst hr
    have h1' : (100 : Int) < n := by omega
    clear h hnl
    go_enter Try.func18, Try.ntmps18
    go_wp2_with fail
    all_goals first | (go_ret; exact ⟨rfl, Below.refl _ _⟩) | skip
  rw [if_neg h1] at hr
  have h1' : ¬ (100 : Int) < n := by omega
  have h1'' : decide ((100 : Int) < n) = false := by simpa using h1'
  have HRR := Lib.hid hr
  have h0 : Hid (Below w.heap.size w w) := Lib.hid (Below.refl _ _)
  clear h hnl hr
  go_enter Try.func18, Try.ntmps18
  go_wp2_with fail
  go_loopw [3] (fun i wr => ∃ k : Nat, i = .int .i64 (k : Int) ∧ k ≤ n ∧ Hid (rowsN L k = 0) ∧ Hid (Below w.heap.size w wr)) (fun i _ => n - (intOf i).toNat)
  case atStart => exact ⟨0, rfl, by omega, Lib.hid rfl, h0⟩
  case round =>
    clear h0
    obtain ⟨i, rfl, hi, HI, HB⟩ := hrel
    by_cases hlt : i < n
    · obtain ⟨b, o, ai, ci, rfl, hbl, c0, hrow⟩ := (HR0.out.below HB.out).row i hlt
      have hst := rowsN_stay L (i + 1) n (by omega)
      have hsx : rowsN L (i + 1) = rowE (L.getD i []) := by rw [rowsN, if_neg (by rw [HI.out]; decide)]
      obtain ⟨l, hx⟩ : ∃ x, L.getD i [] = x := ⟨_, rfl⟩
      rw [hx] at c0 hsx hrow
      obtain ⟨m, hm⟩ : ∃ m, l.length = m := ⟨_, rfl⟩
      obtain ⟨_, hmc, hcm2⟩ := hrow.len
      unfold maxLen at hcm2
      rw [hm] at c0 hmc hrow
      have HM := Lib.hid hm
      have HOUT : Hid (∀ x, rowE l = x → x ≠ 0 → r = x) := Lib.hid (fun x e hx0 => by
        rw [e] at hsx
        have := hst (by rw [hsx]; exact hx0)
        rw [hsx] at this
        rw [← HRR.out, this])
      have HGO : Hid (rowE l = 0 → rowsN L (i + 1) = 0) := Lib.hid (fun e => by rw [hsx, e])
      have HROW : Hid (∀ w', Below wr.heap.size wr w' → RV 2 enC w' (.slice ai m ci) l) := Lib.hid (fun w' hb => hrow.below hb)
      have hiI : (i : Int) < (n : Int) := by omega
      have h00 : Hid (Below wr.heap.size wr wr) := Lib.hid (Below.refl _ _)
      have hp0 : Hid (preR l 0) := Lib.hid (fun h => by omega)
      clear hst hsx hx hrow hm
      by_cases m1 : 100 < m
      · have hrr : r = 9 := HOUT.out 9 (by unfold rowE; rw [if_pos (by rw [HM.out]; exact m1)]) (by decide)
        subst hrr
        have m1' : (100 : Int) < (m : Int) := by omega
        go_wp2_with fail
        go_ret
        exact ⟨rfl, HB.out⟩
      have m1' : ¬ (100 : Int) < (m : Int) := by omega
      have m1d : decide ((100 : Int) < (m : Int)) = false := by simpa using m1'
      by_cases m2 : m = 0
      · have hrr : r = 7 := HOUT.out 7 (by unfold rowE; rw [if_neg (by rw [HM.out]; exact m1), if_pos (by rw [HM.out]; exact m2)]) (by decide)
        subst hrr
        subst m2
        go_wp2_with fail
        go_ret
        exact ⟨rfl, HB.out⟩
      have m2' : ¬ (m : Int) = 0 := by omega
      have m2d : ((m : Int) == 0) = false := by simpa using m2'
      have HM1 : Hid (¬ 100 < l.length) := Lib.hid (by rw [HM.out]; exact m1)
      have HM2 : Hid (¬ l.length = 0) := Lib.hid (by rw [HM.out]; exact m2)
      go_wp2_with fail
      go_loopw [5] (fun j w2 => ∃ k : Nat, j = .int .i64 (k : Int) ∧ k ≤ m ∧ Hid (preR l k) ∧ Hid (Below wr.heap.size wr w2)) (fun j _ => m - (intOf j).toNat)
      case atStart => exact ⟨0, rfl, by omega, hp0, h00⟩
      case round =>
        clear h00 hp0
        rename_i wq
        obtain ⟨k, rfl, hk, HP, HB2⟩ := hrel
        by_cases hkt : k < m
        · have hkI : (k : Int) < (m : Int) := by omega
          obtain ⟨b2, o2, rfl, hbl2, d0, d1⟩ := RV.two (HROW.out _ HB2.out) k hkt
          have HB3 := Lib.hid (tr3 HB.out HB2.out)
          obtain ⟨⟨s1, x1⟩, hx1⟩ : ∃ x, l.getD k d2 = x := ⟨_, rfl⟩
          rw [hx1] at d0 d1
          simp only at d0 d1
          have HX1 := Lib.hid hx1
          clear hx1
          by_cases hk0 : k = 0
          · subst hk0
            simp only [Nat.zero_mul, Nat.add_zero] at d0 d1
            by_cases hs : s1 = 0
            · subst hs
              cases x1 with
              | true =>
                have hrr : r = 4 := HOUT.out 4 (rowE_4 HM1.out HM2.out (.inl (by rw [HX1.out]; decide))) (by decide)
                subst hrr
                go_wp2_with fail
                go_quiet (fail)
                go_wp2_with fail
                go_ret
                exact ⟨rfl, below_drewN HB3.out _⟩
              | false =>
                have HP1 : Hid (preR l 1) := Lib.hid (fun _ => ⟨HX1.out, rfl⟩)
                go_wp2_with fail
                go_quiet (fail)
                go_wp2_with fail
                go_roundw
                case rel => exact ⟨1, by go_num, by omega, HP1, Lib.hid (below_drewN HB2.out _)⟩
                case measure => simp [intOf]; omega
            · have hsd : (s1 == 0) = false := by simpa using hs
              have hsn : (s1 != 0) = true := by simpa using hs
              have hrr : r = 4 := HOUT.out 4 (rowE_4 HM1.out HM2.out (.inl (by rw [HX1.out]; intro e; exact hs (congrArg Prod.fst e)))) (by decide)
              subst hrr
              go_wp2_with fail
              go_quiet (fail)
              go_wp2_with fail
              go_ret
              exact ⟨rfl, below_drewN HB3.out _⟩
          · obtain ⟨j, hj⟩ : ∃ j, k - 1 = j := ⟨_, rfl⟩
            have hjk : k = j + 1 := by omega
            obtain ⟨b2', o2', e2, hbl2', e0, e1⟩ := RV.two (HROW.out _ HB2.out) j (by omega)
            cases e2
            obtain ⟨⟨s2, x2⟩, hx2⟩ : ∃ x, l.getD j d2 = x := ⟨_, rfl⟩
            rw [hx2] at e0 e1
            simp only at e0 e1
            have hpk := HP.out (by omega)
            have HBAD : Hid (badN l k = (decide (s1 ≤ s2) || decide (1048575 < s1))) := Lib.hid (by
              rw [hjk, badN]
              have h9 := hpk.2
              rw [hj] at h9
              rw [h9, Bool.false_or, hx2, ← hjk, HX1.out]
              rfl)
            have HBU : Hid (badN l k = true → badN l (l.length - 1) = true) := Lib.hid (badN_stay l k _ (by have := HM.out; omega))
            have HP0 := Lib.hid hpk.1
            have hk0' : ¬ (k : Int) = 0 := by omega
            have hk0d : ((k : Int) == 0) = false := by simpa using hk0'
            have hkp : (0 : Int) < (k : Int) := by omega
            have hkd : decide ((0 : Int) < (k : Int)) = true := by simpa using hkp
            have hkj : (k : Int) - 1 = (j : Int) := by omega
            have hkN : 0 < k := by omega
            have hkNd : decide (0 < k) = true := by simpa using hkN
            have hk0n : (k == 0) = false := by simpa using hk0
            have hjI : (j : Int) < (m : Int) := by omega
            have HJK := Lib.hid hjk
            clear hj hjk hpk hx2
            obtain ⟨t1, ht1⟩ : ∃ t, decide (s1 ≤ s2) = t := ⟨_, rfl⟩
            obtain ⟨t2, ht2⟩ : ∃ t, decide ((1048575 : Int) < s1) = t := ⟨_, rfl⟩
            rw [ht1, ht2] at HBAD
            cases t1 with
            | true =>
              have ht1' : s1 ≤ s2 := by simpa using ht1
              have hrr : r = 4 := HOUT.out 4 (rowE_4 HM1.out HM2.out (.inr (HBU.out (by rw [HBAD.out]; rfl)))) (by decide)
              subst hrr
              go_wp2_with fail
              go_quiet (fail)
              go_wp2_with fail
              go_ret
              exact ⟨rfl, below_drewN HB3.out _⟩
            | false =>
              have ht1' : ¬ s1 ≤ s2 := by simpa using ht1
              cases t2 with
              | true =>
                have ht2' : (1048575 : Int) < s1 := by simpa using ht2
                have hrr : r = 4 := HOUT.out 4 (rowE_4 HM1.out HM2.out (.inr (HBU.out (by rw [HBAD.out]; rfl)))) (by decide)
                subst hrr
                go_wp2_with fail
                go_quiet (fail)
                go_wp2_with fail
                go_ret
                exact ⟨rfl, below_drewN HB3.out _⟩
              | false =>
                have ht2' : ¬ (1048575 : Int) < s1 := by simpa using ht2
                have HP1 : Hid (preR l (k + 1)) := Lib.hid (fun _ => ⟨HP0.out, by rw [Nat.add_sub_cancel, HBAD.out]; rfl⟩)
                go_wp2_with fail
                go_quiet (fail)
                go_wp2_with fail
                go_roundw
                case rel => exact ⟨k + 1, by go_num, by omega, HP1, Lib.hid (below_drewN HB2.out _)⟩
                case measure => simp [intOf]; omega
        · obtain rfl : k = m := by omega
          have HB3 := Lib.hid (tr3 HB.out HB2.out)
          have HI1 : Hid (rowsN L (i + 1) = 0) := Lib.hid (HGO.out (rowE_0 HM1.out HM2.out (by rw [HM.out]; exact HP.out)))
          go_wp2_with fail
          go_roundw
          case rel => exact ⟨i + 1, by go_num, by omega, HI1, HB3⟩
          case measure => simp [intOf]; omega
    · obtain rfl : i = n := by omega
      have hrr : r = 0 := by rw [← HRR.out, HI.out]
      subst hrr
      go_wp2_with fail
      go_ret
      exact ⟨rfl, HB.out⟩
end Go.Proofs.Ytagcgffofddcnaa.gr
