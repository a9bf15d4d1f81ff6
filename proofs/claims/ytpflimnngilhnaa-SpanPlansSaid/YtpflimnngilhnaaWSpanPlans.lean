/- SpanPlans, the walk (layer 41). -/
import Derived.Test.YtpflimnngilhnaaSpM
namespace Go.Proofs.Ytpflimnngilhnaa.spanPlans
open Go.ChangeShapes Go.WideShapes Go.ChangeAt Go.RowKit
open Go.Proofs.Ytpflimnngilhnaa.rh
set_option linter.unusedVariables false
set_option linter.unusedSimpArgs false
theorem btr {w w1 w2 : World} (h : Below w.heap.size w w1) (k : Below w1.heap.size w1 w2) : Below w.heap.size w w2 := h.trans (k.mono h.size)
set_option maxRecDepth 20000 in
set_option maxHeartbeats 4000000 in
theorem walk (a0 : Option Addr) (len0 cap0 : Nat) (z0 : List (List Int)) (a1 : Int) (w : World) (w0 : IsMat w a0 len0 cap0 z0) (w1 : (Lit.int .i64 a1).wf = true) :
    Calls Try.prog 5 #[.slice a0 len0 cap0, .int .i64 a1] w fun e w' => e = .returned (.bool true) ∧ Below w.heap.size w w' := by
  have HM := Lib.hid w0.1
  have HLN := Lib.hid w0.1.len.1
  clear w0 w1
  have CW := Lib.hid (works41 w)
  cases hg : (grC z0 len0 || decide (300 < 0)) with
  | true =>
    have CG := Lib.hid (fun w1 h => great41 a0 none len0 cap0 0 0 z0 true w1 h hg)
    go_enter Try.func5, Try.ntmps5
    go_wp2_with (first | (go_at_call 12; (with_reducible refine CW.out.mono ?_); rintro e w1 ⟨rfl, HB1⟩))
    have HM1 := Lib.hid (HM.out.below HB1)
    have HBH := Lib.hid HB1
    have C := Lib.hid (CG.out w1 HM1.out)
    clear HB1 CW HM
    go_wp2_with (first | (go_at_call 13; (with_reducible refine C.out.mono ?_); rintro e w2 ⟨rfl, rfl⟩))
    go_ret
    exact ⟨rfl, HBH.out⟩
  | false =>
    have CG := Lib.hid (fun w1 h => great41 a0 none len0 cap0 0 0 z0 false w1 h hg)
    simp only [Bool.or_eq_false_iff] at hg
    obtain ⟨hgc, _⟩ := hg
    obtain ⟨hn, hrow⟩ := grC_false hgc
    have HRW := Lib.hid (row_all (by rw [← HLN.out]; exact hrow))
    clear hgc hrow
    have CO := Lib.hid (fun w1 h => own_of a0 len0 cap0 z0 w1 h (by omega) (fun i hi => by have := HRW.out i; omega))
    unfold OwnPost at CO
    have CKH := Lib.hid (ck_cases z0)
    obtain ⟨c, hc⟩ : ∃ c, ck z0 = c := ⟨_, rfl⟩
    by_cases h0 : c = 9 ∨ c = 3
    · have C1 := fun av cv w h => levels_bad av len0 cv z0 c w h hc h0
      have C2 := fun av cv w h => widest_bad av len0 cv z0 c w h hc h0
      have C3 := fun av cv w h => plan_bad av len0 cv a1 z0 c w h hc h0
      have C4 := fun av cv w h => greedy_bad av len0 cv a1 z0 c w h hc h0
      have C5 := fun w h => rcheck_of a0 len0 cap0 z0 c w h hc
      clear hc CKH
      rcases h0 with rfl | rfl
      all_goals
        replace C1 := Lib.hid C1
        replace C2 := Lib.hid C2
        replace C3 := Lib.hid C3
        replace C4 := Lib.hid C4
        replace C5 := Lib.hid C5
        go_enter Try.func5, Try.ntmps5
        go_wp2_with (first | (go_at_call 12; (with_reducible refine CW.out.mono ?_); rintro e w1 ⟨rfl, HB1⟩))
        have HM1 := Lib.hid (HM.out.below HB1)
        have HBH1 := Lib.hid HB1
        have D1 := Lib.hid (CG.out w1 HM1.out)
        have D2 := Lib.hid (CO.out w1 HM1.out)
        clear HB1 CW HM CG
        go_wp2_with (first | (go_at_call 13; (with_reducible refine D1.out.mono ?_); rintro e w2 ⟨rfl, rfl⟩) | (go_at_call 14; (with_reducible refine D2.out.mono ?_); rintro e w2 ⟨v2, rfl, HV2, HB2⟩))
        obtain ⟨av2, cv2, rfl, _⟩ := HV2.form
        rw [← HLN.out] at HV2
        rw [← HLN.out]
        have HM2 := Lib.hid (HM1.out.below HB2)
        have HBH2 := Lib.hid (trans3 HBH1.out HB2)
        have E1 := Lib.hid (C1.out av2 cv2 w2 HV2)
        have O3 := Lib.hid (CO.out w2 HM2.out)
        go_wp2_with (first | (go_at_call 21; (with_reducible refine E1.out.mono ?_); rintro e w9 ⟨rfl, rfl⟩) | (go_at_call 14; (with_reducible refine O3.out.mono ?_); rintro e w3 ⟨v3, rfl, HV3, HB3⟩))
        obtain ⟨av3, cv3, rfl, _⟩ := HV3.form
        rw [← HLN.out] at HV3
        rw [← HLN.out]
        have HM3 := Lib.hid (HM2.out.below HB3)
        have HBH3 := Lib.hid (trans3 HBH2.out HB3)
        have E2 := Lib.hid (C2.out av3 cv3 w3 HV3)
        have O4 := Lib.hid (CO.out w3 HM3.out)
        go_wp2_with (first | (go_at_call 22; (with_reducible refine E2.out.mono ?_); rintro e w9 ⟨rfl, rfl⟩) | (go_at_call 14; (with_reducible refine O4.out.mono ?_); rintro e w4 ⟨v4, rfl, HV4, HB4⟩))
        obtain ⟨av4, cv4, rfl, _⟩ := HV4.form
        rw [← HLN.out] at HV4
        rw [← HLN.out]
        have HM4 := Lib.hid (HM3.out.below HB4)
        have HBH4 := Lib.hid (trans3 HBH3.out HB4)
        have E3 := Lib.hid (C3.out av4 cv4 w4 HV4)
        have O5 := Lib.hid (CO.out w4 HM4.out)
        go_wp2_with (first | (go_at_call 23; (with_reducible refine E3.out.mono ?_); rintro e w9 ⟨rfl, rfl⟩) | (go_at_call 14; (with_reducible refine O5.out.mono ?_); rintro e w5 ⟨v5, rfl, HV5, HB5⟩))
        obtain ⟨av5, cv5, rfl, _⟩ := HV5.form
        rw [← HLN.out] at HV5
        rw [← HLN.out]
        have HM5 := Lib.hid (HM4.out.below HB5)
        have HBH5 := Lib.hid (trans3 HBH4.out HB5)
        have E4 := Lib.hid (C4.out av5 cv5 w5 HV5)
        have E5 := Lib.hid (C5.out w5 HM5.out)
        go_wp2_with (first | (go_at_call 24; (with_reducible refine E4.out.mono ?_); rintro e w9 ⟨rfl, rfl⟩) | (go_at_call 25; (with_reducible refine E5.out.mono ?_); rintro e w9 ⟨rfl, rfl⟩))
        go_ret
        exact ⟨rfl, HBH5.out⟩
    · have hc0 : c = 0 := by
        have := CKH.out
        omega
      subst hc0
      have hcl := CKH.out
      have HVa : Hid (Valid z0) := Lib.hid (valid_of (by rcases hcl with h | h | h; omega; omega; exact h.2.2))
      obtain ⟨k, hk1, hk2, hkk⟩ : ∃ k : Nat, 1 ≤ k ∧ k ≤ 64 ∧ Hid (∃ m1 : Int, (if a1 < 1 then (1 : Int) else a1) = m1 ∧ (if 64 < m1 then (64 : Int) else m1) = (k : Int)) := by
        refine ⟨(if 64 < (if a1 < 1 then (1 : Int) else a1) then (64 : Int) else (if a1 < 1 then (1 : Int) else a1)).toNat, ?_, ?_, Lib.hid ⟨_, rfl, ?_⟩⟩
        · split <;> split <;> omega
        · split <;> split <;> omega
        · split <;> split <;> omega
      have C1 := Lib.hid (fun av cv w h => levels_of av len0 cv z0 w h hc)
      have C2 := Lib.hid (fun av cv w h => widest_of av len0 cv z0 w h hc)
      have C3 := Lib.hid (fun av cv w h => plan_of av len0 cv k a1 z0 w h hc hn HRW.out hk1 hk2 hkk)
      have C4 := Lib.hid (fun av cv w h => greedy_of av len0 cv k a1 z0 w h hc hn HRW.out hk1 hk2 hkk)
      have C5 := Lib.hid (fun w h => rcheck_of a0 len0 cap0 z0 0 w h hc)
      have C6 := Lib.hid (fun w h => rplan_of a0 len0 cap0 k a1 z0 w h HVa.out (by omega) hk1 hk2 hkk)
      have hgl := gt_levels HVa.out len0
      unfold YPost at C1
      unfold PnPost at C3
      unfold PlPost at C6
      obtain ⟨gw, hgw⟩ : ∃ g, gt (cl z0 len0) len0 = g := ⟨_, rfl⟩
      rw [hgw] at C2 hgl
      have HGL := Lib.hid hgl
      clear hc CKH hcl h0 hgl hgw
      go_enter Try.func5, Try.ntmps5
      go_wp2_with (first | (go_at_call 12; (with_reducible refine CW.out.mono ?_); rintro e w1 ⟨rfl, HB1⟩))
      have HM1 := Lib.hid (HM.out.below HB1)
      have HBH1 := Lib.hid HB1
      have D1 := Lib.hid (CG.out w1 HM1.out)
      have D2 := Lib.hid (CO.out w1 HM1.out)
      clear HB1 CW HM CG
      go_wp2_with (first | (go_at_call 13; (with_reducible refine D1.out.mono ?_); rintro e w2 ⟨rfl, rfl⟩) | (go_at_call 14; (with_reducible refine D2.out.mono ?_); rintro e w2 ⟨v2, rfl, HV2, HB2⟩))
      obtain ⟨av2, cv2, rfl, _⟩ := HV2.form
      rw [← HLN.out] at HV2
      rw [← HLN.out]
      have HM2 := Lib.hid (HM1.out.below HB2)
      have HBH2 := Lib.hid (trans3 HBH1.out HB2)
      have E1 := Lib.hid (C1.out av2 cv2 w2 HV2)
      clear D1 D2 HV2 HB2
      go_wp2_with (first | (go_at_call 21; (with_reducible refine E1.out.mono ?_); rintro e w3 ⟨SL, rfl, HNL, HB3⟩))
      have HM3 := Lib.hid (HM2.out.below HB3)
      have HBH3 := Lib.hid (trans3 HBH2.out HB3)
      have HN3 := Lib.hid HNL
      clear E1 HNL HB3 HM2 HBH2
      have O4 := Lib.hid (CO.out w3 HM3.out)
      go_wp2_with (first | (go_at_call 14; (with_reducible refine O4.out.mono ?_); rintro e w4 ⟨v4, rfl, HV4, HB4⟩))
      obtain ⟨av4, cv4, rfl, _⟩ := HV4.form
      rw [← HLN.out] at HV4
      rw [← HLN.out]
      have HM4 := Lib.hid (HM3.out.below HB4)
      have HBH4 := Lib.hid (trans3 HBH3.out HB4)
      have HN4 := Lib.hid (HN3.out.below HB4)
      have E2 := Lib.hid (C2.out av4 cv4 w4 HV4)
      clear O4 HV4 HB4 HN3 HM3 HBH3
      go_wp2_with (first | (go_at_call 22; (with_reducible refine E2.out.mono ?_); rintro e w5 ⟨rfl, HB5⟩))
      have HM5 := Lib.hid (HM4.out.below HB5)
      have HBH5 := Lib.hid (trans3 HBH4.out HB5)
      have HN5 := Lib.hid (HN4.out.below HB5)
      clear E2 HB5 HM4 HBH4 HN4
      have O6 := Lib.hid (CO.out w5 HM5.out)
      go_wp2_with (first | (go_at_call 14; (with_reducible refine O6.out.mono ?_); rintro e w6 ⟨v6, rfl, HV6, HB6⟩))
      obtain ⟨av6, cv6, rfl, _⟩ := HV6.form
      rw [← HLN.out] at HV6
      rw [← HLN.out]
      have HM6 := Lib.hid (HM5.out.below HB6)
      have HBH6 := Lib.hid (trans3 HBH5.out HB6)
      have HN6 := Lib.hid (HN5.out.below HB6)
      have E3 := Lib.hid (C3.out av6 cv6 w6 HV6)
      clear O6 HV6 HB6 HN5 HM5 HBH5
      go_wp2_with (first | (go_at_call 23; (with_reducible refine E3.out.mono ?_); (rintro e w7 ⟨t1, vp, rfl, hp1, hp2, hpm, HB7⟩); (obtain ⟨ap, cp, rfl, _⟩ := hpm.form)))
      have HM7 := Lib.hid (HM6.out.below HB7)
      have HBH7 := Lib.hid (trans3 HBH6.out HB7)
      have HN7 := Lib.hid (HN6.out.below HB7)
      have HP7 := Lib.hid hpm
      have HT1 := Lib.hid (And.intro hp1 hp2)
      have hrl := roT_len z0 len0 k t1
      rw [hrl] at HP7 ⊢
      clear E3 HB7 HM6 HBH6 HN6 hp1 hp2 hpm hrl
      have O8 := Lib.hid (CO.out w7 HM7.out)
      go_wp2_with (first | (go_at_call 14; (with_reducible refine O8.out.mono ?_); rintro e w8 ⟨v8, rfl, HV8, HB8⟩))
      obtain ⟨av8, cv8, rfl, _⟩ := HV8.form
      rw [← HLN.out] at HV8
      rw [← HLN.out]
      have HM8 := Lib.hid (HM7.out.below HB8)
      have HBH8 := Lib.hid (trans3 HBH7.out HB8)
      have HN8 := Lib.hid (HN7.out.below HB8)
      have HP8 := Lib.hid (HP7.out.below HB8)
      have E4 := Lib.hid (C4.out av8 cv8 w8 HV8)
      clear O8 HV8 HB8 HN7 HP7 HM7 HBH7
      go_wp2_with (first | (go_at_call 24; (with_reducible refine E4.out.mono ?_); rintro e w9 ⟨t2, rfl, hg1, hg2, HB9⟩))
      obtain rfl : t2 = t1 := t_unique (f := fun s => (dnT z0 len0 k s).length) hg1 hg2 HT1.out.1 HT1.out.2
      have HM9 := Lib.hid (HM8.out.below HB9)
      have HBH9 := Lib.hid (trans3 HBH8.out HB9)
      have HN9 := Lib.hid (HN8.out.below HB9)
      have HP9 := Lib.hid (HP8.out.below HB9)
      have E5 := Lib.hid (C5.out w9 HM9.out)
      have ht2n : t2 ≤ len0 := dnT_t (k := k) HVa.out hk1 HT1.out.1
      clear E4 HB9 HM8 HBH8 HN8 HP8 hg1 hg2 CO
      go_wp2_with (first | (go_at_call 25; (with_reducible refine E5.out.mono ?_); rintro e w10 ⟨rfl, rfl⟩))
      go_loopw [14, 15] (fun m i wr => ∃ (j x : Nat), j ≤ len0 ∧ x ≤ len0 ∧ i = .int .i64 (j : Int) ∧ m = .int .i64 (x : Int) ∧ Hid (gt (fun i => cl z0 len0 (lv z0 i)) j = x) ∧ Hid (Below w9.heap.size w9 wr)) (fun _ i _ => len0 - (intOf i).toNat)
      case atStart => exact ⟨0, 0, by omega, by omega, rfl, rfl, Lib.hid rfl, Lib.hid (Below.refl _ _)⟩
      case round =>
        clear E5
        obtain ⟨j, x, hj, hxl, rfl, rfl, HX, HB⟩ := hrel
        by_cases hlt : j < len0
        · obtain ⟨y, hy⟩ : ∃ y, lv z0 j = y := ⟨_, rfl⟩
          have hcy := (HN9.out.below HB.out).at j y hlt hy
          have CL := Lib.hid (fun (W : World) (h : Below wr.heap.size wr W) => rlevel_of a0 len0 cap0 j y z0 W ((HM9.out.below HB.out).below h) HVa.out (by omega) hlt hy)
          have HK : Hid (∀ w', Below wr.heap.size wr w' → w'.cell? ⟨SL, j, none⟩ = some (.int .i64 (y : Int)) ∧ Below wr.heap.size wr w') := Lib.hid fun w' hb => ⟨((HN9.out.below HB.out).below hb).at j y hlt hy, hb⟩
          have HY := Lib.hid hy
          have hyy : (y != y) = false := by simp
          have hge : decide ((len0 : Int) ≤ (j : Int)) = false := by simp; omega
          have hgeN : decide (len0 ≤ j) = false := by simp; omega
          have hgeM : ¬ len0 ≤ j := by omega
          have hgeI : ¬ (len0 : Int) ≤ (j : Int) := by omega
          clear hy hcy
          go_wp2_with fail
          go_region_held3 (fun w' => w'.cell? ⟨SL, j, none⟩ = some (.int .i64 (y : Int)) ∧ Below wr.heap.size wr w')
            (first | (with_reducible assumption) | exact HK.out _ (Below.refl _ _) | exact HK.out _ hb6 | (refine HK.out _ ?_; go_grown; done))
            (first | (go_at_call 26; refine (CL.out _ (by go_grown)).mono ?_; rintro e w6 ⟨rfl, hb5⟩; have hb6 : Below wr.heap.size wr w6 := btr (by go_grown) hb5))
          all_goals
            have HB6 := Lib.hid (btr HB.out hb6)
            clear CL HK hb5 hb6 HB
            go_wp2_with fail
            go_loopw [16, 17] (fun mm i wi => ∃ (q m : Nat), q ≤ len0 ∧ i = .int .i64 (q : Int) ∧ mm = .int .i64 (m : Int) ∧ m ≤ q ∧ Hid (cl z0 q y = m) ∧ Hid (Below w9.heap.size w9 wi)) (fun _ i _ => len0 - (intOf i).toNat)
            case atStart => exact ⟨0, 0, by omega, rfl, rfl, by omega, Lib.hid rfl, HB6⟩
            case round =>
              clear HB6
              obtain ⟨q, m, hq, rfl, rfl, hmq, HC, HB⟩ := hrel
              by_cases hql : q < len0
              · obtain ⟨v, hv⟩ : ∃ v, lv z0 q = v := ⟨_, rfl⟩
                have hcv := (HN9.out.below HB.out).at q v hql hv
                have hcy := (HN9.out.below HB.out).at j y hlt HY.out
                have HC1 : Hid (cl z0 (q + 1) y = m + if v = y then 1 else 0) := Lib.hid (by rw [cl, HC.out, hv])
                have HB7 := Lib.hid (HB.out.drew)
                clear hv HB
                by_cases hvy : v = y
                · subst hvy
                  have HC2 : Hid (cl z0 (q + 1) v = m + 1) := Lib.hid (by rw [HC1.out, if_pos rfl])
                  go_wp2_with fail
                  go_region
                  go_wp2_with fail
                  go_roundw
                  case rel => exact ⟨q + 1, m + 1, by omega, by go_num, by go_num, by omega, HC2, HB7⟩
                  case measure => simp [intOf]; omega
                · have hvb : (v == y) = false := by simpa using hvy
                  have hvI : ((v : Int) == (y : Int)) = false := by simp; omega
                  have HC2 : Hid (cl z0 (q + 1) y = m) := Lib.hid (by rw [HC1.out, if_neg hvy]; rfl)
                  go_wp2_with fail
                  go_region
                  go_wp2_with fail
                  go_roundw
                  case rel => exact ⟨q + 1, m, by omega, by go_num, rfl, by omega, HC2, HB7⟩
                  case measure => simp [intOf]; omega
              · obtain rfl : q = len0 := by omega
                obtain ⟨r, hr⟩ : ∃ r, max x m = r := ⟨_, rfl⟩
                have hrl : r ≤ q := by omega
                have hmax : (if x < m then (m : Int) else (x : Int)) = (r : Int) := by rw [← hr, ← max_int]; simp
                have HX7 : Hid (gt (fun i => cl z0 q (lv z0 i)) (j + 1) = r) := Lib.hid (by rw [gt, HX.out, HY.out, HC.out, hr])
                clear hr
                go_wp2_with fail
                go_roundw
                case rel => exact ⟨j + 1, r, by omega, hrl, by go_num, by first | rfl | rw [hmax], HX7, HB⟩
                case measure => simp [intOf]; omega
        · obtain rfl : j = len0 := by omega
          obtain rfl : x = gw := by rw [← HX.out, ← HGL.out]
          have E6 := Lib.hid (C6.out wr (HM9.out.below HB.out))
          have hxx : (x != x) = false := by simp
          clear HX HGL
          go_wp2_with (first | (go_at_call 27; (with_reducible refine E6.out.mono ?_); (rintro e w10 ⟨t3, vq, rfl, hq1, hq2, hqm, HB10⟩); (obtain ⟨aq, cq, rfl, _⟩ := hqm.form); (obtain rfl : t3 = t2 := t_unique (f := fun s => (dnT z0 j k s).length) hq1 hq2 HT1.out.1 HT1.out.2); (rw [roT_len] at hqm); (rw [roT_len])))
          have HQ10 := Lib.hid hqm
          have HBa := Lib.hid (trans3 HBH9.out (trans3 HB.out HB10))
          have HP10 := Lib.hid (HP9.out.below (trans3 HB.out HB10))
          clear hqm hq1 hq2 HB HB10 E6 HP9 HN9 HM9 HBH9
          go_loopw [19] (fun i wr => ∃ (u : Nat), u ≤ t3 ∧ i = .int .i64 (u : Int) ∧ Hid (Below w10.heap.size w10 wr)) (fun i _ => t3 - (intOf i).toNat)
          case atStart => exact ⟨0, by omega, rfl, Lib.hid (Below.refl _ _)⟩
          case round =>
            obtain ⟨u, hu, rfl, HB⟩ := hrel
            by_cases hul : u < t3
            · obtain ⟨b1, o1, a1', c1', rfl, hb1, hc1, hv1⟩ := (HP10.out.below HB.out).row u hul
              obtain ⟨b2, o2, a2', c2', rfl, hb2, hc2, hv2⟩ := (HQ10.out.below HB.out).row u hul
              have CI := Lib.hid (fun q => ints_row _ _ _ wr q hv1 hv2)
              have HBq := Lib.hid (fun q => below_drewN HB.out q)
              obtain ⟨m, hm⟩ : ∃ m, ((roT z0 j k t3).getD u []).length = m := ⟨_, rfl⟩
              rw [hm] at hc1 hc2 CI
              clear hv1 hv2 HB hm
              go_wp2_with fail
              go_quiet ((go_at_call 19; exact CI.out _))
              go_wp2_with fail
              go_roundw
              case rel => exact ⟨u + 1, by omega, by go_num, Lib.hid (HBq.out _)⟩
              case measure => simp [intOf]; omega
            · obtain rfl : u = t3 := by omega
              go_wp2_with fail
              go_ret
              exact ⟨rfl, trans3 HBa.out HB.out⟩
end Go.Proofs.Ytpflimnngilhnaa.spanPlans
