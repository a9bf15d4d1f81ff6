/- SpanGreedy, the walk (layer 41). -/
import Derived.Test.YtpflimnngilhnaaSpN
namespace Go.Proofs.Ytpflimnngilhnaa.spanGreedy
open Go.ChangeShapes Go.WideShapes Go.ChangeAt Go.RowKit
open Go.Proofs.Ytpflimnngilhnaa.rh
set_option linter.unusedVariables false
set_option linter.unusedSimpArgs false
theorem rv_nil (w : World) : RV 3 enA w (.slice none 0 0) [] := ⟨none, 0, rfl, Nat.le_refl _, Nat.zero_le _, fun _ => rfl, fun i x h => by simp at h⟩
set_option maxRecDepth 20000 in
set_option maxHeartbeats 4000000 in
theorem walk (a0 : Option Addr) (len0 cap0 : Nat) (z0 : List (List Int)) (a1 : Int) (w : World) (w0 : IsMat w a0 len0 cap0 z0) (w1 : (Lit.int .u8 a1).wf = true) :
    Calls Try.prog 6 #[.slice a0 len0 cap0, .int .u8 a1] w fun e w' => e = .returned (.bool true) ∧ Below w.heap.size w w' := by
  have HM := Lib.hid w0.1
  have HLN := Lib.hid w0.1.len.1
  have ha1 : 0 ≤ a1 ∧ a1 < 256 := by simp [Lit.wf, IntKind.min, IntKind.max, IntKind.bits, IntKind.signed] at w1; omega
  obtain ⟨b1, rfl⟩ : ∃ b : Nat, a1 = (b : Int) := ⟨a1.toNat, by omega⟩
  obtain ⟨k, hkd⟩ : ∃ k, b1 % 64 + 1 = k := ⟨_, rfl⟩
  have hk1 : 1 ≤ k := by omega
  have hk2 : k ≤ 64 := by omega
  have hq1 : IntKind.i64.wrap (b1 : Int) = (b1 : Int) := by rw [IntKind.wrap_i64]; omega
  obtain ⟨r1, hr1⟩ : ∃ r, b1 % 64 = r := ⟨_, rfl⟩
  have hq2 : (b1 : Int).tmod 64 = (r1 : Int) := by rw [Int.tmod_eq_emod_of_nonneg (by omega)]; omega
  have hq3 : (b1 : Int) % 64 = (r1 : Int) := by omega
  have hq4 : (r1 : Int) + 1 = (k : Int) := by omega
  clear w0 w1 hr1 hkd
  have CW := Lib.hid (works41 w)
  cases hg : (grC z0 len0 || decide (300 < 0)) with
  | true =>
    have CG := Lib.hid (fun w1 h => great41 a0 none len0 cap0 0 0 z0 true w1 h hg)
    go_enter Try.func6, Try.ntmps6
    go_wp2_with (first | (go_at_call 12; (with_reducible refine CW.out.mono ?_); rintro e w1 ⟨rfl, HB1⟩))
    have HM1 := Lib.hid (HM.out.below HB1)
    have HBH := Lib.hid HB1
    have C := Lib.hid (CG.out w1 HM1.out)
    clear HB1 CW HM
    go_wp2_with (first | (go_at_call 13; (with_reducible refine C.out.mono ?_); rintro e w2 ⟨rfl, rfl⟩))
    go_ret
    exact ⟨rfl, HBH.out⟩
  | false =>
    have CG := Lib.hid (fun w1 h => great41 a0 none len0 cap0 0 0 z0 false w1 h hg)
    simp only [Bool.or_eq_false_iff] at hg
    obtain ⟨hgc, _⟩ := hg
    obtain ⟨hn, hrow⟩ := grC_false hgc
    have HRW := Lib.hid (row_all (by rw [← HLN.out]; exact hrow))
    clear hgc hrow
    have CO := Lib.hid (fun w1 h => own_of a0 len0 cap0 z0 w1 h (by omega) (fun i hi => by have := HRW.out i; omega))
    unfold OwnPost at CO
    have CKH := Lib.hid (ck_cases z0)
    obtain ⟨c, hc⟩ : ∃ c, ck z0 = c := ⟨_, rfl⟩
    by_cases h0 : c = 9 ∨ c = 3
    · have C5 := fun w h => rcheck_of a0 len0 cap0 z0 c w h hc
      clear hc CKH
      rcases h0 with rfl | rfl
      all_goals
        replace C5 := Lib.hid C5
        go_enter Try.func6, Try.ntmps6
        go_wp2_with (first | (go_at_call 12; (with_reducible refine CW.out.mono ?_); rintro e w1 ⟨rfl, HB1⟩))
        have HM1 := Lib.hid (HM.out.below HB1)
        have HBH1 := Lib.hid HB1
        have D1 := Lib.hid (CG.out w1 HM1.out)
        have D2 := Lib.hid (C5.out w1 HM1.out)
        clear HB1 CW HM CG
        go_wp2_with (first | (go_at_call 13; (with_reducible refine D1.out.mono ?_); rintro e w2 ⟨rfl, rfl⟩) | (go_at_call 25; (with_reducible refine D2.out.mono ?_); rintro e w2 ⟨rfl, rfl⟩))
        go_ret
        exact ⟨rfl, HBH1.out⟩
    · have hc0 : c = 0 := by
        have := CKH.out
        omega
      subst hc0
      have hcl := CKH.out
      have HVa : Hid (Valid z0) := Lib.hid (valid_of (by rcases hcl with h | h | h; omega; omega; exact h.2.2))
      have hkk : Hid (∃ m1 : Int, (if (k : Int) < 1 then (1 : Int) else (k : Int)) = m1 ∧ (if 64 < m1 then (64 : Int) else m1) = (k : Int)) := Lib.hid ⟨(k : Int), by rw [if_neg (by omega)], by rw [if_neg (by omega)]⟩
      have C1 := Lib.hid (fun av cv w h => plan_of av len0 cv k (k : Int) z0 w h hc hn HRW.out hk1 hk2 hkk)
      have C2 := Lib.hid (fun av cv w h => span_yes av none len0 cv 0 0 z0 [] (.slice none 0 0) w h (rv_nil w) hc (by omega) rfl)
      have C5 := Lib.hid (fun w h => rcheck_of a0 len0 cap0 z0 0 w h hc)
      unfold PnPost at C1
      have hwa : wA [] 0 = one := rfl
      rw [hwa] at C2
      obtain ⟨H, hHg⟩ : ∃ H, gt (hg z0 one) len0 = H := ⟨_, rfl⟩
      rw [hHg] at C2
      have hHn : H ≤ len0 := by
        rw [← hHg]
        exact gt_le _ _ _ fun b hb => by have := hg_le HVa.out one b; rw [one_sum] at this; omega
      clear hc CKH hcl h0 hwa hkk
      go_enter Try.func6, Try.ntmps6
      go_wp2_with (first | (go_at_call 12; (with_reducible refine CW.out.mono ?_); rintro e w1 ⟨rfl, HB1⟩))
      have HM1 := Lib.hid (HM.out.below HB1)
      have HBH1 := Lib.hid HB1
      have D1 := Lib.hid (CG.out w1 HM1.out)
      have D2 := Lib.hid (C5.out w1 HM1.out)
      clear HB1 CW HM CG
      have D3 := Lib.hid (CO.out w1 HM1.out)
      go_wp2_with (first | (go_at_call 13; (with_reducible refine D1.out.mono ?_); rintro e w2 ⟨rfl, rfl⟩) | (go_at_call 25; (with_reducible refine D2.out.mono ?_); rintro e w2 ⟨rfl, rfl⟩) | (go_at_call 14; (with_reducible refine D3.out.mono ?_); rintro e w2 ⟨v2, rfl, HV2, HB2⟩))
      obtain ⟨av2, cv2, rfl, _⟩ := HV2.form
      rw [← HLN.out] at HV2
      rw [← HLN.out]
      have HM2 := Lib.hid (HM1.out.below HB2)
      have HBH2 := Lib.hid (trans3 HBH1.out HB2)
      have E1 := Lib.hid (C1.out av2 cv2 w2 HV2)
      clear D1 D2 D3 HV2 HB2 HM1 HBH1
      go_wp2_with (first | (go_at_call 23; (with_reducible refine E1.out.mono ?_); (rintro e w3 ⟨t, vp, rfl, hp1, hp2, hpm, HB3⟩); (obtain ⟨ap, cp, rfl, _⟩ := hpm.form); (rw [roT_len] at hpm); (rw [roT_len])))
      have HM3 := Lib.hid (HM2.out.below HB3)
      have HBH3 := Lib.hid (trans3 HBH2.out HB3)
      have HP3 := Lib.hid hpm
      have HT1 := Lib.hid (And.intro hp1 hp2)
      have htn : t ≤ len0 := dnT_t (k := k) HVa.out hk1 hp1
      have hg1 := g1 HVa.out hp2
      have hg2 := g2 z0 len0 k t
      have hg3 := g3 HVa.out hk1 hp1
      have hfl := dn_le (dnT_ok z0 len0 k t)
      have hn2 : len0 ≤ t * k := by omega
      rw [hHg] at hg1 hg3
      have O4 := Lib.hid (CO.out w3 HM3.out)
      clear E1 HB3 HM2 HBH2 hpm hp1 hp2 hfl hg2
      go_wp2_with (first | (go_at_call 14; (with_reducible refine O4.out.mono ?_); (rintro e w4 ⟨v4, rfl, HV4, HB4⟩); (obtain ⟨av4, cv4, rfl, _⟩ := HV4.form); (rw [← HLN.out] at HV4); (rw [← HLN.out])))
      have HM4 := Lib.hid (HM3.out.below HB4)
      have HBH4 := Lib.hid (trans3 HBH3.out HB4)
      have HP4 := Lib.hid (HP3.out.below HB4)
      have E2 := Lib.hid (C2.out av4 cv4 w4 HV4)
      clear O4 HV4 HB4 HM3 HBH3 HP3
      obtain ⟨c1, hc1⟩ : ∃ c, (len0 + k - 1) / k = c := ⟨_, rfl⟩
      obtain ⟨c2, hc2⟩ : ∃ c, (len0 - H + k - 1) / k = c := ⟨_, rfl⟩
      have hc1t : c1 ≤ t := by
        rw [← hc1]
        have : (len0 + k - 1) / k < t + 1 := by
          rw [Nat.div_lt_iff_lt_mul (by omega), Nat.succ_mul]
          omega
        omega
      rw [hc2] at hg3
      have hc2n : c2 ≤ 300 := by
        rw [← hc2]
        have := Nat.div_le_self (len0 - H + k - 1) k
        omega
      obtain ⟨u1, hu1⟩ : ∃ u, len0 + k - 1 = u := ⟨_, rfl⟩
      obtain ⟨u2, hu2⟩ : ∃ u, len0 - H + k - 1 = u := ⟨_, rfl⟩
      rw [hu1] at hc1
      rw [hu2] at hc2
      have i1 : (len0 : Int) + (k : Int) - 1 = (u1 : Int) := by omega
      have i2 : (len0 : Int) - (H : Int) + (k : Int) - 1 = (u2 : Int) := by omega
      have i3 : (u1 : Int).tdiv (k : Int) = (c1 : Int) := by rw [Int.tdiv_eq_ediv_of_nonneg (by omega), ← Int.natCast_ediv, hc1]
      have i4 : (u2 : Int).tdiv (k : Int) = (c2 : Int) := by rw [Int.tdiv_eq_ediv_of_nonneg (by omega), ← Int.natCast_ediv, hc2]
      have i5 : (u1 : Int) / (k : Int) = (c1 : Int) := by rw [← Int.natCast_ediv, hc1]
      have i6 : (u2 : Int) / (k : Int) = (c2 : Int) := by rw [← Int.natCast_ediv, hc2]
      have j1 : ¬ t < H := by omega
      have j1I : ¬ (t : Int) < (H : Int) := by omega
      have j1d : decide (t < H) = false := by simpa using hg1
      have j2 : ¬ t < c1 := by omega
      have j2I : ¬ (t : Int) < (c1 : Int) := by omega
      have j2d : decide (t < c1) = false := by simpa using hc1t
      have j3 : ¬ H + c2 < t := by omega
      have j3I : ¬ (H : Int) + (c2 : Int) < (t : Int) := by omega
      have j3d : decide ((H : Int) + (c2 : Int) < (t : Int)) = false := by simp; omega
      have hkz : ¬ (k : Int) = 0 := by omega
      have hkzN : ¬ k = 0 := by omega
      have hkzb : (k == 0) = false := by simpa using hkzN
      clear hc1 hc2 hu1 hu2 hg1 hg3 hn2
      have hmk := mk_ints len0 (by omega)
      go_wp2_with (first | (go_at_call 17; (with_reducible refine E2.out.mono ?_); rintro e w5 ⟨rfl, HB5⟩))
      have HM5 := Lib.hid (HM4.out.below HB5)
      have HBH5 := Lib.hid (trans3 HBH4.out HB5)
      have HP5 := Lib.hid (HP4.out.below HB5)
      obtain ⟨S, hS⟩ : ∃ S, w5.heap.size = S := ⟨_, rfl⟩
      have HS := Lib.hid hS
      obtain ⟨W0, hW0⟩ : ∃ W0, w5.alloc (intsObj len0) = W0 := ⟨_, rfl⟩
      have HW0 := Lib.hid hW0
      have hr0 : Hid (NR W0 S len0 (fun _ => 0)) := Lib.hid (by rw [← hW0, ← hS]; exact made_ints len0 w5)
      have hB0 : Hid (Below w5.heap.size w5 W0) := Lib.hid (by rw [← hW0]; go_grown)
      clear E2 HB5 HM4 HBH4 HP4 hS hW0 i1 i2 i3 i4 i5 i6 j1 j1I j1d j2 j2I j2d j3 j3I j3d hc2n hc1t hkz hkzN hkzb
      rw [HW0.out, HS.out]
      go_loopw [13] (fun i wr => ∃ (x : Nat) (f : Nat → Nat), x ≤ t ∧ i = .int .i64 (x : Int) ∧ Hid (FG z0 len0 k x 0 f) ∧ Hid (NR wr S len0 f) ∧ Hid (Below w5.heap.size w5 wr)) (fun i _ => t - (intOf i).toNat)
      case atStart => exact ⟨0, _, by omega, rfl, Lib.hid (fg_start z0 len0 k), hr0, hB0⟩
      case round =>
        clear hr0 hB0 HW0 hmk
        obtain ⟨x, f, hx, rfl, HF, HR, HB⟩ := hrel
        by_cases hxt : x < t
        · obtain ⟨b2, o2, ai, ci, rfl, hbl, hcl0, hv0⟩ := HP5.out.row x hxt
          rw [roT_at z0 len0 k t x hxt] at hcl0 hv0
          obtain ⟨us, hus⟩ : ∃ us, rdy z0 k (dnT z0 len0 k x) len0 = us := ⟨_, rfl⟩
          have hu1 : 1 ≤ us.length := by rw [← hus]; exact rdy_some HVa.out hk1 (dnT_ok z0 len0 k x) (HT1.out.1 x hxt)
          have hu2 : us.length ≤ k := by rw [← hus]; exact rdy_len _ _ _ _
          have hund : us.Nodup := by rw [← hus]; exact rdy_nodup _ _ _ _
          rw [hus] at hcl0 hv0
          obtain ⟨ul, hul⟩ : ∃ u, us.length = u := ⟨_, rfl⟩
          rw [hul] at hcl0 hv0 hu1 hu2
          have HUS := Lib.hid hus
          have HUL := Lib.hid hul
          have HND := Lib.hid hund
          have HC0 := Lib.hid hcl0
          have HV0 := Lib.hid hv0
          have hcl := (HB.out.cell (p := ⟨b2, o2 + x, none⟩) hbl).trans hcl0
          have hbl2 : b2 < wr.heap.size := Nat.lt_of_lt_of_le hbl HB.out.size
          have hl1 : ¬ (ul : Int) < 1 := by omega
          have hl1N : ¬ ul < 1 := by omega
          have hl1d : decide (ul < 1) = false := by simp; omega
          have hl1e : decide ((ul : Int) < 1) = false := by simp; omega
          have hl2 : ¬ (k : Int) < (ul : Int) := by omega
          have hl2d : decide (k < ul) = false := by simp; omega
          clear hus hul hund hcl0 hv0
          go_wp2_with fail
          clear hl1 hl1N hl1d hl1e hl2 hl2d hcl
          go_loopw [14] (fun i wi => ∃ (p : Nat) (f : Nat → Nat), p ≤ ul ∧ i = .int .i64 (p : Int) ∧ Hid (FG z0 len0 k x p f) ∧ Hid (NR wi S len0 f) ∧ Hid (Below w5.heap.size w5 wi)) (fun i _ => ul - (intOf i).toNat)
          case atStart => exact ⟨0, f, by omega, rfl, HF, HR, HB⟩
          case round =>
            clear HF HR HB
            obtain ⟨p, f, hp, rfl, HF, HR, HB⟩ := hrel
            have hcl := (HB.out.cell (p := ⟨b2, o2 + x, none⟩) hbl).trans HC0.out
            by_cases hpl : p < ul
            · obtain ⟨b3, o3, rfl, hbl3, hcy⟩ := (HV0.out.below HB.out).at p hpl
              obtain ⟨y, hy⟩ : ∃ y, us.getD p 0 = y := ⟨_, rfl⟩
              rw [hy] at hcy
              have hym : y ∈ us := by rw [← hy]; exact getD_mem (by rw [HUL.out]; exact hpl)
              obtain ⟨q, hq, rfl, hrd⟩ := rdy_mem (by rw [HUS.out]; exact hym)
              have hqI : (q : Int) < (len0 : Int) := by omega
              have hqI2 : ¬ (len0 : Int) ≤ (q : Int) := by omega
              have hqI0 : ¬ (q : Int) < 0 := by omega
              have hnew : ¬ (q : Int) ∈ dnT z0 len0 k x := rdy_new (by rw [HUS.out]; exact hym)
              have hnt : ¬ (q : Int) ∈ us.take p := by rw [← hy]; exact nodup_take HND.out (by rw [HUL.out]; exact hpl)
              have hf0 : f q = 0 := (HF.out q hq).2.2 hnew (by rw [HUS.out]; exact hnt)
              have hcq : wr.cell? ⟨S, q, none⟩ = some (.int .i64 0) := HR.out.at q 0 hq hf0
              have hpr : ∀ a ∈ z0.getD q [], a ∈ dnT z0 len0 k x := rd_preds (by rw [HUS.out]; exact hym)
              have HF5 := Lib.hid (fg_step HF.out (by rw [HUS.out, HUL.out]; exact hpl) (by rw [HUS.out]; exact hy) hnew)
              have HPR := Lib.hid hpr
              have HY := Lib.hid hy
              obtain ⟨b4, o4, a4', c4', rfl, hb4, hc4, hv4⟩ := (HM5.out.below HB.out).row q hq
              have HV4 := Lib.hid hv4
              obtain ⟨m, hm⟩ : ∃ m, (z0.getD q []).length = m := ⟨_, rfl⟩
              have hml : m ≤ 40 := by rw [← hm]; exact HRW.out q
              rw [hm] at hc4 HV4
              have HMm := Lib.hid hm
              clear hy hym hrd hnew hnt hf0 hpr hm hv4
              go_wp2_with fail
              go_loopw [16] (fun i wi => ∃ (j : Nat), wi = wr ∧ j ≤ m ∧ i = .int .i64 (j : Int)) (fun i _ => m - (intOf i).toNat)
              case atStart => exact ⟨0, rfl, by omega, rfl⟩
              case round =>
                obtain ⟨j, rfl, hj, rfl⟩ := hrel
                by_cases hjm : j < m
                · obtain ⟨b5, o5, rfl, hbl5, hcz⟩ := HV4.out.at j hjm
                  obtain ⟨z, hz⟩ : ∃ z, (z0.getD q []).getD j 0 = z := ⟨_, rfl⟩
                  rw [hz] at hcz
                  have hzm : z ∈ z0.getD q [] := by rw [← hz]; exact getD_mem (by rw [HMm.out]; exact hjm)
                  have hzb := HVa.out q z hzm
                  obtain ⟨zz, rfl⟩ : ∃ n : Nat, z = (n : Int) := ⟨z.toNat, by omega⟩
                  have hzn : zz < len0 := by omega
                  have hzI : (zz : Int) < (len0 : Int) := by omega
                  have hzI0 : (0 : Int) ≤ (zz : Int) := by omega
                  have hzf := (HF.out zz hzn).1 (HPR.out _ hzm)
                  obtain ⟨v, hv⟩ : ∃ v, f zz = v := ⟨_, rfl⟩
                  rw [hv] at hzf
                  have hcv := HR.out.at zz v hzn hv
                  have hv0 : ¬ (v : Int) = 0 := by omega
                  have hv0b : ((v : Int) == 0) = false := beq_eq_false_iff_ne.2 hv0
                  have hv0c : (v == 0) = false := beq_eq_false_iff_ne.2 (by omega)
                  have hv1 : ¬ (v : Int) = (x : Int) + 1 := by omega
                  have hv1b : ((v : Int) == (x : Int) + 1) = false := beq_eq_false_iff_ne.2 hv1
                  have hv1c : (v == x + 1) = false := beq_eq_false_iff_ne.2 (by omega)
                  clear hz hzm hv
                  go_wp2_with fail
                  go_roundw
                  case rel => exact ⟨j + 1, (by first | rfl | trivial), by omega, by go_num⟩
                  case measure => simp [intOf]; omega
                · obtain rfl : j = m := by omega
                  have hfz := World.rowIs.frozen HR.out q
                  have HR5 := Lib.hid (HR.out.set q (x + 1))
                  have HB5 := Lib.hid (HB.out.setCell (p := ⟨S, q, none⟩) (by rw [HS.out]; exact Nat.le_refl _) (.int .i64 ((x + 1 : Nat) : Int)))
                  go_wp2_with fail
                  go_roundw
                  case rel => exact ⟨p + 1, _, by omega, by go_num, HF5, HR5, HB5⟩
                  case measure => simp [intOf]; omega
            · obtain rfl : p = ul := by omega
              have HF5 := Lib.hid (fg_next HF.out (by rw [HUS.out, HUL.out]; omega))
              go_wp2_with fail
              go_roundw
              case rel => exact ⟨x + 1, f, by omega, by go_num, HF5, HR, HB⟩
              case measure => simp [intOf]; omega
        · obtain rfl : x = t := by omega
          have HDN := Lib.hid (dn_full (dnT_ok z0 len0 k x) HT1.out.2)
          go_wp2_with fail
          go_loop [17, 18] (fun d i => ∃ (j : Nat), j ≤ len0 ∧ i = .int .i64 (j : Int) ∧ d = .int .i64 (j : Int)) (fun _ i => len0 - (intOf i).toNat)
          case atStart => exact ⟨0, by omega, rfl, rfl⟩
          case round =>
            obtain ⟨j, hj, rfl, rfl⟩ := hrel
            by_cases hjl : j < len0
            · obtain ⟨v, hv⟩ : ∃ v, f j = v := ⟨_, rfl⟩
              have hcv := HR.out.at j v hjl hv
              have hvp := ((HF.out j hjl).1 (HDN.out j hjl)).1
              rw [hv] at hvp
              have hvI : (0 : Int) < (v : Int) := by omega
              have hvN : 0 < v := by omega
              clear hv
              go_wp2_with fail
              go_round
              case rel => exact ⟨j + 1, by omega, by go_num, by go_num⟩
              case measure => simp [intOf]; omega
            · obtain rfl : j = len0 := by omega
              go_wp2_with fail
              go_ret
              exact ⟨by first | rfl | simp, trans3 HBH5.out HB.out⟩
end Go.Proofs.Ytpflimnngilhnaa.spanGreedy
