/- ReachLongest, the walk (layer 31). -/
import Derived.Test.YtciojgkgfhpaaaaRhW
import Derived.Test.YtciojgkgfhpaaaaMats
namespace Go.Proofs.Ytciojgkgfhpaaaa.reachLongest
open Go.ChangeShapes Go.WideShapes Go.ChangeAt Go.RowKit
open Go.Proofs.Ytciojgkgfhpaaaa.rh
set_option linter.unusedVariables false
set_option linter.unusedSimpArgs false
theorem trans3 {w w1 w2 : World} (h : Below w.heap.size w w1) (k : Below w1.heap.size w1 w2) : Below w.heap.size w w2 := h.trans (k.mono h.size)
theorem bf_nat {L : List (List Int)} {n x y : Nat} (hx : x < n) (hy : y < n) : bfB L n (x : Int) (y : Int) = pB L x y := by
  have h1 : inB (x : Int) n = true := by unfold inB; simp; omega
  have h2 : inB (y : Int) n = true := by unfold inB; simp; omega
  unfold bfB
  rw [h1, h2, Int.toNat_natCast, Int.toNat_natCast]; rfl
noncomputable def mo (L : List (List Int)) (n : Nat) : Nat → Nat
  | 0 => 0
  | k + 1 => max (mo L n k) (cnt (fun x => pB L x k) n)
theorem mo_le (L : List (List Int)) (n b k : Nat) (h : b < k) : cnt (fun x => pB L x b) n ≤ mo L n k := by
  induction k with
  | zero => omega
  | succ k ih =>
    simp only [mo]
    by_cases e : b = k
    · subst e; omega
    · have := ih (by omega); omega
theorem most_ok {L : List (List Int)} (hv : Valid L) (n : Nat) : tp L n ≤ mo L n n + 1 := by
  rcases tp_mem L n with h | ⟨b, hb, h⟩
  · omega
  · have h1 := ht_cnt hv n b (by omega)
    have h2 := mo_le L n b n hb
    omega
theorem ck_take {L : List (List Int)} (h : ck L = 0) (k : Nat) (hk : k ≤ L.length) : ck (L.take k) = 0 := by
  rcases ck_cases L with e | e | ⟨_, h1, h2⟩
  · omega
  · omega
  · have hl : (L.take k).length = k := by rw [List.length_take]; omega
    unfold ck
    rw [hl, if_neg (by omega), okB_take L k k (Nat.le_refl _), okB_mono L L.length k hk h2]
    rfl
theorem rows_take {L : List (List Int)} {k : Nat} (h : ∀ i, i < L.length → (L.getD i []).length ≤ 60) (hk : k ≤ L.length) : ∀ i, i < k → ((L.take k).getD i []).length ≤ 1000 := fun i hi => by
  rw [getD_take L k i hi]
  have := h i (by omega)
  omega
set_option maxRecDepth 20000 in
set_option maxHeartbeats 4000000 in
theorem walk (a0 : Option Addr) (len0 cap0 : Nat) (z0 : List (List Int)) (w : World) (w0 : IsMat w a0 len0 cap0 z0) :
    Calls Try.prog 6 #[.slice a0 len0 cap0] w fun e w' => e = .returned (.bool true) ∧ Below w.heap.size w w' := by
  have HM := Lib.hid w0.1
  have HLN := Lib.hid w0.1.len.1
  have hcap := w0.1.len.2
  obtain ⟨hc1, hc2⟩ := hcap
  unfold maxLen at hc2
  clear w0
  have CW := Lib.hid (works_of w)
  cases hg : grB z0 len0 with
  | true =>
    have CG := Lib.hid (fun w1 h => great_of a0 len0 cap0 z0 true w1 h hg)
    go_enter Try.func6, Try.ntmps6
    go_wp2_with (first | (go_at_call 7; (with_reducible refine CW.out.mono ?_); rintro e w1 ⟨rfl, HB1⟩))
    have HM1 := Lib.hid (HM.out.below HB1)
    have HBH := Lib.hid HB1
    have C := Lib.hid (CG.out w1 HM1.out)
    clear HB1 CW HM
    go_wp2_with (first | (go_at_call 8; (with_reducible refine C.out.mono ?_); rintro e w2 ⟨rfl, rfl⟩))
    go_ret
    exact ⟨rfl, HBH.out⟩
  | false =>
    have CG := Lib.hid (fun w1 h => great_of a0 len0 cap0 z0 false w1 h hg)
    obtain ⟨hn, hrow⟩ := grB_false hg
    have HRW := Lib.hid hrow
    clear hg hrow
    have CO := Lib.hid (fun w1 h => own_of a0 len0 cap0 z0 w1 h (by omega) (fun i hi => by have := HRW.out i hi; omega))
    unfold OwnPost at CO
    have CKH := Lib.hid (ck_cases z0)
    obtain ⟨c, hc⟩ : ∃ c, ck z0 = c := ⟨_, rfl⟩
    by_cases h0 : c = 9 ∨ c = 3
    · have C2 := fun w h => rcheck_of a0 len0 cap0 z0 c w h hc
      clear hc CKH
      rcases h0 with rfl | rfl
      all_goals
        replace C2 := Lib.hid C2
        go_enter Try.func6, Try.ntmps6
        go_wp2_with (first | (go_at_call 7; (with_reducible refine CW.out.mono ?_); rintro e w1 ⟨rfl, HB1⟩))
        have HM1 := Lib.hid (HM.out.below HB1)
        have HBH := Lib.hid HB1
        have D1 := Lib.hid (CG.out w1 HM1.out)
        have D2 := Lib.hid (C2.out w1 HM1.out)
        clear HB1 CW HM CG
        go_wp2_with (first | (go_at_call 8; (with_reducible refine D1.out.mono ?_); rintro e w2 ⟨rfl, rfl⟩) | (go_at_call 11; (with_reducible refine D2.out.mono ?_); rintro e w2 ⟨rfl, rfl⟩))
        go_ret
        exact ⟨rfl, HBH.out⟩
    · have hc0 : c = 0 := by
        have := CKH.out
        omega
      subst hc0
      have hcl := CKH.out
      have hn1 : len0 ≤ 1000 := by rw [HLN.out]; omega
      have HVa : Hid (Valid z0) := Lib.hid (valid_of (by rcases hcl with h | h | h; omega; omega; exact h.2.2))
      have C1 := Lib.hid (fun av cv w h => new_of av len0 cv z0 w h hc)
      have C2 := Lib.hid (fun w h => rcheck_of a0 len0 cap0 z0 0 w h hc)
      have C3 := Lib.hid (fun av cv w h => longest_of av len0 cv z0 w h hc)
      have HCK := Lib.hid hc
      unfold NewPost at C1
      unfold LPost at C3
      obtain ⟨tl, htl⟩ : ∃ tl, tp z0 len0 = tl := ⟨_, rfl⟩
      rw [htl] at C3
      have htle : tl ≤ len0 := by rw [← htl]; exact tp_le HVa.out len0
      have htz : tl = 0 ↔ len0 = 0 := by rw [← htl]; exact tp_zero HVa.out len0
      have HTL := Lib.hid htl
      clear hc CKH hcl h0 htl
      have htI : ¬ (len0 : Int) < (tl : Int) := by omega
      have htN : ¬ len0 < tl := by omega
      have htD : decide (len0 < tl) = false := by simpa using htle
      have htzb : ((tl : Int) == 0) = ((len0 : Int) == 0) := by
        by_cases e : len0 = 0
        · rw [htz.2 e, e]
        · have h1 : ¬ tl = 0 := fun h => e (htz.1 h)
          have h2 : ((tl : Int) == 0) = false := beq_eq_false_iff_ne.2 (by omega)
          have h3 : ((len0 : Int) == 0) = false := beq_eq_false_iff_ne.2 (by omega)
          rw [h2, h3]
      obtain ⟨zz, hzz⟩ : ∃ z, ((len0 : Int) == 0) = z := ⟨_, rfl⟩
      rw [hzz] at htzb
      have hz3 : (zz == zz) = true := by simp
      have hz4 : (zz != zz) = false := by simp
      clear htz
      go_enter Try.func6, Try.ntmps6
      go_wp2_with (first | (go_at_call 7; (with_reducible refine CW.out.mono ?_); rintro e w1 ⟨rfl, HB1⟩))
      have HM1 := Lib.hid (HM.out.below HB1)
      have HBH := Lib.hid HB1
      have D1 := Lib.hid (CG.out w1 HM1.out)
      have D2 := Lib.hid (CO.out w1 HM1.out)
      have D3 := Lib.hid (C2.out w1 HM1.out)
      clear HB1 CW HM CG
      go_wp2_with (first | (go_at_call 8; (with_reducible refine D1.out.mono ?_); rintro e w2 ⟨rfl, rfl⟩) | (go_at_call 11; (with_reducible refine D3.out.mono ?_); rintro e w2 ⟨rfl, rfl⟩) | (go_at_call 10; (with_reducible refine D2.out.mono ?_); rintro e w2 ⟨v2, rfl, HV2, HB2⟩))
      obtain ⟨av, cv, rfl, _⟩ := HV2.form
      rw [← HLN.out] at HV2
      rw [← HLN.out]
      have HM2 := Lib.hid (HM1.out.below HB2)
      have HBH2 := Lib.hid (trans3 HBH.out HB2)
      have D4 := Lib.hid (C3.out av cv w2 HV2)
      clear D1 D2 D3 HV2 HB2 HBH HM1 C2 C3
      go_wp2_with (first | (go_at_call 12; (with_reducible refine D4.out.mono ?_); rintro e w3 ⟨rfl, HB3⟩))
      have HM3 := Lib.hid (HM2.out.below HB3)
      have HBH3 := Lib.hid (trans3 HBH2.out HB3)
      have D5 := Lib.hid (CO.out w3 HM3.out)
      clear D4 HB3 HBH2 HM2
      go_wp2_with (first | (go_at_call 10; (with_reducible refine D5.out.mono ?_); rintro e w4 ⟨v3, rfl, HV3, HB4⟩))
      obtain ⟨av3, cv3, rfl, _⟩ := HV3.form
      rw [← HLN.out] at HV3
      rw [← HLN.out]
      have HM4 := Lib.hid (HM3.out.below HB4)
      have HBH4 := Lib.hid (trans3 HBH3.out HB4)
      have D6 := Lib.hid (C1.out av3 cv3 w4 HV3)
      clear D5 HV3 HB4 HBH3 HM3 CO C1
      go_wp2_with (first | (go_at_call 9; (with_reducible refine D6.out.mono ?_); rintro e w5 ⟨R, S, rfl, HRO, HB5⟩))
      have HM5 := Lib.hid (HM4.out.below HB5)
      have HBH5 := Lib.hid (trans3 HBH4.out HB5)
      have HRO5 := Lib.hid HRO
      clear D6 HB5 HBH4 HM4 HRO
      go_loopw [7, 8, 9] (fun ch ms i wr => ∃ (cb : Bool) (k m : Nat), k ≤ len0 ∧ ch = .bool cb ∧ i = .int .i64 (k : Int) ∧ ms = .int .i64 (m : Int) ∧ m ≤ len0 ∧ Hid (chB z0 k = cb) ∧ Hid (mo z0 len0 k = m) ∧ Hid (Below w5.heap.size w5 wr)) (fun _ _ i _ => len0 - (intOf i).toNat)
      case atStart => exact ⟨true, 0, 0, by omega, rfl, rfl, rfl, by omega, Lib.hid rfl, Lib.hid rfl, Lib.hid (Below.refl _ _)⟩
      case round =>
        obtain ⟨cb, k, m, hk, rfl, rfl, rfl, hml, HCH, HMO, HB⟩ := hrel
        by_cases hlt : k < len0
        · obtain ⟨b, o, ai, ci, rfl, hbl, _, _⟩ := HM5.out.row k hlt
          have HROr := HRO5.out.below HB.out
          have HMr := HM5.out.below HB.out
          have HBr := Lib.hid (trans3 HBH5.out HB.out)
          have HBw := HB
          obtain ⟨cc, hcc⟩ : ∃ cc, cnt (fun x => pB z0 x k) len0 = cc := ⟨_, rfl⟩
          have hccl : cc ≤ len0 := by rw [← hcc]; exact cnt_le _ _
          have E1 := Lib.hid (ahead_of R S len0 z0 k cc wr HROr HVa.out hn1 hlt hcc)
          have hMt := HMr.take (k + 1) (by omega)
          have E2 := Lib.hid (own_of _ (k + 1) cap0 (z0.take (k + 1)) wr hMt (by omega) (rows_take (by rw [← HLN.out]; exact HRW.out) (by rw [← HLN.out]; omega)))
          unfold OwnPost at E2
          have E3 := Lib.hid (fun av cv w h => longest_of av (k + 1) cv (z0.take (k + 1)) w h (ck_take HCK.out (k + 1) (by rw [← HLN.out]; omega)))
          unfold LPost at E3
          obtain ⟨tk, htk⟩ : ∃ tk, tp z0 (k + 1) = tk := ⟨_, rfl⟩
          rw [tp_take HVa.out (k + 1) (k + 1) (Nat.le_refl _), htk] at E3
          have htkl : tk ≤ tl := by rw [← htk, ← HTL.out]; exact tp_mono z0 _ _ hlt
          have htkI : ¬ (tl : Int) < (tk : Int) := by omega
          have hLk : Hid ((z0.take (k + 1)).length = k + 1) := Lib.hid (by rw [List.length_take, ← HLN.out]; omega)
          obtain ⟨r, hr⟩ : ∃ r, max m cc = r := ⟨_, rfl⟩
          have hmax : (if m < cc then (cc : Int) else (m : Int)) = (r : Int) := by rw [← hr, ← max_int]; simp
          have HMO5 : Hid (mo z0 len0 (k + 1) = r) := Lib.hid (by rw [mo, HMO.out, hcc, hr])
          have hrl : r ≤ len0 := by omega
          have hcap1 : (k : Int) + 1 ≤ (cap0 : Int) := by omega
          clear hcc htk hr HROr hMt HMr HB
          by_cases hk0 : k = 0
          · obtain rfl : cb = true := by rw [← HCH.out, hk0]; rfl
            have HCN : Hid (chB z0 (k + 1) = true) := Lib.hid (by rw [hk0]; rfl)
            have hkb : ((k : Int) == 0) = true := by rw [hk0]; rfl
            clear hk0
            go_wp2_with (first | (go_at_call 17; (with_reducible refine E1.out.mono ?_); rintro e w6 ⟨rfl, rfl⟩) | (go_at_call 10; (with_reducible refine E2.out.mono ?_); rintro e w7 ⟨v7, rfl, HV7, HB7⟩))
            obtain ⟨a7, c7, rfl, _⟩ := HV7.form
            rw [hLk.out] at HV7
            rw [hLk.out]
            have F1 := Lib.hid (E3.out a7 c7 w7 HV7)
            have HBf := Lib.hid (trans3 HBr.out HB7)
            have HBg := Lib.hid (trans3 HBw.out HB7)
            clear E1 E2 E3 HV7 HB7 HBr HBw
            by_cases h40 : 40 < k
            · have h40I : (40 : Int) < (k : Int) := by omega
              have htt : (tl : Int) - 1 ≤ (len0 : Int) := by omega
              have htt2 : decide ((tl : Int) - 1 ≤ (len0 : Int)) = true := by simpa using htt
              go_wp2_with (first | (go_at_call 12; (with_reducible refine F1.out.mono ?_); rintro e w8 ⟨rfl, HB8⟩))
              go_ret
              exact ⟨by first | rfl | simp [htt], trans3 HBf.out HB8⟩
            · have h40I : ¬ (40 : Int) < (k : Int) := by omega
              go_wp2_with (first | (go_at_call 12; (with_reducible refine F1.out.mono ?_); rintro e w8 ⟨rfl, HB8⟩))
              have HBh := Lib.hid (trans3 HBg.out HB8)
              go_roundw
              case rel => exact ⟨true, k + 1, r, by omega, by first | rfl | simp, by go_num, rfl, hrl, HCN, HMO5, HBh⟩
              case measure => simp [intOf]; omega
          · obtain ⟨q, hq⟩ : ∃ q, k = q + 1 := ⟨k - 1, by omega⟩
            have hkq : (k : Int) - 1 = (q : Int) := by omega
            have hqn : q < len0 := by omega
            have hkI : ¬ (k : Int) = 0 := by omega
            have hkb : ((k : Int) == 0) = false := beq_eq_false_iff_ne.2 hkI
            have HC0 : Hid (chB z0 (k + 1) = (cb && pB z0 q k)) := Lib.hid (by
              rw [chB, HCH.out, show (k == 0) = false from beq_eq_false_iff_ne.2 hk0, show k - 1 = q by omega]; rfl)
            clear hq
            cases cb with
            | false =>
              have HCN : Hid (chB z0 (k + 1) = false) := Lib.hid (by rw [HC0.out]; rfl)
              go_wp2_with (first | (go_at_call 17; (with_reducible refine E1.out.mono ?_); rintro e w6 ⟨rfl, rfl⟩) | (go_at_call 10; (with_reducible refine E2.out.mono ?_); rintro e w7 ⟨v7, rfl, HV7, HB7⟩))
              obtain ⟨a7, c7, rfl, _⟩ := HV7.form
              rw [hLk.out] at HV7
              rw [hLk.out]
              have F1 := Lib.hid (E3.out a7 c7 w7 HV7)
              have HBf := Lib.hid (trans3 HBr.out HB7)
              have HBg := Lib.hid (trans3 HBw.out HB7)
              clear E1 E2 E3 HV7 HB7 HBr HBw
              by_cases h40 : 40 < k
              · have h40I : (40 : Int) < (k : Int) := by omega
                have htt : (tl : Int) - 1 ≤ (len0 : Int) := by omega
                have htt2 : decide ((tl : Int) - 1 ≤ (len0 : Int)) = true := by simpa using htt
                go_wp2_with (first | (go_at_call 12; (with_reducible refine F1.out.mono ?_); rintro e w8 ⟨rfl, HB8⟩))
                go_ret
                exact ⟨by first | rfl | simp [htt], trans3 HBf.out HB8⟩
              · have h40I : ¬ (40 : Int) < (k : Int) := by omega
                go_wp2_with (first | (go_at_call 12; (with_reducible refine F1.out.mono ?_); rintro e w8 ⟨rfl, HB8⟩))
                have HBh := Lib.hid (trans3 HBg.out HB8)
                go_roundw
                case rel => exact ⟨false, k + 1, r, by omega, by first | rfl | simp, by go_num, rfl, hrl, HCN, HMO5, HBh⟩
                case measure => simp [intOf]; omega
            | true =>
              obtain ⟨v, hv⟩ : ∃ v, pB z0 q k = v := ⟨_, rfl⟩
              have EB := Lib.hid (before_of R S len0 z0 (q : Int) (k : Int) v wr (HRO5.out.below HBw.out) hn1 (by rw [bf_nat hqn hlt, hv]))
              have HCN : Hid (chB z0 (k + 1) = v) := Lib.hid (by rw [HC0.out, hv]; rfl)
              clear hv
              go_wp2_with (first | (go_at_call 15; (with_reducible refine EB.out.mono ?_); rintro e w6 ⟨rfl, rfl⟩) | (go_at_call 17; (with_reducible refine E1.out.mono ?_); rintro e w6 ⟨rfl, rfl⟩) | (go_at_call 10; (with_reducible refine E2.out.mono ?_); rintro e w7 ⟨v7, rfl, HV7, HB7⟩))
              obtain ⟨a7, c7, rfl, _⟩ := HV7.form
              rw [hLk.out] at HV7
              rw [hLk.out]
              have F1 := Lib.hid (E3.out a7 c7 w7 HV7)
              have HBf := Lib.hid (trans3 HBr.out HB7)
              have HBg := Lib.hid (trans3 HBw.out HB7)
              clear E1 E2 E3 HV7 HB7 HBr HBw
              by_cases h40 : 40 < k
              · have h40I : (40 : Int) < (k : Int) := by omega
                have htt : (tl : Int) - 1 ≤ (len0 : Int) := by omega
                have htt2 : decide ((tl : Int) - 1 ≤ (len0 : Int)) = true := by simpa using htt
                go_wp2_with (first | (go_at_call 12; (with_reducible refine F1.out.mono ?_); rintro e w8 ⟨rfl, HB8⟩))
                go_ret
                exact ⟨by first | rfl | simp [htt], trans3 HBf.out HB8⟩
              · have h40I : ¬ (40 : Int) < (k : Int) := by omega
                go_wp2_with (first | (go_at_call 12; (with_reducible refine F1.out.mono ?_); rintro e w8 ⟨rfl, HB8⟩))
                have HBh := Lib.hid (trans3 HBg.out HB8)
                go_roundw
                case rel => exact ⟨v, k + 1, r, by omega, by first | rfl | simp, by go_num, rfl, hrl, HCN, HMO5, HBh⟩
                case measure => simp [intOf]; omega
        · obtain rfl : k = len0 := by omega
          have hfull := full_iff HVa.out k
          have hmost := most_ok HVa.out k
          rw [HTL.out, HMO.out] at hmost
          rw [HTL.out, HCH.out] at hfull
          have HBe := Lib.hid (trans3 HBH5.out HB.out)
          have hge : (tl : Int) - 1 ≤ (m : Int) := by omega
          clear HB HBH5
          by_cases hkt : tl = k
          · obtain rfl := hfull.1 hkt
            subst hkt
            go_wp2_with fail
            go_ret
            exact ⟨by first | rfl | simp [hge], HBe.out⟩
          · have hcb : cb = false := by
              cases cb with
              | false => rfl
              | true => exact absurd (hfull.2 rfl) hkt
            subst hcb
            have hkI : ¬ (tl : Int) = (k : Int) := by omega
            have hkb : ((tl : Int) == (k : Int)) = false := by simpa using hkI
            go_wp2_with fail
            go_ret
            exact ⟨by first | rfl | simp [hge], HBe.out⟩
end Go.Proofs.Ytciojgkgfhpaaaa.reachLongest
