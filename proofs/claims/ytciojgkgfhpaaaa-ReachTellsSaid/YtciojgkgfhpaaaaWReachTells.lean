/- ReachTells, the walk (layer 31). -/
import Derived.Test.YtciojgkgfhpaaaaRhW
import Derived.Test.YtciojgkgfhpaaaaMats
namespace Go.Proofs.Ytciojgkgfhpaaaa.reachTells
open Go.ChangeShapes Go.WideShapes Go.ChangeAt Go.RowKit
open Go.Proofs.Ytciojgkgfhpaaaa.rh
set_option linter.unusedVariables false
set_option linter.unusedSimpArgs false
theorem trans3 {w w1 w2 : World} (h : Below w.heap.size w w1) (k : Below w1.heap.size w1 w2) : Below w.heap.size w w2 := h.trans (k.mono h.size)
theorem b_val {L : List (List Int)} {n k : Nat} {b : Int} (hk : k < n) : bfB L n (k : Int) b = (inB b n && pB L k b.toNat) := by
  unfold bfB
  have : inB (k : Int) n = true := by unfold inB; simp; omega
  rw [this, Int.toNat_natCast, Bool.true_and]
theorem cnt_out {L : List (List Int)} {n : Nat} {b : Int} (h : inB b n = false) : cnt (fun x => inB b n && pB L x b.toNat) n = 0 := cnt_zero _ _ fun i _ => by rw [h]; rfl
theorem ahead_any (R S n : Nat) (L : List (List Int)) (b : Int) (c : Nat) (w : World) (h : RO w R S n L) (hv : Valid L) (hn : n ≤ 1000) (hc : cnt (fun x => inB b n && pB L x b.toNat) n = c) : Calls Try.prog 17 #[.pointer (some ⟨R, 0, none⟩), .int .i64 b] w fun e w' => e = .returned (.int .i64 (c : Int)) ∧ w = w' := by
  cases hb : inB b n with
  | false =>
    rw [cnt_out hb] at hc
    subst hc
    exact ahead_out R S n L b w h hb
  | true =>
    have hb2 : 0 ≤ b ∧ b < (n : Int) := by unfold inB at hb; simpa using hb
    obtain ⟨y, rfl⟩ : ∃ y : Nat, b = (y : Int) := ⟨b.toNat, by omega⟩
    refine ahead_of R S n L y c w h hv hn (by omega) ?_
    rw [← hc]
    refine cnt_congr _ _ _ fun i _ => ?_
    rw [hb, Int.toNat_natCast, Bool.true_and]
set_option maxRecDepth 20000 in
set_option maxHeartbeats 4000000 in
theorem walk (a0 : Option Addr) (len0 cap0 : Nat) (z0 : List (List Int)) (a1 : Int) (a2 : Int) (w : World) (w0 : IsMat w a0 len0 cap0 z0) (w1 : (Lit.int .i64 a1).wf = true) (w2 : (Lit.int .i64 a2).wf = true) :
    Calls Try.prog 3 #[.slice a0 len0 cap0, .int .i64 a1, .int .i64 a2] w fun e w' => e = .returned (.bool true) ∧ Below w.heap.size w w' := by
  have HM := Lib.hid w0.1
  have HLN := Lib.hid w0.1.len.1
  clear w0 w1 w2
  have CW := Lib.hid (works_of w)
  cases hg : grB z0 len0 with
  | true =>
    have CG := Lib.hid (fun w1 h => great_of a0 len0 cap0 z0 true w1 h hg)
    go_enter Try.func3, Try.ntmps3
    go_wp2_with (first | (go_at_call 7; (with_reducible refine CW.out.mono ?_); rintro e w1 ⟨rfl, HB1⟩))
    have HM1 := Lib.hid (HM.out.below HB1)
    have HBH := Lib.hid HB1
    have C := Lib.hid (CG.out w1 HM1.out)
    clear HB1 CW HM
    go_wp2_with (first | (go_at_call 8; (with_reducible refine C.out.mono ?_); rintro e w2 ⟨rfl, rfl⟩))
    go_ret
    exact ⟨rfl, HBH.out⟩
  | false =>
    have CG := Lib.hid (fun w1 h => great_of a0 len0 cap0 z0 false w1 h hg)
    obtain ⟨hn, hrow⟩ := grB_false hg
    have HRW := Lib.hid hrow
    clear hg hrow
    have CO := Lib.hid (fun w1 h => own_of a0 len0 cap0 z0 w1 h (by omega) (fun i hi => by have := HRW.out i hi; omega))
    unfold OwnPost at CO
    have CKH := Lib.hid (ck_cases z0)
    have CKE : Hid (ck z0 = ck z0) := Lib.hid rfl
    obtain ⟨c, hc⟩ : ∃ c, ck z0 = c := ⟨_, rfl⟩
    by_cases h0 : c = 9 ∨ c = 3
    · have C1 := fun av cv w h => new_bad av len0 cv z0 c w h hc h0
      have C2 := fun w h => rcheck_of a0 len0 cap0 z0 c w h hc
      have C3 := fun av cv w h => longest_bad av len0 cv z0 c w h hc h0
      have C4 := fun w h => rlongest_bad a0 len0 cap0 z0 c w h hc h0
      clear hc CKH CKE
      rcases h0 with rfl | rfl
      all_goals
        replace C1 := Lib.hid C1
        replace C2 := Lib.hid C2
        replace C3 := Lib.hid C3
        replace C4 := Lib.hid C4
        go_enter Try.func3, Try.ntmps3
        go_wp2_with (first | (go_at_call 7; (with_reducible refine CW.out.mono ?_); rintro e w1 ⟨rfl, HB1⟩))
        have HM1 := Lib.hid (HM.out.below HB1)
        have HBH := Lib.hid HB1
        have D1 := Lib.hid (CG.out w1 HM1.out)
        have D2 := Lib.hid (CO.out w1 HM1.out)
        clear HB1 CW HM CG
        go_wp2_with (first | (go_at_call 8; (with_reducible refine D1.out.mono ?_); rintro e w2 ⟨rfl, rfl⟩) | (go_at_call 10; (with_reducible refine D2.out.mono ?_); rintro e w2 ⟨v2, rfl, HV2, HB2⟩))
        obtain ⟨av, cv, rfl, _⟩ := HV2.form
        rw [← HLN.out] at HV2
        rw [← HLN.out]
        have HM2 := Lib.hid (HM1.out.below HB2)
        have HBH2 := Lib.hid (trans3 HBH.out HB2)
        have D3 := Lib.hid (C1.out av cv w2 HV2)
        have D4 := Lib.hid (C2.out w2 HM2.out)
        have D5 := Lib.hid (CO.out w2 HM2.out)
        clear D1 D2 HV2 HB2 HBH HM1
        go_wp2_with (first | (go_at_call 9; (with_reducible refine D3.out.mono ?_); rintro e w3 ⟨rfl, rfl⟩) | (go_at_call 11; (with_reducible refine D4.out.mono ?_); rintro e w3 ⟨rfl, rfl⟩) | (go_at_call 10; (with_reducible refine D5.out.mono ?_); rintro e w3 ⟨v3, rfl, HV3, HB3⟩))
        obtain ⟨av3, cv3, rfl, _⟩ := HV3.form
        rw [← HLN.out] at HV3
        rw [← HLN.out]
        have HM3 := Lib.hid (HM2.out.below HB3)
        have HBH3 := Lib.hid (trans3 HBH2.out HB3)
        have E1 := Lib.hid (C3.out av3 cv3 w3 HV3)
        have E2 := Lib.hid (C4.out w3 HM3.out)
        have E3 := Lib.hid (len_nil w3)
        have E4 : Hid (Calls Try.prog 15 #[.pointer none, .int .i64 0, .int .i64 1] w3 fun e w' => e = .returned (.bool false) ∧ w3 = w') := Lib.hid (before_nil 0 1 w3)
        have E5 : Hid (Calls Try.prog 16 #[.pointer none, .int .i64 0, .int .i64 1] w3 fun e w' => e = .returned (.bool false) ∧ w3 = w') := Lib.hid (apart_nil 0 1 w3)
        have E6 : Hid (Calls Try.prog 17 #[.pointer none, .int .i64 1] w3 fun e w' => e = .returned (.int .i64 0) ∧ w3 = w') := Lib.hid (ahead_nil 1 w3)
        clear D3 D4 D5 HV3 HB3 HBH2 HM2
        go_wp2_with (first | (go_at_call 12; (with_reducible refine E1.out.mono ?_); rintro e w4 ⟨rfl, rfl⟩) | (go_at_call 13; (with_reducible refine E2.out.mono ?_); rintro e w4 ⟨rfl, rfl⟩) | (go_at_call 14; (with_reducible refine E3.out.mono ?_); rintro e w4 ⟨rfl, rfl⟩) | (go_at_call 15; (with_reducible refine E4.out.mono ?_); rintro e w4 ⟨rfl, rfl⟩) | (go_at_call 16; (with_reducible refine E5.out.mono ?_); rintro e w4 ⟨rfl, rfl⟩) | (go_at_call 17; (with_reducible refine E6.out.mono ?_); rintro e w4 ⟨rfl, rfl⟩))
        go_ret
        exact ⟨rfl, HBH3.out⟩
    · have hc0 : c = 0 := by
        have := CKH.out
        omega
      subst hc0
      have hcl := CKH.out
      have hn1 : len0 ≤ 1000 := by rw [HLN.out]; omega
      have HVa : Hid (Valid z0) := Lib.hid (valid_of (by rcases hcl with h | h | h; omega; omega; exact h.2.2))
      have C1 := Lib.hid (fun av cv w h => new_of av len0 cv z0 w h hc)
      have C2 := Lib.hid (fun w h => rcheck_of a0 len0 cap0 z0 0 w h hc)
      have C3 := Lib.hid (fun av cv w h => longest_of av len0 cv z0 w h hc)
      have C4 := Lib.hid (fun w h => rlongest_of a0 len0 cap0 z0 w h hc)
      have C5 := Lib.hid (fun b w h => rahead_of a0 len0 cap0 z0 b w h HVa.out hn1)
      unfold NewPost at C1
      unfold LPost at C3 C4
      unfold RaPost at C5
      obtain ⟨tl, htl⟩ : ∃ tl, tp z0 len0 = tl := ⟨_, rfl⟩
      rw [htl] at C3 C4
      clear hc CKH CKE hcl h0 htl
      go_enter Try.func3, Try.ntmps3
      go_wp2_with (first | (go_at_call 7; (with_reducible refine CW.out.mono ?_); rintro e w1 ⟨rfl, HB1⟩))
      have HM1 := Lib.hid (HM.out.below HB1)
      have HBH := Lib.hid HB1
      have D1 := Lib.hid (CG.out w1 HM1.out)
      have D2 := Lib.hid (CO.out w1 HM1.out)
      clear HB1 CW HM CG
      go_wp2_with (first | (go_at_call 8; (with_reducible refine D1.out.mono ?_); rintro e w2 ⟨rfl, rfl⟩) | (go_at_call 10; (with_reducible refine D2.out.mono ?_); rintro e w2 ⟨v2, rfl, HV2, HB2⟩))
      obtain ⟨av, cv, rfl, _⟩ := HV2.form
      rw [← HLN.out] at HV2
      rw [← HLN.out]
      have HM2 := Lib.hid (HM1.out.below HB2)
      have HBH2 := Lib.hid (trans3 HBH.out HB2)
      have D3 := Lib.hid (C1.out av cv w2 HV2)
      clear D1 D2 HV2 HB2 HBH HM1 C1
      go_wp2_with (first | (go_at_call 9; (with_reducible refine D3.out.mono ?_); rintro e w3 ⟨R, S, rfl, HRO, HB3⟩))
      have HM3 := Lib.hid (HM2.out.below HB3)
      have HBH3 := Lib.hid (trans3 HBH2.out HB3)
      have HRO3 := Lib.hid HRO
      have D4 := Lib.hid (C2.out w3 HM3.out)
      have D5 := Lib.hid (CO.out w3 HM3.out)
      clear D3 HB3 HRO HM2 HBH2 C2 CO
      go_wp2_with (first | (go_at_call 11; (with_reducible refine D4.out.mono ?_); rintro e w4 ⟨rfl, rfl⟩) | (go_at_call 10; (with_reducible refine D5.out.mono ?_); rintro e w4 ⟨v3, rfl, HV3, HB4⟩))
      obtain ⟨av3, cv3, rfl, _⟩ := HV3.form
      rw [← HLN.out] at HV3
      rw [← HLN.out]
      have HM4 := Lib.hid (HM3.out.below HB4)
      have HBH4 := Lib.hid (trans3 HBH3.out HB4)
      have HRO4 := Lib.hid (HRO3.out.below HB4)
      have E1 := Lib.hid (C3.out av3 cv3 w4 HV3)
      clear D4 D5 HV3 HB4 HBH3 HM3 HRO3 C3
      go_wp2_with (first | (go_at_call 12; (with_reducible refine E1.out.mono ?_); rintro e w5 ⟨rfl, HB5⟩))
      have HM5 := Lib.hid (HM4.out.below HB5)
      have HBH5 := Lib.hid (trans3 HBH4.out HB5)
      have HRO5 := Lib.hid (HRO4.out.below HB5)
      have E2 := Lib.hid (C4.out w5 HM5.out)
      clear E1 HB5 HBH4 HM4 HRO4 C4
      go_wp2_with (first | (go_at_call 13; (with_reducible refine E2.out.mono ?_); rintro e w6 ⟨rfl, HB6⟩))
      have HM6 := Lib.hid (HM5.out.below HB6)
      have HBH6 := Lib.hid (trans3 HBH5.out HB6)
      have HRO6 := Lib.hid (HRO5.out.below HB6)
      have E3 := Lib.hid (C5.out a1 w6 HM6.out)
      clear E2 HB6 HBH5 HM5 HRO5
      go_wp2_with (first | (go_at_call 18; (with_reducible refine E3.out.mono ?_); rintro e w7 ⟨Sx, rfl, HX, HB7⟩))
      have HM7 := Lib.hid (HM6.out.below HB7)
      have HBH7 := Lib.hid (trans3 HBH6.out HB7)
      have HRO7 := Lib.hid (HRO6.out.below HB7)
      have HX7 := Lib.hid HX
      have E4 := Lib.hid (C5.out a2 w7 HM7.out)
      clear E3 HB7 HBH6 HM6 HRO6 HX C5
      go_wp2_with (first | (go_at_call 18; (with_reducible refine E4.out.mono ?_); rintro e w8 ⟨Sy, rfl, HY, HB8⟩))
      have HBH8 := Lib.hid (trans3 HBH7.out HB8)
      have HRO8 := Lib.hid (HRO7.out.below HB8)
      have HX8 := Lib.hid (HX7.out.below HB8)
      have HY8 := Lib.hid HY
      clear E4 HB8 HBH7 HRO7 HM7 HX7 HY
      go_loopw [16, 17] (fun s i wr => ∃ (k m : Nat), k ≤ len0 ∧ i = .int .i64 (k : Int) ∧ s = .int .i64 (m : Int) ∧ m ≤ k ∧ Hid (m = cnt (fun x => inB a2 len0 && pB z0 x a2.toNat) k) ∧ Hid (Below w8.heap.size w8 wr)) (fun _ i _ => len0 - (intOf i).toNat)
      case atStart => exact ⟨0, 0, by omega, rfl, rfl, by omega, Lib.hid rfl, Lib.hid (Below.refl _ _)⟩
      case round =>
        obtain ⟨k, m, hk, rfl, rfl, hmk, HMC, HB⟩ := hrel
        by_cases hlt : k < len0
        · obtain ⟨v, hv⟩ : ∃ v, (inB a2 len0 && pB z0 k a2.toNat) = v := ⟨_, rfl⟩
          have HROr := HRO8.out.below HB.out
          have hyr := (HY8.out.below HB.out).at k v hlt hv
          have CB := Lib.hid (fun q => before_of R S len0 z0 (k : Int) a2 v (wr.drewN q) (HROr.below (below_drewN (Below.refl _ _) q)) hn1 (by rw [b_val hlt, hv]))
          have HC5 : Hid (cnt (fun x => inB a2 len0 && pB z0 x a2.toNat) (k + 1) = m + if v = true then 1 else 0) := Lib.hid (by rw [HMC.out, ← hv]; rfl)
          have HBq := Lib.hid (fun q => below_drewN HB.out q)
          clear hv HROr HB
          cases v with
          | true =>
            go_wp2_with fail
            go_quiet ((go_at_call 15; exact quiet_eq (CB.out _)))
            have hyr2 := hyr
            go_wp2_with fail
            go_roundw
            case rel => exact ⟨k + 1, m + 1, by omega, by go_num, by go_num, by omega, Lib.hid (by rw [HC5.out]; rfl), Lib.hid (HBq.out _)⟩
            case measure => simp [intOf]; omega
          | false =>
            go_wp2_with fail
            go_quiet ((go_at_call 15; exact quiet_eq (CB.out _)))
            go_wp2_with fail
            go_roundw
            case rel => exact ⟨k + 1, m, by omega, by go_num, rfl, by omega, Lib.hid (by rw [HC5.out]; rfl), Lib.hid (HBq.out _)⟩
            case measure => simp [intOf]; omega
        · obtain rfl : k = len0 := by omega
          have HROr := HRO8.out.below HB.out
          have HXr := Lib.hid (HX8.out.below HB.out)
          have HYr := Lib.hid (HY8.out.below HB.out)
          have HBe := Lib.hid (trans3 HBH8.out HB.out)
          have F1 := Lib.hid (len_of R S k z0 wr HROr)
          have F2 := Lib.hid (ahead_any R S k z0 a2 m wr HROr HVa.out hn1 HMC.out.symm)
          have F3 := Lib.hid (fun v hv => before_of R S k z0 a1 a2 v wr HROr hn1 hv)
          have F4 := Lib.hid (fun v hv => apart_of R S k z0 a1 a2 v wr HROr hn1 hv)
          clear HROr HRO8 HX8 HY8 HB HBH8 HMC
          by_cases hs : 0 ≤ a1 ∧ 0 ≤ a2 ∧ a1 < (k : Int) ∧ a2 < (k : Int)
          · obtain ⟨hs1, hs2, hs3, hs4⟩ := hs
            obtain ⟨xa, rfl⟩ : ∃ xa : Nat, a1 = (xa : Int) := ⟨a1.toNat, by omega⟩
            obtain ⟨yb, rfl⟩ : ∃ yb : Nat, a2 = (yb : Int) := ⟨a2.toNat, by omega⟩
            have hxa : xa < k := by omega
            have hyb : yb < k := by omega
            have i1 : inB (xa : Int) k = true := by unfold inB; simp; omega
            have i2 : inB (yb : Int) k = true := by unfold inB; simp; omega
            obtain ⟨p1, hp1⟩ : ∃ p1, pB z0 xa yb = p1 := ⟨_, rfl⟩
            obtain ⟨p2, hp2⟩ : ∃ p2, pB z0 yb xa = p2 := ⟨_, rfl⟩
            have c1 := HYr.out.at xa p1 hxa (by rw [i2, Int.toNat_natCast, Bool.true_and, hp1])
            have c2 := HXr.out.at yb p2 hyb (by rw [i1, Int.toNat_natCast, Bool.true_and, hp2])
            have b1 : bfB z0 k (xa : Int) (yb : Int) = p1 := by unfold bfB; rw [i1, i2, Int.toNat_natCast, Int.toNat_natCast, hp1]; rfl
            have b2 : bfB z0 k (yb : Int) (xa : Int) = p2 := by unfold bfB; rw [i1, i2, Int.toNat_natCast, Int.toNat_natCast, hp2]; rfl
            by_cases hab : xa = yb
            · subst hab
              have hpf : p1 = false := by rw [← hp1]; exact pB_lt HVa.out (Nat.le_refl _)
              subst hpf
              have a1' : apB z0 k (xa : Int) (xa : Int) = false := by unfold apB; simp
              have G3 := Lib.hid (F3.out _ b1)
              have G4 := Lib.hid (F4.out _ a1')
              clear F3 F4 hp1 hp2 i1 i2 b1 b2 a1' c2
              go_wp2_with (first | (go_at_call 14; (with_reducible refine F1.out.mono ?_); rintro e w9 ⟨rfl, rfl⟩) | (go_at_call 17; (with_reducible refine F2.out.mono ?_); rintro e w9 ⟨rfl, rfl⟩) | (go_at_call 15; (with_reducible refine G3.out.mono ?_); rintro e w9 ⟨rfl, rfl⟩) | (go_at_call 16; (with_reducible refine G4.out.mono ?_); rintro e w9 ⟨rfl, rfl⟩))
              go_ret
              exact ⟨rfl, HBe.out⟩
            · have habI : ¬ (xa : Int) = (yb : Int) := by omega
              have hne : ((xa : Int) != (yb : Int)) = true := by simp; omega
              have a1' : apB z0 k (xa : Int) (yb : Int) = (!p1 && !p2) := by
                unfold apB
                rw [i1, i2, b1, b2, hne]; simp
              have G3 := F3.out _ b1
              have G4 := F4.out _ a1'
              clear F3 F4 hp1 hp2 i1 i2 b1 b2 a1'
              cases p1 <;> cases p2
              all_goals
                replace G3 := Lib.hid G3
                replace G4 := Lib.hid G4
                simp only [Bool.not_true, Bool.not_false, Bool.and_true, Bool.and_false, Bool.true_and, Bool.false_and] at G4
                go_wp2_with (first | (go_at_call 14; (with_reducible refine F1.out.mono ?_); rintro e w9 ⟨rfl, rfl⟩) | (go_at_call 17; (with_reducible refine F2.out.mono ?_); rintro e w9 ⟨rfl, rfl⟩) | (go_at_call 15; (with_reducible refine G3.out.mono ?_); rintro e w9 ⟨rfl, rfl⟩) | (go_at_call 16; (with_reducible refine G4.out.mono ?_); rintro e w9 ⟨rfl, rfl⟩))
                go_ret
                exact ⟨rfl, HBe.out⟩
          · have hin : inB a1 k = false ∨ inB a2 k = false := by
              unfold inB
              by_cases h1 : 0 ≤ a1 ∧ a1 < (k : Int)
              · right; simp; omega
              · left; simp; omega
            have b1 : bfB z0 k a1 a2 = false := by unfold bfB; rcases hin with h | h <;> rw [h] <;> simp
            have b2 : apB z0 k a1 a2 = false := by unfold apB; rcases hin with h | h <;> rw [h] <;> simp
            have G3 := Lib.hid (F3.out _ b1)
            have G4 := Lib.hid (F4.out _ b2)
            have hcases : ¬ 0 ≤ a1 ∨ (0 ≤ a1 ∧ ¬ 0 ≤ a2) ∨ (0 ≤ a1 ∧ 0 ≤ a2 ∧ ¬ a1 < (k : Int)) ∨ (0 ≤ a1 ∧ 0 ≤ a2 ∧ a1 < (k : Int) ∧ ¬ a2 < (k : Int)) := by omega
            clear F3 F4 hin b1 b2 hs
            rcases hcases with h1 | ⟨h1, h2⟩ | ⟨h1, h2, h3⟩ | ⟨h1, h2, h3, h4⟩
            · have d1 : decide (0 ≤ a1) = false := by simpa using h1
              go_wp2_with (first | (go_at_call 14; (with_reducible refine F1.out.mono ?_); rintro e w9 ⟨rfl, rfl⟩) | (go_at_call 17; (with_reducible refine F2.out.mono ?_); rintro e w9 ⟨rfl, rfl⟩) | (go_at_call 15; (with_reducible refine G3.out.mono ?_); rintro e w9 ⟨rfl, rfl⟩) | (go_at_call 16; (with_reducible refine G4.out.mono ?_); rintro e w9 ⟨rfl, rfl⟩))
              go_ret
              exact ⟨rfl, HBe.out⟩
            · have d1 : decide (0 ≤ a2) = false := by simpa using h2
              go_wp2_with (first | (go_at_call 14; (with_reducible refine F1.out.mono ?_); rintro e w9 ⟨rfl, rfl⟩) | (go_at_call 17; (with_reducible refine F2.out.mono ?_); rintro e w9 ⟨rfl, rfl⟩) | (go_at_call 15; (with_reducible refine G3.out.mono ?_); rintro e w9 ⟨rfl, rfl⟩) | (go_at_call 16; (with_reducible refine G4.out.mono ?_); rintro e w9 ⟨rfl, rfl⟩))
              go_ret
              exact ⟨rfl, HBe.out⟩
            · have d1 : decide (a1 < (k : Int)) = false := by simpa using h3
              go_wp2_with (first | (go_at_call 14; (with_reducible refine F1.out.mono ?_); rintro e w9 ⟨rfl, rfl⟩) | (go_at_call 17; (with_reducible refine F2.out.mono ?_); rintro e w9 ⟨rfl, rfl⟩) | (go_at_call 15; (with_reducible refine G3.out.mono ?_); rintro e w9 ⟨rfl, rfl⟩) | (go_at_call 16; (with_reducible refine G4.out.mono ?_); rintro e w9 ⟨rfl, rfl⟩))
              go_ret
              exact ⟨rfl, HBe.out⟩
            · have d1 : decide (a2 < (k : Int)) = false := by simpa using h4
              go_wp2_with (first | (go_at_call 14; (with_reducible refine F1.out.mono ?_); rintro e w9 ⟨rfl, rfl⟩) | (go_at_call 17; (with_reducible refine F2.out.mono ?_); rintro e w9 ⟨rfl, rfl⟩) | (go_at_call 15; (with_reducible refine G3.out.mono ?_); rintro e w9 ⟨rfl, rfl⟩) | (go_at_call 16; (with_reducible refine G4.out.mono ?_); rintro e w9 ⟨rfl, rfl⟩))
              go_ret
              exact ⟨rfl, HBe.out⟩
end Go.Proofs.Ytciojgkgfhpaaaa.reachTells
