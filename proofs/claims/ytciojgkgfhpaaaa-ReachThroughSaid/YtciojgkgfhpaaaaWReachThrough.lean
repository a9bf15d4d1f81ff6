/- ReachThrough, the walk (layer 31). -/
import Derived.Test.YtciojgkgfhpaaaaRhW
import Derived.Test.YtciojgkgfhpaaaaMats
namespace Go.Proofs.Ytciojgkgfhpaaaa.reachThrough
open Go.ChangeShapes Go.WideShapes Go.ChangeAt Go.RowKit
open Go.Proofs.Ytciojgkgfhpaaaa.rh
set_option linter.unusedVariables false
set_option linter.unusedSimpArgs false
theorem trans3 {w w1 w2 : World} (h : Below w.heap.size w w1) (k : Below w1.heap.size w1 w2) : Below w.heap.size w w2 := h.trans (k.mono h.size)
theorem bf_nat {L : List (List Int)} {n x y : Nat} (hx : x < n) (hy : y < n) : bfB L n (x : Int) (y : Int) = pB L x y := by
  have h1 : inB (x : Int) n = true := by unfold inB; simp; omega
  have h2 : inB (y : Int) n = true := by unfold inB; simp; omega
  unfold bfB
  rw [h1, h2, Int.toNat_natCast, Int.toNat_natCast]; rfl
theorem ap_nat {L : List (List Int)} {n x y : Nat} (hx : x < n) (hy : y < n) : apB L n (x : Int) (y : Int) = ((x != y) && !pB L x y && !pB L y x) := by
  have h1 : inB (x : Int) n = true := by unfold inB; simp; omega
  have h2 : inB (y : Int) n = true := by unfold inB; simp; omega
  have h3 : ((x : Int) != (y : Int)) = (x != y) := by
    by_cases e : x = y
    · subst e; simp
    · rw [bne_iff_ne.2 e, bne_iff_ne.2 (by omega)]
  unfold apB
  rw [h1, h2, h3, bf_nat hx hy, bf_nat hy hx]
  simp
theorem red (a : Int) (n : Nat) (h : 0 < n) (hn : n ≤ 1000) : ∃ (A x : Nat), IntKind.u64.wrap a = (A : Int) ∧ (A : Int).tmod (n : Int) = (x : Int) ∧ (A : Int) % (n : Int) = (x : Int) ∧ A % n = x ∧ x < n := by
  have h1 : (0 : Int) ≤ IntKind.u64.wrap a := by simp [IntKind.wrap, IntKind.bits, IntKind.signed]; omega
  obtain ⟨A, hA⟩ : ∃ A : Nat, IntKind.u64.wrap a = (A : Int) := ⟨(IntKind.u64.wrap a).toNat, by omega⟩
  refine ⟨A, A % n, hA, ?_, by simp, rfl, Nat.mod_lt _ h⟩
  rw [Int.tmod_eq_emod_of_nonneg (by omega)]; simp
set_option maxRecDepth 20000 in
set_option maxHeartbeats 4000000 in
theorem walk (a0 : Option Addr) (len0 cap0 : Nat) (z0 : List (List Int)) (a1 : Int) (a2 : Int) (a3 : Int) (w : World) (w0 : IsMat w a0 len0 cap0 z0) (w1 : (Lit.int .i64 a1).wf = true) (w2 : (Lit.int .i64 a2).wf = true) (w3 : (Lit.int .i64 a3).wf = true) :
    Calls Try.prog 4 #[.slice a0 len0 cap0, .int .i64 a1, .int .i64 a2, .int .i64 a3] w fun e w' => e = .returned (.bool true) ∧ Below w.heap.size w w' := by
  have HM := Lib.hid w0.1
  have HLN := Lib.hid w0.1.len.1
  clear w0 w1 w2 w3
  have CW := Lib.hid (works_of w)
  cases hg : grB z0 len0 with
  | true =>
    have CG := Lib.hid (fun w1 h => great_of a0 len0 cap0 z0 true w1 h hg)
    go_enter Try.func4, Try.ntmps4
    go_wp2_with (first | (go_at_call 7; (with_reducible refine CW.out.mono ?_); rintro e w1 ⟨rfl, HB1⟩))
    have HM1 := Lib.hid (HM.out.below HB1)
    have HBH := Lib.hid HB1
    have C := Lib.hid (CG.out w1 HM1.out)
    clear HB1 CW HM
    go_wp2_with (first | (go_at_call 8; (with_reducible refine C.out.mono ?_); rintro e w2 ⟨rfl, rfl⟩))
    go_ret
    exact ⟨rfl, HBH.out⟩
  | false =>
    have CG := Lib.hid (fun w1 h => great_of a0 len0 cap0 z0 false w1 h hg)
    obtain ⟨hn, hrow⟩ := grB_false hg
    have HRW := Lib.hid hrow
    clear hg hrow
    have CO := Lib.hid (fun w1 h => own_of a0 len0 cap0 z0 w1 h (by omega) (fun i hi => by have := HRW.out i hi; omega))
    unfold OwnPost at CO
    have CKH := Lib.hid (ck_cases z0)
    obtain ⟨c, hc⟩ : ∃ c, ck z0 = c := ⟨_, rfl⟩
    by_cases h0 : c = 9 ∨ c = 3
    · have C2 := fun w h => rcheck_of a0 len0 cap0 z0 c w h hc
      clear hc CKH
      rcases h0 with rfl | rfl
      all_goals
        replace C2 := Lib.hid C2
        go_enter Try.func4, Try.ntmps4
        go_wp2_with (first | (go_at_call 7; (with_reducible refine CW.out.mono ?_); rintro e w1 ⟨rfl, HB1⟩))
        have HM1 := Lib.hid (HM.out.below HB1)
        have HBH := Lib.hid HB1
        have D1 := Lib.hid (CG.out w1 HM1.out)
        have D2 := Lib.hid (C2.out w1 HM1.out)
        clear HB1 CW HM CG
        go_wp2_with (first | (go_at_call 8; (with_reducible refine D1.out.mono ?_); rintro e w2 ⟨rfl, rfl⟩) | (go_at_call 11; (with_reducible refine D2.out.mono ?_); rintro e w2 ⟨rfl, rfl⟩))
        go_ret
        exact ⟨rfl, HBH.out⟩
    · have hc0 : c = 0 := by
        have := CKH.out
        omega
      subst hc0
      have hcl := CKH.out
      have hn1 : len0 ≤ 1000 := by rw [HLN.out]; omega
      have HVa : Hid (Valid z0) := Lib.hid (valid_of (by rcases hcl with h | h | h; omega; omega; exact h.2.2))
      have C1 := Lib.hid (fun av cv w h => new_of av len0 cv z0 w h hc)
      have C2 := Lib.hid (fun w h => rcheck_of a0 len0 cap0 z0 0 w h hc)
      unfold NewPost at C1
      clear hc CKH hcl h0
      by_cases hz : len0 = 0
      · subst hz
        go_enter Try.func4, Try.ntmps4
        go_wp2_with (first | (go_at_call 7; (with_reducible refine CW.out.mono ?_); rintro e w1 ⟨rfl, HB1⟩))
        have HM1 := Lib.hid (HM.out.below HB1)
        have HBH := Lib.hid HB1
        have D1 := Lib.hid (CG.out w1 HM1.out)
        have D2 := Lib.hid (C2.out w1 HM1.out)
        clear HB1 CW HM CG
        go_wp2_with (first | (go_at_call 8; (with_reducible refine D1.out.mono ?_); rintro e w2 ⟨rfl, rfl⟩) | (go_at_call 11; (with_reducible refine D2.out.mono ?_); rintro e w2 ⟨rfl, rfl⟩))
        go_ret
        exact ⟨rfl, HBH.out⟩
      · have hzI : ¬ (len0 : Int) = 0 := by omega
        have hzb : (len0 == 0) = false := by simpa using hz
        have hwn : IntKind.u64.wrap (len0 : Int) = (len0 : Int) := wrapN len0 (by omega)
        obtain ⟨A1, x, u1, t1, m1, e1, hx⟩ := red a1 len0 (by omega) hn1
        obtain ⟨A2, y, u2, t2, m2, e2, hy⟩ := red a2 len0 (by omega) hn1
        obtain ⟨A3, z, u3, t3, m3, e3, hzz⟩ := red a3 len0 (by omega) hn1
        have wx : IntKind.i64.wrap (x : Int) = (x : Int) := by rw [IntKind.wrap_i64]; omega
        have wy : IntKind.i64.wrap (y : Int) = (y : Int) := by rw [IntKind.wrap_i64]; omega
        have wz : IntKind.i64.wrap (z : Int) = (z : Int) := by rw [IntKind.wrap_i64]; omega
        have vx : IntKind.u64.wrap (x : Int) = (x : Int) := wrapN x (by omega)
        have vy : IntKind.u64.wrap (y : Int) = (y : Int) := wrapN y (by omega)
        have vz : IntKind.u64.wrap (z : Int) = (z : Int) := wrapN z (by omega)
        go_enter Try.func4, Try.ntmps4
        go_wp2_with (first | (go_at_call 7; (with_reducible refine CW.out.mono ?_); rintro e w1 ⟨rfl, HB1⟩))
        have HM1 := Lib.hid (HM.out.below HB1)
        have HBH := Lib.hid HB1
        have D1 := Lib.hid (CG.out w1 HM1.out)
        have D2 := Lib.hid (CO.out w1 HM1.out)
        have D3 := Lib.hid (C2.out w1 HM1.out)
        clear HB1 CW HM CG
        go_wp2_with (first | (go_at_call 8; (with_reducible refine D1.out.mono ?_); rintro e w2 ⟨rfl, rfl⟩) | (go_at_call 11; (with_reducible refine D3.out.mono ?_); rintro e w2 ⟨rfl, rfl⟩) | (go_at_call 10; (with_reducible refine D2.out.mono ?_); rintro e w2 ⟨v2, rfl, HV2, HB2⟩))
        obtain ⟨av, cv, rfl, _⟩ := HV2.form
        rw [← HLN.out] at HV2
        rw [← HLN.out]
        have HBH2 := Lib.hid (trans3 HBH.out HB2)
        have D4 := Lib.hid (C1.out av cv w2 HV2)
        clear D1 D2 D3 HV2 HB2 HBH HM1 C1 C2 CO
        go_wp2_with (first | (go_at_call 9; (with_reducible refine D4.out.mono ?_); rintro e w3 ⟨R, S, rfl, HRO, HB3⟩))
        have HBH3 := Lib.hid (trans3 HBH2.out HB3)
        have HRO3 := Lib.hid HRO
        clear D4 HB3 HRO HBH2
        go_region
        have HRO4 := HRO3.out.below (w' := w3.drew) (by go_grown)
        have HBH4 := Lib.hid (HBH3.out.drew)
        have Dxx := Lib.hid (before_of R S len0 z0 (x : Int) (x : Int) false w3.drew HRO4 hn1 (by rw [bf_nat hx hx]; exact pB_lt HVa.out (Nat.le_refl _)))
        have Axx := Lib.hid (apart_of R S len0 z0 (x : Int) (x : Int) false w3.drew HRO4 hn1 (by rw [ap_nat hx hx]; simp))
        have Fxy := fun v h => before_of R S len0 z0 (x : Int) (y : Int) v w3.drew HRO4 hn1 h
        have Fyx := fun v h => before_of R S len0 z0 (y : Int) (x : Int) v w3.drew HRO4 hn1 h
        have Fyz := fun v h => before_of R S len0 z0 (y : Int) (z : Int) v w3.drew HRO4 hn1 h
        have Fxz := fun v h => before_of R S len0 z0 (x : Int) (z : Int) v w3.drew HRO4 hn1 h
        have Fap := fun v h => apart_of R S len0 z0 (x : Int) (y : Int) v w3.drew HRO4 hn1 h
        rw [bf_nat hx hy] at Fxy
        rw [bf_nat hy hx] at Fyx
        rw [bf_nat hy hzz] at Fyz
        rw [bf_nat hx hzz] at Fxz
        rw [ap_nat hx hy] at Fap
        obtain ⟨v1, hv1⟩ : ∃ v, pB z0 x y = v := ⟨_, rfl⟩
        obtain ⟨v2, hv2⟩ : ∃ v, pB z0 y z = v := ⟨_, rfl⟩
        obtain ⟨v3, hv3⟩ : ∃ v, pB z0 x z = v := ⟨_, rfl⟩
        obtain ⟨v4, hv4⟩ : ∃ v, pB z0 y x = v := ⟨_, rfl⟩
        rw [hv1, hv4] at Fap
        have Dxy := Fxy v1 hv1
        have Dyz := Fyz v2 hv2
        have Dxz := Fxz v3 hv3
        have Dyx := Fyx v4 hv4
        have Axy := Fap _ rfl
        have K1 : v1 = true → v2 = true → v3 = true := fun h1 h2 => by rw [← hv3]; exact pB_true.2 (P.trans (pB_true.1 (hv1.trans h1)) (pB_true.1 (hv2.trans h2)))
        have K2 : v1 = true → v4 = true → False := fun h1 h2 => by
          have q1 := (pB_true.1 (hv1.trans h1)).lt HVa.out
          have q2 := (pB_true.1 (hv4.trans h2)).lt HVa.out
          omega
        have K3 : x = y → v1 = false := fun h => by rw [← hv1, h]; exact pB_lt HVa.out (Nat.le_refl _)
        clear hv1 hv2 hv3 hv4 Fxy Fyx Fyz Fxz Fap HRO4 HRO3 HBH3
        by_cases hxy : x = y
        · obtain rfl := K3 hxy
          clear K1 K2 K3 Dyz Dxz Dyx Axy
          subst hxy
          replace Dxy := Lib.hid Dxy
          go_wp2_with (first | (go_at_call 15; (with_reducible refine Dxx.out.mono ?_); rintro e w9 ⟨rfl, rfl⟩) | (go_at_call 16; (with_reducible refine Axx.out.mono ?_); rintro e w9 ⟨rfl, rfl⟩) | (go_at_call 15; (with_reducible refine Dxy.out.mono ?_); rintro e w9 ⟨rfl, rfl⟩))
          go_ret
          exact ⟨rfl, HBH4.out⟩
        · have hne : (x != y) = true := bne_iff_ne.2 hxy
          have hbe : (x == y) = false := by simpa using hxy
          have hnI : ¬ (x : Int) = (y : Int) := by omega
          have hdI : decide ((x : Int) = (y : Int)) = false := by simp; omega
          rw [hne] at Axy
          clear K3
          cases v1 with
          | true =>
            cases v2 with
            | true =>
              obtain rfl := K1 rfl rfl
              cases v4 with
              | true => exact (K2 rfl rfl).elim
              | false =>
                clear K1 K2
                simp only [Bool.not_true, Bool.not_false, Bool.and_true, Bool.and_false, Bool.true_and, Bool.false_and] at Axy
                replace Dxy := Lib.hid Dxy
                replace Dyz := Lib.hid Dyz
                replace Dxz := Lib.hid Dxz
                replace Dyx := Lib.hid Dyx
                replace Axy := Lib.hid Axy
                go_wp2_with (first | (go_at_call 15; (with_reducible refine Dxx.out.mono ?_); rintro e w9 ⟨rfl, rfl⟩) | (go_at_call 16; (with_reducible refine Axx.out.mono ?_); rintro e w9 ⟨rfl, rfl⟩) | (go_at_call 15; (with_reducible refine Dxy.out.mono ?_); rintro e w9 ⟨rfl, rfl⟩) | (go_at_call 15; (with_reducible refine Dyz.out.mono ?_); rintro e w9 ⟨rfl, rfl⟩) | (go_at_call 15; (with_reducible refine Dxz.out.mono ?_); rintro e w9 ⟨rfl, rfl⟩) | (go_at_call 15; (with_reducible refine Dyx.out.mono ?_); rintro e w9 ⟨rfl, rfl⟩) | (go_at_call 16; (with_reducible refine Axy.out.mono ?_); rintro e w9 ⟨rfl, rfl⟩))
                go_ret
                exact ⟨rfl, HBH4.out⟩
            | false =>
              cases v4 with
              | true => exact (K2 rfl rfl).elim
              | false =>
                clear K1 K2
                simp only [Bool.not_true, Bool.not_false, Bool.and_true, Bool.and_false, Bool.true_and, Bool.false_and] at Axy
                replace Dxy := Lib.hid Dxy
                replace Dyz := Lib.hid Dyz
                replace Dxz := Lib.hid Dxz
                replace Dyx := Lib.hid Dyx
                replace Axy := Lib.hid Axy
                go_wp2_with (first | (go_at_call 15; (with_reducible refine Dxx.out.mono ?_); rintro e w9 ⟨rfl, rfl⟩) | (go_at_call 16; (with_reducible refine Axx.out.mono ?_); rintro e w9 ⟨rfl, rfl⟩) | (go_at_call 15; (with_reducible refine Dxy.out.mono ?_); rintro e w9 ⟨rfl, rfl⟩) | (go_at_call 15; (with_reducible refine Dyz.out.mono ?_); rintro e w9 ⟨rfl, rfl⟩) | (go_at_call 15; (with_reducible refine Dxz.out.mono ?_); rintro e w9 ⟨rfl, rfl⟩) | (go_at_call 15; (with_reducible refine Dyx.out.mono ?_); rintro e w9 ⟨rfl, rfl⟩) | (go_at_call 16; (with_reducible refine Axy.out.mono ?_); rintro e w9 ⟨rfl, rfl⟩))
                go_ret
                exact ⟨rfl, HBH4.out⟩
          | false =>
            cases v4
            all_goals
              clear K1 K2
              simp only [Bool.not_true, Bool.not_false, Bool.and_true, Bool.and_false, Bool.true_and, Bool.false_and] at Axy
              replace Dxy := Lib.hid Dxy
              replace Dyz := Lib.hid Dyz
              replace Dxz := Lib.hid Dxz
              replace Dyx := Lib.hid Dyx
              replace Axy := Lib.hid Axy
              go_wp2_with (first | (go_at_call 15; (with_reducible refine Dxx.out.mono ?_); rintro e w9 ⟨rfl, rfl⟩) | (go_at_call 16; (with_reducible refine Axx.out.mono ?_); rintro e w9 ⟨rfl, rfl⟩) | (go_at_call 15; (with_reducible refine Dxy.out.mono ?_); rintro e w9 ⟨rfl, rfl⟩) | (go_at_call 15; (with_reducible refine Dyz.out.mono ?_); rintro e w9 ⟨rfl, rfl⟩) | (go_at_call 15; (with_reducible refine Dxz.out.mono ?_); rintro e w9 ⟨rfl, rfl⟩) | (go_at_call 15; (with_reducible refine Dyx.out.mono ?_); rintro e w9 ⟨rfl, rfl⟩) | (go_at_call 16; (with_reducible refine Axy.out.mono ?_); rintro e w9 ⟨rfl, rfl⟩))
              go_ret
              exact ⟨rfl, HBH4.out⟩
end Go.Proofs.Ytciojgkgfhpaaaa.reachThrough
