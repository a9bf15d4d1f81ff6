/- What an instruction does not name stays: the law StepKeeps answers true. No condition. -/
import Derived.Test.YtpcpohbbmeonbaaWks08
import Derived.Test.YtpcpohbbmeonbaaPairM
import Derived.Test.YtpcpohbbmeonbaaChk3
import Derived.Test.YtpcpohbbmeonbaaEq8
import Derived.Deep.Cut
import Derived.Outline
namespace Go.Proofs.Ytpcpohbbmeonbaa.stepKeeps
open Go.ChangeShapes Go.WideShapes Go.ChangeAt Go.RowKit
open Go.Proofs.Ytpcpohbbmeonbaa.step
set_option linter.unusedVariables false
set_option linter.unusedSimpArgs false
theorem rg_in (A : Int) (h : 0 ≤ A ∧ A ≤ 7) : ((rg A : Nat) : Int) = A := by unfold rg; rw [if_neg (by omega), if_neg (by omega)]; omega
theorem tookN (r : Nat → Int) (e0 e2 got : Int) (j : Nat) : ∃ t : Nat → Int, tookF [r 0, r 1, r 2, r 3, r 4, r 5, r 6, r 7] e0 e2 got j = [t 0, t 1, t 2, t 3, t 4, t 5, t 6, t 7] ∧ (∀ i, i < 8 → i ≠ j → t i = r i) ∧ (¬ (e0 = 1 ∨ e0 = 3 ∨ e0 = 4) → ∀ i, i < 8 → t i = r i) := by
  obtain ⟨s0, s1, s2, s3, s4, s5, s6, s7, h⟩ := eight (l := tookF [r 0, r 1, r 2, r 3, r 4, r 5, r 6, r 7] e0 e2 got j) (by rw [tookF_len]; rfl)
  refine ⟨fun i => (tookF [r 0, r 1, r 2, r 3, r 4, r 5, r 6, r 7] e0 e2 got j).getD i 0, by rw [h]; rfl, fun i hi hij => ?_, fun hn i hi => ?_⟩
  · have hs : ∀ x : Int, ([r 0, r 1, r 2, r 3, r 4, r 5, r 6, r 7].set j x).getD i 0 = r i := fun x => by
      simp only [List.getD_eq_getElem?_getD]
      rw [List.getElem?_set_ne (fun e => hij e.symm)]
      match i, hi with
      | 0, _ => rfl
      | 1, _ => rfl
      | 2, _ => rfl
      | 3, _ => rfl
      | 4, _ => rfl
      | 5, _ => rfl
      | 6, _ => rfl
      | 7, _ => rfl
    show (tookF _ e0 e2 got j).getD i 0 = r i
    unfold tookF
    by_cases h1 : e0 = 1 ∨ e0 = 3
    · rw [if_pos h1]; exact hs _
    · rw [if_neg h1]
      by_cases h4 : e0 = 4
      · rw [if_pos h4]; exact hs _
      · rw [if_neg h4]
        match i, hi with
        | 0, _ => rfl
        | 1, _ => rfl
        | 2, _ => rfl
        | 3, _ => rfl
        | 4, _ => rfl
        | 5, _ => rfl
        | 6, _ => rfl
        | 7, _ => rfl
  · show (tookF _ e0 e2 got j).getD i 0 = r i
    unfold tookF
    rw [if_neg (by omega), if_neg (by omega)]
    match i, hi with
    | 0, _ => rfl
    | 1, _ => rfl
    | 2, _ => rfl
    | 3, _ => rfl
    | 4, _ => rfl
    | 5, _ => rfl
    | 6, _ => rfl
    | 7, _ => rfl
set_option maxHeartbeats 8000000 in
set_option maxRecDepth 20000 in
theorem core (op A B C pc got : Int) (r : Nat → Int) (w : World) (h0 : 0 ≤ pc) (ha : pc ≤ 255) (hr : ∀ i, -9223372036854775808 ≤ r i ∧ r i ≤ 9223372036854775807) :
    Calls Try.prog 9 #[.agg #[.int .i64 op, .int .i64 A, .int .i64 B, .int .i64 C], .int .u8 pc, .agg #[.int .i64 (r 0), .int .i64 (r 1), .int .i64 (r 2), .int .i64 (r 3), .int .i64 (r 4), .int .i64 (r 5), .int .i64 (r 6), .int .i64 (r 7)], .int .i64 got] w fun e w' => e = .returned (.bool true) ∧ Below w.heap.size w w' := by
  obtain ⟨n, s, e0, e1, e2, e3, e4, f, hp, _, hkn⟩ := pairM op A B C pc r hr (by omega) (by omega)
  have HP := Lib.hid hp
  have HK := Lib.hid hkn
  have HR := Lib.hid hr
  clear hp hkn hr
  go_enter Try.func9, Try.ntmps9
  go_wp2_with fail
  refine (works_v _).mono ?_
  rintro e w1 ⟨rfl, hb1⟩
  have x0 : w1.cell? ⟨w.heap.size, 0, none⟩ = some (.int .i64 op) := keepc (by go_simp) hb1
  have x1 : w1.cell? ⟨w.heap.size, 1, none⟩ = some (.int .i64 A) := keepc (by go_simp) hb1
  have x2 : w1.cell? ⟨w.heap.size, 2, none⟩ = some (.int .i64 B) := keepc (by go_simp) hb1
  have x3 : w1.cell? ⟨w.heap.size, 3, none⟩ = some (.int .i64 C) := keepc (by go_simp) hb1
  have r0 : w1.cell? ⟨w.heap.size + 1, 0, none⟩ = some (.int .i64 (r 0)) := keepc (by go_simp) hb1
  have r1 : w1.cell? ⟨w.heap.size + 1, 1, none⟩ = some (.int .i64 (r 1)) := keepc (by go_simp) hb1
  have r2 : w1.cell? ⟨w.heap.size + 1, 2, none⟩ = some (.int .i64 (r 2)) := keepc (by go_simp) hb1
  have r3 : w1.cell? ⟨w.heap.size + 1, 3, none⟩ = some (.int .i64 (r 3)) := keepc (by go_simp) hb1
  have r4 : w1.cell? ⟨w.heap.size + 1, 4, none⟩ = some (.int .i64 (r 4)) := keepc (by go_simp) hb1
  have r5 : w1.cell? ⟨w.heap.size + 1, 5, none⟩ = some (.int .i64 (r 5)) := keepc (by go_simp) hb1
  have r6 : w1.cell? ⟨w.heap.size + 1, 6, none⟩ = some (.int .i64 (r 6)) := keepc (by go_simp) hb1
  have r7 : w1.cell? ⟨w.heap.size + 1, 7, none⟩ = some (.int .i64 (r 7)) := keepc (by go_simp) hb1
  have hw : Below w.heap.size w w1 := Below.trans (by go_grown) (hb1.mono (by simp; try omega))
  clear hb1
  go_wp2_with fail
  refine (check_v op A B C _).mono ?_
  rintro e w2 ⟨v, rfl, hv, hbn⟩
  replace x0 := keepc x0 hbn
  replace x1 := keepc x1 hbn
  replace x2 := keepc x2 hbn
  replace x3 := keepc x3 hbn
  replace r0 := keepc r0 hbn
  replace r1 := keepc r1 hbn
  replace r2 := keepc r2 hbn
  replace r3 := keepc r3 hbn
  replace r4 := keepc r4 hbn
  replace r5 := keepc r5 hbn
  replace r6 := keepc r6 hbn
  replace r7 := keepc r7 hbn
  replace hw := hw.trans (hbn.mono hw.size)
  clear hbn
  by_cases hv0 : v = 0
  case neg =>
    have hvb : (v != 0) = true := by simpa using hv0
    clear hv hv0
    go_wp2_with fail
    go_ret
    exact ⟨rfl, hw⟩
  obtain ⟨o1, o2, hwr⟩ := hv hv0
  subst hv0
  have HWR := Lib.hid hwr
  clear hv hwr
  go_wp2_with fail
  refine (HP.out _).mono ?_
  rintro e w3 ⟨rfl, hbn⟩
  replace x0 := keepc x0 hbn
  replace x1 := keepc x1 hbn
  replace x2 := keepc x2 hbn
  replace x3 := keepc x3 hbn
  replace r0 := keepc r0 hbn
  replace r1 := keepc r1 hbn
  replace r2 := keepc r2 hbn
  replace r3 := keepc r3 hbn
  replace r4 := keepc r4 hbn
  replace r5 := keepc r5 hbn
  replace r6 := keepc r6 hbn
  replace r7 := keepc r7 hbn
  replace hw := hw.trans (hbn.mono hw.size)
  clear hbn
  go_upto_region 6 with fail
  obtain ⟨W3, hW3⟩ : ∃ W3, W3 = (w3.alloc (.cells #[.int .i64 (s 0), .int .i64 (s 1), .int .i64 (s 2), .int .i64 (s 3), .int .i64 (s 4), .int .i64 (s 5), .int .i64 (s 6), .int .i64 (s 7)] 40)).alloc (.cells #[.int .i64 e0, .int .i64 e1, .int .i64 e2, .int .i64 e3, .int .i64 e4] 42) := ⟨_, rfl⟩
  have hbx : Below w3.heap.size w3 W3 := by rw [hW3]; go_grown
  have y0 : W3.cell? ⟨w3.heap.size, 0, none⟩ = some (.int .i64 (s 0)) := by rw [hW3]; go_simp
  have y1 : W3.cell? ⟨w3.heap.size, 1, none⟩ = some (.int .i64 (s 1)) := by rw [hW3]; go_simp
  have y2 : W3.cell? ⟨w3.heap.size, 2, none⟩ = some (.int .i64 (s 2)) := by rw [hW3]; go_simp
  have y3 : W3.cell? ⟨w3.heap.size, 3, none⟩ = some (.int .i64 (s 3)) := by rw [hW3]; go_simp
  have y4 : W3.cell? ⟨w3.heap.size, 4, none⟩ = some (.int .i64 (s 4)) := by rw [hW3]; go_simp
  have y5 : W3.cell? ⟨w3.heap.size, 5, none⟩ = some (.int .i64 (s 5)) := by rw [hW3]; go_simp
  have y6 : W3.cell? ⟨w3.heap.size, 6, none⟩ = some (.int .i64 (s 6)) := by rw [hW3]; go_simp
  have y7 : W3.cell? ⟨w3.heap.size, 7, none⟩ = some (.int .i64 (s 7)) := by rw [hW3]; go_simp
  have z0 : W3.cell? ⟨w3.heap.size + 1, 0, none⟩ = some (.int .i64 e0) := by rw [hW3]; go_simp
  have z1 : W3.cell? ⟨w3.heap.size + 1, 1, none⟩ = some (.int .i64 e1) := by rw [hW3]; go_simp
  have z2 : W3.cell? ⟨w3.heap.size + 1, 2, none⟩ = some (.int .i64 e2) := by rw [hW3]; go_simp
  have z3 : W3.cell? ⟨w3.heap.size + 1, 3, none⟩ = some (.int .i64 e3) := by rw [hW3]; go_simp
  have z4 : W3.cell? ⟨w3.heap.size + 1, 4, none⟩ = some (.int .i64 e4) := by rw [hW3]; go_simp
  replace x0 := keepc x0 hbx
  replace x1 := keepc x1 hbx
  replace x2 := keepc x2 hbx
  replace x3 := keepc x3 hbx
  replace r0 := keepc r0 hbx
  replace r1 := keepc r1 hbx
  replace r2 := keepc r2 hbx
  replace r3 := keepc r3 hbx
  replace r4 := keepc r4 hbx
  replace r5 := keepc r5 hbx
  replace r6 := keepc r6 hbx
  replace r7 := keepc r7 hbx
  replace hw := hw.trans (hbx.mono hw.size)
  rw [← hW3]
  clear hW3 hbx
  by_cases hf : f = 0
  case neg =>
    have hfb : (f != 0) = true := by simpa using hf
    obtain ⟨rfl, rfl, rfl, rfl, rfl, rfl, rfl⟩ := HK.out.fault hf
    have q1 : ∀ w : World, _ := fun w => eq_same (s 0) (s 1) (s 2) (s 3) (s 4) (s 5) (s 6) (s 7) w
    have q2 : ∀ w : World, _ := fun w => eff_same 0 0 0 0 0 w
    clear hf HK HP
    go_wp2_with fail
    go_ret
    exact ⟨rfl, hw⟩
  subst hf
  obtain ⟨t, ht, htk, htn⟩ := tookN s e0 e2 got (rg e4)
  have hT : Hid (∀ i : Nat, i < 8 → (i : Int) ≠ A → t i = r i) := Lib.hid (fun i hi hiA => by
    have K := HK.out
    by_cases hwo : writes op
    · have hA := HWR.out hwo
      have hrg := rg_in A hA
      have e1 : s i = r i := K.keeps i (by omega)
      rw [← e1]
      by_cases he : e0 = 1 ∨ e0 = 3 ∨ e0 = 4
      · have h4 := K.reg he
        refine htk i hi ?_
        rw [h4]
        have := rg_in ((rg A : Nat) : Int) (by omega)
        omega
      · exact htn he i hi
    · have hs : s = r := K.stays (by unfold writes at hwo; omega)
      rw [← hs]
      exact htn (fun he => hwo (by have := K.reads he; unfold writes; omega)) i hi)
  have HT := Lib.hid ht
  have hgoes := HK.out.goes rfl
  have HG := Lib.hid hgoes
  have hasks := HK.out.asks
  clear htk htn ht HK hgoes HP
  have C1 : Hid (∀ w : World, Calls Try.prog 32 #[.agg #[.int .i64 (s 0), .int .i64 (s 1), .int .i64 (s 2), .int .i64 (s 3), .int .i64 (s 4), .int .i64 (s 5), .int .i64 (s 6), .int .i64 (s 7)], .agg #[.int .i64 e0, .int .i64 e1, .int .i64 e2, .int .i64 e3, .int .i64 e4], .int .i64 got] w fun e w' => e = .returned (.agg #[.int .i64 (t 0), .int .i64 (t 1), .int .i64 (t 2), .int .i64 (t 3), .int .i64 (t 4), .int .i64 (t 5), .int .i64 (t 6), .int .i64 (t 7)]) ∧ Below w.heap.size w w') := Lib.hid (fun w => took_v _ _ _ _ _ _ _ _ e0 e1 e2 e3 e4 got _ _ _ _ _ _ _ _ w HT)
  by_cases hz : e0 = 0 ∧ e1 = 0 ∧ e2 = 0 ∧ e3 = 0 ∧ e4 = 0
  case pos =>
    have q0 : ∀ w : World, _ := fun w => eff_none e0 e1 e2 e3 e4 true w (by obtain ⟨rfl, rfl, rfl, rfl, rfl⟩ := hz; rfl)
    clear hz hasks
    go_upto_region 10 with fail
    go_wp2_with fail
    refine (C1.out _).mono ?_
    rintro e w4 ⟨rfl, hbn⟩
    replace x0 := keepc x0 hbn
    replace x1 := keepc x1 hbn
    replace x2 := keepc x2 hbn
    replace x3 := keepc x3 hbn
    replace r0 := keepc r0 hbn
    replace r1 := keepc r1 hbn
    replace r2 := keepc r2 hbn
    replace r3 := keepc r3 hbn
    replace r4 := keepc r4 hbn
    replace r5 := keepc r5 hbn
    replace r6 := keepc r6 hbn
    replace r7 := keepc r7 hbn
    replace hw := hw.trans (hbn.mono hw.size)
    clear hbn y0 y1 y2 y3 y4 y5 y6 y7 z0 z1 z2 z3 z4 C1 HT
    go_upto_region 11 with fail
    obtain ⟨W5, hW5⟩ : ∃ W5, W5 = w4.alloc (.cells #[.int .i64 (t 0), .int .i64 (t 1), .int .i64 (t 2), .int .i64 (t 3), .int .i64 (t 4), .int .i64 (t 5), .int .i64 (t 6), .int .i64 (t 7)] 40) := ⟨_, rfl⟩
    have hbx : Below w4.heap.size w4 W5 := by rw [hW5]; go_grown
    have t0 : W5.cell? ⟨w4.heap.size, 0, none⟩ = some (.int .i64 (t 0)) := by rw [hW5]; go_simp
    have t1 : W5.cell? ⟨w4.heap.size, 1, none⟩ = some (.int .i64 (t 1)) := by rw [hW5]; go_simp
    have t2 : W5.cell? ⟨w4.heap.size, 2, none⟩ = some (.int .i64 (t 2)) := by rw [hW5]; go_simp
    have t3 : W5.cell? ⟨w4.heap.size, 3, none⟩ = some (.int .i64 (t 3)) := by rw [hW5]; go_simp
    have t4 : W5.cell? ⟨w4.heap.size, 4, none⟩ = some (.int .i64 (t 4)) := by rw [hW5]; go_simp
    have t5 : W5.cell? ⟨w4.heap.size, 5, none⟩ = some (.int .i64 (t 5)) := by rw [hW5]; go_simp
    have t6 : W5.cell? ⟨w4.heap.size, 6, none⟩ = some (.int .i64 (t 6)) := by rw [hW5]; go_simp
    have t7 : W5.cell? ⟨w4.heap.size, 7, none⟩ = some (.int .i64 (t 7)) := by rw [hW5]; go_simp
    replace x0 := keepc x0 hbx
    replace x1 := keepc x1 hbx
    replace x2 := keepc x2 hbx
    replace x3 := keepc x3 hbx
    replace r0 := keepc r0 hbx
    replace r1 := keepc r1 hbx
    replace r2 := keepc r2 hbx
    replace r3 := keepc r3 hbx
    replace r4 := keepc r4 hbx
    replace r5 := keepc r5 hbx
    replace r6 := keepc r6 hbx
    replace r7 := keepc r7 hbx
    replace hw := hw.trans (hbx.mono hw.size)
    rw [← hW5]
    clear hW5 hbx
    have CT := Lib.hid (fun k hk => eightc (r := t) t0 t1 t2 t3 t4 t5 t6 t7 k hk)
    have CR := Lib.hid (fun k hk => eightc (r := r) r0 r1 r2 r3 r4 r5 r6 r7 k hk)
    clear t0 t1 t2 t3 t4 t5 t6 t7 r0 r1 r2 r3 r4 r5 r6 r7
    go_wp2_with fail
    go_loopw [14] (fun i wr => ∃ (j nq : Nat), j ≤ 8 ∧ i = .int .i64 j ∧ wr = W5.drewN nq) (fun i _ => 8 - (intOf i).toNat)
    case atStart => exact ⟨0, 0, Nat.zero_le _, rfl, rfl⟩
    case round =>
      obtain ⟨j, nq, hj, rfl, rfl⟩ := hrel
      by_cases hlt : j < 8
      · have tj := CT.out j hlt
        have rj := CR.out j hlt
        have j0 : (0 : Int) ≤ (j : Int) := by omega
        have j8 : (j : Int) < 8 := by omega
        by_cases hA : (j : Int) = A
        · have gA : ((j : Int) != A) = false := by simp [hA]
          clear hA
          go_wp2_with fail
          go_quiet (fail)
          go_wp2_with fail
          go_roundw
          case rel => exact ⟨j + 1, _, by omega, by go_num, by first | rfl | (simp; rfl)⟩
          case measure => simp [intOf]; omega
        · have gA : ((j : Int) != A) = true := by simpa using hA
          rw [hT.out j hlt hA] at tj
          clear hA
          go_wp2_with fail
          go_quiet (fail)
          go_wp2_with fail
          go_roundw
          case rel => exact ⟨j + 1, _, by omega, by go_num, by first | rfl | (simp; rfl)⟩
          case measure => simp [intOf]; omega
      · obtain rfl : j = 8 := by omega
        rcases HG.out with h1 | ⟨h2, h3⟩ | ⟨h2, h3, h4⟩
        · have g1 : (n == pc + 1) = true := by simp [h1]
          clear h1
          go_wp2_with fail
          go_ret
          exact ⟨rfl, hw.trans (below_drewN (Below.refl _ _) _)⟩
        · have g2 : (op == 18) = true := by simp [h2]
          have g3 : (n == A) = true := by simp [h3]
          have g4 : (op == 19) = false := by simp [h2]
          by_cases h1 : n = pc + 1
          · have g1 : (n == pc + 1) = true := by simp [h1]
            clear h1 h2 h3
            go_wp2_with fail
            go_ret
            exact ⟨rfl, hw.trans (below_drewN (Below.refl _ _) _)⟩
          · have g1 : (n == pc + 1) = false := by simp [h1]
            clear h1 h2 h3
            go_wp2_with fail
            go_ret
            exact ⟨rfl, hw.trans (below_drewN (Below.refl _ _) _)⟩
        · have g2 : (op == 18) = false := by simp [h2]
          have g3 : (n == B) = true := by simp [h3]
          have g4 : (op == 19) = true := by simp [h2]
          have hA := HWR.out (by unfold writes; omega)
          obtain ⟨a, rfl⟩ := Int.eq_ofNat_of_zero_le hA.1
          have ra := CR.out a (by omega)
          have hrg := rg_in (a : Int) hA
          rw [show rg (a : Int) = a from by omega] at h4
          rw [h4] at ra
          have a0 : (0 : Int) ≤ (a : Int) := by omega
          have a8 : (a : Int) < 8 := by omega
          by_cases h1 : n = pc + 1
          · have g1 : (n == pc + 1) = true := by simp [h1]
            clear h1 h2 h3 h4 hrg hA
            go_wp2_with fail
            go_ret
            exact ⟨rfl, hw.trans (below_drewN (Below.refl _ _) _)⟩
          · have g1 : (n == pc + 1) = false := by simp [h1]
            clear h1 h2 h3 h4 hrg hA
            go_wp2_with fail
            go_ret
            exact ⟨rfl, hw.trans (below_drewN (Below.refl _ _) _)⟩
  case neg =>
    have q0 : ∀ w : World, _ := fun w => eff_none e0 e1 e2 e3 e4 false w (by
      by_cases a0 : e0 = 0 <;> by_cases a1 : e1 = 0 <;> by_cases a2 : e2 = 0 <;> by_cases a3 : e3 = 0 <;> by_cases a4 : e4 = 0 <;> simp [a0, a1, a2, a3, a4]
      exact absurd ⟨a0, a1, a2, a3, a4⟩ hz)
    have hsr : s = r := hasks (by omega)
    have q1 : ∀ w : World, (binOp .neq 40 (.agg #[.int .i64 (s 0), .int .i64 (s 1), .int .i64 (s 2), .int .i64 (s 3), .int .i64 (s 4), .int .i64 (s 5), .int .i64 (s 6), .int .i64 (s 7)]) (.agg #[.int .i64 (r 0), .int .i64 (r 1), .int .i64 (r 2), .int .i64 (r 3), .int .i64 (r 4), .int .i64 (r 5), .int .i64 (r 6), .int .i64 (r 7)])).run Try.prog w = .ok (.bool false) w := fun w => by rw [hsr]; exact neq_same _ _ _ _ _ _ _ _ w
    clear hz hasks hsr
    go_upto_region 10 with fail
    go_wp2_with fail
    refine (C1.out _).mono ?_
    rintro e w4 ⟨rfl, hbn⟩
    replace x0 := keepc x0 hbn
    replace x1 := keepc x1 hbn
    replace x2 := keepc x2 hbn
    replace x3 := keepc x3 hbn
    replace r0 := keepc r0 hbn
    replace r1 := keepc r1 hbn
    replace r2 := keepc r2 hbn
    replace r3 := keepc r3 hbn
    replace r4 := keepc r4 hbn
    replace r5 := keepc r5 hbn
    replace r6 := keepc r6 hbn
    replace r7 := keepc r7 hbn
    replace hw := hw.trans (hbn.mono hw.size)
    clear hbn y0 y1 y2 y3 y4 y5 y6 y7 z0 z1 z2 z3 z4 C1 HT
    go_upto_region 11 with fail
    obtain ⟨W5, hW5⟩ : ∃ W5, W5 = w4.alloc (.cells #[.int .i64 (t 0), .int .i64 (t 1), .int .i64 (t 2), .int .i64 (t 3), .int .i64 (t 4), .int .i64 (t 5), .int .i64 (t 6), .int .i64 (t 7)] 40) := ⟨_, rfl⟩
    have hbx : Below w4.heap.size w4 W5 := by rw [hW5]; go_grown
    have t0 : W5.cell? ⟨w4.heap.size, 0, none⟩ = some (.int .i64 (t 0)) := by rw [hW5]; go_simp
    have t1 : W5.cell? ⟨w4.heap.size, 1, none⟩ = some (.int .i64 (t 1)) := by rw [hW5]; go_simp
    have t2 : W5.cell? ⟨w4.heap.size, 2, none⟩ = some (.int .i64 (t 2)) := by rw [hW5]; go_simp
    have t3 : W5.cell? ⟨w4.heap.size, 3, none⟩ = some (.int .i64 (t 3)) := by rw [hW5]; go_simp
    have t4 : W5.cell? ⟨w4.heap.size, 4, none⟩ = some (.int .i64 (t 4)) := by rw [hW5]; go_simp
    have t5 : W5.cell? ⟨w4.heap.size, 5, none⟩ = some (.int .i64 (t 5)) := by rw [hW5]; go_simp
    have t6 : W5.cell? ⟨w4.heap.size, 6, none⟩ = some (.int .i64 (t 6)) := by rw [hW5]; go_simp
    have t7 : W5.cell? ⟨w4.heap.size, 7, none⟩ = some (.int .i64 (t 7)) := by rw [hW5]; go_simp
    replace x0 := keepc x0 hbx
    replace x1 := keepc x1 hbx
    replace x2 := keepc x2 hbx
    replace x3 := keepc x3 hbx
    replace r0 := keepc r0 hbx
    replace r1 := keepc r1 hbx
    replace r2 := keepc r2 hbx
    replace r3 := keepc r3 hbx
    replace r4 := keepc r4 hbx
    replace r5 := keepc r5 hbx
    replace r6 := keepc r6 hbx
    replace r7 := keepc r7 hbx
    replace hw := hw.trans (hbx.mono hw.size)
    rw [← hW5]
    clear hW5 hbx
    have CT := Lib.hid (fun k hk => eightc (r := t) t0 t1 t2 t3 t4 t5 t6 t7 k hk)
    have CR := Lib.hid (fun k hk => eightc (r := r) r0 r1 r2 r3 r4 r5 r6 r7 k hk)
    clear t0 t1 t2 t3 t4 t5 t6 t7 r0 r1 r2 r3 r4 r5 r6 r7
    go_wp2_with fail
    go_loopw [14] (fun i wr => ∃ (j nq : Nat), j ≤ 8 ∧ i = .int .i64 j ∧ wr = W5.drewN nq) (fun i _ => 8 - (intOf i).toNat)
    case atStart => exact ⟨0, 0, Nat.zero_le _, rfl, rfl⟩
    case round =>
      obtain ⟨j, nq, hj, rfl, rfl⟩ := hrel
      by_cases hlt : j < 8
      · have tj := CT.out j hlt
        have rj := CR.out j hlt
        have j0 : (0 : Int) ≤ (j : Int) := by omega
        have j8 : (j : Int) < 8 := by omega
        by_cases hA : (j : Int) = A
        · have gA : ((j : Int) != A) = false := by simp [hA]
          clear hA
          go_wp2_with fail
          go_quiet (fail)
          go_wp2_with fail
          go_roundw
          case rel => exact ⟨j + 1, _, by omega, by go_num, by first | rfl | (simp; rfl)⟩
          case measure => simp [intOf]; omega
        · have gA : ((j : Int) != A) = true := by simpa using hA
          rw [hT.out j hlt hA] at tj
          clear hA
          go_wp2_with fail
          go_quiet (fail)
          go_wp2_with fail
          go_roundw
          case rel => exact ⟨j + 1, _, by omega, by go_num, by first | rfl | (simp; rfl)⟩
          case measure => simp [intOf]; omega
      · obtain rfl : j = 8 := by omega
        rcases HG.out with h1 | ⟨h2, h3⟩ | ⟨h2, h3, h4⟩
        · have g1 : (n == pc + 1) = true := by simp [h1]
          clear h1
          go_wp2_with fail
          go_ret
          exact ⟨rfl, hw.trans (below_drewN (Below.refl _ _) _)⟩
        · have g2 : (op == 18) = true := by simp [h2]
          have g3 : (n == A) = true := by simp [h3]
          have g4 : (op == 19) = false := by simp [h2]
          by_cases h1 : n = pc + 1
          · have g1 : (n == pc + 1) = true := by simp [h1]
            clear h1 h2 h3
            go_wp2_with fail
            go_ret
            exact ⟨rfl, hw.trans (below_drewN (Below.refl _ _) _)⟩
          · have g1 : (n == pc + 1) = false := by simp [h1]
            clear h1 h2 h3
            go_wp2_with fail
            go_ret
            exact ⟨rfl, hw.trans (below_drewN (Below.refl _ _) _)⟩
        · have g2 : (op == 18) = false := by simp [h2]
          have g3 : (n == B) = true := by simp [h3]
          have g4 : (op == 19) = true := by simp [h2]
          have hA := HWR.out (by unfold writes; omega)
          obtain ⟨a, rfl⟩ := Int.eq_ofNat_of_zero_le hA.1
          have ra := CR.out a (by omega)
          have hrg := rg_in (a : Int) hA
          rw [show rg (a : Int) = a from by omega] at h4
          rw [h4] at ra
          have a0 : (0 : Int) ≤ (a : Int) := by omega
          have a8 : (a : Int) < 8 := by omega
          by_cases h1 : n = pc + 1
          · have g1 : (n == pc + 1) = true := by simp [h1]
            clear h1 h2 h3 h4 hrg hA
            go_wp2_with fail
            go_ret
            exact ⟨rfl, hw.trans (below_drewN (Below.refl _ _) _)⟩
          · have g1 : (n == pc + 1) = false := by simp [h1]
            clear h1 h2 h3 h4 hrg hA
            go_wp2_with fail
            go_ret
            exact ⟨rfl, hw.trans (below_drewN (Below.refl _ _) _)⟩
theorem walk (a0_0 a0_1 a0_2 a0_3 : Int) (a1 : Int) (a2_0 a2_1 a2_2 a2_3 a2_4 a2_5 a2_6 a2_7 : Int) (a3 : Int) (w : World) (w0_0 : (Lit.int .i64 a0_0).wf = true) (w0_1 : (Lit.int .i64 a0_1).wf = true) (w0_2 : (Lit.int .i64 a0_2).wf = true) (w0_3 : (Lit.int .i64 a0_3).wf = true) (w1 : (Lit.int .u8 a1).wf = true) (w2_0 : (Lit.int .i64 a2_0).wf = true) (w2_1 : (Lit.int .i64 a2_1).wf = true) (w2_2 : (Lit.int .i64 a2_2).wf = true) (w2_3 : (Lit.int .i64 a2_3).wf = true) (w2_4 : (Lit.int .i64 a2_4).wf = true) (w2_5 : (Lit.int .i64 a2_5).wf = true) (w2_6 : (Lit.int .i64 a2_6).wf = true) (w2_7 : (Lit.int .i64 a2_7).wf = true) (w3 : (Lit.int .i64 a3).wf = true) :
    Calls Try.prog 9 #[.agg #[.int .i64 a0_0, .int .i64 a0_1, .int .i64 a0_2, .int .i64 a0_3], .int .u8 a1, .agg #[.int .i64 a2_0, .int .i64 a2_1, .int .i64 a2_2, .int .i64 a2_3, .int .i64 a2_4, .int .i64 a2_5, .int .i64 a2_6, .int .i64 a2_7], .int .i64 a3] w fun e w' => e = .returned (.bool true) ∧ Below w.heap.size w w' := by
  have b1 := bounds_u8 w1
  exact core a0_0 a0_1 a0_2 a0_3 a1 a3 (fun i => match i with | 0 => a2_0 | 1 => a2_1 | 2 => a2_2 | 3 => a2_3 | 4 => a2_4 | 5 => a2_5 | 6 => a2_6 | 7 => a2_7 | _ => 0) w b1.1 b1.2 (fun i => by
      match i with
      | 0 => exact wf_lo w2_0
      | 1 => exact wf_lo w2_1
      | 2 => exact wf_lo w2_2
      | 3 => exact wf_lo w2_3
      | 4 => exact wf_lo w2_4
      | 5 => exact wf_lo w2_5
      | 6 => exact wf_lo w2_6
      | 7 => exact wf_lo w2_7
      | n + 8 => exact ⟨(by decide : (-9223372036854775808 : Int) ≤ 0), (by decide : (0 : Int) ≤ 9223372036854775807)⟩)
end Go.Proofs.Ytpcpohbbmeonbaa.stepKeeps
