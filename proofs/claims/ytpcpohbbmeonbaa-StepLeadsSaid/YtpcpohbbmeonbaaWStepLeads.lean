/- A zero leads on just if the register is 0; a jump always; and what is asked of others is asked by just those that the chapter names: the law StepLeads answers true. No condition. -/
import Derived.Test.YtpcpohbbmeonbaaWks08
import Derived.Test.YtpcpohbbmeonbaaPairK
namespace Go.Proofs.Ytpcpohbbmeonbaa.stepLeads
open Go.ChangeShapes Go.WideShapes Go.ChangeAt Go.RowKit
open Go.Proofs.Ytpcpohbbmeonbaa.step
set_option linter.unusedVariables false
set_option linter.unusedSimpArgs false
def asksB (o : Nat) : Bool := o == 0 || (13 ≤ o && o ≤ 17) || (20 ≤ o && o ≤ 25)
def cnt : Nat → Nat
  | 0 => 0
  | j + 1 => cnt j + (if asksB j then 1 else 0)
theorem cnt_le (j : Nat) : cnt j ≤ j := by
  induction j with
  | zero => exact Nat.le_refl _
  | succ j ih => unfold cnt; split <;> omega
theorem rg_in (k : Nat) (h : k < 8) : rg (k : Int) = k := by unfold rg; rw [if_neg (by omega), if_neg (by omega)]; omega
set_option maxHeartbeats 8000000 in
set_option maxRecDepth 20000 in
theorem core (a0 : Int) (k : Nat) (t : Int) (r : Nat → Int) (w : World) (h0 : 0 ≤ a0) (ha : a0 ≤ 255) (hk : a0 % 8 = k) (t0 : 0 ≤ t) (t1 : t ≤ 255) (hr : ∀ i, -9223372036854775808 ≤ r i ∧ r i ≤ 9223372036854775807) (z : Bool) (hz : Hid (z = true ↔ r k = 0)) :
    Calls Try.prog 10 #[.int .u8 a0, .int .u8 t, .agg #[.int .i64 (r 0), .int .i64 (r 1), .int .i64 (r 2), .int .i64 (r 3), .int .i64 (r 4), .int .i64 (r 5), .int .i64 (r 6), .int .i64 (r 7)]] w fun e w' => e = .returned (.bool true) ∧ Below w.heap.size w w' := by
  have hk8 : k < 8 := by omega
  have hrk := rg_in k hk8
  obtain ⟨n, s, e0, e1, e2, e3, e4, f, hp, _, hkn⟩ := pairK 19 k t 0 300 r hr (by decide) (by decide)
  have hn := hkn.zero rfl
  rw [hrk] at hn
  have HP := Lib.hid hp
  clear hp hkn
  obtain ⟨n', s', e0', e1', e2', e3', e4', f', hp', _, hkn'⟩ := pairK 18 t 0 0 300 r hr (by decide) (by decide)
  have hn' := hkn'.jump rfl
  rw [hn'] at hp'
  have HP' := Lib.hid hp'
  clear hp' hkn' hn'
  have hnt : (n == t) = z := by
    have h := hz.out
    rw [hn]
    by_cases e : r k = 0
    · rw [if_pos e]; have : z = true := h.2 e; rw [this]; simp
    · rw [if_neg e]; have : z = false := by cases z; rfl; exact absurd (h.1 rfl) e
      rw [this]; simp; omega
  have hn3 : (n == 301) = !z := by
    have h := hz.out
    rw [hn]
    by_cases e : r k = 0
    · rw [if_pos e]; have : z = true := h.2 e; rw [this]; simp; omega
    · rw [if_neg e]; have : z = false := by cases z; rfl; exact absurd (h.1 rfl) e
      rw [this]; simp
  have hrz : (r k == 0) = z := by
    have h := hz.out
    by_cases e : r k = 0
    · have : z = true := h.2 e; rw [this]; simp [e]
    · have : z = false := by cases z; rfl; exact absurd (h.1 rfl) e
      rw [this]; simp [e]
  have hrn : (r k != 0) = !z := by rw [bne, hrz]
  have HN := Lib.hid (And.intro hnt (And.intro hn3 (And.intro hrz hrn)))
  have HR := Lib.hid hr
  have HRK := Lib.hid hrk
  have HK := Lib.hid hk
  have et : a0.tmod 8 = a0 % 8 := Int.tmod_eq_emod_of_nonneg h0
  have at8k := at8 r k
  clear hn hnt hn3 hrz hrn hr hrk
  go_enter Try.func10, Try.ntmps10
  go_wp2_with fail
  refine (works_v _).mono ?_
  rintro e w1 ⟨rfl, hb1⟩
  have r0 : w1.cell? ⟨w.heap.size, 0, none⟩ = some (.int .i64 (r 0)) := keepc (by go_simp) hb1
  have r1 : w1.cell? ⟨w.heap.size, 1, none⟩ = some (.int .i64 (r 1)) := keepc (by go_simp) hb1
  have r2 : w1.cell? ⟨w.heap.size, 2, none⟩ = some (.int .i64 (r 2)) := keepc (by go_simp) hb1
  have r3 : w1.cell? ⟨w.heap.size, 3, none⟩ = some (.int .i64 (r 3)) := keepc (by go_simp) hb1
  have r4 : w1.cell? ⟨w.heap.size, 4, none⟩ = some (.int .i64 (r 4)) := keepc (by go_simp) hb1
  have r5 : w1.cell? ⟨w.heap.size, 5, none⟩ = some (.int .i64 (r 5)) := keepc (by go_simp) hb1
  have r6 : w1.cell? ⟨w.heap.size, 6, none⟩ = some (.int .i64 (r 6)) := keepc (by go_simp) hb1
  have r7 : w1.cell? ⟨w.heap.size, 7, none⟩ = some (.int .i64 (r 7)) := keepc (by go_simp) hb1
  have hw1 : Below w.heap.size w w1 := Below.trans (by go_grown) (hb1.mono (by simp; try omega))
  clear hb1
  go_wp2_with fail
  refine (HP.out _).mono ?_
  rintro e w2 ⟨rfl, hb2⟩
  have hw2 : Below w.heap.size w w2 := hw1.trans (hb2.mono hw1.size)
  have r0 := keepc r0 hb2
  have r1 := keepc r1 hb2
  have r2 := keepc r2 hb2
  have r3 := keepc r3 hb2
  have r4 := keepc r4 hb2
  have r5 := keepc r5 hb2
  have r6 := keepc r6 hb2
  have r7 := keepc r7 hb2
  clear hb2 hw1
  go_upto_region 5 with fail
  obtain ⟨W3, hW3⟩ : ∃ W3, W3 = (w2.alloc (.cells #[.int .i64 (s 0), .int .i64 (s 1), .int .i64 (s 2), .int .i64 (s 3), .int .i64 (s 4), .int .i64 (s 5), .int .i64 (s 6), .int .i64 (s 7)] 40)).alloc (.cells #[.int .i64 e0, .int .i64 e1, .int .i64 e2, .int .i64 e3, .int .i64 e4] 42) := ⟨_, rfl⟩
  have hbx : Below w2.heap.size w2 W3 := by rw [hW3]; go_grown
  have hw3 : Below w.heap.size w W3 := hw2.trans (hbx.mono hw2.size)
  have r0 := keepc r0 hbx
  have r1 := keepc r1 hbx
  have r2 := keepc r2 hbx
  have r3 := keepc r3 hbx
  have r4 := keepc r4 hbx
  have r5 := keepc r5 hbx
  have r6 := keepc r6 hbx
  have r7 := keepc r7 hbx
  rw [← hW3]
  clear hW3 hbx hw2
  go_wp2_with fail
  refine (HP'.out _).mono ?_
  rintro e w4 ⟨rfl, hb4⟩
  have r0 := keepc r0 hb4
  have r1 := keepc r1 hb4
  have r2 := keepc r2 hb4
  have r3 := keepc r3 hb4
  have r4 := keepc r4 hb4
  have r5 := keepc r5 hb4
  have r6 := keepc r6 hb4
  have r7 := keepc r7 hb4
  have hw4 : Below w.heap.size w w4 := hw3.trans (hb4.mono hw3.size)
  clear hb4 hw3
  go_upto_region 6 with fail
  obtain ⟨W5, hW5⟩ : ∃ W5, W5 = (w4.alloc (.cells #[(.int .i64 (s' 0)), (.int .i64 (s' 1)), (.int .i64 (s' 2)), (.int .i64 (s' 3)), (.int .i64 (s' 4)), (.int .i64 (s' 5)), (.int .i64 (s' 6)), (.int .i64 (s' 7))] 40)).alloc (.cells #[.int .i64 e0', .int .i64 e1', .int .i64 e2', .int .i64 e3', .int .i64 e4'] 42) := ⟨_, rfl⟩
  have hbx : Below w4.heap.size w4 W5 := by rw [hW5]; go_grown
  have hw5 : Below w.heap.size w W5 := hw4.trans (hbx.mono hw4.size)
  have r0 := keepc r0 hbx
  have r1 := keepc r1 hbx
  have r2 := keepc r2 hbx
  have r3 := keepc r3 hbx
  have r4 := keepc r4 hbx
  have r5 := keepc r5 hbx
  have r6 := keepc r6 hbx
  have r7 := keepc r7 hbx
  rw [← hW5]
  clear hW5 hbx hw4
  go_wp2_with fail
  go_loopw [17, 18] (fun c o wr => ∃ j : Nat, j ≤ 26 ∧ o = .int .i64 (j : Int) ∧ c = .int .i64 ((cnt j : Nat) : Int) ∧ Below w.heap.size w wr ∧ wr.cell? ⟨w.heap.size, 0, none⟩ = some (.int .i64 (r 0)) ∧ wr.cell? ⟨w.heap.size, 1, none⟩ = some (.int .i64 (r 1)) ∧ wr.cell? ⟨w.heap.size, 2, none⟩ = some (.int .i64 (r 2)) ∧ wr.cell? ⟨w.heap.size, 3, none⟩ = some (.int .i64 (r 3)) ∧ wr.cell? ⟨w.heap.size, 4, none⟩ = some (.int .i64 (r 4)) ∧ wr.cell? ⟨w.heap.size, 5, none⟩ = some (.int .i64 (r 5)) ∧ wr.cell? ⟨w.heap.size, 6, none⟩ = some (.int .i64 (r 6)) ∧ wr.cell? ⟨w.heap.size, 7, none⟩ = some (.int .i64 (r 7))) (fun _ o _ => 26 - (intOf o).toNat)
  case atStart => exact ⟨0, by omega, rfl, rfl, hw5, r0, r1, r2, r3, r4, r5, r6, r7⟩
  case round =>
    clear hw5 r0 r1 r2 r3 r4 r5 r6 r7
    obtain ⟨j, hj, rfl, rfl, hw, r0, r1, r2, r3, r4, r5, r6, r7⟩ := hrel
    have hcl := cnt_le j
    by_cases hlt : j < 26
    · obtain ⟨m, q, g0, g1, g2, g3, g4, fq, hq, _, hkq⟩ := pairK (j : Int) k k k 0 r HR.out (by decide) (by decide)
      have HQ := Lib.hid hq
      have hkind : (g0 != 0) = asksB j := by
        by_cases hf : fq = 0
        · have h := hkq.kind hf
          by_cases hs : (j : Int) = 0 ∨ (13 ≤ (j : Int) ∧ (j : Int) ≤ 17) ∨ (20 ≤ (j : Int) ∧ (j : Int) ≤ 25)
          · have h1 := h.2 hs
            have h2 : asksB j = true := by unfold asksB; simp; try omega
            rw [h2]; simpa using h1
          · have h1 : g0 = 0 := by by_cases e : g0 = 0; exact e; exact absurd (h.1 e) hs
            have h2 : asksB j = false := by unfold asksB; simp; omega
            rw [h2]; simp [h1]
        · have h1 := (hkq.fault hf).2.2.1
          have hs : ¬ ((j : Int) = 0 ∨ (13 ≤ (j : Int) ∧ (j : Int) ≤ 17) ∨ (20 ≤ (j : Int) ∧ (j : Int) ≤ 25)) := fun h => hf (hkq.nofault h)
          have h2 : asksB j = false := by unfold asksB; simp; omega
          rw [h2]; simp [h1]
      clear hq hkq
      have hcs : Hid (cnt (j + 1) = cnt j + (if asksB j then 1 else 0)) := Lib.hid rfl
      go_wp2_with fail
      refine (HQ.out _).mono ?_
      rintro e w6 ⟨rfl, hb6⟩
      have hw6 : Below w.heap.size w w6 := hw.trans (hb6.mono hw.size)
      have r0 := keepc r0 hb6
      have r1 := keepc r1 hb6
      have r2 := keepc r2 hb6
      have r3 := keepc r3 hb6
      have r4 := keepc r4 hb6
      have r5 := keepc r5 hb6
      have r6 := keepc r6 hb6
      have r7 := keepc r7 hb6
      clear hb6 hw
      go_upto_region 11 with fail
      obtain ⟨W7, hW7⟩ : ∃ W7, W7 = (w6.alloc (.cells #[.int .i64 (q 0), .int .i64 (q 1), .int .i64 (q 2), .int .i64 (q 3), .int .i64 (q 4), .int .i64 (q 5), .int .i64 (q 6), .int .i64 (q 7)] 40)).alloc (.cells #[.int .i64 g0, .int .i64 g1, .int .i64 g2, .int .i64 g3, .int .i64 g4] 42) := ⟨_, rfl⟩
      have hbx : Below w6.heap.size w6 W7 := by rw [hW7]; go_grown
      have hw7 : Below w.heap.size w W7 := hw6.trans (hbx.mono hw6.size)
      have y0 : W7.cell? ⟨w6.heap.size + 1, 0, none⟩ = some (.int .i64 g0) := by rw [hW7]; go_simp
      have r0 := keepc r0 hbx
      have r1 := keepc r1 hbx
      have r2 := keepc r2 hbx
      have r3 := keepc r3 hbx
      have r4 := keepc r4 hbx
      have r5 := keepc r5 hbx
      have r6 := keepc r6 hbx
      have r7 := keepc r7 hbx
      rw [← hW7]
      clear hW7 hbx hw6
      cases hB : asksB j
      · rw [hB] at hkind hcs
        go_wp2_with fail
        go_roundw
        case rel => exact ⟨j + 1, by omega, by go_num, by rw [hcs.out]; rfl, hw7, r0, r1, r2, r3, r4, r5, r6, r7⟩
        case measure => simp [intOf] <;> omega
      · rw [hB] at hkind hcs
        go_wp2_with fail
        go_roundw
        case rel => exact ⟨j + 1, by omega, by go_num, by rw [hcs.out]; rfl, hw7, r0, r1, r2, r3, r4, r5, r6, r7⟩
        case measure => simp [intOf] <;> omega
    · obtain rfl : j = 26 := by omega
      have hc26 : ((cnt 26 : Nat) : Int) = 12 := by decide
      have hck : wr.cell? ⟨w.heap.size, k, none⟩ = some (.int .i64 (r k)) := eightc r0 r1 r2 r3 r4 r5 r6 r7 k hk8
      obtain ⟨x1, x2, x3, x4⟩ := HN.out
      have g0 : (0 : Int) ≤ (k : Int) := by omega
      have g8 : (k : Int) < 8 := by omega
      cases z
      · go_wp2_with fail
        go_ret
        exact ⟨rfl, hw⟩
      · go_wp2_with fail
        go_ret
        exact ⟨rfl, hw⟩
theorem walk (a0 : Int) (a1 : Int) (a2_0 a2_1 a2_2 a2_3 a2_4 a2_5 a2_6 a2_7 : Int) (w : World) (w0 : (Lit.int .u8 a0).wf = true) (w1 : (Lit.int .u8 a1).wf = true) (w2_0 : (Lit.int .i64 a2_0).wf = true) (w2_1 : (Lit.int .i64 a2_1).wf = true) (w2_2 : (Lit.int .i64 a2_2).wf = true) (w2_3 : (Lit.int .i64 a2_3).wf = true) (w2_4 : (Lit.int .i64 a2_4).wf = true) (w2_5 : (Lit.int .i64 a2_5).wf = true) (w2_6 : (Lit.int .i64 a2_6).wf = true) (w2_7 : (Lit.int .i64 a2_7).wf = true) :
    Calls Try.prog 10 #[.int .u8 a0, .int .u8 a1, .agg #[.int .i64 a2_0, .int .i64 a2_1, .int .i64 a2_2, .int .i64 a2_3, .int .i64 a2_4, .int .i64 a2_5, .int .i64 a2_6, .int .i64 a2_7]] w fun e w' => e = .returned (.bool true) ∧ Below w.heap.size w w' := by
  have b0 := bounds_u8 w0
  have b1 := bounds_u8 w1
  obtain ⟨k, hk⟩ : ∃ k : Nat, a0 % 8 = k := ⟨(a0 % 8).toNat, by omega⟩
  refine core a0 k a1 (fun i => match i with | 0 => a2_0 | 1 => a2_1 | 2 => a2_2 | 3 => a2_3 | 4 => a2_4 | 5 => a2_5 | 6 => a2_6 | 7 => a2_7 | _ => 0) w (by omega) (by omega) hk (by omega) (by omega) (fun i => by
      match i with
      | 0 => exact wf_lo w2_0
      | 1 => exact wf_lo w2_1
      | 2 => exact wf_lo w2_2
      | 3 => exact wf_lo w2_3
      | 4 => exact wf_lo w2_4
      | 5 => exact wf_lo w2_5
      | 6 => exact wf_lo w2_6
      | 7 => exact wf_lo w2_7
      | n + 8 => exact ⟨(by decide : (-9223372036854775808 : Int) ≤ 0), (by decide : (0 : Int) ≤ 9223372036854775807)⟩) (decide ((fun i => match i with | 0 => a2_0 | 1 => a2_1 | 2 => a2_2 | 3 => a2_3 | 4 => a2_4 | 5 => a2_5 | 6 => a2_6 | 7 => a2_7 | _ => (0 : Int)) k = 0)) (Lib.hid (by simp))
end Go.Proofs.Ytpcpohbbmeonbaa.stepLeads
