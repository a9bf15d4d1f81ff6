/- Programs (layer 4): any program's bytes, or what is wrong with it: the walk of the law. -/
import Derived.Test.YthllikmnlnakkaaPrZ
import Derived.Test.YthllikmnlnakkaaPrAA
import Derived.Test.YthllikmnlnakkaaPrP
import Derived.Test.YthllikmnlnakkaaPrX
import Derived.Test.YthllikmnlnakkaaPrM
import Derived.Test.YthllikmnlnakkaaPrL
namespace Go.Proofs.Ythllikmnlnakkaa.progPuts
open Go.ChangeShapes Go.WideShapes Go.ChangeAt Go.RowKit
open Go.Proofs.Ythllikmnlnakkaa.bin Go.Proofs.Ythllikmnlnakkaa.bits Go.Proofs.Ythllikmnlnakkaa.ins Go.Proofs.Ythllikmnlnakkaa.pr
set_option linter.unusedVariables false
set_option linter.unusedSimpArgs false
set_option maxRecDepth 20000 in
set_option maxHeartbeats 1600000 in
theorem walk (m0 : Int) (a0 : Option Addr) (n0 c0 : Nat) (L0 : List (List I4)) (w : World) (w0 : PM w (.slice a0 n0 c0) L0) :
    Calls Try.prog 3 #[.agg #[.int .i64 m0, .slice a0 n0 c0]] w fun e w' => e = .returned (.bool true) ∧ Below w.heap.size w w' := by
  obtain ⟨W, hW⟩ : ∃ W, w.alloc (.cells #[.int .i64 m0, .slice a0 n0 c0] 24) = W := ⟨_, rfl⟩
  have hb0 : Below w.heap.size w W := by rw [← hW]; go_grown
  have HP := Lib.hid (show W.heap[w.heap.size]? = some (.cells #[.int .i64 m0, .slice a0 n0 c0] 24 (0, 0)) by rw [← hW]; exact heap_new _ _ _)
  have hs1 : w.heap.size < W.heap.size := by rw [← hW]; simp
  have HM := Lib.hid w0
  have HW := Lib.hid hW
  have HB := Lib.hid hb0
  have CW := Lib.hid works_v
  clear w0 hW hb0
  go_enter Try.func3, Try.ntmps3
  go_wp2_with fail
  rw [HW.out]
  refine (CW.out _).mono ?_
  rintro e w1 ⟨rfl, hb1⟩
  have HB1 := Lib.hid hb1
  have hp0 : w1.cell? ⟨w.heap.size, 0, none⟩ = some (.int .i64 m0) := cel (kb HP.out HB1.out) 0
  have hp1 : w1.cell? ⟨w.heap.size, 1, none⟩ = some (.slice a0 n0 c0) := cel (kb HP.out HB1.out) 1
  clear hb1 CW
  go_wp2_with fail
  refine (great_v m0 a0 n0 c0 L0 w1 (HM.out.below (tr3 HB.out HB1.out))).mono ?_
  rintro e w2 ⟨rfl | ⟨rfl, hS⟩, hb2⟩
  · have HB2 := Lib.hid (tr3 HB1.out hb2)
    clear hb2 hp0 hp1
    go_wp2_with fail
    go_ret
    exact ⟨rfl, tr3 (tr3 HB.out HB2.out) (by go_grown)⟩
  · have HB2 := Lib.hid (tr3 HB1.out hb2)
    clear hb2 hp0 hp1
    have hp0 : w2.cell? ⟨w.heap.size, 0, none⟩ = some (.int .i64 m0) := cel (kb HP.out HB2.out) 0
    have hp1 : w2.cell? ⟨w.heap.size, 1, none⟩ = some (.slice a0 n0 c0) := cel (kb HP.out HB2.out) 1
    go_wp2_with fail
    refine (own_v m0 a0 n0 c0 L0 w2 (HM.out.below (tr3 HB.out HB2.out)) hS).mono ?_
    rintro e w3 ⟨v3, rows3, rfl, ho3, hb3⟩
    obtain ⟨a3, c3, rfl, _⟩ := ho3.pm.form
    have HB3 := Lib.hid (tr3 HB2.out hb3)
    have HO3 := Lib.hid ho3.pm
    clear hb3 ho3 hp0 hp1
    go_wp2_with fail
    refine (pput_any m0 a3 _ c3 L0 w3 HO3.out).mono ?_
    rintro e w4 ⟨rfl, hb4⟩
    have HB4 := Lib.hid (tr3 HB3.out hb4)
    clear hb4
    have hp0 : w4.cell? ⟨w.heap.size, 0, none⟩ = some (.int .i64 m0) := cel (kb HP.out HB4.out) 0
    have hp1 : w4.cell? ⟨w.heap.size, 1, none⟩ = some (.slice a0 n0 c0) := cel (kb HP.out HB4.out) 1
    go_wp2_with fail
    refine (rputp_any m0 a0 n0 c0 L0 w4 (HM.out.below (tr3 HB.out HB4.out))).mono ?_
    rintro e w5 ⟨rfl, hb5⟩
    have HB5 := Lib.hid (tr3 HB4.out hb5)
    clear hb5 hp0 hp1
    obtain ⟨r, hr⟩ : ∃ r, prE m0 L0 = r := ⟨_, rfl⟩
    obtain ⟨s, hs⟩ : ∃ s, prS m0 L0 = s := ⟨_, rfl⟩
    have CK := Lib.hid (fun a n c w h => check_v m0 a n c L0 r w h hr)
    have HS := Lib.hid hS
    rw [hr, hs]
    have hss : (s == s) = true := by simp
    have hrr : (r == r) = true := by simp
    by_cases h0 : r = 0
    · subst h0
      have hse : s = prB m0 L0 := by rw [← hs]; unfold prS; rw [if_pos hr]
      have hsz : s.length ≤ 60000 := by
        rw [hse, ← szF_all]
        have := szF_small L0 hS _ (Nat.le_refl _)
        have := hS.1
        omega
      have CG := Lib.hid (fun w => get_v s w (0, m0, L0) (by omega) (by rw [hse]; exact getP_put m0 L0 hr))
      clear hse hs hr hS hsz
      go_wp2_with fail
      refine (CG.out _).mono ?_
      rintro e w6 ⟨⟨v6, rfl, hv6⟩, hb6⟩
      obtain ⟨a6, c6, rfl, _⟩ := hv6.form
      have HV6 := Lib.hid hv6
      have HB6 := Lib.hid (tr3 HB5.out hb6)
      have HQ := Lib.hid (heap_new w6 #[.int .i64 m0, .slice a6 L0.length c6] 24)
      have h67 : Below w6.heap.size w6 (w6.alloc (.cells #[.int .i64 m0, .slice a6 L0.length c6] 24)) := by go_grown
      obtain ⟨w7, hw7⟩ : ∃ w7, w6.alloc (.cells #[.int .i64 m0, .slice a6 L0.length c6] 24) = w7 := ⟨_, rfl⟩
      rw [hw7] at HQ h67
      have HW7 := Lib.hid hw7
      have HB7 := Lib.hid (tr3 HB6.out h67)
      have HV7 := Lib.hid (HV6.out.below h67)
      have p0 : (w6.alloc (.cells #[.int .i64 m0, .slice a6 L0.length c6] 24)).cell? ⟨w.heap.size, 0, none⟩ = some (.int .i64 m0) := by rw [hw7]; exact cel (kb HP.out HB7.out) 0
      have p1 : (w6.alloc (.cells #[.int .i64 m0, .slice a6 L0.length c6] 24)).cell? ⟨w.heap.size, 1, none⟩ = some (.slice a0 n0 c0) := by rw [hw7]; exact cel (kb HP.out HB7.out) 1
      clear hb6 hv6 CG hw7
      go_wp2_with fail
      rw [HW7.out]
      refine (own_v m0 a0 n0 c0 L0 w7 (HM.out.below (tr3 HB.out HB7.out)) HS.out).mono ?_
      rintro e w8 ⟨v8, rows8, rfl, ho8, hb8⟩
      obtain ⟨a8, c8, rfl, _⟩ := ho8.pm.form
      have HO8 := Lib.hid ho8.pm
      have HB8 := Lib.hid (tr3 HB7.out hb8)
      have HQ8 := Lib.hid (kb HQ.out hb8)
      have HV8 := Lib.hid (HV7.out.below hb8)
      clear ho8 hb8 p0 p1
      go_wp2_with fail
      refine (CK.out _ _ _ _ HO8.out).mono ?_
      rintro e w9 ⟨rfl, hb9⟩
      have HB9 := Lib.hid (tr3 HB8.out hb9)
      have HV9 := Lib.hid (HV8.out.below hb9)
      have p0 : w9.cell? ⟨w.heap.size, 0, none⟩ = some (.int .i64 m0) := cel (kb HP.out HB9.out) 0
      have p1 : w9.cell? ⟨w.heap.size, 1, none⟩ = some (.slice a0 n0 c0) := cel (kb HP.out HB9.out) 1
      have q0 : w9.cell? ⟨w6.heap.size, 0, none⟩ = some (.int .i64 m0) := cel (kb HQ8.out hb9) 0
      have q1 : w9.cell? ⟨w6.heap.size, 1, none⟩ = some (.slice a6 L0.length c6) := cel (kb HQ8.out hb9) 1
      clear hb9 CK
      go_wp2_with fail
      refine (same_v m0 a0 a6 n0 _ c0 c6 L0 w9 (HM.out.below (tr3 HB.out HB9.out)) HV9.out).mono ?_
      rintro e wx ⟨rfl, hbx⟩
      have HBx := Lib.hid (tr3 HB9.out hbx)
      clear hbx p0 p1 q0 q1
      go_wp2_with fail
      go_ret
      exact ⟨by first | rfl | simp, tr3 (tr3 HB.out HBx.out) (by go_grown)⟩
    · have hse : s = [] := by rw [← hs]; unfold prS; rw [if_neg (by rw [hr]; exact h0)]
      have CG := Lib.hid (fun w => get_v s w (1, 0, []) (by rw [hse]; simp) (by rw [hse]; rfl))
      have hcb : (r == 0) = false := by simpa using h0
      have hcn : (r != 0) = true := by simpa using h0
      clear hse hs hr hS
      go_wp2_with fail
      refine (CG.out _).mono ?_
      rintro e w6 ⟨⟨v6, rfl, hv6⟩, hb6⟩
      obtain ⟨a6, c6, rfl, _⟩ := hv6.form
      have HB6 := Lib.hid (tr3 HB5.out hb6)
      have h67 : Below w6.heap.size w6 (w6.alloc (.cells #[.int .i64 0, .slice a6 0 c6] 24)) := by go_grown
      obtain ⟨w7, hw7⟩ : ∃ w7, w6.alloc (.cells #[.int .i64 0, .slice a6 0 c6] 24) = w7 := ⟨_, rfl⟩
      rw [hw7] at h67
      have HW7 := Lib.hid hw7
      have HB7 := Lib.hid (tr3 HB6.out h67)
      have p0 : (w6.alloc (.cells #[.int .i64 0, .slice a6 0 c6] 24)).cell? ⟨w.heap.size, 0, none⟩ = some (.int .i64 m0) := by rw [hw7]; exact cel (kb HP.out HB7.out) 0
      have p1 : (w6.alloc (.cells #[.int .i64 0, .slice a6 0 c6] 24)).cell? ⟨w.heap.size, 1, none⟩ = some (.slice a0 n0 c0) := by rw [hw7]; exact cel (kb HP.out HB7.out) 1
      clear hb6 hv6 CG hw7
      go_wp2_with fail
      rw [HW7.out]
      refine (own_v m0 a0 n0 c0 L0 w7 (HM.out.below (tr3 HB.out HB7.out)) HS.out).mono ?_
      rintro e w8 ⟨v8, rows8, rfl, ho8, hb8⟩
      obtain ⟨a8, c8, rfl, _⟩ := ho8.pm.form
      have HO8 := Lib.hid ho8.pm
      have HB8 := Lib.hid (tr3 HB7.out hb8)
      clear ho8 hb8 p0 p1
      go_wp2_with fail
      refine (CK.out _ _ _ _ HO8.out).mono ?_
      rintro e w9 ⟨rfl, hb9⟩
      have HB9 := Lib.hid (tr3 HB8.out hb9)
      clear hb9 CK
      go_wp2_with fail
      go_ret
      exact ⟨by first | rfl | simp, tr3 (tr3 HB.out HB9.out) (by go_grown)⟩
end Go.Proofs.Ythllikmnlnakkaa.progPuts
