/- The reference's steps that take from a slot (layer 13). -/
import Derived.Test.YtegbifphekhgkaaDqU
namespace Go.Proofs.Ytegbifphekhgkaa
open Go.ChangeShapes Go.WideShapes Go.ChangeAt Go.RowKit
attribute [local go_sem ↓] Go.wp_at_zero Go.wp_at_succ
set_option linter.unusedVariables false
set_option linter.unusedSimpArgs false
set_option maxRecDepth 20000 in
set_option maxHeartbeats 2000000 in
theorem rpop10 (r : Rk) (B n : Nat) (ad : Option Addr) (cp : Nat) (xs : List Int) (nt : Int) (m : Nat) (v : Int) (w : World) (hl : xs.length = n) (hB : B ≤ w.heap.size) (hn : n ≤ 100000) (hP2 : r.P ≤ 1000) (hD2 : 2 ≤ r.D) (hD : r.D ≤ 256) (ha : r.at_ = 10) (h0 : 0 ≤ nt) (h1 : nt ≤ 1000000) (hnt : r.t - 1 = nt) (hm : Hid ((nt).tmod (r.D : Int) = (m : Int))) (hmD : m < r.D) (hin : r.P + 4 + m < n) (hv : Hid (xs.getD (r.P + 4 + m) 0 = v)) (ho : OI w B (.slice ad n cp) xs) :
    Calls Try.prog 55 #[.agg r.cs, .slice ad n cp] w (RPost B n w { r with t := nt, x := v, got := true, at_ := (-1) } xs) := by
  have hw1 : IntKind.i64.wrap (r.t - 1) = nt := by rw [IntKind.wrap_i64]; omega
  clear hnt
  have HV := Lib.hid (view_of_own ho)
  have HO := Lib.hid ho
  have CS : Hid (∀ W, Calls Try.prog 83 #[.agg #[.int .i64 r.kd, .int .i64 (r.P : Int), .int .i64 (r.D : Int), .int .i64 10, .int .i64 nt, .int .i64 r.x, .int .i64 r.tn, .int .i64 r.h, .bool r.got, .bool r.full], .int .i64 nt] W fun e w' => e = .returned (.int .i64 ((r.P + 4 + m : Nat) : Int)) ∧ Below W.heap.size W w') := Lib.hid fun W => rslot_of { r with at_ := 10, t := nt, h := r.h } (nt) m W hP2 hD2 hD (by first | exact h0 | omega) hm hmD
  obtain ⟨sl, hsl⟩ : ∃ sl, r.P + 4 + m = sl := ⟨_, rfl⟩
  rw [hsl] at CS hv hin
  have CW : Hid (∀ W, Below w.heap.size w W → Calls Try.prog 81 #[.slice ad n cp, .int .i64 (sl : Int)] W fun e w' => e = .returned (.int .i64 v) ∧ w' = W) := Lib.hid fun W hb => rword_of _ xs sl v W (HV.out.below hb) (by omega) hv
  clear ho hsl hm hv
  unfold Rk.cs
  rw [ha]
  go_enter Try.func55, Try.ntmps55
  go_wp2_with fail
  obtain ⟨W, hW⟩ : ∃ W, (w.alloc (.cells #[.int .i64 r.kd, .int .i64 (r.P : Int), .int .i64 (r.D : Int), .int .i64 10, .int .i64 nt, .int .i64 r.x, .int .i64 r.tn, .int .i64 r.h, .bool r.got, .bool r.full] 37)).alloc (.cells #[.int .i64 0, .int .i64 0, .int .i64 0, .int .i64 0, .int .i64 0, .int .i64 0, .int .i64 0, .int .i64 0, .bool false, .bool false] 37) = W := ⟨_, rfl⟩
  obtain ⟨hA, hR, hbW⟩ := two_boxes hW
  rw [hW]
  obtain ⟨N, hN⟩ : ∃ N, w.heap.size = N := ⟨_, rfl⟩
  obtain ⟨M, hM⟩ : ∃ M, w.heap.size + 1 = M := ⟨_, rfl⟩
  rw [hM] at hR
  have HR := Lib.hid hR
  rw [hN] at hA
  have HA := Lib.hid hA
  have HBW := Lib.hid hbW
  have HM := Lib.hid hM
  have HN := Lib.hid hN
  rw [hM, hN]
  clear hW hA hR hbW HV hM hN
  refine (CS.out W).mono ?_
  rintro e w3 ⟨rfl, hb3⟩
  have HB3 := Lib.hid hb3
  go_wp2_with fail
  refine (CW.out w3 (HBW.out.trans (hb3.mono HBW.out.size))).mono ?_
  rintro e w4 ⟨rfl, rfl⟩
  have hA4 := zdrew HA.out HB3.out
  obtain ⟨x0, x1, x2, x3, x4, x5, x6, x7, x8, x9⟩ := ten hA4
  have xf : ∀ i, w4.frozen? ⟨N, i, none⟩ = false := fun i => by simp [World.frozen?, hA4]
  have xf5 := xf 5
  have xf8 := xf 8
  have xf3 := xf 3
  obtain ⟨⟨z0, z1, z2, z3, z4, z5, z6, z7, z8, z9⟩, zf, zl⟩ := zbox HR.out HB3.out
  have y0 := zf 0; have y1 := zf 1; have y2 := zf 2; have y3 := zf 3; have y4 := zf 4; have y5 := zf 5; have y6 := zf 6; have y7 := zf 7; have y8 := zf 8; have y9 := zf 9
  have hNM : ¬ N = M := by have := HM.out; have := HN.out; omega
  have hMN : ¬ M = N := fun e => hNM e.symm
  have hNl := lt_of_heap hA4
  clear xf zf hA4 hb3 CS CW
  go_wp2_with fail
  obtain ⟨w5, hw5⟩ : ∃ w5, ((w4.setCell ⟨N, 5, none⟩ (.int .i64 v)).setCell ⟨N, 8, none⟩ (.bool true)).setCell ⟨N, 3, none⟩ (.int .i64 (-1)) = w5 := ⟨_, rfl⟩
  have k5 : ∀ k, k ≠ N → w5.heap[k]? = w4.heap[k]? := fun k hk => by
    rw [← hw5, setA_heap _ _ _ _ _ hk, setA_heap _ _ _ _ _ hk, setA_heap _ _ _ _ _ hk]
  have hR5 := (k5 M hMN).trans (zdrew HR.out HB3.out)
  obtain ⟨g1, g2, g3⟩ := put10_at (.int .i64 r.kd) (.int .i64 (r.P : Int)) (.int .i64 (r.D : Int)) (.int .i64 (-1)) (.int .i64 nt) (.int .i64 v) (.int .i64 r.tn) (.int .i64 r.h) (.bool true) (.bool r.full) hR5
  have hb5 : Below w.heap.size w w5 := by
    rw [← hw5]
    have e0 := HBW.out.trans (HB3.out.mono HBW.out.size)
    have hNw : w.heap.size ≤ N := by rw [HN.out]; exact Nat.le_refl _
    exact ((e0.setCell (p := ⟨N, 5, none⟩) hNw _).setCell (p := ⟨N, 8, none⟩) hNw _).setCell (p := ⟨N, 3, none⟩) hNw _
  have hbF := hb5.trans (g3 w.heap.size (by have := HM.out; omega))
  obtain ⟨wF, hwF⟩ : ∃ wF, put10 w5 M (.int .i64 r.kd) (.int .i64 (r.P : Int)) (.int .i64 (r.D : Int)) (.int .i64 (-1)) (.int .i64 nt) (.int .i64 v) (.int .i64 r.tn) (.int .i64 r.h) (.bool true) (.bool r.full) = wF := ⟨_, rfl⟩
  rw [hwF] at g1 hbF
  unfold put10 at hwF
  rw [hw5, hwF]
  obtain ⟨p0, p1, p2, p3, p4, p5, p6, p7, p8, p9⟩ := ten g1
  refine bodyPost_ret (v := .tuple #[.agg ({ r with t := nt, x := v, got := true, at_ := (-1) } : Rk).cs, .slice ad n cp]) ?_ rfl ⟨ad, cp, rfl, OI.below HO.out hbF, hbF⟩
  simp [results, Try.results55, go_sem, Rk.cs, p0, p1, p2, p3, p4, p5, p6, p7, p8, p9]
set_option maxRecDepth 20000 in
set_option maxHeartbeats 2000000 in
theorem rsteal7 (r : Rk) (B n : Nat) (ad : Option Addr) (cp : Nat) (xs : List Int) (m : Nat) (v : Int) (w : World) (hl : xs.length = n) (hB : B ≤ w.heap.size) (hn : n ≤ 100000) (hP2 : r.P ≤ 1000) (hD2 : 2 ≤ r.D) (hD : r.D ≤ 256) (ha : r.at_ = 7) (h0 : 0 ≤ r.h) (h1 : r.h ≤ 1000000) (hm : Hid ((r.h).tmod (r.D : Int) = (m : Int))) (hmD : m < r.D) (hin : r.P + 4 + m < n) (hv : Hid (xs.getD (r.P + 4 + m) 0 = v)) (ho : OI w B (.slice ad n cp) xs) :
    Calls Try.prog 56 #[.agg r.cs, .slice ad n cp] w (RPost B n w { r with x := v, got := true, at_ := 6 } xs) := by
  have HV := Lib.hid (view_of_own ho)
  have HO := Lib.hid ho
  have CS : Hid (∀ W, Calls Try.prog 83 #[.agg #[.int .i64 r.kd, .int .i64 (r.P : Int), .int .i64 (r.D : Int), .int .i64 7, .int .i64 r.t, .int .i64 r.x, .int .i64 r.tn, .int .i64 r.h, .bool r.got, .bool r.full], .int .i64 r.h] W fun e w' => e = .returned (.int .i64 ((r.P + 4 + m : Nat) : Int)) ∧ Below W.heap.size W w') := Lib.hid fun W => rslot_of { r with at_ := 7, t := r.t, h := r.h } (r.h) m W hP2 hD2 hD (by first | exact h0 | omega) hm hmD
  obtain ⟨sl, hsl⟩ : ∃ sl, r.P + 4 + m = sl := ⟨_, rfl⟩
  rw [hsl] at CS hv hin
  have CW : Hid (∀ W, Below w.heap.size w W → Calls Try.prog 81 #[.slice ad n cp, .int .i64 (sl : Int)] W fun e w' => e = .returned (.int .i64 v) ∧ w' = W) := Lib.hid fun W hb => rword_of _ xs sl v W (HV.out.below hb) (by omega) hv
  clear ho hsl hm hv
  unfold Rk.cs
  rw [ha]
  go_enter Try.func56, Try.ntmps56
  go_wp2_with fail
  obtain ⟨W, hW⟩ : ∃ W, (w.alloc (.cells #[.int .i64 r.kd, .int .i64 (r.P : Int), .int .i64 (r.D : Int), .int .i64 7, .int .i64 r.t, .int .i64 r.x, .int .i64 r.tn, .int .i64 r.h, .bool r.got, .bool r.full] 37)).alloc (.cells #[.int .i64 0, .int .i64 0, .int .i64 0, .int .i64 0, .int .i64 0, .int .i64 0, .int .i64 0, .int .i64 0, .bool false, .bool false] 37) = W := ⟨_, rfl⟩
  obtain ⟨hA, hR, hbW⟩ := two_boxes hW
  rw [hW]
  obtain ⟨N, hN⟩ : ∃ N, w.heap.size = N := ⟨_, rfl⟩
  obtain ⟨M, hM⟩ : ∃ M, w.heap.size + 1 = M := ⟨_, rfl⟩
  rw [hM] at hR
  have HR := Lib.hid hR
  rw [hN] at hA
  have HA := Lib.hid hA
  have HBW := Lib.hid hbW
  have HM := Lib.hid hM
  have HN := Lib.hid hN
  rw [hM, hN]
  clear hW hA hR hbW HV hM hN
  refine (CS.out W).mono ?_
  rintro e w3 ⟨rfl, hb3⟩
  have HB3 := Lib.hid hb3
  go_wp2_with fail
  refine (CW.out w3 (HBW.out.trans (hb3.mono HBW.out.size))).mono ?_
  rintro e w4 ⟨rfl, rfl⟩
  have hA4 := zdrew HA.out HB3.out
  obtain ⟨x0, x1, x2, x3, x4, x5, x6, x7, x8, x9⟩ := ten hA4
  have xf : ∀ i, w4.frozen? ⟨N, i, none⟩ = false := fun i => by simp [World.frozen?, hA4]
  have xf5 := xf 5
  have xf8 := xf 8
  have xf3 := xf 3
  obtain ⟨⟨z0, z1, z2, z3, z4, z5, z6, z7, z8, z9⟩, zf, zl⟩ := zbox HR.out HB3.out
  have y0 := zf 0; have y1 := zf 1; have y2 := zf 2; have y3 := zf 3; have y4 := zf 4; have y5 := zf 5; have y6 := zf 6; have y7 := zf 7; have y8 := zf 8; have y9 := zf 9
  have hNM : ¬ N = M := by have := HM.out; have := HN.out; omega
  have hMN : ¬ M = N := fun e => hNM e.symm
  have hNl := lt_of_heap hA4
  clear xf zf hA4 hb3 CS CW
  go_wp2_with fail
  obtain ⟨w5, hw5⟩ : ∃ w5, ((w4.setCell ⟨N, 5, none⟩ (.int .i64 v)).setCell ⟨N, 8, none⟩ (.bool true)).setCell ⟨N, 3, none⟩ (.int .i64 6) = w5 := ⟨_, rfl⟩
  have k5 : ∀ k, k ≠ N → w5.heap[k]? = w4.heap[k]? := fun k hk => by
    rw [← hw5, setA_heap _ _ _ _ _ hk, setA_heap _ _ _ _ _ hk, setA_heap _ _ _ _ _ hk]
  have hR5 := (k5 M hMN).trans (zdrew HR.out HB3.out)
  obtain ⟨g1, g2, g3⟩ := put10_at (.int .i64 r.kd) (.int .i64 (r.P : Int)) (.int .i64 (r.D : Int)) (.int .i64 6) (.int .i64 r.t) (.int .i64 v) (.int .i64 r.tn) (.int .i64 r.h) (.bool true) (.bool r.full) hR5
  have hb5 : Below w.heap.size w w5 := by
    rw [← hw5]
    have e0 := HBW.out.trans (HB3.out.mono HBW.out.size)
    have hNw : w.heap.size ≤ N := by rw [HN.out]; exact Nat.le_refl _
    exact ((e0.setCell (p := ⟨N, 5, none⟩) hNw _).setCell (p := ⟨N, 8, none⟩) hNw _).setCell (p := ⟨N, 3, none⟩) hNw _
  have hbF := hb5.trans (g3 w.heap.size (by have := HM.out; omega))
  obtain ⟨wF, hwF⟩ : ∃ wF, put10 w5 M (.int .i64 r.kd) (.int .i64 (r.P : Int)) (.int .i64 (r.D : Int)) (.int .i64 6) (.int .i64 r.t) (.int .i64 v) (.int .i64 r.tn) (.int .i64 r.h) (.bool true) (.bool r.full) = wF := ⟨_, rfl⟩
  rw [hwF] at g1 hbF
  unfold put10 at hwF
  rw [hw5, hwF]
  obtain ⟨p0, p1, p2, p3, p4, p5, p6, p7, p8, p9⟩ := ten g1
  refine bodyPost_ret (v := .tuple #[.agg ({ r with x := v, got := true, at_ := 6 } : Rk).cs, .slice ad n cp]) ?_ rfl ⟨ad, cp, rfl, OI.below HO.out hbF, hbF⟩
  simp [results, Try.results56, go_sem, Rk.cs, p0, p1, p2, p3, p4, p5, p6, p7, p8, p9]
end Go.Proofs.Ytegbifphekhgkaa
