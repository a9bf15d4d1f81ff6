/- The reference's Pop where it writes, the rest (layer 13). -/
import Derived.Test.YtegbifphekhgkaaDqU
namespace Go.Proofs.Ytegbifphekhgkaa
open Go.ChangeShapes Go.WideShapes Go.ChangeAt Go.RowKit
attribute [local go_sem ↓] Go.wp_at_zero Go.wp_at_succ
set_option linter.unusedVariables false
set_option linter.unusedSimpArgs false
set_option maxRecDepth 20000 in
set_option maxHeartbeats 2000000 in
theorem rpop8 (r : Rk) (B n : Nat) (ad : Option Addr) (cp : Nat) (xs : List Int) (w : World) (hl : xs.length = n) (hB : B ≤ w.heap.size) (hn : n ≤ 100000) (hP : (r.P + 1) < n) (ha : r.at_ = 8) (hP2 : r.P ≤ 1000) (ht : -1000000 ≤ r.t) (ht2 : r.t ≤ 1000000) (ho : OI w B (.slice ad n cp) xs) :
    Calls Try.prog 55 #[.agg r.cs, .slice ad n cp] w (RPost B n w { r with at_ := 9 } (xs.set (r.P + 1) r.t)) := by
  have hwP : ∀ i : Int, 0 ≤ i → i ≤ 4 → IntKind.i64.wrap ((r.P : Int) + i) = (r.P : Int) + i := fun i h1 h2 => by rw [IntKind.wrap_i64]; omega
  have hwa1 := hwP 1 (by omega) (by omega)
  have hwa2 := hwP 2 (by omega) (by omega)
  have hwa3 := hwP 3 (by omega) (by omega)
  clear hwP
  have HV := Lib.hid (view_of_own ho)
  have C : Hid (∀ W, Below w.heap.size w W → Calls Try.prog 82 #[.slice ad n cp, .int .i64 ((r.P : Int) + 1), .int .i64 r.t] W fun e w' => ∃ g cp', e = .returned (.slice (some ⟨g, 0, none⟩) n cp') ∧ Hid (OI w' B (.slice (some ⟨g, 0, none⟩) n cp') (xs.set (r.P + 1) r.t) ∧ Below W.heap.size W w' ∧ W.heap.size ≤ g)) := Lib.hid fun W hb => by
    rw [show (r.P : Int) + 1 = ((r.P + 1 : Nat) : Int) by omega]
    exact (rwith_of _ xs (r.P + 1) n r.t W (HV.out.below hb) hl hP hn).mono fun e w' ⟨g, cp', h1, h2, h3, h4⟩ => ⟨g, cp', h1, Lib.hid ⟨OI.mono h2 (Nat.le_trans hB hb.size), h3, h4⟩⟩
  clear ho
  unfold Rk.cs
  rw [ha]
  go_enter Try.func55, Try.ntmps55
  go_wp2_with fail
  obtain ⟨W, hW⟩ : ∃ W, (w.alloc (.cells #[.int .i64 r.kd, .int .i64 (r.P : Int), .int .i64 (r.D : Int), .int .i64 (9), .int .i64 r.t, .int .i64 r.x, .int .i64 r.tn, .int .i64 r.h, .bool r.got, .bool r.full] 37)).alloc (.cells #[.int .i64 0, .int .i64 0, .int .i64 0, .int .i64 0, .int .i64 0, .int .i64 0, .int .i64 0, .int .i64 0, .bool false, .bool false] 37) = W := ⟨_, rfl⟩
  obtain ⟨hA, hR, hbW⟩ := two_boxes hW
  rw [hW]
  obtain ⟨p0, p1, p2, p3, p4, p5, p6, p7, p8, p9⟩ := ten hA
  obtain ⟨N, hN⟩ : ∃ N, w.heap.size = N := ⟨_, rfl⟩
  obtain ⟨M, hM⟩ : ∃ M, w.heap.size + 1 = M := ⟨_, rfl⟩
  rw [hM] at hR
  rw [hN] at p0 p1 p2 p3 p4 p5 p6 p7 p8 p9
  have HR := Lib.hid hR
  rw [hN] at hA
  have HA := Lib.hid hA
  have HBW := Lib.hid hbW
  have HM := Lib.hid hM
  rw [hM, hN]
  have C2 : Hid (∀ W', Below W.heap.size W W' → Calls Try.prog 82 #[.slice ad n cp, .int .i64 ((r.P : Int) + 1), .int .i64 r.t] W' fun e w' => ∃ g cp', e = .returned (.slice (some ⟨g, 0, none⟩) n cp') ∧ Hid (OI w' B (.slice (some ⟨g, 0, none⟩) n cp') (xs.set (r.P + 1) r.t) ∧ Below W.heap.size W w' ∧ W.heap.size ≤ g)) := Lib.hid fun W' hb => (C.out W' (HBW.out.trans (hb.mono HBW.out.size))).mono fun e w' ⟨g, cp', h1, h2⟩ => ⟨g, cp', h1, Lib.hid ⟨h2.out.1, hb.trans (h2.out.2.1.mono hb.size), Nat.le_trans hb.size h2.out.2.2⟩⟩
  clear C hW hA hR hbW HV hM hN
  go_region_law ((go_simp; (with_reducible refine (C2.out _ (by go_grown)).mono ?_); rintro e w9 ⟨g9, c9, rfl, H9⟩; obtain ⟨⟨z0, z1, z2, z3, z4, z5, z6, z7, z8, z9⟩, zf, zl⟩ := zbox HR.out H9.out.2.1; obtain ⟨x0, x1, x2, x3, x4, x5, x6, x7, x8, x9⟩ := ten (zdrew HA.out H9.out.2.1); have y0 := zf 0; have y1 := zf 1; have y2 := zf 2; have y3 := zf 3; have y4 := zf 4; have y5 := zf 5; have y6 := zf 6; have y7 := zf 7; have y8 := zf 8; have y9 := zf 9; clear zf))
  all_goals
    clear x0 x1 x2 x3 x4 x5 x6 x7 x8 x9 y0 y1 y2 y3 y4 y5 y6 y7 y8 y9 z0 z1 z2 z3 z4 z5 z6 z7 z8 z9 p0 p1 p2 p3 p4 p5 p6 p7 p8 p9 C2
    go_wp2_with fail
    obtain ⟨g1, g2, g3⟩ := put10_at (.int .i64 r.kd) (.int .i64 (r.P : Int)) (.int .i64 (r.D : Int)) (.int .i64 (9)) (.int .i64 r.t) (.int .i64 r.x) (.int .i64 r.tn) (.int .i64 r.h) (.bool r.got) (.bool r.full) (zdrew HR.out H9.out.2.1)
    have hMW := lt_of_heap HR.out
    have hg9 : g9 ≠ M := by have := H9.out.2.2; omega
    have hO := OI.other H9.out.1 (g2 g9 hg9)
    have hbF := HBW.out.trans ((H9.out.2.1.mono HBW.out.size).trans (g3 w.heap.size (by have := HM.out; omega)))
    obtain ⟨wF, hwF⟩ : ∃ wF, put10 w9 M (.int .i64 r.kd) (.int .i64 (r.P : Int)) (.int .i64 (r.D : Int)) (.int .i64 (9)) (.int .i64 r.t) (.int .i64 r.x) (.int .i64 r.tn) (.int .i64 r.h) (.bool r.got) (.bool r.full) = wF := ⟨_, rfl⟩
    rw [hwF] at g1 hO hbF
    unfold put10 at hwF
    rw [hwF]
    obtain ⟨p0, p1, p2, p3, p4, p5, p6, p7, p8, p9⟩ := ten g1
    refine bodyPost_ret (v := .tuple #[.agg ({ r with at_ := 9 } : Rk).cs, .slice (some ⟨g9, 0, none⟩) n c9]) ?_ rfl ⟨_, c9, rfl, hO, hbF⟩
    simp [results, Try.results55, go_sem, Rk.cs, p0, p1, p2, p3, p4, p5, p6, p7, p8, p9]
set_option maxRecDepth 20000 in
set_option maxHeartbeats 2000000 in
theorem rpop9 (r : Rk) (B n : Nat) (ad : Option Addr) (cp : Nat) (xs : List Int) (m : Int) (w : World) (hl : xs.length = n) (hB : B ≤ w.heap.size) (hn : n ≤ 100000) (hP : (r.P + 3) < n) (ha : r.at_ = 9) (hP2 : r.P ≤ 1000) (hm : Hid (IntKind.i64.wrap (r.tn + 1) = m)) (ho : OI w B (.slice ad n cp) xs) :
    Calls Try.prog 55 #[.agg r.cs, .slice ad n cp] w (RPost B n w { r with at_ := (-1) } (xs.set (r.P + 3) m)) := by
  have hwP : ∀ i : Int, 0 ≤ i → i ≤ 4 → IntKind.i64.wrap ((r.P : Int) + i) = (r.P : Int) + i := fun i h1 h2 => by rw [IntKind.wrap_i64]; omega
  have hwa1 := hwP 1 (by omega) (by omega)
  have hwa2 := hwP 2 (by omega) (by omega)
  have hwa3 := hwP 3 (by omega) (by omega)
  clear hwP
  have hw1 := hm.out
  have HV := Lib.hid (view_of_own ho)
  have C : Hid (∀ W, Below w.heap.size w W → Calls Try.prog 82 #[.slice ad n cp, .int .i64 ((r.P : Int) + 3), .int .i64 m] W fun e w' => ∃ g cp', e = .returned (.slice (some ⟨g, 0, none⟩) n cp') ∧ Hid (OI w' B (.slice (some ⟨g, 0, none⟩) n cp') (xs.set (r.P + 3) m) ∧ Below W.heap.size W w' ∧ W.heap.size ≤ g)) := Lib.hid fun W hb => by
    rw [show (r.P : Int) + 3 = ((r.P + 3 : Nat) : Int) by omega]
    exact (rwith_of _ xs (r.P + 3) n m W (HV.out.below hb) hl hP hn).mono fun e w' ⟨g, cp', h1, h2, h3, h4⟩ => ⟨g, cp', h1, Lib.hid ⟨OI.mono h2 (Nat.le_trans hB hb.size), h3, h4⟩⟩
  clear ho
  unfold Rk.cs
  rw [ha]
  go_enter Try.func55, Try.ntmps55
  go_wp2_with fail
  obtain ⟨W, hW⟩ : ∃ W, (w.alloc (.cells #[.int .i64 r.kd, .int .i64 (r.P : Int), .int .i64 (r.D : Int), .int .i64 (-1), .int .i64 r.t, .int .i64 r.x, .int .i64 r.tn, .int .i64 r.h, .bool r.got, .bool r.full] 37)).alloc (.cells #[.int .i64 0, .int .i64 0, .int .i64 0, .int .i64 0, .int .i64 0, .int .i64 0, .int .i64 0, .int .i64 0, .bool false, .bool false] 37) = W := ⟨_, rfl⟩
  obtain ⟨hA, hR, hbW⟩ := two_boxes hW
  rw [hW]
  obtain ⟨p0, p1, p2, p3, p4, p5, p6, p7, p8, p9⟩ := ten hA
  obtain ⟨N, hN⟩ : ∃ N, w.heap.size = N := ⟨_, rfl⟩
  obtain ⟨M, hM⟩ : ∃ M, w.heap.size + 1 = M := ⟨_, rfl⟩
  rw [hM] at hR
  rw [hN] at p0 p1 p2 p3 p4 p5 p6 p7 p8 p9
  have HR := Lib.hid hR
  rw [hN] at hA
  have HA := Lib.hid hA
  have HBW := Lib.hid hbW
  have HM := Lib.hid hM
  rw [hM, hN]
  have C2 : Hid (∀ W', Below W.heap.size W W' → Calls Try.prog 82 #[.slice ad n cp, .int .i64 ((r.P : Int) + 3), .int .i64 m] W' fun e w' => ∃ g cp', e = .returned (.slice (some ⟨g, 0, none⟩) n cp') ∧ Hid (OI w' B (.slice (some ⟨g, 0, none⟩) n cp') (xs.set (r.P + 3) m) ∧ Below W.heap.size W w' ∧ W.heap.size ≤ g)) := Lib.hid fun W' hb => (C.out W' (HBW.out.trans (hb.mono HBW.out.size))).mono fun e w' ⟨g, cp', h1, h2⟩ => ⟨g, cp', h1, Lib.hid ⟨h2.out.1, hb.trans (h2.out.2.1.mono hb.size), Nat.le_trans hb.size h2.out.2.2⟩⟩
  clear C hW hA hR hbW HV hM hN
  go_region_law ((go_simp; (with_reducible refine (C2.out _ (by go_grown)).mono ?_); rintro e w9 ⟨g9, c9, rfl, H9⟩; obtain ⟨⟨z0, z1, z2, z3, z4, z5, z6, z7, z8, z9⟩, zf, zl⟩ := zbox HR.out H9.out.2.1; obtain ⟨x0, x1, x2, x3, x4, x5, x6, x7, x8, x9⟩ := ten (zdrew HA.out H9.out.2.1); have y0 := zf 0; have y1 := zf 1; have y2 := zf 2; have y3 := zf 3; have y4 := zf 4; have y5 := zf 5; have y6 := zf 6; have y7 := zf 7; have y8 := zf 8; have y9 := zf 9; clear zf))
  all_goals
    clear x0 x1 x2 x3 x4 x5 x6 x7 x8 x9 y0 y1 y2 y3 y4 y5 y6 y7 y8 y9 z0 z1 z2 z3 z4 z5 z6 z7 z8 z9 p0 p1 p2 p3 p4 p5 p6 p7 p8 p9 C2
    go_wp2_with fail
    obtain ⟨g1, g2, g3⟩ := put10_at (.int .i64 r.kd) (.int .i64 (r.P : Int)) (.int .i64 (r.D : Int)) (.int .i64 (-1)) (.int .i64 r.t) (.int .i64 r.x) (.int .i64 r.tn) (.int .i64 r.h) (.bool r.got) (.bool r.full) (zdrew HR.out H9.out.2.1)
    have hMW := lt_of_heap HR.out
    have hg9 : g9 ≠ M := by have := H9.out.2.2; omega
    have hO := OI.other H9.out.1 (g2 g9 hg9)
    have hbF := HBW.out.trans ((H9.out.2.1.mono HBW.out.size).trans (g3 w.heap.size (by have := HM.out; omega)))
    obtain ⟨wF, hwF⟩ : ∃ wF, put10 w9 M (.int .i64 r.kd) (.int .i64 (r.P : Int)) (.int .i64 (r.D : Int)) (.int .i64 (-1)) (.int .i64 r.t) (.int .i64 r.x) (.int .i64 r.tn) (.int .i64 r.h) (.bool r.got) (.bool r.full) = wF := ⟨_, rfl⟩
    rw [hwF] at g1 hO hbF
    unfold put10 at hwF
    rw [hwF]
    obtain ⟨p0, p1, p2, p3, p4, p5, p6, p7, p8, p9⟩ := ten g1
    refine bodyPost_ret (v := .tuple #[.agg ({ r with at_ := (-1) } : Rk).cs, .slice (some ⟨g9, 0, none⟩) n c9]) ?_ rfl ⟨_, c9, rfl, hO, hbF⟩
    simp [results, Try.results55, go_sem, Rk.cs, p0, p1, p2, p3, p4, p5, p6, p7, p8, p9]
set_option maxRecDepth 20000 in
set_option maxHeartbeats 2000000 in
theorem rpop3 (r : Rk) (B n : Nat) (ad : Option Addr) (cp : Nat) (xs : List Int) (v m : Int) (w : World) (hl : xs.length = n) (hB : B ≤ w.heap.size) (hn : n ≤ 100000) (hP : (r.P + 2) < n) (ha : r.at_ = 3) (hP2 : r.P ≤ 1000) (hv : Hid (xs.getD (r.P + 2) 0 = v)) (hm : Hid (IntKind.i64.wrap (v + 1) = m)) (ho : OI w B (.slice ad n cp) xs) :
    Calls Try.prog 55 #[.agg r.cs, .slice ad n cp] w (RPost B n w { r with at_ := 4, tn := v } (xs.set (r.P + 2) m)) := by
  have hwP : ∀ i : Int, 0 ≤ i → i ≤ 4 → IntKind.i64.wrap ((r.P : Int) + i) = (r.P : Int) + i := fun i h1 h2 => by rw [IntKind.wrap_i64]; omega
  have hwa1 := hwP 1 (by omega) (by omega)
  have hwa2 := hwP 2 (by omega) (by omega)
  have hwa3 := hwP 3 (by omega) (by omega)
  clear hwP
  have hw1 := hm.out
  have HV0 := Lib.hid (view_of_own ho)
  have CW : Hid (∀ W, Below w.heap.size w W → Calls Try.prog 81 #[.slice ad n cp, .int .i64 ((r.P : Int) + 2)] W fun e w' => e = .returned (.int .i64 v) ∧ w' = W) := Lib.hid fun W hb => by
    rw [show (r.P : Int) + 2 = ((r.P + 2 : Nat) : Int) by omega]
    exact rword_of _ xs (r.P + 2) v W (HV0.out.below hb) (by omega) hv
  clear HV0
  have HV := Lib.hid (view_of_own ho)
  have C : Hid (∀ W, Below w.heap.size w W → Calls Try.prog 82 #[.slice ad n cp, .int .i64 ((r.P : Int) + 2), .int .i64 m] W fun e w' => ∃ g cp', e = .returned (.slice (some ⟨g, 0, none⟩) n cp') ∧ Hid (OI w' B (.slice (some ⟨g, 0, none⟩) n cp') (xs.set (r.P + 2) m) ∧ Below W.heap.size W w' ∧ W.heap.size ≤ g)) := Lib.hid fun W hb => by
    rw [show (r.P : Int) + 2 = ((r.P + 2 : Nat) : Int) by omega]
    exact (rwith_of _ xs (r.P + 2) n m W (HV.out.below hb) hl hP hn).mono fun e w' ⟨g, cp', h1, h2, h3, h4⟩ => ⟨g, cp', h1, Lib.hid ⟨OI.mono h2 (Nat.le_trans hB hb.size), h3, h4⟩⟩
  clear ho
  unfold Rk.cs
  rw [ha]
  go_enter Try.func55, Try.ntmps55
  go_wp2_with fail
  refine (CW.out _ (by go_grown)).mono ?_
  rintro e w3 ⟨rfl, rfl⟩
  go_wp2_with fail
  obtain ⟨W, hW⟩ : ∃ W, (w.alloc (.cells #[.int .i64 r.kd, .int .i64 (r.P : Int), .int .i64 (r.D : Int), .int .i64 (4), .int .i64 r.t, .int .i64 r.x, .int .i64 v, .int .i64 r.h, .bool r.got, .bool r.full] 37)).alloc (.cells #[.int .i64 0, .int .i64 0, .int .i64 0, .int .i64 0, .int .i64 0, .int .i64 0, .int .i64 0, .int .i64 0, .bool false, .bool false] 37) = W := ⟨_, rfl⟩
  obtain ⟨hA, hR, hbW⟩ := two_boxes hW
  rw [hW]
  obtain ⟨p0, p1, p2, p3, p4, p5, p6, p7, p8, p9⟩ := ten hA
  obtain ⟨N, hN⟩ : ∃ N, w.heap.size = N := ⟨_, rfl⟩
  obtain ⟨M, hM⟩ : ∃ M, w.heap.size + 1 = M := ⟨_, rfl⟩
  rw [hM] at hR
  rw [hN] at p0 p1 p2 p3 p4 p5 p6 p7 p8 p9
  have HR := Lib.hid hR
  rw [hN] at hA
  have HA := Lib.hid hA
  have HBW := Lib.hid hbW
  have HM := Lib.hid hM
  rw [hM, hN]
  have C2 : Hid (∀ W', Below W.heap.size W W' → Calls Try.prog 82 #[.slice ad n cp, .int .i64 ((r.P : Int) + 2), .int .i64 m] W' fun e w' => ∃ g cp', e = .returned (.slice (some ⟨g, 0, none⟩) n cp') ∧ Hid (OI w' B (.slice (some ⟨g, 0, none⟩) n cp') (xs.set (r.P + 2) m) ∧ Below W.heap.size W w' ∧ W.heap.size ≤ g)) := Lib.hid fun W' hb => (C.out W' (HBW.out.trans (hb.mono HBW.out.size))).mono fun e w' ⟨g, cp', h1, h2⟩ => ⟨g, cp', h1, Lib.hid ⟨h2.out.1, hb.trans (h2.out.2.1.mono hb.size), Nat.le_trans hb.size h2.out.2.2⟩⟩
  clear C hW hA hR hbW HV hM hN
  go_region_law ((go_simp; (with_reducible refine (C2.out _ (by go_grown)).mono ?_); rintro e w9 ⟨g9, c9, rfl, H9⟩; obtain ⟨⟨z0, z1, z2, z3, z4, z5, z6, z7, z8, z9⟩, zf, zl⟩ := zbox HR.out H9.out.2.1; obtain ⟨x0, x1, x2, x3, x4, x5, x6, x7, x8, x9⟩ := ten (zdrew HA.out H9.out.2.1); have y0 := zf 0; have y1 := zf 1; have y2 := zf 2; have y3 := zf 3; have y4 := zf 4; have y5 := zf 5; have y6 := zf 6; have y7 := zf 7; have y8 := zf 8; have y9 := zf 9; clear zf))
  all_goals
    clear x0 x1 x2 x3 x4 x5 x6 x7 x8 x9 y0 y1 y2 y3 y4 y5 y6 y7 y8 y9 z0 z1 z2 z3 z4 z5 z6 z7 z8 z9 p0 p1 p2 p3 p4 p5 p6 p7 p8 p9 C2
    go_wp2_with fail
    obtain ⟨g1, g2, g3⟩ := put10_at (.int .i64 r.kd) (.int .i64 (r.P : Int)) (.int .i64 (r.D : Int)) (.int .i64 (4)) (.int .i64 r.t) (.int .i64 r.x) (.int .i64 v) (.int .i64 r.h) (.bool r.got) (.bool r.full) (zdrew HR.out H9.out.2.1)
    have hMW := lt_of_heap HR.out
    have hg9 : g9 ≠ M := by have := H9.out.2.2; omega
    have hO := OI.other H9.out.1 (g2 g9 hg9)
    have hbF := HBW.out.trans ((H9.out.2.1.mono HBW.out.size).trans (g3 w.heap.size (by have := HM.out; omega)))
    obtain ⟨wF, hwF⟩ : ∃ wF, put10 w9 M (.int .i64 r.kd) (.int .i64 (r.P : Int)) (.int .i64 (r.D : Int)) (.int .i64 (4)) (.int .i64 r.t) (.int .i64 r.x) (.int .i64 v) (.int .i64 r.h) (.bool r.got) (.bool r.full) = wF := ⟨_, rfl⟩
    rw [hwF] at g1 hO hbF
    unfold put10 at hwF
    rw [hwF]
    obtain ⟨p0, p1, p2, p3, p4, p5, p6, p7, p8, p9⟩ := ten g1
    refine bodyPost_ret (v := .tuple #[.agg ({ r with at_ := 4, tn := v } : Rk).cs, .slice (some ⟨g9, 0, none⟩) n c9]) ?_ rfl ⟨_, c9, rfl, hO, hbF⟩
    simp [results, Try.results55, go_sem, Rk.cs, p0, p1, p2, p3, p4, p5, p6, p7, p8, p9]
end Go.Proofs.Ytegbifphekhgkaa
