/- The document's walk of layer 19: its steps where one looks. -/
import Derived.Test.YtegbifphekhgkaaRgD
namespace Go.Proofs.Ytegbifphekhgkaa.cg
open Go.ChangeShapes Go.WideShapes Go.ChangeAt Go.RowKit
attribute [local go_sem ↓] Go.wp_at_zero Go.wp_at_succ
set_option linter.unusedVariables false
set_option linter.unusedSimpArgs false
set_option maxRecDepth 20000 in
set_option maxHeartbeats 4000000 in
theorem rr1y (sr it n st fr q : Int) (gt : Bool) (B N k : Nat) (ad : Option Addr) (cp : Nat) (xs : List Int) (w : World) (ho : OI w B (.slice ad N cp) xs) (hB : B ≤ w.heap.size) (hq : HQ 3 (it + 1) q) (hk : Hid (25 + 2 + q * 4 + 1 = (k : Int))) (hN : xs.length = N) (hkN : k < N) (hsm : N ≤ 100000) (hi : -1099511627776 ≤ it) (hi2 : it ≤ 1099511627776)  (hx : Hid (xs.getD k 0 = tOf sr (it + 1) st)) :
    Calls Try.prog 38 #[.agg #[.int .i64 1, .int .i64 3, .int .i64 3, .int .i64 3], .agg (⟨false, sr, it, n, 1, st, fr, gt⟩ : Rw).cs, .slice ad N cp] w (RPost19 B N (.slice ad N cp) w (⟨false, sr, it, n, 2, st, fr, gt⟩ : Rw) (xs.set k 0)) := by
  have C := doC (⟨false, sr, it, n, 1, st, fr, gt⟩ : Rw) 4 1 (it + 1) (st) q (1) (0) (tOf sr (it + 1) st) ho hB (by omega) hq hk hN hkN hsm hx (by simp [doV])
  have hw1 : IntKind.i64.wrap (it + 1) = it + 1 := by rw [IntKind.wrap_i64]; omega
  clear hi hi2
  clear hq hk hkN hsm
  unfold Rw.cs at C ⊢
  obtain ⟨W, hW⟩ : ∃ W, ((w.alloc (Obj.cells #[Value.int .i64 1, .int .i64 3, .int .i64 3, .int .i64 3] 61)).alloc (Obj.cells (⟨false, sr, it, n, 1, st, fr, gt⟩ : Rw).cs 74)).alloc (Obj.cells #[.bool false, .int .i64 0, .int .i64 0, .int .i64 0, .int .i64 0, .int .i64 0, .int .i64 0, .int .i64 0, .bool false] 74) = W := ⟨_, rfl⟩
  obtain ⟨hX, hBW⟩ := BX.new w _ hW
  unfold Rw.cs at hW
  have HX := Lib.hid hX
  have HBW := Lib.hid hBW
  obtain ⟨p0, p1, p2, p3, c0, c1, c2, c3, c4, c5, c6, c7, c8⟩ := hX.rd
  have f5 := hX.fr 5
  clear hX hBW
  go_enter Try.func38, Try.ntmps38
  go_wp2_with fail
  have HB1 : Hid (Below w.heap.size w W) := Lib.hid HBW.out
  have HX1 : Hid (BX W w.heap.size (⟨false, sr, it, n, 1, st, fr, gt⟩ : Rw)) := Lib.hid HX.out
  refine (C.out _ HB1.out).mono ?_
  rintro e w5 ⟨g5, cc5, rfl, HG, hb5⟩
  have hX5 := HX1.out.below hb5
  have HB5 := Lib.hid (HB1.out.trans (hb5.mono HB1.out.size))
  have HX5 := Lib.hid hX5
  have HGB : Hid (w.heap.size + 1 + 1 < g5) := Lib.hid (Nat.lt_of_lt_of_le HX1.out.lt HG.out.2)
  clear hb5 p0 p1 p2 p3 c0 c1 c2 c3 c4 c5 c6 c7 c8 C HX HX1 HB1 HBW hW f5
  obtain ⟨p0, p1, p2, p3, c0, c1, c2, c3, c4, c5, c6, c7, c8⟩ := hX5.rd
  obtain ⟨z0, z1, z2, z3, z4, z5, z6, z7, z8⟩ := hX5.zs
  have f5 := hX5.fr 5
  have y0 := hX5.fz 0
  have y1 := hX5.fz 1
  have y2 := hX5.fz 2
  have y3 := hX5.fz 3
  have y4 := hX5.fz 4
  have y5 := hX5.fz 5
  have y6 := hX5.fz 6
  have y7 := hX5.fz 7
  have y8 := hX5.fz 8
  clear hX5
  go_wp2_with fail
  have HB7 : Below w.heap.size w ((w5.setCell ⟨w.heap.size + 1, 5, none⟩ (.int .i64 3)).setCell ⟨w.heap.size + 1, 5, none⟩ (.int .i64 2)) := ((HB5.out.setCell (p := ⟨w.heap.size + 1, 5, none⟩) (Nat.le_succ _) (.int .i64 3)).setCell (p := ⟨w.heap.size + 1, 5, none⟩) (Nat.le_succ _) (.int .i64 2))
  have HX7 : BX ((w5.setCell ⟨w.heap.size + 1, 5, none⟩ (.int .i64 3)).setCell ⟨w.heap.size + 1, 5, none⟩ (.int .i64 2)) w.heap.size (⟨false, sr, it, n, 2, st, fr, gt⟩ : Rw) := ((HX5.out.set 5 (.int .i64 3) (⟨false, sr, it, n, 3, st, fr, gt⟩ : Rw) rfl).set 5 (.int .i64 2) (⟨false, sr, it, n, 2, st, fr, gt⟩ : Rw) rfl)
  have HO7 : OI ((w5.setCell ⟨w.heap.size + 1, 5, none⟩ (.int .i64 3)).setCell ⟨w.heap.size + 1, 5, none⟩ (.int .i64 2)) B (.slice (some ⟨g5, 0, none⟩) N cc5) (xs.set k 0) := (oi_other (oi_other HG.out.1 (w.heap.size + 1) 5 (.int .i64 3) (by have := HGB.out; omega)) (w.heap.size + 1) 5 (.int .i64 2) (by have := HGB.out; omega))
  obtain ⟨g1, g2, g3⟩ := put9_at (.bool false) (.int .i64 2) (.int .i64 sr) (.int .i64 it) (.int .i64 n) (.int .i64 2) (.int .i64 st) (.int .i64 fr) (.bool gt) HX7.z
  have hO := oi_heap HO7 (g2 g5 (by have := HGB.out; omega))
  have hbF := HB7.trans (g3 w.heap.size (by omega))
  obtain ⟨wF, hwF⟩ : ∃ wF, put9 ((w5.setCell ⟨w.heap.size + 1, 5, none⟩ (.int .i64 3)).setCell ⟨w.heap.size + 1, 5, none⟩ (.int .i64 2)) (w.heap.size + 1 + 1) (.bool false) (.int .i64 2) (.int .i64 sr) (.int .i64 it) (.int .i64 n) (.int .i64 2) (.int .i64 st) (.int .i64 fr) (.bool gt) = wF := ⟨_, rfl⟩
  rw [hwF] at g1 hO hbF
  unfold put9 at hwF
  rw [hwF]
  clear p0 p1 p2 p3 c0 c1 c2 c3 c4 c5 c6 c7 c8 z0 z1 z2 z3 z4 z5 z6 z7 z8 HB7 HX7 HO7 g2 g3
  have d0 := ro.cel g1 0
  have d1 := ro.cel g1 1
  have d2 := ro.cel g1 2
  have d3 := ro.cel g1 3
  have d4 := ro.cel g1 4
  have d5 := ro.cel g1 5
  have d6 := ro.cel g1 6
  have d7 := ro.cel g1 7
  have d8 := ro.cel g1 8
  refine bodyPost_ret (v := .tuple #[.agg (⟨false, sr, it, n, 2, st, fr, gt⟩ : Rw).cs, .slice (some ⟨g5, 0, none⟩) N cc5]) ?_ rfl ⟨_, cc5, rfl, hO, hbF, fun q hq => .inl (by simp [Value.ownBlock] at hq; have := HGB.out; omega)⟩
  simp [results, Try.results38, go_sem, Rw.cs, d0, d1, d2, d3, d4, d5, d6, d7, d8]
set_option maxRecDepth 20000 in
set_option maxHeartbeats 4000000 in
theorem rr1n (sr it n st fr q : Int) (gt : Bool) (x : Int) (B N k : Nat) (ad : Option Addr) (cp : Nat) (xs : List Int) (w : World) (ho : OI w B (.slice ad N cp) xs) (hB : B ≤ w.heap.size) (hq : HQ 3 (it + 1) q) (hk : Hid (25 + 2 + q * 4 + 1 = (k : Int))) (hN : xs.length = N) (hkN : k < N) (hsm : N ≤ 100000) (hi : -1099511627776 ≤ it) (hi2 : it ≤ 1099511627776)  (hx : Hid (xs.getD k 0 = x)) (hne : x ≠ tOf sr (it + 1) st) :
    Calls Try.prog 38 #[.agg #[.int .i64 1, .int .i64 3, .int .i64 3, .int .i64 3], .agg (⟨false, sr, it, n, 1, st, fr, gt⟩ : Rw).cs, .slice ad N cp] w (RPost19 B N (.slice ad N cp) w (⟨false, sr, it, n, 3, st, fr, gt⟩ : Rw) (xs.set k x)) := by
  have C := doC (⟨false, sr, it, n, 1, st, fr, gt⟩ : Rw) 4 1 (it + 1) (st) q (0) (x) (x) ho hB (by omega) hq hk hN hkN hsm hx (by simp [doV, hne])
  have hw1 : IntKind.i64.wrap (it + 1) = it + 1 := by rw [IntKind.wrap_i64]; omega
  clear hi hi2
  clear hq hk hkN hsm
  unfold Rw.cs at C ⊢
  obtain ⟨W, hW⟩ : ∃ W, ((w.alloc (Obj.cells #[Value.int .i64 1, .int .i64 3, .int .i64 3, .int .i64 3] 61)).alloc (Obj.cells (⟨false, sr, it, n, 1, st, fr, gt⟩ : Rw).cs 74)).alloc (Obj.cells #[.bool false, .int .i64 0, .int .i64 0, .int .i64 0, .int .i64 0, .int .i64 0, .int .i64 0, .int .i64 0, .bool false] 74) = W := ⟨_, rfl⟩
  obtain ⟨hX, hBW⟩ := BX.new w _ hW
  unfold Rw.cs at hW
  have HX := Lib.hid hX
  have HBW := Lib.hid hBW
  obtain ⟨p0, p1, p2, p3, c0, c1, c2, c3, c4, c5, c6, c7, c8⟩ := hX.rd
  have f5 := hX.fr 5
  clear hX hBW
  go_enter Try.func38, Try.ntmps38
  go_wp2_with fail
  have HB1 : Hid (Below w.heap.size w W) := Lib.hid HBW.out
  have HX1 : Hid (BX W w.heap.size (⟨false, sr, it, n, 1, st, fr, gt⟩ : Rw)) := Lib.hid HX.out
  refine (C.out _ HB1.out).mono ?_
  rintro e w5 ⟨g5, cc5, rfl, HG, hb5⟩
  have hX5 := HX1.out.below hb5
  have HB5 := Lib.hid (HB1.out.trans (hb5.mono HB1.out.size))
  have HX5 := Lib.hid hX5
  have HGB : Hid (w.heap.size + 1 + 1 < g5) := Lib.hid (Nat.lt_of_lt_of_le HX1.out.lt HG.out.2)
  clear hb5 p0 p1 p2 p3 c0 c1 c2 c3 c4 c5 c6 c7 c8 C HX HX1 HB1 HBW hW f5
  obtain ⟨p0, p1, p2, p3, c0, c1, c2, c3, c4, c5, c6, c7, c8⟩ := hX5.rd
  obtain ⟨z0, z1, z2, z3, z4, z5, z6, z7, z8⟩ := hX5.zs
  have f5 := hX5.fr 5
  have y0 := hX5.fz 0
  have y1 := hX5.fz 1
  have y2 := hX5.fz 2
  have y3 := hX5.fz 3
  have y4 := hX5.fz 4
  have y5 := hX5.fz 5
  have y6 := hX5.fz 6
  have y7 := hX5.fz 7
  have y8 := hX5.fz 8
  clear hX5
  go_wp2_with fail
  have HB7 : Below w.heap.size w (w5.setCell ⟨w.heap.size + 1, 5, none⟩ (.int .i64 3)) := (HB5.out.setCell (p := ⟨w.heap.size + 1, 5, none⟩) (Nat.le_succ _) (.int .i64 3))
  have HX7 : BX (w5.setCell ⟨w.heap.size + 1, 5, none⟩ (.int .i64 3)) w.heap.size (⟨false, sr, it, n, 3, st, fr, gt⟩ : Rw) := (HX5.out.set 5 (.int .i64 3) (⟨false, sr, it, n, 3, st, fr, gt⟩ : Rw) rfl)
  have HO7 : OI (w5.setCell ⟨w.heap.size + 1, 5, none⟩ (.int .i64 3)) B (.slice (some ⟨g5, 0, none⟩) N cc5) (xs.set k x) := (oi_other HG.out.1 (w.heap.size + 1) 5 (.int .i64 3) (by have := HGB.out; omega))
  obtain ⟨g1, g2, g3⟩ := put9_at (.bool false) (.int .i64 2) (.int .i64 sr) (.int .i64 it) (.int .i64 n) (.int .i64 3) (.int .i64 st) (.int .i64 fr) (.bool gt) HX7.z
  have hO := oi_heap HO7 (g2 g5 (by have := HGB.out; omega))
  have hbF := HB7.trans (g3 w.heap.size (by omega))
  obtain ⟨wF, hwF⟩ : ∃ wF, put9 (w5.setCell ⟨w.heap.size + 1, 5, none⟩ (.int .i64 3)) (w.heap.size + 1 + 1) (.bool false) (.int .i64 2) (.int .i64 sr) (.int .i64 it) (.int .i64 n) (.int .i64 3) (.int .i64 st) (.int .i64 fr) (.bool gt) = wF := ⟨_, rfl⟩
  rw [hwF] at g1 hO hbF
  unfold put9 at hwF
  rw [hwF]
  clear p0 p1 p2 p3 c0 c1 c2 c3 c4 c5 c6 c7 c8 z0 z1 z2 z3 z4 z5 z6 z7 z8 HB7 HX7 HO7 g2 g3
  have d0 := ro.cel g1 0
  have d1 := ro.cel g1 1
  have d2 := ro.cel g1 2
  have d3 := ro.cel g1 3
  have d4 := ro.cel g1 4
  have d5 := ro.cel g1 5
  have d6 := ro.cel g1 6
  have d7 := ro.cel g1 7
  have d8 := ro.cel g1 8
  refine bodyPost_ret (v := .tuple #[.agg (⟨false, sr, it, n, 3, st, fr, gt⟩ : Rw).cs, .slice (some ⟨g5, 0, none⟩) N cc5]) ?_ rfl ⟨_, cc5, rfl, hO, hbF, fun q hq => .inl (by simp [Value.ownBlock] at hq; have := HGB.out; omega)⟩
  simp [results, Try.results38, go_sem, Rw.cs, d0, d1, d2, d3, d4, d5, d6, d7, d8]
set_option maxRecDepth 20000 in
set_option maxHeartbeats 4000000 in
theorem rr2 (sr it n st fr q : Int) (gt : Bool) (x : Int) (B N k : Nat) (ad : Option Addr) (cp : Nat) (xs : List Int) (w : World) (ho : OI w B (.slice ad N cp) xs) (hB : B ≤ w.heap.size) (hq : HQ 3 (it + 1) q) (hk : Hid (25 + 2 + q * 4 + 2 = (k : Int))) (hN : xs.length = N) (hkN : k < N) (hsm : N ≤ 100000) (hi : -1099511627776 ≤ it) (hi2 : it ≤ 1099511627776)  (hx : Hid (xs.getD k 0 = x)) :
    Calls Try.prog 38 #[.agg #[.int .i64 1, .int .i64 3, .int .i64 3, .int .i64 3], .agg (⟨false, sr, it, n, 2, st, fr, gt⟩ : Rw).cs, .slice ad N cp] w (RPost19 B N (.slice ad N cp) w (⟨false, sr, it, n, 3, st, x, true⟩ : Rw) (xs.set k x)) := by
  have C := doC (⟨false, sr, it, n, 2, st, fr, gt⟩ : Rw) 5 2 (it + 1) (0) q (x) (x) (x) ho hB (by omega) hq hk hN hkN hsm hx (rfl)
  have hw1 : IntKind.i64.wrap (it + 1) = it + 1 := by rw [IntKind.wrap_i64]; omega
  clear hi hi2
  clear hq hk hkN hsm
  unfold Rw.cs at C ⊢
  obtain ⟨W, hW⟩ : ∃ W, ((w.alloc (Obj.cells #[Value.int .i64 1, .int .i64 3, .int .i64 3, .int .i64 3] 61)).alloc (Obj.cells (⟨false, sr, it, n, 2, st, fr, gt⟩ : Rw).cs 74)).alloc (Obj.cells #[.bool false, .int .i64 0, .int .i64 0, .int .i64 0, .int .i64 0, .int .i64 0, .int .i64 0, .int .i64 0, .bool false] 74) = W := ⟨_, rfl⟩
  obtain ⟨hX, hBW⟩ := BX.new w _ hW
  unfold Rw.cs at hW
  have HX := Lib.hid hX
  have HBW := Lib.hid hBW
  obtain ⟨p0, p1, p2, p3, c0, c1, c2, c3, c4, c5, c6, c7, c8⟩ := hX.rd
  have f5 := hX.fr 5
  have f7 := hX.fr 7
  have f8 := hX.fr 8
  clear hX hBW
  go_enter Try.func38, Try.ntmps38
  go_wp2_with fail
  have HB1 : Hid (Below w.heap.size w W) := Lib.hid HBW.out
  have HX1 : Hid (BX W w.heap.size (⟨false, sr, it, n, 2, st, fr, gt⟩ : Rw)) := Lib.hid HX.out
  refine (C.out _ HB1.out).mono ?_
  rintro e w5 ⟨g5, cc5, rfl, HG, hb5⟩
  have hX5 := HX1.out.below hb5
  have HB5 := Lib.hid (HB1.out.trans (hb5.mono HB1.out.size))
  have HX5 := Lib.hid hX5
  have HGB : Hid (w.heap.size + 1 + 1 < g5) := Lib.hid (Nat.lt_of_lt_of_le HX1.out.lt HG.out.2)
  clear hb5 p0 p1 p2 p3 c0 c1 c2 c3 c4 c5 c6 c7 c8 C HX HX1 HB1 HBW hW f5 f7 f8
  obtain ⟨p0, p1, p2, p3, c0, c1, c2, c3, c4, c5, c6, c7, c8⟩ := hX5.rd
  obtain ⟨z0, z1, z2, z3, z4, z5, z6, z7, z8⟩ := hX5.zs
  have f5 := hX5.fr 5
  have f7 := hX5.fr 7
  have f8 := hX5.fr 8
  have y0 := hX5.fz 0
  have y1 := hX5.fz 1
  have y2 := hX5.fz 2
  have y3 := hX5.fz 3
  have y4 := hX5.fz 4
  have y5 := hX5.fz 5
  have y6 := hX5.fz 6
  have y7 := hX5.fz 7
  have y8 := hX5.fz 8
  clear hX5
  go_wp2_with fail
  have HB7 : Below w.heap.size w (((w5.setCell ⟨w.heap.size + 1, 5, none⟩ (.int .i64 3)).setCell ⟨w.heap.size + 1, 7, none⟩ (.int .i64 x)).setCell ⟨w.heap.size + 1, 8, none⟩ (.bool true)) := (((HB5.out.setCell (p := ⟨w.heap.size + 1, 5, none⟩) (Nat.le_succ _) (.int .i64 3)).setCell (p := ⟨w.heap.size + 1, 7, none⟩) (Nat.le_succ _) (.int .i64 x)).setCell (p := ⟨w.heap.size + 1, 8, none⟩) (Nat.le_succ _) (.bool true))
  have HX7 : BX (((w5.setCell ⟨w.heap.size + 1, 5, none⟩ (.int .i64 3)).setCell ⟨w.heap.size + 1, 7, none⟩ (.int .i64 x)).setCell ⟨w.heap.size + 1, 8, none⟩ (.bool true)) w.heap.size (⟨false, sr, it, n, 3, st, x, true⟩ : Rw) := (((HX5.out.set 5 (.int .i64 3) (⟨false, sr, it, n, 3, st, fr, gt⟩ : Rw) rfl).set 7 (.int .i64 x) (⟨false, sr, it, n, 3, st, x, gt⟩ : Rw) rfl).set 8 (.bool true) (⟨false, sr, it, n, 3, st, x, true⟩ : Rw) rfl)
  have HO7 : OI (((w5.setCell ⟨w.heap.size + 1, 5, none⟩ (.int .i64 3)).setCell ⟨w.heap.size + 1, 7, none⟩ (.int .i64 x)).setCell ⟨w.heap.size + 1, 8, none⟩ (.bool true)) B (.slice (some ⟨g5, 0, none⟩) N cc5) (xs.set k x) := (oi_other (oi_other (oi_other HG.out.1 (w.heap.size + 1) 5 (.int .i64 3) (by have := HGB.out; omega)) (w.heap.size + 1) 7 (.int .i64 x) (by have := HGB.out; omega)) (w.heap.size + 1) 8 (.bool true) (by have := HGB.out; omega))
  obtain ⟨g1, g2, g3⟩ := put9_at (.bool false) (.int .i64 2) (.int .i64 sr) (.int .i64 it) (.int .i64 n) (.int .i64 3) (.int .i64 st) (.int .i64 x) (.bool true) HX7.z
  have hO := oi_heap HO7 (g2 g5 (by have := HGB.out; omega))
  have hbF := HB7.trans (g3 w.heap.size (by omega))
  obtain ⟨wF, hwF⟩ : ∃ wF, put9 (((w5.setCell ⟨w.heap.size + 1, 5, none⟩ (.int .i64 3)).setCell ⟨w.heap.size + 1, 7, none⟩ (.int .i64 x)).setCell ⟨w.heap.size + 1, 8, none⟩ (.bool true)) (w.heap.size + 1 + 1) (.bool false) (.int .i64 2) (.int .i64 sr) (.int .i64 it) (.int .i64 n) (.int .i64 3) (.int .i64 st) (.int .i64 x) (.bool true) = wF := ⟨_, rfl⟩
  rw [hwF] at g1 hO hbF
  unfold put9 at hwF
  rw [hwF]
  clear p0 p1 p2 p3 c0 c1 c2 c3 c4 c5 c6 c7 c8 z0 z1 z2 z3 z4 z5 z6 z7 z8 HB7 HX7 HO7 g2 g3
  have d0 := ro.cel g1 0
  have d1 := ro.cel g1 1
  have d2 := ro.cel g1 2
  have d3 := ro.cel g1 3
  have d4 := ro.cel g1 4
  have d5 := ro.cel g1 5
  have d6 := ro.cel g1 6
  have d7 := ro.cel g1 7
  have d8 := ro.cel g1 8
  refine bodyPost_ret (v := .tuple #[.agg (⟨false, sr, it, n, 3, st, x, true⟩ : Rw).cs, .slice (some ⟨g5, 0, none⟩) N cc5]) ?_ rfl ⟨_, cc5, rfl, hO, hbF, fun q hq => .inl (by simp [Value.ownBlock] at hq; have := HGB.out; omega)⟩
  simp [results, Try.results38, go_sem, Rw.cs, d0, d1, d2, d3, d4, d5, d6, d7, d8]
end Go.Proofs.Ytegbifphekhgkaa.cg
