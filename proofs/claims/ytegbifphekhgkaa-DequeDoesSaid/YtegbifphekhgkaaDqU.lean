/- The reference's steps of layer 13 that write. -/
import Derived.Test.YtegbifphekhgkaaDqS
import Derived.Deep.RegionLaw
namespace Go.Proofs.Ytegbifphekhgkaa
open Go.ChangeShapes Go.WideShapes Go.ChangeAt Go.RowKit
attribute [local go_sem ↓] Go.wp_at_zero Go.wp_at_succ
set_option linter.unusedVariables false
set_option linter.unusedSimpArgs false
theorem OI.mono {w : World} {B B' : Nat} {v : Value} {xs : List Int} (h : OI w B v xs) (hb : B' ≤ B) : OI w B' v xs := by
  obtain ⟨hl, h1 | ⟨g, cap, cur, h1, h2, h3⟩⟩ := h
  · exact ⟨hl, .inl h1⟩
  · exact ⟨hl, .inr ⟨g, cap, cur, h1, Nat.le_trans hb h2, h3⟩⟩
/-- the result's box behind a call. -/
theorem zbox {W w' : World} {R : Nat} (h : W.heap[R]? = some (.cells #[.int .i64 0, .int .i64 0, .int .i64 0, .int .i64 0, .int .i64 0, .int .i64 0, .int .i64 0, .int .i64 0, .bool false, .bool false] 37 (0, 0))) (hb : Below W.heap.size W w') :
    (w'.cell? ⟨R, 0, none⟩ = some (.int .i64 0) ∧ w'.cell? ⟨R, 1, none⟩ = some (.int .i64 0) ∧ w'.cell? ⟨R, 2, none⟩ = some (.int .i64 0) ∧ w'.cell? ⟨R, 3, none⟩ = some (.int .i64 0) ∧ w'.cell? ⟨R, 4, none⟩ = some (.int .i64 0) ∧ w'.cell? ⟨R, 5, none⟩ = some (.int .i64 0) ∧ w'.cell? ⟨R, 6, none⟩ = some (.int .i64 0) ∧ w'.cell? ⟨R, 7, none⟩ = some (.int .i64 0) ∧ w'.cell? ⟨R, 8, none⟩ = some (.bool false) ∧ w'.cell? ⟨R, 9, none⟩ = some (.bool false)) ∧ (∀ i, w'.frozen? ⟨R, i, none⟩ = false) ∧ R < w'.heap.size := by
  have h2 := (hb.block R (lt_of_heap h)).trans h
  refine ⟨⟨?_, ?_, ?_, ?_, ?_, ?_, ?_, ?_, ?_, ?_⟩, fun i => by simp [World.frozen?, h2], lt_of_heap h2⟩ <;> simp [World.cell?, h2]
theorem zdrew {W W' : World} {R : Nat} {o : Obj} (h : W.heap[R]? = some o) (hb : Below W.heap.size W W') : W'.heap[R]? = some o := (hb.block R (lt_of_heap h)).trans h
theorem two_boxes {w W : World} {o1 o2 : Obj} (h : (w.alloc o1).alloc o2 = W) : W.heap[w.heap.size]? = some o1 ∧ W.heap[w.heap.size + 1]? = some o2 ∧ Below w.heap.size w W := by
  subst h
  refine ⟨?_, ?_, by go_grown⟩
  · show ((w.heap.push o1).push o2)[w.heap.size]? = _
    rw [Array.getElem?_push, if_neg (by simp), Array.getElem?_push, if_pos rfl]
  · show ((w.heap.push o1).push o2)[w.heap.size + 1]? = _
    rw [Array.getElem?_push, if_pos (by simp)]
theorem ten {W : World} {N : Nat} {v0 v1 v2 v3 v4 v5 v6 v7 v8 v9 : Value} {t : TypeId} (h : W.heap[N]? = some (.cells #[v0, v1, v2, v3, v4, v5, v6, v7, v8, v9] t (0, 0))) : W.cell? ⟨N, 0, none⟩ = some v0 ∧ W.cell? ⟨N, 1, none⟩ = some v1 ∧ W.cell? ⟨N, 2, none⟩ = some v2 ∧ W.cell? ⟨N, 3, none⟩ = some v3 ∧ W.cell? ⟨N, 4, none⟩ = some v4 ∧ W.cell? ⟨N, 5, none⟩ = some v5 ∧ W.cell? ⟨N, 6, none⟩ = some v6 ∧ W.cell? ⟨N, 7, none⟩ = some v7 ∧ W.cell? ⟨N, 8, none⟩ = some v8 ∧ W.cell? ⟨N, 9, none⟩ = some v9 := by
  refine ⟨?_, ?_, ?_, ?_, ?_, ?_, ?_, ?_, ?_, ?_⟩ <;> simp [World.cell?, h]
theorem OI.other {w w' : World} {B g n c : Nat} {xs : List Int} (h : OI w B (.slice (some ⟨g, 0, none⟩) n c) xs) (hk : w'.heap[g]? = w.heap[g]?) : OI w' B (.slice (some ⟨g, 0, none⟩) n c) xs := by
  obtain ⟨hl, h1 | ⟨g', cap, cur, e, h2, hh, h3⟩⟩ := h
  · exact ⟨hl, .inl h1⟩
  · have e2 := e
    rw [Value.slice.injEq, Option.some.injEq, Addr.mk.injEq] at e2
    obtain ⟨⟨rfl, _, _⟩, _, _⟩ := e2
    exact ⟨hl, .inr ⟨g, cap, cur, e, h2, hk.trans hh, h3⟩⟩
def put10 (w : World) (M : Nat) (v0 v1 v2 v3 v4 v5 v6 v7 v8 v9 : Value) : World := (((((((((w.setCell ⟨M, 0, none⟩ v0).setCell ⟨M, 1, none⟩ v1).setCell ⟨M, 2, none⟩ v2).setCell ⟨M, 3, none⟩ v3).setCell ⟨M, 4, none⟩ v4).setCell ⟨M, 5, none⟩ v5).setCell ⟨M, 6, none⟩ v6).setCell ⟨M, 7, none⟩ v7).setCell ⟨M, 8, none⟩ v8).setCell ⟨M, 9, none⟩ v9
theorem put10_at {w : World} {M : Nat} {t : TypeId} {u0 u1 u2 u3 u4 u5 u6 u7 u8 u9 : Value} (v0 v1 v2 v3 v4 v5 v6 v7 v8 v9 : Value) (h : w.heap[M]? = some (.cells #[u0, u1, u2, u3, u4, u5, u6, u7, u8, u9] t (0, 0))) :
    (put10 w M v0 v1 v2 v3 v4 v5 v6 v7 v8 v9).heap[M]? = some (.cells #[v0, v1, v2, v3, v4, v5, v6, v7, v8, v9] t (0, 0)) ∧ (∀ k, k ≠ M → (put10 w M v0 v1 v2 v3 v4 v5 v6 v7 v8 v9).heap[k]? = w.heap[k]?) ∧ ∀ B, B ≤ M → Below B w (put10 w M v0 v1 v2 v3 v4 v5 v6 v7 v8 v9) := by
  refine ⟨?_, fun k hk => ?_, fun B hB => ?_⟩
  · have a0 : (w.setCell ⟨M, 0, none⟩ v0).heap[M]? = some (.cells #[v0, u1, u2, u3, u4, u5, u6, u7, u8, u9] t (0, 0)) := setA_obj (i := 0) v0 h
    have a1 : ((w.setCell ⟨M, 0, none⟩ v0).setCell ⟨M, 1, none⟩ v1).heap[M]? = some (.cells #[v0, v1, u2, u3, u4, u5, u6, u7, u8, u9] t (0, 0)) := setA_obj (i := 1) v1 a0
    have a2 : (((w.setCell ⟨M, 0, none⟩ v0).setCell ⟨M, 1, none⟩ v1).setCell ⟨M, 2, none⟩ v2).heap[M]? = some (.cells #[v0, v1, v2, u3, u4, u5, u6, u7, u8, u9] t (0, 0)) := setA_obj (i := 2) v2 a1
    have a3 : ((((w.setCell ⟨M, 0, none⟩ v0).setCell ⟨M, 1, none⟩ v1).setCell ⟨M, 2, none⟩ v2).setCell ⟨M, 3, none⟩ v3).heap[M]? = some (.cells #[v0, v1, v2, v3, u4, u5, u6, u7, u8, u9] t (0, 0)) := setA_obj (i := 3) v3 a2
    have a4 : (((((w.setCell ⟨M, 0, none⟩ v0).setCell ⟨M, 1, none⟩ v1).setCell ⟨M, 2, none⟩ v2).setCell ⟨M, 3, none⟩ v3).setCell ⟨M, 4, none⟩ v4).heap[M]? = some (.cells #[v0, v1, v2, v3, v4, u5, u6, u7, u8, u9] t (0, 0)) := setA_obj (i := 4) v4 a3
    have a5 : ((((((w.setCell ⟨M, 0, none⟩ v0).setCell ⟨M, 1, none⟩ v1).setCell ⟨M, 2, none⟩ v2).setCell ⟨M, 3, none⟩ v3).setCell ⟨M, 4, none⟩ v4).setCell ⟨M, 5, none⟩ v5).heap[M]? = some (.cells #[v0, v1, v2, v3, v4, v5, u6, u7, u8, u9] t (0, 0)) := setA_obj (i := 5) v5 a4
    have a6 : (((((((w.setCell ⟨M, 0, none⟩ v0).setCell ⟨M, 1, none⟩ v1).setCell ⟨M, 2, none⟩ v2).setCell ⟨M, 3, none⟩ v3).setCell ⟨M, 4, none⟩ v4).setCell ⟨M, 5, none⟩ v5).setCell ⟨M, 6, none⟩ v6).heap[M]? = some (.cells #[v0, v1, v2, v3, v4, v5, v6, u7, u8, u9] t (0, 0)) := setA_obj (i := 6) v6 a5
    have a7 : ((((((((w.setCell ⟨M, 0, none⟩ v0).setCell ⟨M, 1, none⟩ v1).setCell ⟨M, 2, none⟩ v2).setCell ⟨M, 3, none⟩ v3).setCell ⟨M, 4, none⟩ v4).setCell ⟨M, 5, none⟩ v5).setCell ⟨M, 6, none⟩ v6).setCell ⟨M, 7, none⟩ v7).heap[M]? = some (.cells #[v0, v1, v2, v3, v4, v5, v6, v7, u8, u9] t (0, 0)) := setA_obj (i := 7) v7 a6
    have a8 : (((((((((w.setCell ⟨M, 0, none⟩ v0).setCell ⟨M, 1, none⟩ v1).setCell ⟨M, 2, none⟩ v2).setCell ⟨M, 3, none⟩ v3).setCell ⟨M, 4, none⟩ v4).setCell ⟨M, 5, none⟩ v5).setCell ⟨M, 6, none⟩ v6).setCell ⟨M, 7, none⟩ v7).setCell ⟨M, 8, none⟩ v8).heap[M]? = some (.cells #[v0, v1, v2, v3, v4, v5, v6, v7, v8, u9] t (0, 0)) := setA_obj (i := 8) v8 a7
    have a9 : ((((((((((w.setCell ⟨M, 0, none⟩ v0).setCell ⟨M, 1, none⟩ v1).setCell ⟨M, 2, none⟩ v2).setCell ⟨M, 3, none⟩ v3).setCell ⟨M, 4, none⟩ v4).setCell ⟨M, 5, none⟩ v5).setCell ⟨M, 6, none⟩ v6).setCell ⟨M, 7, none⟩ v7).setCell ⟨M, 8, none⟩ v8).setCell ⟨M, 9, none⟩ v9).heap[M]? = some (.cells #[v0, v1, v2, v3, v4, v5, v6, v7, v8, v9] t (0, 0)) := setA_obj (i := 9) v9 a8
    exact a9
  · unfold put10
    rw [setA_heap _ _ _ _ _ hk, setA_heap _ _ _ _ _ hk, setA_heap _ _ _ _ _ hk, setA_heap _ _ _ _ _ hk, setA_heap _ _ _ _ _ hk, setA_heap _ _ _ _ _ hk, setA_heap _ _ _ _ _ hk, setA_heap _ _ _ _ _ hk, setA_heap _ _ _ _ _ hk, setA_heap _ _ _ _ _ hk]
  · unfold put10
    have st : ∀ (w1 : World) (i : Nat) (v : Value), Below B w w1 → Below B w (w1.setCell ⟨M, i, none⟩ v) := fun w1 i v hb => hb.setCell (p := ⟨M, i, none⟩) hB v
    exact st _ _ _ (st _ _ _ (st _ _ _ (st _ _ _ (st _ _ _ (st _ _ _ (st _ _ _ (st _ _ _ (st _ _ _ (st _ _ _ (Below.refl _ _))))))))))
set_option maxRecDepth 20000 in
set_option maxHeartbeats 2000000 in
theorem rpush2 (r : Rk) (B n : Nat) (ad : Option Addr) (cp : Nat) (xs : List Int) (w : World) (hl : xs.length = n) (hB : B ≤ w.heap.size) (hn : n ≤ 100000) (hP : r.P + 1 < n) (ha : r.at_ = 2) (ht : 0 ≤ r.t) (ht2 : r.t ≤ 1000000) (ho : OI w B (.slice ad n cp) xs) :
    Calls Try.prog 54 #[.agg r.cs, .slice ad n cp] w (RPost B n w { r with at_ := -1, t := r.t + 1 } (xs.set (r.P + 1) (r.t + 1))) := by
  have hw1 : IntKind.i64.wrap (r.t + 1) = r.t + 1 := by rw [IntKind.wrap_i64]; omega
  have hw2 : IntKind.i64.wrap ((r.P : Int) + 1) = (r.P : Int) + 1 := by rw [IntKind.wrap_i64]; omega
  have HV := Lib.hid (view_of_own ho)
  have C : Hid (∀ W, Below w.heap.size w W → Calls Try.prog 82 #[.slice ad n cp, .int .i64 ((r.P : Int) + 1), .int .i64 (r.t + 1)] W fun e w' => ∃ g cp', e = .returned (.slice (some ⟨g, 0, none⟩) n cp') ∧ Hid (OI w' B (.slice (some ⟨g, 0, none⟩) n cp') (xs.set (r.P + 1) (r.t + 1)) ∧ Below W.heap.size W w' ∧ W.heap.size ≤ g)) := Lib.hid fun W hb => by
    rw [show (r.P : Int) + 1 = ((r.P + 1 : Nat) : Int) by omega]
    exact (rwith_of _ xs (r.P + 1) n (r.t + 1) W (HV.out.below hb) hl hP hn).mono fun e w' ⟨g, cp', h1, h2, h3, h4⟩ => ⟨g, cp', h1, Lib.hid ⟨OI.mono h2 (Nat.le_trans hB hb.size), h3, h4⟩⟩
  clear ho
  unfold Rk.cs
  rw [ha]
  go_enter Try.func54, Try.ntmps54
  go_wp2_with fail
  obtain ⟨W, hW⟩ : ∃ W, (w.alloc (.cells #[.int .i64 r.kd, .int .i64 (r.P : Int), .int .i64 (r.D : Int), .int .i64 (-1), .int .i64 (r.t + 1), .int .i64 r.x, .int .i64 r.tn, .int .i64 r.h, .bool r.got, .bool r.full] 37)).alloc (.cells #[.int .i64 0, .int .i64 0, .int .i64 0, .int .i64 0, .int .i64 0, .int .i64 0, .int .i64 0, .int .i64 0, .bool false, .bool false] 37) = W := ⟨_, rfl⟩
  obtain ⟨hA, hR, hbW⟩ := two_boxes hW
  rw [hW]
  obtain ⟨p0, p1, p2, p3, p4, p5, p6, p7, p8, p9⟩ := ten hA
  obtain ⟨N, hN⟩ : ∃ N, w.heap.size = N := ⟨_, rfl⟩
  obtain ⟨M, hM⟩ : ∃ M, w.heap.size + 1 = M := ⟨_, rfl⟩
  rw [hM] at hR
  rw [hN] at p0 p1 p2 p3 p4 p5 p6 p7 p8 p9
  have HR := Lib.hid hR
  rw [hN] at hA
  have HA := Lib.hid hA
  have HBW := Lib.hid hbW
  have HM := Lib.hid hM
  rw [hM, hN]
  have C2 : Hid (∀ W', Below W.heap.size W W' → Calls Try.prog 82 #[.slice ad n cp, .int .i64 ((r.P : Int) + 1), .int .i64 (r.t + 1)] W' fun e w' => ∃ g cp', e = .returned (.slice (some ⟨g, 0, none⟩) n cp') ∧ Hid (OI w' B (.slice (some ⟨g, 0, none⟩) n cp') (xs.set (r.P + 1) (r.t + 1)) ∧ Below W.heap.size W w' ∧ W.heap.size ≤ g)) := Lib.hid fun W' hb => (C.out W' (HBW.out.trans (hb.mono HBW.out.size))).mono fun e w' ⟨g, cp', h1, h2⟩ => ⟨g, cp', h1, Lib.hid ⟨h2.out.1, hb.trans (h2.out.2.1.mono hb.size), Nat.le_trans hb.size h2.out.2.2⟩⟩
  clear C hW hA hR hbW HV hM hN
  go_region_law ((go_simp; (with_reducible refine (C2.out _ (by go_grown)).mono ?_); rintro e w9 ⟨g9, c9, rfl, H9⟩; obtain ⟨⟨z0, z1, z2, z3, z4, z5, z6, z7, z8, z9⟩, zf, zl⟩ := zbox HR.out H9.out.2.1; obtain ⟨x0, x1, x2, x3, x4, x5, x6, x7, x8, x9⟩ := ten (zdrew HA.out H9.out.2.1); have y0 := zf 0; have y1 := zf 1; have y2 := zf 2; have y3 := zf 3; have y4 := zf 4; have y5 := zf 5; have y6 := zf 6; have y7 := zf 7; have y8 := zf 8; have y9 := zf 9; clear zf))
  all_goals
    clear x0 x1 x2 x3 x4 x5 x6 x7 x8 x9 y0 y1 y2 y3 y4 y5 y6 y7 y8 y9 z0 z1 z2 z3 z4 z5 z6 z7 z8 z9 p0 p1 p2 p3 p4 p5 p6 p7 p8 p9 C2
    go_wp2_with fail
    obtain ⟨g1, g2, g3⟩ := put10_at (.int .i64 r.kd) (.int .i64 (r.P : Int)) (.int .i64 (r.D : Int)) (.int .i64 (-1)) (.int .i64 (r.t + 1)) (.int .i64 r.x) (.int .i64 r.tn) (.int .i64 r.h) (.bool r.got) (.bool r.full) (zdrew HR.out H9.out.2.1)
    have hMW := lt_of_heap HR.out
    have hg9 : g9 ≠ M := by have := H9.out.2.2; omega
    have hO := OI.other H9.out.1 (g2 g9 hg9)
    have hbF := HBW.out.trans ((H9.out.2.1.mono HBW.out.size).trans (g3 w.heap.size (by have := HM.out; omega)))
    obtain ⟨wF, hwF⟩ : ∃ wF, put10 w9 M (.int .i64 r.kd) (.int .i64 (r.P : Int)) (.int .i64 (r.D : Int)) (.int .i64 (-1)) (.int .i64 (r.t + 1)) (.int .i64 r.x) (.int .i64 r.tn) (.int .i64 r.h) (.bool r.got) (.bool r.full) = wF := ⟨_, rfl⟩
    rw [hwF] at g1 hO hbF
    unfold put10 at hwF
    rw [hwF]
    obtain ⟨p0, p1, p2, p3, p4, p5, p6, p7, p8, p9⟩ := ten g1
    refine bodyPost_ret (v := .tuple #[.agg ({ r with at_ := -1, t := r.t + 1 } : Rk).cs, .slice (some ⟨g9, 0, none⟩) n c9]) ?_ rfl ⟨_, c9, rfl, hO, hbF⟩
    simp [results, Try.results54, go_sem, Rk.cs, p0, p1, p2, p3, p4, p5, p6, p7, p8, p9]
end Go.Proofs.Ytegbifphekhgkaa
