/- The reference's Push, its second step (layer 13). -/
import Derived.Test.YtegbifphekhgkaaDqM3
namespace Go.Proofs.Ytegbifphekhgkaa
open Go.ChangeShapes Go.WideShapes Go.ChangeAt Go.RowKit
attribute [local go_sem ↓] Go.wp_at_zero Go.wp_at_succ
set_option linter.unusedVariables false
set_option linter.unusedSimpArgs false
theorem cell_far (w : World) {N M : Nat} (i j : Nat) (v : Value) (h : N ≠ M) : (w.setCell ⟨M, i, none⟩ v).cell? ⟨N, j, none⟩ = w.cell? ⟨N, j, none⟩ := by
  simp only [World.cell?, setA_heap w M i N v h]
theorem ten_put {w : World} {N M : Nat} {u0 u1 u2 u3 u4 u5 u6 u7 u8 u9 v0 v1 v2 v3 v4 v5 v6 v7 v8 v9 : Value} (h : w.cell? ⟨N, 0, none⟩ = some u0 ∧ w.cell? ⟨N, 1, none⟩ = some u1 ∧ w.cell? ⟨N, 2, none⟩ = some u2 ∧ w.cell? ⟨N, 3, none⟩ = some u3 ∧ w.cell? ⟨N, 4, none⟩ = some u4 ∧ w.cell? ⟨N, 5, none⟩ = some u5 ∧ w.cell? ⟨N, 6, none⟩ = some u6 ∧ w.cell? ⟨N, 7, none⟩ = some u7 ∧ w.cell? ⟨N, 8, none⟩ = some u8 ∧ w.cell? ⟨N, 9, none⟩ = some u9) (hn : N ≠ M) : ((((((((((w.setCell ⟨M, 0, none⟩ v0).setCell ⟨M, 1, none⟩ v1).setCell ⟨M, 2, none⟩ v2).setCell ⟨M, 3, none⟩ v3).setCell ⟨M, 4, none⟩ v4).setCell ⟨M, 5, none⟩ v5).setCell ⟨M, 6, none⟩ v6).setCell ⟨M, 7, none⟩ v7).setCell ⟨M, 8, none⟩ v8).setCell ⟨M, 9, none⟩ v9).cell? ⟨N, 0, none⟩ = some u0 ∧ ((((((((((w.setCell ⟨M, 0, none⟩ v0).setCell ⟨M, 1, none⟩ v1).setCell ⟨M, 2, none⟩ v2).setCell ⟨M, 3, none⟩ v3).setCell ⟨M, 4, none⟩ v4).setCell ⟨M, 5, none⟩ v5).setCell ⟨M, 6, none⟩ v6).setCell ⟨M, 7, none⟩ v7).setCell ⟨M, 8, none⟩ v8).setCell ⟨M, 9, none⟩ v9).cell? ⟨N, 1, none⟩ = some u1 ∧ ((((((((((w.setCell ⟨M, 0, none⟩ v0).setCell ⟨M, 1, none⟩ v1).setCell ⟨M, 2, none⟩ v2).setCell ⟨M, 3, none⟩ v3).setCell ⟨M, 4, none⟩ v4).setCell ⟨M, 5, none⟩ v5).setCell ⟨M, 6, none⟩ v6).setCell ⟨M, 7, none⟩ v7).setCell ⟨M, 8, none⟩ v8).setCell ⟨M, 9, none⟩ v9).cell? ⟨N, 2, none⟩ = some u2 ∧ ((((((((((w.setCell ⟨M, 0, none⟩ v0).setCell ⟨M, 1, none⟩ v1).setCell ⟨M, 2, none⟩ v2).setCell ⟨M, 3, none⟩ v3).setCell ⟨M, 4, none⟩ v4).setCell ⟨M, 5, none⟩ v5).setCell ⟨M, 6, none⟩ v6).setCell ⟨M, 7, none⟩ v7).setCell ⟨M, 8, none⟩ v8).setCell ⟨M, 9, none⟩ v9).cell? ⟨N, 3, none⟩ = some u3 ∧ ((((((((((w.setCell ⟨M, 0, none⟩ v0).setCell ⟨M, 1, none⟩ v1).setCell ⟨M, 2, none⟩ v2).setCell ⟨M, 3, none⟩ v3).setCell ⟨M, 4, none⟩ v4).setCell ⟨M, 5, none⟩ v5).setCell ⟨M, 6, none⟩ v6).setCell ⟨M, 7, none⟩ v7).setCell ⟨M, 8, none⟩ v8).setCell ⟨M, 9, none⟩ v9).cell? ⟨N, 4, none⟩ = some u4 ∧ ((((((((((w.setCell ⟨M, 0, none⟩ v0).setCell ⟨M, 1, none⟩ v1).setCell ⟨M, 2, none⟩ v2).setCell ⟨M, 3, none⟩ v3).setCell ⟨M, 4, none⟩ v4).setCell ⟨M, 5, none⟩ v5).setCell ⟨M, 6, none⟩ v6).setCell ⟨M, 7, none⟩ v7).setCell ⟨M, 8, none⟩ v8).setCell ⟨M, 9, none⟩ v9).cell? ⟨N, 5, none⟩ = some u5 ∧ ((((((((((w.setCell ⟨M, 0, none⟩ v0).setCell ⟨M, 1, none⟩ v1).setCell ⟨M, 2, none⟩ v2).setCell ⟨M, 3, none⟩ v3).setCell ⟨M, 4, none⟩ v4).setCell ⟨M, 5, none⟩ v5).setCell ⟨M, 6, none⟩ v6).setCell ⟨M, 7, none⟩ v7).setCell ⟨M, 8, none⟩ v8).setCell ⟨M, 9, none⟩ v9).cell? ⟨N, 6, none⟩ = some u6 ∧ ((((((((((w.setCell ⟨M, 0, none⟩ v0).setCell ⟨M, 1, none⟩ v1).setCell ⟨M, 2, none⟩ v2).setCell ⟨M, 3, none⟩ v3).setCell ⟨M, 4, none⟩ v4).setCell ⟨M, 5, none⟩ v5).setCell ⟨M, 6, none⟩ v6).setCell ⟨M, 7, none⟩ v7).setCell ⟨M, 8, none⟩ v8).setCell ⟨M, 9, none⟩ v9).cell? ⟨N, 7, none⟩ = some u7 ∧ ((((((((((w.setCell ⟨M, 0, none⟩ v0).setCell ⟨M, 1, none⟩ v1).setCell ⟨M, 2, none⟩ v2).setCell ⟨M, 3, none⟩ v3).setCell ⟨M, 4, none⟩ v4).setCell ⟨M, 5, none⟩ v5).setCell ⟨M, 6, none⟩ v6).setCell ⟨M, 7, none⟩ v7).setCell ⟨M, 8, none⟩ v8).setCell ⟨M, 9, none⟩ v9).cell? ⟨N, 8, none⟩ = some u8 ∧ ((((((((((w.setCell ⟨M, 0, none⟩ v0).setCell ⟨M, 1, none⟩ v1).setCell ⟨M, 2, none⟩ v2).setCell ⟨M, 3, none⟩ v3).setCell ⟨M, 4, none⟩ v4).setCell ⟨M, 5, none⟩ v5).setCell ⟨M, 6, none⟩ v6).setCell ⟨M, 7, none⟩ v7).setCell ⟨M, 8, none⟩ v8).setCell ⟨M, 9, none⟩ v9).cell? ⟨N, 9, none⟩ = some u9 := by
  simp only [cell_far _ _ _ _ hn]
  exact h
set_option maxRecDepth 20000 in
set_option maxHeartbeats 16000000 in
theorem rpush1 (r : Rk) (B n : Nat) (ad : Option Addr) (cp : Nat) (xs : List Int) (m : Nat) (w : World) (hl : xs.length = n) (hB : B ≤ w.heap.size) (hn : n ≤ 100000) (ha : r.at_ = 1) (hP2 : r.P ≤ 1000) (hD2 : 2 ≤ r.D) (hD : r.D ≤ 256) (h0 : 0 ≤ r.t) (hm : Hid (r.t.tmod (r.D : Int) = (m : Int))) (hmD : m < r.D) (hin : r.P + 4 + m < n) (ho : OI w B (.slice ad n cp) xs) :
    Calls Try.prog 54 #[.agg r.cs, .slice ad n cp] w (RPost B n w { r with at_ := 2 } (xs.set (r.P + 4 + m) r.x)) := by
  have hwP : ∀ i : Int, 0 ≤ i → i ≤ 4 → IntKind.i64.wrap ((r.P : Int) + i) = (r.P : Int) + i := fun i h1 h2 => by rw [IntKind.wrap_i64]; omega
  have hwa1 := hwP 1 (by omega) (by omega)
  have hwa2 := hwP 2 (by omega) (by omega)
  have hwa3 := hwP 3 (by omega) (by omega)
  clear hwP
  have CS : Hid (∀ W, Calls Try.prog 83 #[.agg #[.int .i64 r.kd, .int .i64 (r.P : Int), .int .i64 (r.D : Int), .int .i64 2, .int .i64 r.t, .int .i64 r.x, .int .i64 r.tn, .int .i64 r.h, .bool r.got, .bool r.full], .int .i64 r.t] W fun e w' => e = .returned (.int .i64 ((r.P + 4 + m : Nat) : Int)) ∧ Below W.heap.size W w') := Lib.hid fun W => rslot_of { r with at_ := 2 } r.t m W hP2 hD2 hD h0 hm hmD
  obtain ⟨sl, hsl⟩ : ∃ sl, r.P + 4 + m = sl := ⟨_, rfl⟩
  rw [hsl] at CS hin ⊢
  clear hsl hm
  have HV := Lib.hid (view_of_own ho)
  have C : Hid (∀ W, Below w.heap.size w W → Calls Try.prog 82 #[.slice ad n cp, .int .i64 (sl : Int), .int .i64 r.x] W fun e w' => ∃ g cp', e = .returned (.slice (some ⟨g, 0, none⟩) n cp') ∧ Hid (OI w' B (.slice (some ⟨g, 0, none⟩) n cp') (xs.set sl r.x) ∧ Below W.heap.size W w' ∧ W.heap.size ≤ g)) := Lib.hid fun W hb => by
    exact (rwith_of _ xs sl n r.x W (HV.out.below hb) hl hin hn).mono fun e w' ⟨g, cp', h1, h2, h3, h4⟩ => ⟨g, cp', h1, Lib.hid ⟨OI.mono h2 (Nat.le_trans hB hb.size), h3, h4⟩⟩
  clear ho
  unfold Rk.cs
  rw [ha]
  go_enter Try.func54, Try.ntmps54
  go_wp2_with fail
  obtain ⟨W, hW⟩ : ∃ W, (w.alloc (.cells #[.int .i64 r.kd, .int .i64 (r.P : Int), .int .i64 (r.D : Int), .int .i64 (2), .int .i64 r.t, .int .i64 r.x, .int .i64 r.tn, .int .i64 r.h, .bool r.got, .bool r.full] 37)).alloc (.cells #[.int .i64 0, .int .i64 0, .int .i64 0, .int .i64 0, .int .i64 0, .int .i64 0, .int .i64 0, .int .i64 0, .bool false, .bool false] 37) = W := ⟨_, rfl⟩
  obtain ⟨hA, hR, hbW⟩ := two_boxes hW
  rw [hW]
  obtain ⟨p0, p1, p2, p3, p4, p5, p6, p7, p8, p9⟩ := ten hA
  obtain ⟨N, hN⟩ : ∃ N, w.heap.size = N := ⟨_, rfl⟩
  obtain ⟨M, hM⟩ : ∃ M, w.heap.size + 1 = M := ⟨_, rfl⟩
  rw [hM] at hR
  rw [hN] at p0 p1 p2 p3 p4 p5 p6 p7 p8 p9
  have HR := Lib.hid hR
  rw [hN] at hA
  have HA := Lib.hid hA
  have HBW := Lib.hid hbW
  have HM := Lib.hid hM
  have HN := Lib.hid hN
  rw [hM, hN]
  have C2 : Hid (∀ W', Below W.heap.size W W' → Calls Try.prog 82 #[.slice ad n cp, .int .i64 (sl : Int), .int .i64 r.x] W' fun e w' => ∃ g cp', e = .returned (.slice (some ⟨g, 0, none⟩) n cp') ∧ Hid (OI w' B (.slice (some ⟨g, 0, none⟩) n cp') (xs.set sl r.x) ∧ Below W.heap.size W w' ∧ W.heap.size ≤ g)) := Lib.hid fun W' hb => (C.out W' (HBW.out.trans (hb.mono HBW.out.size))).mono fun e w' ⟨g, cp', h1, h2⟩ => ⟨g, cp', h1, Lib.hid ⟨h2.out.1, hb.trans (h2.out.2.1.mono hb.size), Nat.le_trans hb.size h2.out.2.2⟩⟩
  clear C hW hA hR hbW HV hM hN
  have CS2 : Hid (∀ W', Below W.heap.size W W' → Calls Try.prog 83 #[.agg #[.int .i64 r.kd, .int .i64 (r.P : Int), .int .i64 (r.D : Int), .int .i64 2, .int .i64 r.t, .int .i64 r.x, .int .i64 r.tn, .int .i64 r.h, .bool r.got, .bool r.full], .int .i64 r.t] W' fun e w' => e = .returned (.int .i64 (sl : Int)) ∧ Below W.heap.size W w') := Lib.hid fun W' hb => (CS.out W').mono fun e w' h => ⟨h.1, hb.trans (h.2.mono hb.size)⟩
  clear CS
  have hNM : N ≠ M := by have := HM.out; have := HN.out; omega
  have hdr : W.drew.cell? ⟨N, 0, none⟩ = some (.int .i64 r.kd) ∧ W.drew.cell? ⟨N, 1, none⟩ = some (.int .i64 (r.P : Int)) ∧ W.drew.cell? ⟨N, 2, none⟩ = some (.int .i64 (r.D : Int)) ∧ W.drew.cell? ⟨N, 3, none⟩ = some (.int .i64 2) ∧ W.drew.cell? ⟨N, 4, none⟩ = some (.int .i64 r.t) ∧ W.drew.cell? ⟨N, 5, none⟩ = some (.int .i64 r.x) ∧ W.drew.cell? ⟨N, 6, none⟩ = some (.int .i64 r.tn) ∧ W.drew.cell? ⟨N, 7, none⟩ = some (.int .i64 r.h) ∧ W.drew.cell? ⟨N, 8, none⟩ = some (.bool r.got) ∧ W.drew.cell? ⟨N, 9, none⟩ = some (.bool r.full) := ⟨p0, p1, p2, p3, p4, p5, p6, p7, p8, p9⟩
  go_region_held3 (fun w' => w'.cell? ⟨N, 0, none⟩ = some (.int .i64 r.kd) ∧ w'.cell? ⟨N, 1, none⟩ = some (.int .i64 (r.P : Int)) ∧ w'.cell? ⟨N, 2, none⟩ = some (.int .i64 (r.D : Int)) ∧ w'.cell? ⟨N, 3, none⟩ = some (.int .i64 2) ∧ w'.cell? ⟨N, 4, none⟩ = some (.int .i64 r.t) ∧ w'.cell? ⟨N, 5, none⟩ = some (.int .i64 r.x) ∧ w'.cell? ⟨N, 6, none⟩ = some (.int .i64 r.tn) ∧ w'.cell? ⟨N, 7, none⟩ = some (.int .i64 r.h) ∧ w'.cell? ⟨N, 8, none⟩ = some (.bool r.got) ∧ w'.cell? ⟨N, 9, none⟩ = some (.bool r.full)) (first | (with_reducible assumption) | (with_reducible exact hcs2) | (with_reducible exact hcs) | (with_reducible exact ⟨p0, p1, p2, p3, p4, p5, p6, p7, p8, p9⟩) | (with_reducible exact ten_put hcs2 hNM))
    (first
      | (go_at_call 83; (with_reducible refine (CS2.out _ ?_).mono ?_); (focus go_grown); rintro e w8 ⟨rfl, hb8⟩; have hcs := ten (zdrew HA.out hb8))
      | (go_at_call 82; (with_reducible refine (C2.out _ ?_).mono ?_); (focus (first | exact hb8 | go_grown)); rintro e w9 ⟨g9, c9, rfl, H9⟩; obtain ⟨⟨z0, z1, z2, z3, z4, z5, z6, z7, z8, z9⟩, zf, zl⟩ := zbox HR.out H9.out.2.1; have hcs2 := ten (zdrew HA.out H9.out.2.1); have y0 := zf 0; have y1 := zf 1; have y2 := zf 2; have y3 := zf 3; have y4 := zf 4; have y5 := zf 5; have y6 := zf 6; have y7 := zf 7; have y8 := zf 8; have y9 := zf 9; clear zf))
  all_goals
    clear y0 y1 y2 y3 y4 y5 y6 y7 y8 y9 z0 z1 z2 z3 z4 z5 z6 z7 z8 z9 p0 p1 p2 p3 p4 p5 p6 p7 p8 p9 C2 CS2 hdr
    go_wp2_with fail
    obtain ⟨g1, g2, g3⟩ := put10_at (.int .i64 r.kd) (.int .i64 (r.P : Int)) (.int .i64 (r.D : Int)) (.int .i64 (2)) (.int .i64 r.t) (.int .i64 r.x) (.int .i64 r.tn) (.int .i64 r.h) (.bool r.got) (.bool r.full) (zdrew HR.out H9.out.2.1)
    have hMW := lt_of_heap HR.out
    have hg9 : g9 ≠ M := by have := H9.out.2.2; omega
    have hO := OI.other H9.out.1 (g2 g9 hg9)
    have hbF := HBW.out.trans ((H9.out.2.1.mono HBW.out.size).trans (g3 w.heap.size (by have := HM.out; omega)))
    obtain ⟨wF, hwF⟩ : ∃ wF, put10 w9 M (.int .i64 r.kd) (.int .i64 (r.P : Int)) (.int .i64 (r.D : Int)) (.int .i64 (2)) (.int .i64 r.t) (.int .i64 r.x) (.int .i64 r.tn) (.int .i64 r.h) (.bool r.got) (.bool r.full) = wF := ⟨_, rfl⟩
    rw [hwF] at g1 hO hbF
    unfold put10 at hwF
    rw [hwF]
    obtain ⟨p0, p1, p2, p3, p4, p5, p6, p7, p8, p9⟩ := ten g1
    refine bodyPost_ret (v := .tuple #[.agg ({ r with at_ := 2 } : Rk).cs, .slice (some ⟨g9, 0, none⟩) n c9]) ?_ rfl ⟨_, c9, rfl, hO, hbF⟩
    simp [results, Try.results54, go_sem, Rk.cs, p0, p1, p2, p3, p4, p5, p6, p7, p8, p9]
theorem push1_of : Push1 := fun r B n ad cp xs m w hl hB hn ha hP hD2 hD h0 hm hmD hin ho => rpush1 r B n ad cp xs m w hl hB hn ha hP hD2 hD h0 hm hmD hin ho
end Go.Proofs.Ytegbifphekhgkaa
