/- Where each word is: the law LayoutTells answers true. No condition. -/
import Derived.Test.YtfigabjcmpakeaaEight
import Derived.Test.YtfigabjcmpakeaaLay11
import Derived.Deep.RegionHeld3
import Derived.Deep.DrawnRows
import Derived.Deep.Cut
import Derived.Outline
namespace Go.Proofs.Ytfigabjcmpakeaa.layoutTells
open Go.ChangeShapes Go.WideShapes Go.ChangeAt Go.RowKit
attribute [local go_sem ↓] Go.wp_at_zero Go.wp_at_succ
set_option linter.unusedVariables false
set_option linter.unusedSimpArgs false
theorem keep6 {w0 W W' : World} {P B : Nat} {v v0 v1 v2 v3 : Value} {xs : List T3} (h : Below w0.heap.size w0 W ∧ W.cell? ⟨P, 0, none⟩ = some v0 ∧ W.cell? ⟨P, 1, none⟩ = some v1 ∧ W.cell? ⟨P, 2, none⟩ = some v2 ∧ W.cell? ⟨P, 3, none⟩ = some v3 ∧ W.ownsRow B 84 3 v xs.length (trips xs)) (hb : Below W.heap.size W W') :
    Below w0.heap.size w0 W' ∧ W'.cell? ⟨P, 0, none⟩ = some v0 ∧ W'.cell? ⟨P, 1, none⟩ = some v1 ∧ W'.cell? ⟨P, 2, none⟩ = some v2 ∧ W'.cell? ⟨P, 3, none⟩ = some v3 ∧ W'.ownsRow B 84 3 v xs.length (trips xs) :=
  ⟨Below.tr h.1 hb, keepc h.2.1 hb, keepc h.2.2.1 hb, keepc h.2.2.2.1 hb, keepc h.2.2.2.2.1 hb, row_keptT h.2.2.2.2.2 fun k e => hb.block k (h.2.2.2.2.2.lt k e).2⟩
theorem row6 {w0 W : World} {P B : Nat} {v v0 v1 v2 v3 : Value} {xs : List T3} (h : Below w0.heap.size w0 W ∧ W.cell? ⟨P, 0, none⟩ = some v0 ∧ W.cell? ⟨P, 1, none⟩ = some v1 ∧ W.cell? ⟨P, 2, none⟩ = some v2 ∧ W.cell? ⟨P, 3, none⟩ = some v3 ∧ W.ownsRow B 84 3 v xs.length (trips xs)) : W.ownsRow B 84 3 v xs.length (trips xs) := h.2.2.2.2.2
theorem form6 {W : World} {B n : Nat} {v : Value} {xs : List Value} (h : W.ownsRow B 84 3 v n xs) : ∃ o cap, v = .slice o n cap := by
  obtain ⟨_, ⟨rfl, h0⟩ | ⟨q, cap, cur, rfl, _⟩⟩ := h
  · exact ⟨none, 0, by rw [h0]⟩
  · exact ⟨_, _, rfl⟩
set_option maxRecDepth 20000 in
set_option maxHeartbeats 4000000 in
theorem good (a b c d : Nat) (wk n id it : Int) (w : World) (hO : Hid (Okay a b c d)) :
    Calls Try.prog 11 #[.agg #[.int .i64 a, .int .i64 b, .int .i64 c, .int .i64 d], .int .i64 wk, .int .i64 n, .int .i64 id, .int .i64 it] w fun e w' => e = .returned (.bool true) ∧ Below w.heap.size w w' := by
  obtain ⟨k, f, q, i, n1, i1, z0, z1, z2, z3, z4, z5, z6, z7, E⟩ := eight a b c d wk n id it hO
  have L8 : Hid (∀ w : World, Calls Try.prog 46 #[.agg #[.int .i64 a, .int .i64 b, .int .i64 c, .int .i64 d]] w fun e w' => e = .returned (.int .i64 ((words a b c d).length : Int)) ∧ Below w.heap.size w w') := Lib.hid (fun w => by
    have h := size_of a b c d ((a * (4 + d) : Nat) : Int) ((b * (2 + (c + 1) * 4) : Nat) : Int) w hO (Lib.hid (by push_cast; rfl)) (Lib.hid (by push_cast; rfl))
    rw [words_len]
    simpa using h)
  have L9 : Hid (∀ w : World, Calls Try.prog 47 #[.agg #[.int .i64 a, .int .i64 b, .int .i64 c, .int .i64 d]] w fun e w' => e = .returned (.int .i64 (2 + 4 * ((c : Int) + 1))) ∧ Below w.heap.size w w') := Lib.hid (fun w => room_of a b c d _ w hO (Lib.hid (by omega)))
  have LC : Hid (∀ w : World, Calls Try.prog 45 #[.agg #[.int .i64 a, .int .i64 b, .int .i64 c, .int .i64 d]] w fun e w' => e = .returned (.int .i64 0) ∧ Below w.heap.size w w') := Lib.hid (fun w => check_ok a b c d w hO)
  obtain ⟨a0, a1, b0, b1, c0, c1, d0, d1⟩ := hO.out
  have H1 := Lib.hid E.H1
  have H2 := Lib.hid E.H2
  have H3 := Lib.hid E.H3
  have H4 := Lib.hid E.H4
  have L0 := Lib.hid E.L0
  have L1 := Lib.hid E.L1
  have L2 := Lib.hid E.L2
  have L3 := Lib.hid E.L3
  have L4 := Lib.hid E.L4
  have L5 := Lib.hid E.L5
  have L6 := Lib.hid E.L6
  have L7 := Lib.hid E.L7
  have A0 := Lib.hid E.A0
  have A1 := Lib.hid E.A1
  have A2 := Lib.hid E.A2
  have A3 := Lib.hid E.A3
  have A4 := Lib.hid E.A4
  have A5 := Lib.hid E.A5
  have A6 := Lib.hid E.A6
  have A7 := Lib.hid E.A7
  have q1 := E.q1
  have q2 := E.q2
  have n0 := E.n0
  have i0 := E.i0
  clear E
  have hd0 : ((d : Int) == 0) = false := by simp; omega
  have hd1 : ¬ (d : Int) = 0 := by omega
  have hd4 : ¬ d = 0 := by omega
  have hd5 : (d == 0) = false := by simp; omega
  have hd2 : (((c : Int) + 1) == 0) = false := by simp; omega
  have hd3 : ¬ (c : Int) + 1 = 0 := by omega
  have hs1 : IntKind.i64.wrap ((a : Int) - 1) = (a : Int) - 1 := by rw [IntKind.wrap_i64]; omega
  have hs2 : IntKind.i64.wrap ((c : Int) + 1) = (c : Int) + 1 := by rw [IntKind.wrap_i64]; omega
  have hs3 : IntKind.i64.wrap (4 * ((c : Int) + 1)) = 4 * ((c : Int) + 1) := by rw [IntKind.wrap_i64]; omega
  have hs4 : IntKind.i64.wrap (2 + 4 * ((c : Int) + 1)) = 2 + 4 * ((c : Int) + 1) := by rw [IntKind.wrap_i64]; omega
  go_enter Try.func11, Try.ntmps11
  go_wp2_with fail
  refine (works11 _).mono ?_
  rintro e wx ⟨rfl, hb1⟩
  obtain ⟨p0, p1, p2, p3, hbW⟩ := recv4 hb1
  clear hb1
  obtain ⟨P, hP⟩ : ∃ P, P = w.heap.size := ⟨_, rfl⟩
  rw [← hP] at p0 p1 p2 p3 ⊢
  clear hP
  go_wp2_with fail
  refine (right_yes a b c d _ hO).mono ?_
  rintro e w0 ⟨rfl, hb2⟩
  obtain ⟨r0, r1, r2, r3, hb3⟩ := recv4 hb2
  clear hb2
  replace p0 := keepc p0 hb3
  replace p1 := keepc p1 hb3
  replace p2 := keepc p2 hb3
  replace p3 := keepc p3 hb3
  replace hbW := Below.tr hbW hb3
  clear hb3
  go_wp2_with fail
  refine (words_of a b c d _ hO).mono ?_
  rintro e wl ⟨vl, rfl, hv, hb4, hB4⟩
  replace p0 := keepc p0 hb4
  replace p1 := keepc p1 hb4
  replace p2 := keepc p2 hb4
  replace p3 := keepc p3 hb4
  replace hbW := Below.tr hbW hb4
  clear r0 r1 r2 r3 hb4 hB4
  generalize w0.heap.size + 1 = B at hv
  obtain ⟨o, cap, rfl⟩ := form6 hv
  go_wp2_with fail
  go_region_held3 (fun w' => Below w.heap.size w w' ∧ w'.cell? ⟨P, 0, none⟩ = some (.int .i64 (a : Int)) ∧ w'.cell? ⟨P, 1, none⟩ = some (.int .i64 (b : Int)) ∧ w'.cell? ⟨P, 2, none⟩ = some (.int .i64 (c : Int)) ∧ w'.cell? ⟨P, 3, none⟩ = some (.int .i64 (d : Int)) ∧ w'.ownsRow B 84 3 (.slice o (words a b c d).length cap) (words a b c d).length (trips (words a b c d))) (first | (with_reducible assumption) | exact ⟨hbW, p0, p1, p2, p3, hv⟩ | (refine keep6 ⟨hbW, p0, p1, p2, p3, hv⟩ ?_; go_grown; done) | (refine keep6 (by with_reducible assumption) ?_; first | (with_reducible assumption) | (go_grown; done)))
    (first | (go_at_call 57; with_reducible refine (H1.out _).mono ?_; rintro e w' ⟨rfl, rfl⟩) | (go_at_call 57; with_reducible refine (H2.out _).mono ?_; rintro e w' ⟨rfl, rfl⟩))
  go_wp2_with fail
  go_region_held3 (fun w' => Below w.heap.size w w' ∧ w'.cell? ⟨P, 0, none⟩ = some (.int .i64 (a : Int)) ∧ w'.cell? ⟨P, 1, none⟩ = some (.int .i64 (b : Int)) ∧ w'.cell? ⟨P, 2, none⟩ = some (.int .i64 (c : Int)) ∧ w'.cell? ⟨P, 3, none⟩ = some (.int .i64 (d : Int)) ∧ w'.ownsRow B 84 3 (.slice o (words a b c d).length cap) (words a b c d).length (trips (words a b c d))) (first | (with_reducible assumption) | exact ⟨hbW, p0, p1, p2, p3, hv⟩ | (refine keep6 ⟨hbW, p0, p1, p2, p3, hv⟩ ?_; go_grown; done) | (refine keep6 (by with_reducible assumption) ?_; first | (with_reducible assumption) | (go_grown; done)))
    (first | (go_at_call 57; with_reducible refine (H3.out _).mono ?_; rintro e w' ⟨rfl, rfl⟩) | (go_at_call 57; with_reducible refine (H4.out _).mono ?_; rintro e w' ⟨rfl, rfl⟩))
  go_wp2_with fail
  go_region_held3 (fun w' => Below w.heap.size w w' ∧ w'.cell? ⟨P, 0, none⟩ = some (.int .i64 (a : Int)) ∧ w'.cell? ⟨P, 1, none⟩ = some (.int .i64 (b : Int)) ∧ w'.cell? ⟨P, 2, none⟩ = some (.int .i64 (c : Int)) ∧ w'.cell? ⟨P, 3, none⟩ = some (.int .i64 (d : Int)) ∧ w'.ownsRow B 84 3 (.slice o (words a b c d).length cap) (words a b c d).length (trips (words a b c d))) (first | (with_reducible assumption) | exact ⟨hbW, p0, p1, p2, p3, hv⟩ | (refine keep6 ⟨hbW, p0, p1, p2, p3, hv⟩ ?_; go_grown; done) | (refine keep6 (by with_reducible assumption) ?_; first | (with_reducible assumption) | (go_grown; done)))
    (first | (go_at_call 45; refine (LC.out _).mono ?_; rintro e wc ⟨rfl, hn1⟩) | (go_at_call 46; refine (L8.out _).mono ?_; rintro e wd ⟨rfl, hn2⟩) | (go_at_call 47; refine (L9.out _).mono ?_; rintro e we ⟨rfl, hn3⟩) | (go_at_call 48; refine (L0.out _).mono ?_; rintro e wf ⟨rfl, hn4⟩) | (go_at_call 58; refine (A0.out B _ _ (row6 (by with_reducible assumption))).mono ?_; rintro e wz ⟨rfl, hn5⟩))
  have K : Below w.heap.size w wz ∧ wz.cell? ⟨P, 0, none⟩ = some (.int .i64 (a : Int)) ∧ wz.cell? ⟨P, 1, none⟩ = some (.int .i64 (b : Int)) ∧ wz.cell? ⟨P, 2, none⟩ = some (.int .i64 (c : Int)) ∧ wz.cell? ⟨P, 3, none⟩ = some (.int .i64 (d : Int)) ∧ wz.ownsRow B 84 3 (.slice o (words a b c d).length cap) (words a b c d).length (trips (words a b c d)) := by with_reducible assumption
  clear hn1 hn2 hn3 hn4 hn5 hv
  replace p0 := K.2.1
  replace p1 := K.2.2.1
  replace p2 := K.2.2.2.1
  replace p3 := K.2.2.2.2.1
  go_wp2_with fail
  refine (L1.out _).mono ?_
  rintro e wL1 ⟨rfl, hn⟩
  replace K := keep6 K hn
  clear hn
  replace p0 := K.2.1
  replace p1 := K.2.2.1
  replace p2 := K.2.2.2.1
  replace p3 := K.2.2.2.2.1
  go_wp2_with fail
  refine (A1.out B _ _ (row6 K)).mono ?_
  rintro e wA1 ⟨rfl, hn⟩
  replace K := keep6 K hn
  clear hn
  replace p0 := K.2.1
  replace p1 := K.2.2.1
  replace p2 := K.2.2.2.1
  replace p3 := K.2.2.2.2.1
  go_wp2_with fail
  refine (L2.out _).mono ?_
  rintro e wL2 ⟨rfl, hn⟩
  replace K := keep6 K hn
  clear hn
  replace p0 := K.2.1
  replace p1 := K.2.2.1
  replace p2 := K.2.2.2.1
  replace p3 := K.2.2.2.2.1
  go_wp2_with fail
  refine (A2.out B _ _ (row6 K)).mono ?_
  rintro e wA2 ⟨rfl, hn⟩
  replace K := keep6 K hn
  clear hn
  replace p0 := K.2.1
  replace p1 := K.2.2.1
  replace p2 := K.2.2.2.1
  replace p3 := K.2.2.2.2.1
  go_wp2_with fail
  refine (L3.out _).mono ?_
  rintro e wL3 ⟨rfl, hn⟩
  replace K := keep6 K hn
  clear hn
  replace p0 := K.2.1
  replace p1 := K.2.2.1
  replace p2 := K.2.2.2.1
  replace p3 := K.2.2.2.2.1
  go_wp2_with fail
  refine (A3.out B _ _ (row6 K)).mono ?_
  rintro e wA3 ⟨rfl, hn⟩
  replace K := keep6 K hn
  clear hn
  replace p0 := K.2.1
  replace p1 := K.2.2.1
  replace p2 := K.2.2.2.1
  replace p3 := K.2.2.2.2.1
  go_wp2_with fail
  refine (L4.out _).mono ?_
  rintro e wL4 ⟨rfl, hn⟩
  replace K := keep6 K hn
  clear hn
  replace p0 := K.2.1
  replace p1 := K.2.2.1
  replace p2 := K.2.2.2.1
  replace p3 := K.2.2.2.2.1
  go_wp2_with fail
  refine (A4.out B _ _ (row6 K)).mono ?_
  rintro e wA4 ⟨rfl, hn⟩
  replace K := keep6 K hn
  clear hn
  replace p0 := K.2.1
  replace p1 := K.2.2.1
  replace p2 := K.2.2.2.1
  replace p3 := K.2.2.2.2.1
  go_wp2_with fail
  refine (L5.out _).mono ?_
  rintro e wL5 ⟨rfl, hn⟩
  replace K := keep6 K hn
  clear hn
  replace p0 := K.2.1
  replace p1 := K.2.2.1
  replace p2 := K.2.2.2.1
  replace p3 := K.2.2.2.2.1
  go_wp2_with fail
  refine (A5.out B _ _ (row6 K)).mono ?_
  rintro e wA5 ⟨rfl, hn⟩
  replace K := keep6 K hn
  clear hn
  replace p0 := K.2.1
  replace p1 := K.2.2.1
  replace p2 := K.2.2.2.1
  replace p3 := K.2.2.2.2.1
  go_wp2_with fail
  refine (L6.out _).mono ?_
  rintro e wL6 ⟨rfl, hn⟩
  replace K := keep6 K hn
  clear hn
  replace p0 := K.2.1
  replace p1 := K.2.2.1
  replace p2 := K.2.2.2.1
  replace p3 := K.2.2.2.2.1
  go_wp2_with fail
  refine (A6.out B _ _ (row6 K)).mono ?_
  rintro e wA6 ⟨rfl, hn⟩
  replace K := keep6 K hn
  clear hn
  replace p0 := K.2.1
  replace p1 := K.2.2.1
  replace p2 := K.2.2.2.1
  replace p3 := K.2.2.2.2.1
  go_wp2_with fail
  refine (L7.out _).mono ?_
  rintro e wL7 ⟨rfl, hn⟩
  replace K := keep6 K hn
  clear hn
  replace p0 := K.2.1
  replace p1 := K.2.2.1
  replace p2 := K.2.2.2.1
  replace p3 := K.2.2.2.2.1
  go_wp2_with fail
  refine (A7.out B _ _ (row6 K)).mono ?_
  rintro e wA7 ⟨rfl, hn⟩
  replace K := keep6 K hn
  clear hn
  replace p0 := K.2.1
  replace p1 := K.2.2.1
  replace p2 := K.2.2.2.1
  replace p3 := K.2.2.2.2.1
  go_wp2_with fail
  go_ret
  exact ⟨by simp, K.1⟩
end Go.Proofs.Ytfigabjcmpakeaa.layoutTells
