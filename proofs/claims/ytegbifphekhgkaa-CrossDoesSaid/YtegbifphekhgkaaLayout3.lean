/- The words of frames and slots, and how many there are (layer 11), for plans that may be. -/
import Derived.Test.YtegbifphekhgkaaLayout2
namespace Go.Proofs.Ytegbifphekhgkaa
open Go.ChangeShapes Go.WideShapes Go.ChangeAt Go.RowKit
set_option linter.unusedVariables false
set_option linter.unusedSimpArgs false
theorem word_of (a b c d id iter k F q : Int) (w : World) (hO : Hid (Okay a b c d)) (h1 : 1 ≤ id) (h2 : id ≤ b) (hF : Hid (a * (4 + d) + (id - 1) * (2 + (c + 1) * 4) = F)) (hn : 0 ≤ iter) (hq : Hid (iter.tmod (c + 1) = q)) (k0 : 0 ≤ k) (k1 : k ≤ 3) :
    Calls Try.prog 94 #[.agg #[.int .i64 a, .int .i64 b, .int .i64 c, .int .i64 d], .int .i64 id, .int .i64 iter, .int .i64 k] w fun e w' => e = .returned (.int .i64 (F + 2 + q * 4 + k)) ∧ Below w.heap.size w w' := by
  obtain ⟨f0, f1⟩ := frame_bd hO.out h1 h2 hF.out
  have hq' := hq.out
  have cc : 1 ≤ c ∧ c ≤ 64 := ⟨hO.out.2.2.2.2.1, hO.out.2.2.2.2.2.1⟩
  have q0 : 0 ≤ q := by rw [← hq']; exact Int.tmod_nonneg _ hn
  have q1 : q < c + 1 := by rw [← hq']; exact Int.tmod_lt_of_pos _ (by omega)
  have hd0 : (c + 1 == 0) = false := by simp; omega
  have hd1 : ¬ c + 1 = 0 := by omega
  have hs1 : IntKind.i64.wrap (F + 2) = F + 2 := by rw [IntKind.wrap_i64]; omega
  have hs2 : IntKind.i64.wrap (q * 4) = q * 4 := by rw [IntKind.wrap_i64]; omega
  have hs3 : IntKind.i64.wrap (F + 2 + q * 4) = F + 2 + q * 4 := by rw [IntKind.wrap_i64]; omega
  have hs4 : IntKind.i64.wrap (F + 2 + q * 4 + k) = F + 2 + q * 4 + k := by rw [IntKind.wrap_i64]; omega
  go_enter Try.func94, Try.ntmps94
  go_wp2_with fail
  refine (check_ok a b c d _ hO).mono ?_
  rintro e w1 ⟨rfl, hb1⟩
  obtain ⟨c0, c1, c2, c3, hb⟩ := recv4 hb1
  clear hb1
  go_wp2_with fail
  go_region_held3 (fun w' => Below w.heap.size w w' ∧ w'.cell? ⟨w.heap.size, 0, none⟩ = some (.int .i64 a) ∧ w'.cell? ⟨w.heap.size, 1, none⟩ = some (.int .i64 b) ∧ w'.cell? ⟨w.heap.size, 2, none⟩ = some (.int .i64 c) ∧ w'.cell? ⟨w.heap.size, 3, none⟩ = some (.int .i64 d)) (first | assumption | exact ⟨hb, c0, c1, c2, c3⟩ | (refine ⟨Below.tr hb ?_, c0, c1, c2, c3⟩; go_grown; done) | (refine keep4 ⟨hb, c0, c1, c2, c3⟩ ?_; go_grown; done) | (refine keep4 (by assumption) ?_; first | assumption | (go_grown; done)))
    (first | (go_at_call 108; refine (frame_of a b c d id F _ hO h1 h2 hF).mono ?_; rintro e w' ⟨rfl, hb'⟩) | (go_at_call 74; refine (slots_of a b c d _ hO).mono ?_; rintro e w'' ⟨rfl, rfl⟩))
  all_goals
    go_wp2_with fail
    go_ret
    exact ⟨by simp [*], And.left (by assumption)⟩
theorem counter_of (a b c d id iter F q : Int) (w : World) (hO : Hid (Okay a b c d)) (h1 : 1 ≤ id) (h2 : id ≤ b) (hF : Hid (a * (4 + d) + (id - 1) * (2 + (c + 1) * 4) = F)) (hn : 0 ≤ iter) (hq : Hid (iter.tmod (c + 1) = q)) :
    Calls Try.prog 84 #[.agg #[.int .i64 a, .int .i64 b, .int .i64 c, .int .i64 d], .int .i64 id, .int .i64 iter] w fun e w' => e = .returned (.int .i64 (F + 2 + q * 4 + 0)) ∧ Below w.heap.size w w' := by
  go_enter Try.func84, Try.ntmps84
  go_wp2_with fail
  refine (word_of a b c d id iter 0 F q _ hO h1 h2 hF hn hq (by decide) (by decide)).mono ?_
  rintro e w1 ⟨rfl, hb1⟩
  obtain ⟨c0, c1, c2, c3, hb⟩ := recv4 hb1
  clear hb1
  go_wp2_with fail
  go_ret
  exact ⟨by simp, hb⟩
theorem status_of (a b c d id iter F q : Int) (w : World) (hO : Hid (Okay a b c d)) (h1 : 1 ≤ id) (h2 : id ≤ b) (hF : Hid (a * (4 + d) + (id - 1) * (2 + (c + 1) * 4) = F)) (hn : 0 ≤ iter) (hq : Hid (iter.tmod (c + 1) = q)) :
    Calls Try.prog 92 #[.agg #[.int .i64 a, .int .i64 b, .int .i64 c, .int .i64 d], .int .i64 id, .int .i64 iter] w fun e w' => e = .returned (.int .i64 (F + 2 + q * 4 + 1)) ∧ Below w.heap.size w w' := by
  go_enter Try.func92, Try.ntmps92
  go_wp2_with fail
  refine (word_of a b c d id iter 1 F q _ hO h1 h2 hF hn hq (by decide) (by decide)).mono ?_
  rintro e w1 ⟨rfl, hb1⟩
  obtain ⟨c0, c1, c2, c3, hb⟩ := recv4 hb1
  clear hb1
  go_wp2_with fail
  go_ret
  exact ⟨by simp, hb⟩
theorem link_of (a b c d id iter F q : Int) (w : World) (hO : Hid (Okay a b c d)) (h1 : 1 ≤ id) (h2 : id ≤ b) (hF : Hid (a * (4 + d) + (id - 1) * (2 + (c + 1) * 4) = F)) (hn : 0 ≤ iter) (hq : Hid (iter.tmod (c + 1) = q)) :
    Calls Try.prog 71 #[.agg #[.int .i64 a, .int .i64 b, .int .i64 c, .int .i64 d], .int .i64 id, .int .i64 iter] w fun e w' => e = .returned (.int .i64 (F + 2 + q * 4 + 2)) ∧ Below w.heap.size w w' := by
  go_enter Try.func71, Try.ntmps71
  go_wp2_with fail
  refine (word_of a b c d id iter 2 F q _ hO h1 h2 hF hn hq (by decide) (by decide)).mono ?_
  rintro e w1 ⟨rfl, hb1⟩
  obtain ⟨c0, c1, c2, c3, hb⟩ := recv4 hb1
  clear hb1
  go_wp2_with fail
  go_ret
  exact ⟨by simp, hb⟩
theorem size_of (a b c d D R : Int) (w : World) (hO : Hid (Okay a b c d)) (hD : Hid (a * (4 + d) = D)) (hR : Hid (b * (2 + (c + 1) * 4) = R)) :
    Calls Try.prog 13 #[.agg #[.int .i64 a, .int .i64 b, .int .i64 c, .int .i64 d]] w fun e w' => e = .returned (.int .i64 (D + R)) ∧ Below w.heap.size w w' := by
  have hm : (0 ≤ a * (4 + d) ∧ a * (4 + d) ≤ 16640) ∧ 0 ≤ b * (2 + (c + 1) * 4) ∧ b * (2 + (c + 1) * 4) ≤ 67072 := by
    obtain ⟨a0, a1, b0, b1, c0, c1, d0, d1⟩ := hO.out
    exact ⟨mul_in (by omega) (by omega) (by omega) (by omega), mul_in2 (by omega) (by omega) (by omega) (by omega)⟩
  have hR' := hR.out
  have hD' := hD.out
  rw [hD', hR'] at hm
  generalize hr : 2 + (c + 1) * 4 = r at *
  have HR := Lib.hid hr
  clear hr
  obtain ⟨⟨m0, m1⟩, m2, m3⟩ := hm
  have hDD := deques_of a b c d
  rw [hD'] at hDD
  have hs1 : IntKind.i64.wrap R = R := by rw [IntKind.wrap_i64]; omega
  have hs2 : IntKind.i64.wrap (D + R) = D + R := by rw [IntKind.wrap_i64]; omega
  go_enter Try.func13, Try.ntmps13
  go_wp2_with fail
  refine (check_ok a b c d _ hO).mono ?_
  rintro e w1 ⟨rfl, hb1⟩
  obtain ⟨c0, c1, c2, c3, hb⟩ := recv4 hb1
  clear hb1
  go_wp2_with fail
  go_region_held3 (fun w' => Below w.heap.size w w' ∧ w'.cell? ⟨w.heap.size, 0, none⟩ = some (.int .i64 a) ∧ w'.cell? ⟨w.heap.size, 1, none⟩ = some (.int .i64 b) ∧ w'.cell? ⟨w.heap.size, 2, none⟩ = some (.int .i64 c) ∧ w'.cell? ⟨w.heap.size, 3, none⟩ = some (.int .i64 d)) (first | assumption | exact ⟨hb, c0, c1, c2, c3⟩ | (refine ⟨Below.tr hb ?_, c0, c1, c2, c3⟩; go_grown; done) | (refine keep4 ⟨hb, c0, c1, c2, c3⟩ ?_; go_grown; done) | (refine keep4 (by assumption) ?_; first | assumption | (go_grown; done)))
    (first | (go_at_call 47; refine (hDD _ hO).mono ?_; rintro e w' ⟨rfl, hb'⟩) | (go_at_call 48; refine (room_of a b c d r _ hO HR).mono ?_; rintro e w'' ⟨rfl, hb''⟩))
  all_goals
    go_wp2_with fail
    go_ret
    exact ⟨by simp [*], And.left (by assumption)⟩
end Go.Proofs.Ytegbifphekhgkaa
