/- The contracts of layer 11 (layout) for any worker, slot, frame and iteration, in range or not. -/
import Derived.Test.YtfigabjcmpakeaaLayout3
namespace Go.Proofs.Ytfigabjcmpakeaa
open Go.ChangeShapes Go.WideShapes Go.ChangeAt Go.RowKit
set_option linter.unusedVariables false
set_option linter.unusedSimpArgs false
theorem base_cl (a b c d wk mw k P : Int) (w : World) (hO : Hid (Okay a b c d)) (h1 : (if wk < 0 then (0 : Int) else wk) = mw) (g1 : (if a - 1 < mw then a - 1 else mw) = k) (hk : 0 ≤ k) (hk1 : k < a) (hP : Hid (k * (4 + d) = P)) :
    Calls Try.prog 48 #[.agg #[.int .i64 a, .int .i64 b, .int .i64 c, .int .i64 d], .int .i64 wk] w fun e w' => e = .returned (.int .i64 P) ∧ Below w.heap.size w w' := by
  have hm : 0 ≤ k * (4 + d) ∧ k * (4 + d) ≤ 16640 := by
    obtain ⟨a0, a1, b0, b1, c0, c1, d0, d1⟩ := hO.out
    exact mul_in (by omega) (by omega) (by omega) (by omega)
  obtain ⟨m0, m1⟩ := hm
  have hk2 : k ≤ a - 1 := by omega
  have hs1 : IntKind.i64.wrap (a - 1) = a - 1 := by rw [IntKind.wrap_i64]; have := hO.out.1; have := hO.out.2.1; omega
  have hw' : IntKind.i64.wrap (k * (4 + d)) = k * (4 + d) := by rw [IntKind.wrap_i64]; omega
  have hP' := hP.out
  have hs4 : IntKind.i64.wrap P = P := by rw [IntKind.wrap_i64]; omega
  obtain ⟨a0, a1, b0, b1, c0', c1', d0, d1⟩ := hO.out
  go_enter Try.func48, Try.ntmps48
  go_wp2_with fail
  refine (check_ok a b c d _ hO).mono ?_
  rintro e w1 ⟨rfl, hb1⟩
  obtain ⟨c0, c1, c2, c3, hb⟩ := recv4 hb1
  clear hb1
  go_wp2_with fail
  go_region_held3 (fun w' => Below w.heap.size w w' ∧ w'.cell? ⟨w.heap.size, 0, none⟩ = some (.int .i64 a) ∧ w'.cell? ⟨w.heap.size, 1, none⟩ = some (.int .i64 b) ∧ w'.cell? ⟨w.heap.size, 2, none⟩ = some (.int .i64 c) ∧ w'.cell? ⟨w.heap.size, 3, none⟩ = some (.int .i64 d)) (first | assumption | exact ⟨hb, c0, c1, c2, c3⟩ | (refine ⟨Below.tr hb ?_, c0, c1, c2, c3⟩; go_grown; done) | (refine keep4 ⟨hb, c0, c1, c2, c3⟩ ?_; go_grown; done) | (refine keep4 (by assumption) ?_; first | assumption | (go_grown; done)))
    (first | (go_at_call 68; refine (deque_of a b c d _ hO).mono ?_; rintro e w' ⟨rfl, rfl⟩))
  all_goals
    go_wp2_with fail
    go_ret
    exact ⟨by simp [*], And.left (by assumption)⟩
theorem slot_cl (a b c d wk mw k n0 n P q : Int) (w : World) (hO : Hid (Okay a b c d)) (h1 : (if wk < 0 then (0 : Int) else wk) = mw) (g1 : (if a - 1 < mw then a - 1 else mw) = k) (h2 : (if n0 < 0 then (0 : Int) else n0) = n) (hk : 0 ≤ k) (hk1 : k < a) (hP : Hid (k * (4 + d) = P)) (hn : 0 ≤ n) (hq : Hid (n.tmod d = q)) :
    Calls Try.prog 49 #[.agg #[.int .i64 a, .int .i64 b, .int .i64 c, .int .i64 d], .int .i64 wk, .int .i64 n0] w fun e w' => e = .returned (.int .i64 (P + 4 + q)) ∧ Below w.heap.size w w' := by
  have hm : 0 ≤ k * (4 + d) ∧ k * (4 + d) ≤ 16640 := by
    obtain ⟨a0, a1, b0, b1, c0, c1, d0, d1⟩ := hO.out
    exact mul_in (by omega) (by omega) (by omega) (by omega)
  rw [hP.out] at hm
  obtain ⟨m0, m1⟩ := hm
  have hq' := hq.out
  obtain ⟨a0, a1, b0, b1, c0', c1', d0, d1⟩ := hO.out
  have q0 : 0 ≤ q := by rw [← hq']; exact Int.tmod_nonneg _ hn
  have hd0 : (d == 0) = false := by simp; omega
  have hd1 : ¬ d = 0 := by omega
  have q1 : q < d := by rw [← hq']; exact Int.tmod_lt_of_pos _ (by omega)
  have hs2 : IntKind.i64.wrap (P + 4) = P + 4 := by rw [IntKind.wrap_i64]; omega
  have hs3 : IntKind.i64.wrap (P + 4 + q) = P + 4 + q := by rw [IntKind.wrap_i64]; omega
  go_enter Try.func49, Try.ntmps49
  go_wp2_with fail
  refine (check_ok a b c d _ hO).mono ?_
  rintro e w1 ⟨rfl, hb1⟩
  obtain ⟨c0, c1, c2, c3, hb⟩ := recv4 hb1
  clear hb1
  go_wp2_with fail
  go_region_held3 (fun w' => Below w.heap.size w w' ∧ w'.cell? ⟨w.heap.size, 0, none⟩ = some (.int .i64 a) ∧ w'.cell? ⟨w.heap.size, 1, none⟩ = some (.int .i64 b) ∧ w'.cell? ⟨w.heap.size, 2, none⟩ = some (.int .i64 c) ∧ w'.cell? ⟨w.heap.size, 3, none⟩ = some (.int .i64 d)) (first | assumption | exact ⟨hb, c0, c1, c2, c3⟩ | (refine ⟨Below.tr hb ?_, c0, c1, c2, c3⟩; go_grown; done) | (refine keep4 ⟨hb, c0, c1, c2, c3⟩ ?_; go_grown; done) | (refine keep4 (by assumption) ?_; first | assumption | (go_grown; done)))
    (first | (go_at_call 48; refine (base_cl a b c d wk mw k P _ hO h1 g1 hk hk1 hP).mono ?_; rintro e w' ⟨rfl, hb'⟩))
  all_goals
    go_wp2_with fail
    go_ret
    exact ⟨by simp [*], And.left (by assumption)⟩
theorem frame_cl (a b c d i0 mi id F : Int) (w : World) (hO : Hid (Okay a b c d)) (hh1 : (if i0 < 1 then (1 : Int) else i0) = mi) (g1 : (if b < mi then b else mi) = id) (h1 : 1 ≤ id) (h2 : id ≤ b) (hF : Hid (a * (4 + d) + (id - 1) * (2 + (c + 1) * 4) = F)) :
    Calls Try.prog 50 #[.agg #[.int .i64 a, .int .i64 b, .int .i64 c, .int .i64 d], .int .i64 i0] w fun e w' => e = .returned (.int .i64 F) ∧ Below w.heap.size w w' := by
  obtain ⟨f0, f1⟩ := frame_bd hO.out h1 h2 hF.out
  have hm : (0 ≤ a * (4 + d) ∧ a * (4 + d) ≤ 16640) ∧ 0 ≤ (id - 1) * (2 + (c + 1) * 4) ∧ (id - 1) * (2 + (c + 1) * 4) ≤ 67072 := by
    obtain ⟨a0, a1, b0, b1, c0, c1, d0, d1⟩ := hO.out
    exact ⟨mul_in (by omega) (by omega) (by omega) (by omega), mul_in2 (by omega) (by omega) (by omega) (by omega)⟩
  have hF' := hF.out
  generalize hr : 2 + (c + 1) * 4 = r at *
  have HR := Lib.hid hr
  clear hr
  obtain ⟨⟨m0, m1⟩, m2, m3⟩ := hm
  have hw' : IntKind.i64.wrap ((id - 1) * r) = (id - 1) * r := by rw [IntKind.wrap_i64]; omega
  have hD := deques_of a b c d
  generalize a * (4 + d) = D at *
  have hs1 : IntKind.i64.wrap (id - 1) = id - 1 := by rw [IntKind.wrap_i64]; have := hO.out.2.2.2.1; omega
  have hs2 : IntKind.i64.wrap (D + (id - 1) * r) = D + (id - 1) * r := by rw [IntKind.wrap_i64]; omega
  have hs3 : IntKind.i64.wrap F = F := by rw [IntKind.wrap_i64]; omega
  obtain ⟨a0, a1, b0, b1, c0', c1', d0, d1⟩ := hO.out
  go_enter Try.func50, Try.ntmps50
  go_wp2_with fail
  refine (check_ok a b c d _ hO).mono ?_
  rintro e w1 ⟨rfl, hb1⟩
  obtain ⟨c0, c1, c2, c3, hb⟩ := recv4 hb1
  clear hb1
  go_wp2_with fail
  go_region_held3 (fun w' => Below w.heap.size w w' ∧ w'.cell? ⟨w.heap.size, 0, none⟩ = some (.int .i64 a) ∧ w'.cell? ⟨w.heap.size, 1, none⟩ = some (.int .i64 b) ∧ w'.cell? ⟨w.heap.size, 2, none⟩ = some (.int .i64 c) ∧ w'.cell? ⟨w.heap.size, 3, none⟩ = some (.int .i64 d)) (first | assumption | exact ⟨hb, c0, c1, c2, c3⟩ | (refine ⟨Below.tr hb ?_, c0, c1, c2, c3⟩; go_grown; done) | (refine keep4 ⟨hb, c0, c1, c2, c3⟩ ?_; go_grown; done) | (refine keep4 (by assumption) ?_; first | assumption | (go_grown; done)))
    (first | (go_at_call 66; refine (hD _ hO).mono ?_; rintro e w' ⟨rfl, hb'⟩) | (go_at_call 47; refine (room_of a b c d r _ hO HR).mono ?_; rintro e w'' ⟨rfl, hb''⟩))
  all_goals
    go_wp2_with fail
    go_ret
    exact ⟨by simp [*], And.left (by assumption)⟩
theorem nap_cl (a b c d i0 mi id F : Int) (w : World) (hO : Hid (Okay a b c d)) (hh1 : (if i0 < 1 then (1 : Int) else i0) = mi) (g1 : (if b < mi then b else mi) = id) (h1 : 1 ≤ id) (h2 : id ≤ b) (hF : Hid (a * (4 + d) + (id - 1) * (2 + (c + 1) * 4) = F)) :
    Calls Try.prog 51 #[.agg #[.int .i64 a, .int .i64 b, .int .i64 c, .int .i64 d], .int .i64 i0] w fun e w' => e = .returned (.int .i64 (F + 1)) ∧ Below w.heap.size w w' := by
  obtain ⟨f0, f1⟩ := frame_bd hO.out h1 h2 hF.out
  have hs1 : IntKind.i64.wrap (F + 1) = F + 1 := by rw [IntKind.wrap_i64]; omega
  go_enter Try.func51, Try.ntmps51
  go_wp2_with fail
  refine (check_ok a b c d _ hO).mono ?_
  rintro e w1 ⟨rfl, hb1⟩
  obtain ⟨c0, c1, c2, c3, hb⟩ := recv4 hb1
  clear hb1
  go_wp2_with (first | (go_at_call 50; refine (frame_cl a b c d i0 mi id F _ hO hh1 g1 h1 h2 hF).mono ?_; rintro e w' ⟨rfl, hb'⟩))
  go_ret
  exact ⟨rfl, Below.tr hb hb'⟩
theorem word_cl (a b c d i0 mi id it iter k F q : Int) (w : World) (hO : Hid (Okay a b c d)) (hh1 : (if i0 < 1 then (1 : Int) else i0) = mi) (g1 : (if b < mi then b else mi) = id) (hh2 : (if it < 0 then (0 : Int) else it) = iter) (h1 : 1 ≤ id) (h2 : id ≤ b) (hF : Hid (a * (4 + d) + (id - 1) * (2 + (c + 1) * 4) = F)) (hn : 0 ≤ iter) (hq : Hid (iter.tmod (c + 1) = q)) (k0 : 0 ≤ k) (k1 : k ≤ 3) :
    Calls Try.prog 69 #[.agg #[.int .i64 a, .int .i64 b, .int .i64 c, .int .i64 d], .int .i64 i0, .int .i64 it, .int .i64 k] w fun e w' => e = .returned (.int .i64 (F + 2 + q * 4 + k)) ∧ Below w.heap.size w w' := by
  obtain ⟨f0, f1⟩ := frame_bd hO.out h1 h2 hF.out
  have hq' := hq.out
  have cc : 1 ≤ c ∧ c ≤ 64 := ⟨hO.out.2.2.2.2.1, hO.out.2.2.2.2.2.1⟩
  have q0 : 0 ≤ q := by rw [← hq']; exact Int.tmod_nonneg _ hn
  have q1 : q < c + 1 := by rw [← hq']; exact Int.tmod_lt_of_pos _ (by omega)
  have hd0 : (c + 1 == 0) = false := by simp; omega
  have hd1 : ¬ c + 1 = 0 := by omega
  have hs1 : IntKind.i64.wrap (F + 2) = F + 2 := by rw [IntKind.wrap_i64]; omega
  have hs2 : IntKind.i64.wrap (q * 4) = q * 4 := by rw [IntKind.wrap_i64]; omega
  have hs3 : IntKind.i64.wrap (F + 2 + q * 4) = F + 2 + q * 4 := by rw [IntKind.wrap_i64]; omega
  have hs4 : IntKind.i64.wrap (F + 2 + q * 4 + k) = F + 2 + q * 4 + k := by rw [IntKind.wrap_i64]; omega
  go_enter Try.func69, Try.ntmps69
  go_wp2_with fail
  refine (check_ok a b c d _ hO).mono ?_
  rintro e w1 ⟨rfl, hb1⟩
  obtain ⟨c0, c1, c2, c3, hb⟩ := recv4 hb1
  clear hb1
  go_wp2_with fail
  go_region_held3 (fun w' => Below w.heap.size w w' ∧ w'.cell? ⟨w.heap.size, 0, none⟩ = some (.int .i64 a) ∧ w'.cell? ⟨w.heap.size, 1, none⟩ = some (.int .i64 b) ∧ w'.cell? ⟨w.heap.size, 2, none⟩ = some (.int .i64 c) ∧ w'.cell? ⟨w.heap.size, 3, none⟩ = some (.int .i64 d)) (first | assumption | exact ⟨hb, c0, c1, c2, c3⟩ | (refine ⟨Below.tr hb ?_, c0, c1, c2, c3⟩; go_grown; done) | (refine keep4 ⟨hb, c0, c1, c2, c3⟩ ?_; go_grown; done) | (refine keep4 (by assumption) ?_; first | assumption | (go_grown; done)))
    (first | (go_at_call 50; refine (frame_cl a b c d i0 mi id F _ hO hh1 g1 h1 h2 hF).mono ?_; rintro e w' ⟨rfl, hb'⟩) | (go_at_call 67; refine (slots_of a b c d _ hO).mono ?_; rintro e w'' ⟨rfl, rfl⟩))
  all_goals
    go_wp2_with fail
    go_ret
    exact ⟨by simp [*], And.left (by assumption)⟩
theorem counter_cl (a b c d i0 mi id it iter F q : Int) (w : World) (hO : Hid (Okay a b c d)) (hh1 : (if i0 < 1 then (1 : Int) else i0) = mi) (g1 : (if b < mi then b else mi) = id) (hh2 : (if it < 0 then (0 : Int) else it) = iter) (h1 : 1 ≤ id) (h2 : id ≤ b) (hF : Hid (a * (4 + d) + (id - 1) * (2 + (c + 1) * 4) = F)) (hn : 0 ≤ iter) (hq : Hid (iter.tmod (c + 1) = q)) :
    Calls Try.prog 52 #[.agg #[.int .i64 a, .int .i64 b, .int .i64 c, .int .i64 d], .int .i64 i0, .int .i64 it] w fun e w' => e = .returned (.int .i64 (F + 2 + q * 4 + 0)) ∧ Below w.heap.size w w' := by
  go_enter Try.func52, Try.ntmps52
  go_wp2_with fail
  refine (word_cl a b c d i0 mi id it iter 0 F q _ hO hh1 g1 hh2 h1 h2 hF hn hq (by decide) (by decide)).mono ?_
  rintro e w1 ⟨rfl, hb1⟩
  obtain ⟨c0, c1, c2, c3, hb⟩ := recv4 hb1
  clear hb1
  go_wp2_with fail
  go_ret
  exact ⟨by simp, hb⟩
theorem status_cl (a b c d i0 mi id it iter F q : Int) (w : World) (hO : Hid (Okay a b c d)) (hh1 : (if i0 < 1 then (1 : Int) else i0) = mi) (g1 : (if b < mi then b else mi) = id) (hh2 : (if it < 0 then (0 : Int) else it) = iter) (h1 : 1 ≤ id) (h2 : id ≤ b) (hF : Hid (a * (4 + d) + (id - 1) * (2 + (c + 1) * 4) = F)) (hn : 0 ≤ iter) (hq : Hid (iter.tmod (c + 1) = q)) :
    Calls Try.prog 53 #[.agg #[.int .i64 a, .int .i64 b, .int .i64 c, .int .i64 d], .int .i64 i0, .int .i64 it] w fun e w' => e = .returned (.int .i64 (F + 2 + q * 4 + 1)) ∧ Below w.heap.size w w' := by
  go_enter Try.func53, Try.ntmps53
  go_wp2_with fail
  refine (word_cl a b c d i0 mi id it iter 1 F q _ hO hh1 g1 hh2 h1 h2 hF hn hq (by decide) (by decide)).mono ?_
  rintro e w1 ⟨rfl, hb1⟩
  obtain ⟨c0, c1, c2, c3, hb⟩ := recv4 hb1
  clear hb1
  go_wp2_with fail
  go_ret
  exact ⟨by simp, hb⟩
theorem link_cl (a b c d i0 mi id it iter F q : Int) (w : World) (hO : Hid (Okay a b c d)) (hh1 : (if i0 < 1 then (1 : Int) else i0) = mi) (g1 : (if b < mi then b else mi) = id) (hh2 : (if it < 0 then (0 : Int) else it) = iter) (h1 : 1 ≤ id) (h2 : id ≤ b) (hF : Hid (a * (4 + d) + (id - 1) * (2 + (c + 1) * 4) = F)) (hn : 0 ≤ iter) (hq : Hid (iter.tmod (c + 1) = q)) :
    Calls Try.prog 54 #[.agg #[.int .i64 a, .int .i64 b, .int .i64 c, .int .i64 d], .int .i64 i0, .int .i64 it] w fun e w' => e = .returned (.int .i64 (F + 2 + q * 4 + 2)) ∧ Below w.heap.size w w' := by
  go_enter Try.func54, Try.ntmps54
  go_wp2_with fail
  refine (word_cl a b c d i0 mi id it iter 2 F q _ hO hh1 g1 hh2 h1 h2 hF hn hq (by decide) (by decide)).mono ?_
  rintro e w1 ⟨rfl, hb1⟩
  obtain ⟨c0, c1, c2, c3, hb⟩ := recv4 hb1
  clear hb1
  go_wp2_with fail
  go_ret
  exact ⟨by simp, hb⟩
theorem done_cl (a b c d i0 mi id it iter F q : Int) (w : World) (hO : Hid (Okay a b c d)) (hh1 : (if i0 < 1 then (1 : Int) else i0) = mi) (g1 : (if b < mi then b else mi) = id) (hh2 : (if it < 0 then (0 : Int) else it) = iter) (h1 : 1 ≤ id) (h2 : id ≤ b) (hF : Hid (a * (4 + d) + (id - 1) * (2 + (c + 1) * 4) = F)) (hn : 0 ≤ iter) (hq : Hid (iter.tmod (c + 1) = q)) :
    Calls Try.prog 55 #[.agg #[.int .i64 a, .int .i64 b, .int .i64 c, .int .i64 d], .int .i64 i0, .int .i64 it] w fun e w' => e = .returned (.int .i64 (F + 2 + q * 4 + 3)) ∧ Below w.heap.size w w' := by
  go_enter Try.func55, Try.ntmps55
  go_wp2_with fail
  refine (word_cl a b c d i0 mi id it iter 3 F q _ hO hh1 g1 hh2 h1 h2 hF hn hq (by decide) (by decide)).mono ?_
  rintro e w1 ⟨rfl, hb1⟩
  obtain ⟨c0, c1, c2, c3, hb⟩ := recv4 hb1
  clear hb1
  go_wp2_with fail
  go_ret
  exact ⟨by simp, hb⟩
end Go.Proofs.Ytfigabjcmpakeaa
