/- Round and round: the law LayoutRound answers true. No condition. -/
import Derived.Test.YtfigabjcmpakeaaLay11
namespace Go.Proofs.Ytfigabjcmpakeaa.layoutRound
open Go.ChangeShapes Go.WideShapes Go.ChangeAt Go.RowKit
set_option linter.unusedVariables false
set_option linter.unusedSimpArgs false
theorem apart (x y d : Int) (hx : 0 ≤ x) (hy : 0 ≤ y) (hd : 0 < d) : (x.tmod d = y.tmod d) ↔ ((x - y).tmod d = 0) := by
  rw [Int.tmod_eq_emod_of_nonneg hx, Int.tmod_eq_emod_of_nonneg hy]
  constructor
  · intro h
    exact Int.tmod_eq_zero_of_dvd (Int.dvd_of_emod_eq_zero (by rw [Int.sub_emod, h]; simp))
  · intro h
    have h1 : d ∣ x - y := Int.dvd_of_tmod_eq_zero h
    exact Int.emod_eq_emod_iff_emod_sub_eq_zero.2 (Int.emod_eq_zero_of_dvd h1)
set_option maxHeartbeats 4000000 in
set_option maxRecDepth 20000 in
theorem core (c d x y s t q1 q2 : Int) (a0 a1 : Int) (w : World) (w0 : (Lit.int .u8 a0).wf = true) (w1 : (Lit.int .u8 a1).wf = true) (w2 : 0 ≤ x ∧ x ≤ 65535) (w3 : 0 ≤ y ∧ y ≤ 65535) (hc : a0 % 64 + 1 = c) (hd : a1 % 255 + 2 = d)
    (hs : x.tmod d = s) (ht : y.tmod d = t) (hq1 : x.tmod (c + 1) = q1) (hq2 : y.tmod (c + 1) = q2) :
    Calls Try.prog 13 #[.int .u8 a0, .int .u8 a1, .int .u16 x, .int .u16 y] w fun e w' => e = .returned (.bool true) ∧ Below w.heap.size w w' := by
  have h0 := bounds_u8 w0
  have h1 := bounds_u8 w1
  have e0 : a0.tmod 64 = a0 % 64 := Int.tmod_eq_emod_of_nonneg h0.1
  have e1 : a1.tmod 255 = a1 % 255 := Int.tmod_eq_emod_of_nonneg h1.1
  have p4 : 1 ≤ c ∧ c ≤ 64 := by omega
  have p6 : 2 ≤ d ∧ d ≤ 256 := by omega
  have hO : Hid (Okay 2 3 c d) := Lib.hid ⟨by omega, by omega, by omega, by omega, p4.1, p4.2, p6.1, p6.2⟩
  have sb : 0 ≤ s ∧ s < d := by rw [← hs]; exact ⟨Int.tmod_nonneg _ w2.1, Int.tmod_lt_of_pos _ (by omega)⟩
  have tb : 0 ≤ t ∧ t < d := by rw [← ht]; exact ⟨Int.tmod_nonneg _ w3.1, Int.tmod_lt_of_pos _ (by omega)⟩
  have qb : 0 ≤ q1 ∧ q1 < c + 1 := by rw [← hq1]; exact ⟨Int.tmod_nonneg _ w2.1, Int.tmod_lt_of_pos _ (by omega)⟩
  have rb : 0 ≤ q2 ∧ q2 < c + 1 := by rw [← hq2]; exact ⟨Int.tmod_nonneg _ w3.1, Int.tmod_lt_of_pos _ (by omega)⟩
  have hk1 := apart x y d w2.1 w3.1 (by omega)
  have hk2 := apart x y (c + 1) w2.1 w3.1 (by omega)
  rw [hs, ht] at hk1
  rw [hq1, hq2] at hk2
  have hx : IntKind.i64.wrap (x - y) = x - y := by rw [IntKind.wrap_i64]; omega
  have hx' : wrap64 (x - y) = x - y := by unfold wrap64; omega
  have hcc : IntKind.i64.wrap (c + 1) = c + 1 := by rw [IntKind.wrap_i64]; omega
  have hcc' : wrap64 (c + 1) = c + 1 := by unfold wrap64; omega
  obtain ⟨P1, hP1'⟩ : ∃ P, (1 : Int) * (4 + d) = P := ⟨_, rfl⟩
  obtain ⟨P0, hP0'⟩ : ∃ P, (0 : Int) * (4 + d) = P := ⟨_, rfl⟩
  obtain ⟨F1, hF1'⟩ : ∃ P, (2 : Int) * (4 + d) + (1 - 1) * (2 + (c + 1) * 4) = P := ⟨_, rfl⟩
  obtain ⟨F2, hF2'⟩ : ∃ P, (2 : Int) * (4 + d) + (2 - 1) * (2 + (c + 1) * 4) = P := ⟨_, rfl⟩
  obtain ⟨F3, hF3'⟩ : ∃ P, (2 : Int) * (4 + d) + (3 - 1) * (2 + (c + 1) * 4) = P := ⟨_, rfl⟩
  obtain ⟨v1, hv1⟩ : ∃ v, decide (s = t) = v := ⟨_, rfl⟩
  obtain ⟨v2, hv2⟩ : ∃ v, decide (q1 = q2) = v := ⟨_, rfl⟩
  have g1 : (P1 + 4 + s == P1 + 4 + t) = v1 := by rw [← hv1]; apply Bool.eq_iff_iff.2; simp
  have g2 : ((x - y).tmod d == 0) = v1 := by rw [← hv1]; apply Bool.eq_iff_iff.2; simp [hk1]
  have g3 : (F2 + 2 + q1 * 4 + 0 == F2 + 2 + q2 * 4 + 0) = v2 := by rw [← hv2]; apply Bool.eq_iff_iff.2; simp; omega
  have g3' : (F2 + 2 + q1 * 4 == F2 + 2 + q2 * 4) = v2 := by rw [← hv2]; apply Bool.eq_iff_iff.2; simp; omega
  have g4 : ((x - y).tmod (c + 1) == 0) = v2 := by rw [← hv2]; apply Bool.eq_iff_iff.2; simp [hk2]
  have g5 : (F2 + 2 + q1 * 4 + 3 == F2 + 2 + q2 * 4 + 3) = v2 := by rw [← hv2]; apply Bool.eq_iff_iff.2; simp; omega
  have g6 : (P0 + 4 + s == P1 + 4 + t) = false := by simp; omega
  have g6' : ¬ P0 + 4 + s = P1 + 4 + t := by omega
  have g6'' : (P0 + 4 + s != P1 + 4 + t) = true := by simp; omega
  have g7 : (F1 + 2 + q1 * 4 + 2 == F3 + 2 + q2 * 4 + 2) = false := by simp; omega
  have g7' : ¬ F1 + 2 + q1 * 4 + 2 = F3 + 2 + q2 * 4 + 2 := by omega
  have g7'' : (F1 + 2 + q1 * 4 + 2 != F3 + 2 + q2 * 4 + 2) = true := by simp; omega
  have g8 : (v1 == v1) = true := by simp
  have g9 : (v2 == v2) = true := by simp
  have hP1 := Lib.hid hP1'
  have hP0 := Lib.hid hP0'
  have hF1 := Lib.hid hF1'
  have hF2 := Lib.hid hF2'
  have hF3 := Lib.hid hF3'
  clear hP1' hP0' hF1' hF2' hF3' hv1 hv2 hk1 hk2 e0 e1
  have HS := Lib.hid hs
  have HT := Lib.hid ht
  have HQ1 := Lib.hid hq1
  have HQ2 := Lib.hid hq2
  have hd0 : (d == 0) = false := by simp; omega
  have hd1 : ¬ d = 0 := by omega
  have hc0 : ¬ c + 1 = 0 := by omega
  clear hs ht hq1 hq2
  have e0 : a0.tmod 64 = a0 % 64 := Int.tmod_eq_emod_of_nonneg h0.1
  have e1 : a1.tmod 255 = a1 % 255 := Int.tmod_eq_emod_of_nonneg h1.1
  go_enter Try.func13, Try.ntmps13
  go_wp2_with (first | (go_at_call 43; refine (works11 _).mono ?_; rintro e w1 ⟨rfl, hb1⟩))
  obtain ⟨W, hW⟩ : ∃ W, W = w1.alloc (Obj.cells #[Value.int IntKind.i64 2, Value.int IntKind.i64 3, Value.int IntKind.i64 c, Value.int IntKind.i64 d] 73) := ⟨_, rfl⟩
  have c0 : W.cell? ⟨w1.heap.size, 0, none⟩ = some (.int .i64 2) := by rw [hW]; go_simp
  have c1 : W.cell? ⟨w1.heap.size, 1, none⟩ = some (.int .i64 3) := by rw [hW]; go_simp
  have c2 : W.cell? ⟨w1.heap.size, 2, none⟩ = some (.int .i64 c) := by rw [hW]; go_simp
  have c3 : W.cell? ⟨w1.heap.size, 3, none⟩ = some (.int .i64 d) := by rw [hW]; go_simp
  have hb : Below w.heap.size w W := by rw [hW]; exact Below.tr hb1 (by go_grown)
  rw [← hW]
  clear hW hb1
  generalize w1.heap.size = B at *
  simp only [List.append_eq, List.cons_append, List.nil_append, List.append]
  go_region_held3 (fun w' => Below w.heap.size w w' ∧ w'.cell? ⟨B, 0, none⟩ = some (.int .i64 2) ∧ w'.cell? ⟨B, 1, none⟩ = some (.int .i64 3) ∧ w'.cell? ⟨B, 2, none⟩ = some (.int .i64 c) ∧ w'.cell? ⟨B, 3, none⟩ = some (.int .i64 d))
    (first | assumption | (refine ⟨Below.tr hb ?_, c0, c1, c2, c3⟩; go_grown; done) | (refine keep4 ⟨hb, c0, c1, c2, c3⟩ ?_; go_grown; done) | (refine keep4 (by assumption) ?_; first | assumption | (go_grown; done)))
    (first | (go_at_call 49; refine (slot_of _ _ _ _ _ _ _ _ _ (by assumption) (by omega) (by omega) (by assumption) (by omega) (by assumption)).mono ?_; rintro e wz ⟨rfl, hbz⟩) | (go_at_call 52; refine (counter_of _ _ _ _ _ _ _ _ _ (by assumption) (by omega) (by omega) (by assumption) (by omega) (by assumption)).mono ?_; rintro e wz ⟨rfl, hbz⟩) | (go_at_call 54; refine (link_of _ _ _ _ _ _ _ _ _ (by assumption) (by omega) (by omega) (by assumption) (by omega) (by assumption)).mono ?_; rintro e wz ⟨rfl, hbz⟩) | (go_at_call 55; refine (done_of _ _ _ _ _ _ _ _ _ (by assumption) (by omega) (by omega) (by assumption) (by omega) (by assumption)).mono ?_; rintro e wz ⟨rfl, hbz⟩))
  all_goals
    obtain ⟨hb, c0, c1, c2, c3⟩ : Below w.heap.size w _ ∧ _ := by assumption
    go_wp2_with fail
    go_ret
    exact ⟨rfl, hb⟩
theorem walk (a0 : Int) (a1 : Int) (a2 : Int) (a3 : Int) (w : World) (w0 : (Lit.int .u8 a0).wf = true) (w1 : (Lit.int .u8 a1).wf = true) (w2 : (Lit.int .u16 a2).wf = true) (w3 : (Lit.int .u16 a3).wf = true) :
    Calls Try.prog 13 #[.int .u8 a0, .int .u8 a1, .int .u16 a2, .int .u16 a3] w fun e w' => e = .returned (.bool true) ∧ Below w.heap.size w w' :=
  core _ _ _ _ _ _ _ _ a0 a1 w w0 w1 (bounds_u16 w2) (bounds_u16 w3) rfl rfl rfl rfl rfl rfl
end Go.Proofs.Ytfigabjcmpakeaa.layoutRound
