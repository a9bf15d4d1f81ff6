/- The words of frames and slots, and how many there are (layer 11), for plans that may be. -/
import Derived.Test.YtbmndjedgedbdaaLayout2
namespace Go.Proofs.Ytbmndjedgedbdaa
open Go.ChangeShapes Go.WideShapes Go.ChangeAt Go.RowKit
set_option linter.unusedVariables false
set_option linter.unusedSimpArgs false
theorem size_of (a b c d D R : Int) (w : World) (hO : Hid (Okay a b c d)) (hD : Hid (a * (4 + d) = D)) (hR : Hid (b * (2 + (c + 1) * 4) = R)) :
    Calls Try.prog 20 #[.agg #[.int .i64 a, .int .i64 b, .int .i64 c, .int .i64 d]] w fun e w' => e = .returned (.int .i64 (D + R)) ∧ Below w.heap.size w w' := by
  have hm : (0 ≤ a * (4 + d) ∧ a * (4 + d) ≤ 16640) ∧ 0 ≤ b * (2 + (c + 1) * 4) ∧ b * (2 + (c + 1) * 4) ≤ 67072 := by
    obtain ⟨a0, a1, b0, b1, c0, c1, d0, d1⟩ := hO.out
    exact ⟨mul_in (by omega) (by omega) (by omega) (by omega), mul_in2 (by omega) (by omega) (by omega) (by omega)⟩
  have hR' := hR.out
  have hD' := hD.out
  rw [hD', hR'] at hm
  generalize hr : 2 + (c + 1) * 4 = r at *
  have HR := Lib.hid hr
  clear hr
  obtain ⟨⟨m0, m1⟩, m2, m3⟩ := hm
  have hDD := deques_of a b c d
  rw [hD'] at hDD
  have hs1 : IntKind.i64.wrap R = R := by rw [IntKind.wrap_i64]; omega
  have hs2 : IntKind.i64.wrap (D + R) = D + R := by rw [IntKind.wrap_i64]; omega
  go_enter Try.func20, Try.ntmps20
  go_wp2_with fail
  refine (check_ok a b c d _ hO).mono ?_
  rintro e w1 ⟨rfl, hb1⟩
  obtain ⟨c0, c1, c2, c3, hb⟩ := recv4 hb1
  clear hb1
  go_wp2_with fail
  go_region_held3 (fun w' => Below w.heap.size w w' ∧ w'.cell? ⟨w.heap.size, 0, none⟩ = some (.int .i64 a) ∧ w'.cell? ⟨w.heap.size, 1, none⟩ = some (.int .i64 b) ∧ w'.cell? ⟨w.heap.size, 2, none⟩ = some (.int .i64 c) ∧ w'.cell? ⟨w.heap.size, 3, none⟩ = some (.int .i64 d)) (first | assumption | exact ⟨hb, c0, c1, c2, c3⟩ | (refine ⟨Below.tr hb ?_, c0, c1, c2, c3⟩; go_grown; done) | (refine keep4 ⟨hb, c0, c1, c2, c3⟩ ?_; go_grown; done) | (refine keep4 (by assumption) ?_; first | assumption | (go_grown; done)))
    (first | (go_at_call 49; refine (hDD _ hO).mono ?_; rintro e w' ⟨rfl, hb'⟩) | (go_at_call 50; refine (room_of a b c d r _ hO HR).mono ?_; rintro e w'' ⟨rfl, hb''⟩))
  all_goals
    go_wp2_with fail
    go_ret
    exact ⟨by simp [*], And.left (by assumption)⟩
end Go.Proofs.Ytbmndjedgedbdaa
