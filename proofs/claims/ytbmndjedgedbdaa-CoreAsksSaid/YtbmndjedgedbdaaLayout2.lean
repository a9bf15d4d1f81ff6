/- More contracts of layer 11 (layout), for plans that may be, and numbers that there are. -/
import Derived.Test.YtbmndjedgedbdaaLayout
namespace Go.Proofs.Ytbmndjedgedbdaa
open Go.ChangeShapes Go.WideShapes Go.ChangeAt Go.RowKit
set_option linter.unusedVariables false
theorem keepc {W W' : World} {B j : Nat} {v : Value} (h : W.cell? ⟨B, j, none⟩ = some v) (hb : Below W.heap.size W W') : W'.cell? ⟨B, j, none⟩ = some v :=
  (hb.cell (p := ⟨B, j, none⟩) (World.block_lt_of_cell? W _ h)).trans h
theorem Below.tr {w w1 w2 : World} (h1 : Below w.heap.size w w1) (h2 : Below w1.heap.size w1 w2) : Below w.heap.size w w2 := h1.trans (h2.mono h1.size)
theorem keep4 {w0 W W' : World} {B : Nat} {v0 v1 v2 v3 : Value} (h : Below w0.heap.size w0 W ∧ W.cell? ⟨B, 0, none⟩ = some v0 ∧ W.cell? ⟨B, 1, none⟩ = some v1 ∧ W.cell? ⟨B, 2, none⟩ = some v2 ∧ W.cell? ⟨B, 3, none⟩ = some v3) (hb : Below W.heap.size W W') :
    Below w0.heap.size w0 W' ∧ W'.cell? ⟨B, 0, none⟩ = some v0 ∧ W'.cell? ⟨B, 1, none⟩ = some v1 ∧ W'.cell? ⟨B, 2, none⟩ = some v2 ∧ W'.cell? ⟨B, 3, none⟩ = some v3 :=
  ⟨Below.tr h.1 hb, keepc h.2.1 hb, keepc h.2.2.1 hb, keepc h.2.2.2.1 hb, keepc h.2.2.2.2 hb⟩
theorem recv4 {w w1 : World} {v0 v1 v2 v3 : Value} {t : Nat} (hb : Below (w.alloc (.cells #[v0, v1, v2, v3] t)).heap.size (w.alloc (.cells #[v0, v1, v2, v3] t)) w1) :
    w1.cell? ⟨w.heap.size, 0, none⟩ = some v0 ∧ w1.cell? ⟨w.heap.size, 1, none⟩ = some v1 ∧ w1.cell? ⟨w.heap.size, 2, none⟩ = some v2 ∧ w1.cell? ⟨w.heap.size, 3, none⟩ = some v3 ∧ Below w.heap.size w w1 :=
  ⟨keepc (by go_simp) hb, keepc (by go_simp) hb, keepc (by go_simp) hb, keepc (by go_simp) hb, Below.tr (by go_grown) hb⟩
theorem room_of (a b c d r : Int) (w : World) (hO : Hid (Okay a b c d)) (hr : Hid (2 + (c + 1) * 4 = r)) :
    Calls Try.prog 50 #[.agg #[.int .i64 a, .int .i64 b, .int .i64 c, .int .i64 d]] w fun e w' => e = .returned (.int .i64 r) ∧ Below w.heap.size w w' := by
  obtain ⟨a0, a1, b0, b1, c0', c1', d0, d1⟩ := hO.out
  have hr' := hr.out
  go_enter Try.func50, Try.ntmps50
  go_wp2_with fail
  refine (check_ok a b c d _ hO).mono ?_
  rintro e w1 ⟨rfl, hb1⟩
  obtain ⟨c0, c1, c2, c3, hb⟩ := recv4 hb1
  clear hb1
  go_wp2_with (first | (go_at_call 66; refine (slots_of a b c d _ hO).mono ?_; rintro e w' ⟨rfl, rfl⟩))
  go_ret
  exact ⟨rfl, Below.tr hb (by go_grown)⟩
theorem frame_bd {a b c d id F : Int} (h : Okay a b c d) (h1 : 1 ≤ id) (h2 : id ≤ b) (hF : a * (4 + d) + (id - 1) * (2 + (c + 1) * 4) = F) : 0 ≤ F ∧ F ≤ 83712 := by
  obtain ⟨a0, a1, b0, b1, c0, c1, d0, d1⟩ := h
  have := mul_in (a := a) (d := 4 + d) (by omega) a1 (by omega) (by omega)
  have := mul_in2 (a := id - 1) (d := 2 + (c + 1) * 4) (by omega) (by omega) (by omega) (by omega)
  omega
theorem frame_of (a b c d id F : Int) (w : World) (hO : Hid (Okay a b c d)) (h1 : 1 ≤ id) (h2 : id ≤ b) (hF : Hid (a * (4 + d) + (id - 1) * (2 + (c + 1) * 4) = F)) :
    Calls Try.prog 15 #[.agg #[.int .i64 a, .int .i64 b, .int .i64 c, .int .i64 d], .int .i64 id] w fun e w' => e = .returned (.int .i64 F) ∧ Below w.heap.size w w' := by
  obtain ⟨f0, f1⟩ := frame_bd hO.out h1 h2 hF.out
  have hm : (0 ≤ a * (4 + d) ∧ a * (4 + d) ≤ 16640) ∧ 0 ≤ (id - 1) * (2 + (c + 1) * 4) ∧ (id - 1) * (2 + (c + 1) * 4) ≤ 67072 := by
    obtain ⟨a0, a1, b0, b1, c0, c1, d0, d1⟩ := hO.out
    exact ⟨mul_in (by omega) (by omega) (by omega) (by omega), mul_in2 (by omega) (by omega) (by omega) (by omega)⟩
  have hF' := hF.out
  generalize hr : 2 + (c + 1) * 4 = r at *
  have HR := Lib.hid hr
  clear hr
  obtain ⟨⟨m0, m1⟩, m2, m3⟩ := hm
  have hw' : IntKind.i64.wrap ((id - 1) * r) = (id - 1) * r := by rw [IntKind.wrap_i64]; omega
  have hD := deques_of a b c d
  generalize a * (4 + d) = D at *
  have hs1 : IntKind.i64.wrap (id - 1) = id - 1 := by rw [IntKind.wrap_i64]; have := hO.out.2.2.2.1; omega
  have hs2 : IntKind.i64.wrap (D + (id - 1) * r) = D + (id - 1) * r := by rw [IntKind.wrap_i64]; omega
  have hs3 : IntKind.i64.wrap F = F := by rw [IntKind.wrap_i64]; omega
  obtain ⟨a0, a1, b0, b1, c0', c1', d0, d1⟩ := hO.out
  go_enter Try.func15, Try.ntmps15
  go_wp2_with fail
  refine (check_ok a b c d _ hO).mono ?_
  rintro e w1 ⟨rfl, hb1⟩
  obtain ⟨c0, c1, c2, c3, hb⟩ := recv4 hb1
  clear hb1
  go_wp2_with fail
  go_region_held3 (fun w' => Below w.heap.size w w' ∧ w'.cell? ⟨w.heap.size, 0, none⟩ = some (.int .i64 a) ∧ w'.cell? ⟨w.heap.size, 1, none⟩ = some (.int .i64 b) ∧ w'.cell? ⟨w.heap.size, 2, none⟩ = some (.int .i64 c) ∧ w'.cell? ⟨w.heap.size, 3, none⟩ = some (.int .i64 d)) (first | assumption | exact ⟨hb, c0, c1, c2, c3⟩ | (refine ⟨Below.tr hb ?_, c0, c1, c2, c3⟩; go_grown; done) | (refine keep4 ⟨hb, c0, c1, c2, c3⟩ ?_; go_grown; done) | (refine keep4 (by assumption) ?_; first | assumption | (go_grown; done)))
    (first | (go_at_call 49; refine (hD _ hO).mono ?_; rintro e w' ⟨rfl, hb'⟩) | (go_at_call 50; refine (room_of a b c d r _ hO HR).mono ?_; rintro e w'' ⟨rfl, hb''⟩))
  all_goals
    go_wp2_with fail
    go_ret
    exact ⟨by simp [*], And.left (by assumption)⟩
end Go.Proofs.Ytbmndjedgedbdaa
