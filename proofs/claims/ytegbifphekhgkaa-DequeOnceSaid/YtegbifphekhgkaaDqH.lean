/- A walk at a deque, new (layer 13). -/
import Derived.Test.YtegbifphekhgkaaDqG
import Derived.Deep.RegionHeld3
import Derived.Deep.DrawnRows
namespace Go.Proofs.Ytegbifphekhgkaa
open Go.ChangeShapes Go.WideShapes Go.ChangeAt Go.RowKit
attribute [local go_sem ↓] Go.wp_at_zero Go.wp_at_succ
set_option linter.unusedVariables false
set_option linter.unusedSimpArgs false
theorem dheld_of (t m1 v1 : Int) (w : World) (h1 : (if t < 0 then (0 : Int) else t) = m1) (h2 : (if 1099511627776 < m1 then (1099511627776 : Int) else m1) = v1) :
    Calls Try.prog 50 #[.int .i64 t] w fun e w' => e = .returned (.int .i64 v1) ∧ w' = w := by
  go_enter Try.func50, Try.ntmps50
  go_wp2_with fail
  go_ret
  exact ⟨rfl, rfl⟩
theorem dheld_in (t : Int) (w : World) (h1 : 0 ≤ t) (h2 : t ≤ 1000000) :
    Calls Try.prog 50 #[.int .i64 t] w fun e w' => e = .returned (.int .i64 t) ∧ w' = w :=
  dheld_of t t t w (by split <;> omega) (by split <;> omega)
theorem keepP4 {w0 W W' : World} {B : Nat} {v0 v1 v2 v3 : Value} (h : Below w0.heap.size w0 W ∧ W.cell? ⟨B, 0, none⟩ = some v0 ∧ W.cell? ⟨B, 1, none⟩ = some v1 ∧ W.cell? ⟨B, 2, none⟩ = some v2 ∧ W.cell? ⟨B, 3, none⟩ = some v3) (hb : Below W.heap.size W W') :
    Below w0.heap.size w0 W' ∧ W'.cell? ⟨B, 0, none⟩ = some v0 ∧ W'.cell? ⟨B, 1, none⟩ = some v1 ∧ W'.cell? ⟨B, 2, none⟩ = some v2 ∧ W'.cell? ⟨B, 3, none⟩ = some v3 :=
  ⟨Below.tr h.1 hb, keepc h.2.1 hb, keepc h.2.2.1 hb, keepc h.2.2.2.1 hb, keepc h.2.2.2.2 hb⟩
theorem ws_new {w0 : World} {S g : Nat} {xs : List Int} (W : World) (o : Wk) (h : J w0 W S g xs) : WS w0 (W.alloc (.cells o.cs 106)).drew S g W.heap.size xs o := by
  have h1 := h.1.facts.2.2.2.2.1
  have h2 := h.1.facts.2.2.2.2.2
  exact ⟨h.below' (by go_grown), heap_alloc_new _ _, by omega, by omega, h.2.1.size⟩
theorem ws_new0 {w0 : World} {S g : Nat} {xs : List Int} (W : World) (o : Wk) (h : J w0 W S g xs) : WS w0 (W.alloc (.cells o.cs 106)) S g W.heap.size xs o := by
  have h1 := h.1.facts.2.2.2.2.1
  have h2 := h.1.facts.2.2.2.2.2
  exact ⟨h.below' (by go_grown), heap_alloc_new _ _, by omega, by omega, h.2.1.size⟩
theorem push_new (S g D k : Nat) (tl x : Int) (xs : List Int) (w0 w : World) (h : J w0 w S g xs) (b1 : 0 ≤ tl) (b2 : tl ≤ 1000000) :
    Calls Try.prog 17 #[.agg #[.int .i64 2, .int .i64 1, .int .i64 1, .int .i64 (D : Int)], .int .i64 (k : Int), .int .i64 tl, .int .i64 x] w fun e w' => ∃ A, e = .returned (.pointer (some ⟨A, 0, none⟩)) ∧ w.heap.size ≤ A ∧ Below w.heap.size w w' ∧ WS w0 w' S g A xs ⟨D, k, tl, x, 0, 0, 0, 0, false, false, fnV A 51⟩ := by
  have hmf : ∀ (fn : Fn) (first cap : Array Value) (w : World), (Instr.makeFunc fn first cap).run Try.prog w = .ok (.func fn first cap) w := fun _ _ _ _ => rfl
  go_enter Try.func17, Try.ntmps17
  go_wp2_with fail
  obtain ⟨W, hW⟩ : ∃ W, W = w.alloc (Obj.cells #[Value.int .i64 2, .int .i64 1, .int .i64 1, .int .i64 (D : Int)] 25) := ⟨_, rfl⟩
  have p0 : W.cell? ⟨w.heap.size, 0, none⟩ = some (.int .i64 2) := by rw [hW]; go_simp
  have p1 : W.cell? ⟨w.heap.size, 1, none⟩ = some (.int .i64 1) := by rw [hW]; go_simp
  have p2 : W.cell? ⟨w.heap.size, 2, none⟩ = some (.int .i64 1) := by rw [hW]; go_simp
  have p3 : W.cell? ⟨w.heap.size, 3, none⟩ = some (.int .i64 (D : Int)) := by rw [hW]; go_simp
  have hb : Below w.heap.size w W := by rw [hW]; go_grown
  have HJ := Lib.hid (h.below' hb)
  rw [← hW]
  clear hW h
  obtain ⟨P, hP⟩ : ∃ P, w.heap.size = P := ⟨_, rfl⟩
  rw [hP] at p0 p1 p2 p3 hb ⊢
  have HP := Lib.hid hP
  clear hP
  go_region_held3 (fun w' => Below W.heap.size W w' ∧ w'.cell? ⟨P, 0, none⟩ = some (.int .i64 2) ∧ w'.cell? ⟨P, 1, none⟩ = some (.int .i64 1) ∧ w'.cell? ⟨P, 2, none⟩ = some (.int .i64 1) ∧ w'.cell? ⟨P, 3, none⟩ = some (.int .i64 (D : Int)))
    (first | (with_reducible assumption) | exact ⟨Below.refl _ _, p0, p1, p2, p3⟩ | (refine keepP4 ⟨Below.refl _ _, p0, p1, p2, p3⟩ ?_; go_grown; done) | (refine keepP4 (by with_reducible assumption) ?_; first | (with_reducible assumption) | (go_grown; done)))
    (first | (go_at_call 50; refine (dheld_in tl _ b1 b2).mono ?_; rintro e w1 ⟨rfl, rfl⟩))
  all_goals
    go_wp2_with fail
    go_ret
    exact ⟨W.heap.size, rfl, hb.size, by rw [HP.out]; exact hb.trans (Below.mono (show Below W.heap.size W _ by go_grown) (by rw [← HP.out]; exact hb.size)), ws_new W ⟨D, k, tl, x, 0, 0, 0, 0, false, false, fnV W.heap.size 51⟩ HJ.out⟩
theorem pop_new (S g D k : Nat) (tl : Int) (xs : List Int) (w0 w : World) (h : J w0 w S g xs) (b1 : 0 ≤ tl) (b2 : tl ≤ 1000000) :
    Calls Try.prog 18 #[.agg #[.int .i64 2, .int .i64 1, .int .i64 1, .int .i64 (D : Int)], .int .i64 (k : Int), .int .i64 tl] w fun e w' => ∃ A, e = .returned (.pointer (some ⟨A, 0, none⟩)) ∧ w.heap.size ≤ A ∧ Below w.heap.size w w' ∧ WS w0 w' S g A xs ⟨D, k, tl, 0, 0, 0, 0, 0, false, false, fnV A 52⟩ := by
  have hmf : ∀ (fn : Fn) (first cap : Array Value) (w : World), (Instr.makeFunc fn first cap).run Try.prog w = .ok (.func fn first cap) w := fun _ _ _ _ => rfl
  go_enter Try.func18, Try.ntmps18
  go_wp2_with fail
  obtain ⟨W, hW⟩ : ∃ W, W = w.alloc (Obj.cells #[Value.int .i64 2, .int .i64 1, .int .i64 1, .int .i64 (D : Int)] 25) := ⟨_, rfl⟩
  have p0 : W.cell? ⟨w.heap.size, 0, none⟩ = some (.int .i64 2) := by rw [hW]; go_simp
  have p1 : W.cell? ⟨w.heap.size, 1, none⟩ = some (.int .i64 1) := by rw [hW]; go_simp
  have p2 : W.cell? ⟨w.heap.size, 2, none⟩ = some (.int .i64 1) := by rw [hW]; go_simp
  have p3 : W.cell? ⟨w.heap.size, 3, none⟩ = some (.int .i64 (D : Int)) := by rw [hW]; go_simp
  have hb : Below w.heap.size w W := by rw [hW]; go_grown
  have HJ := Lib.hid (h.below' hb)
  rw [← hW]
  clear hW h
  obtain ⟨P, hP⟩ : ∃ P, w.heap.size = P := ⟨_, rfl⟩
  rw [hP] at p0 p1 p2 p3 hb ⊢
  have HP := Lib.hid hP
  clear hP
  go_region_held3 (fun w' => Below W.heap.size W w' ∧ w'.cell? ⟨P, 0, none⟩ = some (.int .i64 2) ∧ w'.cell? ⟨P, 1, none⟩ = some (.int .i64 1) ∧ w'.cell? ⟨P, 2, none⟩ = some (.int .i64 1) ∧ w'.cell? ⟨P, 3, none⟩ = some (.int .i64 (D : Int)))
    (first | (with_reducible assumption) | exact ⟨Below.refl _ _, p0, p1, p2, p3⟩ | (refine keepP4 ⟨Below.refl _ _, p0, p1, p2, p3⟩ ?_; go_grown; done) | (refine keepP4 (by with_reducible assumption) ?_; first | (with_reducible assumption) | (go_grown; done)))
    (first | (go_at_call 50; refine (dheld_in tl _ b1 b2).mono ?_; rintro e w1 ⟨rfl, rfl⟩))
  all_goals
    go_wp2_with fail
    go_ret
    exact ⟨W.heap.size, rfl, hb.size, by rw [HP.out]; exact hb.trans (Below.mono (show Below W.heap.size W _ by go_grown) (by rw [← HP.out]; exact hb.size)), ws_new W ⟨D, k, tl, 0, 0, 0, 0, 0, false, false, fnV W.heap.size 52⟩ HJ.out⟩
theorem steal_new (S g D k : Nat) (xs : List Int) (w0 w : World) (h : J w0 w S g xs) :
    Calls Try.prog 19 #[.agg #[.int .i64 2, .int .i64 1, .int .i64 1, .int .i64 (D : Int)], .int .i64 (k : Int)] w fun e w' => ∃ A, e = .returned (.pointer (some ⟨A, 0, none⟩)) ∧ w.heap.size ≤ A ∧ Below w.heap.size w w' ∧ WS w0 w' S g A xs ⟨D, k, 0, 0, 0, 0, 0, 0, false, false, fnV A 53⟩ := by
  have hmf : ∀ (fn : Fn) (first cap : Array Value) (w : World), (Instr.makeFunc fn first cap).run Try.prog w = .ok (.func fn first cap) w := fun _ _ _ _ => rfl
  go_enter Try.func19, Try.ntmps19
  go_wp2_with fail
  go_ret
  have hs := ws_new0 (w.alloc (Obj.cells #[Value.int .i64 2, .int .i64 1, .int .i64 1, .int .i64 (D : Int)] 25)) ⟨D, k, 0, 0, 0, 0, 0, 0, false, false, fnV (w.heap.size + 1) 53⟩ (h.below' (by go_grown))
  rw [World.size_alloc] at hs
  exact ⟨w.heap.size + 1, rfl, by omega, by go_grown, hs⟩
end Go.Proofs.Ytegbifphekhgkaa
