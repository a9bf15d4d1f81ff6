/- That the laws of layer 30 begin. -/
import Derived.Test.YtgbaaemocnjaoaaSnL
namespace Go.Proofs.Ytgbaaemocnjaoaa.sn
open Go.ChangeShapes Go.WideShapes Go.ChangeAt Go.RowKit
open Go.Proofs.Ytgbaaemocnjaoaa.ro
attribute [local go_sem ↓] Go.wp_at_zero Go.wp_at_succ
set_option linter.unusedVariables false
set_option linter.unusedSimpArgs false
theorem rv_new {α : Type} {k : Nat} {en : α → List Value} (hr : Rec k en) {w W : World} {xs : List α} {cs : Array Value} {e g : Nat} (hg : W.heap[g]? = some (.cells cs e (0, 0))) (hc : cs.toList = flat en xs) (n : Nat) (hn : xs.length = n) (hm : n ≤ 1000) : RV k en W (.slice (some ⟨g, 0, none⟩) n n) xs := by
  subst hn
  refine ⟨_, _, rfl, Nat.le_refl _, by unfold maxLen; omega, fun e => (by cases e), fun i x hx => ⟨g, 0, rfl, lt_of hg, fun j u hu => ?_⟩⟩
  have h1 := flat_at hr xs i x j u hx hu
  rw [← hc] at h1
  rw [Nat.zero_add, cel hg]
  simpa using h1
set_option maxHeartbeats 1000000 in
set_option maxRecDepth 20000 in
theorem works30 (w : World) : Calls Try.prog 6 #[] w fun e w' => e = .returned (.bool true) ∧ Below w.heap.size w w' := by
  have heq : ∀ w, Sem.run Try.prog (binOp .eql 41 (.agg #[.int .i64 1, .int .i64 (-1), .bool true]) (.agg #[.int .i64 1, .int .i64 (-1), .bool true])) w = .ok (.bool true) w := fun w => by kernel_rfl
  go_enter Try.func6, Try.ntmps6
  go_wp2_with fail
  refine (build_of _ _ 4 4 wkL (rv_new recN (w := w) (heap_new w _) rfl 4 rfl (by decide)) (by decide)).mono ?_
  rintro e w2 ⟨c, pv, nv, av, rfl, hb, H⟩
  have hb2 : Below w.heap.size w w2 := ((Below.refl _ w).alloc (Nat.le_refl _) _).trans (hb.mono (by simp))
  rcases H with ⟨hc, _, _, _, hF⟩ | ⟨rfl, s, hS, _, hD⟩
  · exact absurd ⟨c, hc, hF⟩ wk_ok
  obtain ⟨e1, e2, e3⟩ := wk_run
  rw [← hS.run] at e1 e2 e3
  obtain ⟨pa, pc, rfl, _⟩ := hD.p.form
  obtain ⟨na, nc, rfl, _⟩ := hD.n.form
  obtain ⟨aa, ac, rfl, _⟩ := hD.a.form
  have hDp := hD.p
  have hDa := hD.a
  rw [e1] at hDp ⊢
  rw [e2]
  rw [e3] at hDa ⊢
  obtain ⟨b, o, ai, ci, rfl, hbl, hc3, hv3⟩ := hDp.row 3 (by decide)
  obtain ⟨b2, o2, rfl, hb2l, hca⟩ := hDa.at 0 (1, -1, true) rfl
  have c3 : w2.cell? ⟨b, o + 3, none⟩ = some (.slice ai 2 ci) := hc3
  have d0 : w2.cell? ⟨b2, o2, none⟩ = some (.int .i64 1) := by simpa using hca 0 _ rfl
  have d1 : w2.cell? ⟨b2, o2 + 1, none⟩ = some (.int .i64 (-1)) := by simpa using hca 1 _ rfl
  have d2 : w2.cell? ⟨b2, o2 + 2, none⟩ = some (.bool true) := by simpa using hca 2 _ rfl
  have HB := Lib.hid hb2
  have HV : Hid (View w2 (.slice ai 2 ci) [2, 1]) := Lib.hid hv3
  clear hb hb2 hS hD hDp hDa hc3 hca hv3 e1 e2 e3
  go_wp2_with fail
  have hbW : Below w2.heap.size w2 ((w2.alloc (.cells #[.slice (some ⟨b, o, none⟩) 4 pc, .slice na 4 nc, .slice (some ⟨b2, o2, none⟩) 1 ac] 28)).alloc (.cells #[.int .i64 2, .int .i64 1] 3)) := by go_grown
  refine (ints_any _ _ [2, 1] [2, 1] _ (HV.out.below hbW) (view2 _ 2 1 _ (by go_simp) (by go_simp))).mono ?_
  rintro e w5 ⟨rfl, n5, rfl⟩
  rw [show (([2, 1] : List Int) == [2, 1]) = true from by decide]
  clear hbW HV c3
  go_wp2_with fail
  go_ret
  exact ⟨rfl, below_drewN (HB.out.trans ((show Below w2.heap.size w2 _ by go_grown).mono HB.out.size)) _⟩
end Go.Proofs.Ytgbaaemocnjaoaa.sn
