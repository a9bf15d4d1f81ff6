/- The plan and the deck of layer 13's laws; its works. -/
import Derived.Test.YtegbifphekhgkaaDqJ
import Derived.Test.YtegbifphekhgkaaLayout3
import Derived.Deep.RegionHeld3
import Derived.Deep.DrawnRows
namespace Go.Proofs.Ytegbifphekhgkaa
open Go.ChangeShapes Go.WideShapes Go.ChangeAt Go.RowKit
attribute [local go_sem ↓] Go.wp_at_zero Go.wp_at_succ
set_option linter.unusedVariables false
set_option linter.unusedSimpArgs false
theorem plan13 (d : Int) (w : World) : Calls Try.prog 11 #[.int .i64 d] w fun e w' => e = .returned (.agg #[.int .i64 2, .int .i64 1, .int .i64 1, .int .i64 d]) ∧ Below w.heap.size w w' := by
  go_enter Try.func11, Try.ntmps11
  go_wp2_with fail
  refine bodyPost_ret (v := .agg #[.int .i64 2, .int .i64 1, .int .i64 1, .int .i64 d]) ?_ rfl ⟨rfl, by go_grown⟩
  simp [results, Try.results11, go_sem]
theorem size13 (D : Nat) (n : Nat) (w : World) (h2 : 2 ≤ D) (h3 : D ≤ 256) (hn : 2 * (4 + D) + 10 = n) : Calls Try.prog 13 #[.agg #[.int .i64 2, .int .i64 1, .int .i64 1, .int .i64 (D : Int)]] w fun e w' => e = .returned (.int .i64 (n : Int)) ∧ Below w.heap.size w w' := by
  refine (size_of 2 1 1 (D : Int) (2 * (4 + (D : Int))) 10 w (Lib.hid ⟨by omega, by omega, by omega, by omega, by omega, by omega, by omega, by omega⟩) (Lib.hid rfl) (Lib.hid (by decide))).mono ?_
  rintro e w' ⟨rfl, hb⟩
  exact ⟨by rw [← hn]; simp, hb⟩
/-- What the laws hold: the plan in its box, and the store. -/
structure LS (w0 w : World) (S g Pl D : Nat) (xs : List Int) : Prop where
  j : J w0 w S g xs
  p : w.heap[Pl]? = some (.cells #[.int .i64 2, .int .i64 1, .int .i64 1, .int .i64 (D : Int)] 25 (0, 0))
  pg : Pl ≠ g
section
variable {w0 w w' : World} {S g Pl D A A' : Nat} {xs xs' : List Int} {o o' : Wk}
theorem LS.lt (h : LS w0 w S g Pl D xs) : Pl < w.heap.size := lt_of_heap h.p
theorem LS.cells (h : LS w0 w S g Pl D xs) : w.cell? ⟨Pl, 0, none⟩ = some (.int .i64 2) ∧ w.cell? ⟨Pl, 1, none⟩ = some (.int .i64 1) ∧ w.cell? ⟨Pl, 2, none⟩ = some (.int .i64 1) ∧ w.cell? ⟨Pl, 3, none⟩ = some (.int .i64 (D : Int)) := by
  refine ⟨?_, ?_, ?_, ?_⟩ <;> simp [World.cell?, h.p]
theorem LS.below (h : LS w0 w S g Pl D xs) (hb : Below w.heap.size w w') : LS w0 w' S g Pl D xs := ⟨h.j.below' hb, (hb.block Pl h.lt).trans h.p, h.pg⟩
theorem LS.step (h : LS w0 w S g Pl D xs) (hS : WS w0 w' S g A xs' o) (hF : Fr g A w w') (hA : Pl ≠ A) : LS w0 w' S g Pl D xs' :=
  ⟨hS.j, (hF.2 Pl h.lt h.pg hA).trans h.p, h.pg⟩
theorem WAt.step (h : WAt w A o) (hF : Fr g A' w w') (hg : A ≠ g) (hA : A ≠ A') : WAt w' A o := (hF.2 A h.lt hg hA).trans h
end
theorem dq0 (P D n : Nat) (hn : P + 4 + D ≤ n) : Dq P D (List.replicate n 0) 0 0 0 0 (fun _ => 0) := by
  have hz : ∀ i, (List.replicate n (0 : Int)).getD i 0 = 0 := fun i => by
    rw [List.getD_eq_getElem?_getD, List.getElem?_replicate]; split <;> rfl
  exact ⟨hz _, hz _, hz _, hz _, fun i _ => hz _, by rw [List.length_replicate]; exact hn⟩
theorem wok (D kk P n : Nat) (h2 : 2 ≤ D) (h3 : D ≤ 256) (hk : kk < 2) (hP : kk * (4 + D) = P) (hn : 2 * (4 + D) + 10 = n) : ∀ o : Wk, o.D = D → o.k = kk → WOk o P n := by
  rintro o rfl rfl
  refine ⟨h2, h3, hk, hP, ?_, by omega⟩
  rcases Nat.lt_or_ge o.k 1 with h | h
  · have : o.k = 0 := by omega
    rw [this] at hP; omega
  · have : o.k = 1 := by omega
    rw [this] at hP; omega
set_option maxRecDepth 20000 in
set_option maxHeartbeats 2000000 in
theorem works13 (w : World) : Calls Try.prog 10 #[] w fun e w' => e = .returned (.bool true) ∧ Below w.heap.size w w' := by
  have hO := wok 4 1 8 26 (by omega) (by omega) (by omega) (by omega) (by omega)
  go_enter Try.func10, Try.ntmps10
  go_wp2_with fail
  refine (plan13 4 w).mono ?_
  rintro e w1 ⟨rfl, hb1⟩
  go_wp2_with fail
  obtain ⟨W, hW⟩ : ∃ W, W = w1.alloc (Obj.cells #[Value.int .i64 2, .int .i64 1, .int .i64 1, .int .i64 4] 25) := ⟨_, rfl⟩
  have hp : W.heap[w1.heap.size]? = some (.cells #[Value.int .i64 2, .int .i64 1, .int .i64 1, .int .i64 4] 25 (0, 0)) := by rw [hW]; exact heap_alloc_new _ _
  have hb : Below w.heap.size w W := by rw [hW]; exact btr hb1 (by go_grown)
  rw [← hW]
  clear hW hb1
  generalize w1.heap.size = Pl at *
  refine (size13 4 26 _ (by omega) (by omega) rfl).mono ?_
  rintro e w2 ⟨rfl, hb2⟩
  have hp2 := (hb2.block Pl (lt_of_heap hp)).trans hp
  have hbw2 := btr hb hb2
  clear hb hb2 hp
  go_wp2_with fail
  refine (new_n 26 _ (by omega)).mono ?_
  rintro e w3 ⟨rfl, hs, hb3⟩
  have hg : Pl < w2.heap.size := lt_of_heap hp2
  have HL : Hid (LS w w3 (w2.heap.size + 1) w2.heap.size Pl 4 (List.replicate 26 0)) := Lib.hid ⟨⟨hs, btr hbw2 hb3, hbw2.size⟩, (hb3.block Pl hg).trans hp2, by omega⟩
  have q := dq0 8 4 26 (by omega)
  clear hs hb3 hp2 hbw2 hg
  generalize w2.heap.size + 1 = S at *
  generalize w2.heap.size = g at *
  obtain ⟨c0, c1, c2, c3⟩ := HL.out.cells
  go_wp2_with fail
  refine (push_new S g 4 1 0 7 _ w _ HL.out.j (by omega) (by omega)).mono ?_
  rintro e w4 ⟨A, rfl, hA, hb4, hS4⟩
  have HP : Hid (Pl ≠ A) := Lib.hid (by have := HL.out.lt; omega)
  have HL4 := Lib.hid (HL.out.below hb4)
  have HS4 := Lib.hid hS4
  clear hA hb4 hS4 HL c0 c1 c2 c3
  go_wp2_with fail
  obtain ⟨xs5, hR, q5, hl5⟩ := push_run (S := S) (g := g) (A := A) (kk := 1) 0 7 (by rw [List.length_replicate]; exact hO) q (by omega) (by omega)
  rw [List.length_replicate] at hl5
  refine (run_of S g A 3 _ _ _ _ w _ hR (by omega) HS4.out).mono ?_
  rintro e w5 ⟨rfl, hS, hF⟩
  have HL5 := Lib.hid (HL4.out.step hS hF HP.out)
  have HS5 := Lib.hid hS
  obtain ⟨c0, c1, c2, c3⟩ := HL5.out.cells
  clear hR hS hF HL4 HS4 q
  go_wp2_with fail
  refine (pop_new S g 4 1 1 _ w _ HL5.out.j (by omega) (by omega)).mono ?_
  rintro e w6 ⟨A2, rfl, hA, hb6, hS6⟩
  have HP2 : Hid (A ≠ A2) := Lib.hid (by have := HS5.out.a.lt; omega)
  have HA6 : Hid (WAt w6 A _) := Lib.hid (HS5.out.a.below hb6)
  have HS6 := Lib.hid hS6
  have HG := Lib.hid HS5.out.ag
  clear hA hb6 hS6 HL5 HS5 c0 c1 c2 c3 HP
  go_wp2_with fail
  obtain ⟨xs7, hR, q7, hl7⟩ := pop_run (S := S) (g := g) (A := A2) (kk := 1) 0 7 (by rw [hl5]; exact hO) q5 (by omega) (by omega) (by simp [updI])
  refine (run_of S g A2 3 _ _ _ _ w _ hR (by omega) HS6.out).mono ?_
  rintro e w7 ⟨rfl, hS, hF⟩
  have HA7 : Hid (WAt w7 A _) := Lib.hid (HA6.out.step hF HG.out HP2.out)
  have HS7 := Lib.hid hS
  clear hR hS hF HS6 HA6 q5
  go_wp2_with fail
  refine (got_of A2 _ true 7 true _ HS7.out.a (Lib.hid (Or.inl ⟨rfl, rfl⟩)) (Lib.hid (Or.inl ⟨rfl, rfl, rfl, rfl⟩))).mono ?_
  rintro e w8 ⟨rfl, rfl⟩
  go_wp2_with (first
    | (go_at_call 24; refine (tail_of A _ _ HA7.out).mono ?_; rintro e w9 ⟨rfl, rfl⟩)
    | (go_at_call 24; refine (tail_of A2 _ _ HS7.out.a).mono ?_; rintro e w9 ⟨rfl, rfl⟩)
    | (go_at_call 23; refine (full_of A _ _ HA7.out).mono ?_; rintro e w9 ⟨rfl, rfl⟩))
  go_ret
  exact ⟨rfl, HS7.out.j.2.1⟩
end Go.Proofs.Ytegbifphekhgkaa
