/- What has to work at all (layer 41). -/
import Derived.Test.YtpflimnngilhnaaSpL
namespace Go.Proofs.Ytpflimnngilhnaa.rh
open Go.ChangeShapes Go.WideShapes Go.ChangeAt Go.RowKit
set_option linter.unusedVariables false
set_option linter.unusedSimpArgs false
def LL : List (List Int) := [[], [0], [0], [0]]
theorem view1 {w : World} {b : Nat} {x : Int} (h : w.heap[b]? = some (.cells #[.int .i64 x] 3)) : View w (.slice (some ⟨b, 0, none⟩) 1 1) [x] :=
  ⟨_, 1, rfl, ⟨Nat.le_refl _, by simp [maxLen]⟩, (fun h => by cases h), fun _ => ⟨b, 0, rfl, (Array.getElem?_eq_some_iff.1 h).1, Nat.le_refl _, fun i hi => by
    simp at hi
    subst hi
    simp [World.cell?, h]⟩⟩
def litW (w : World) : World := (((w.alloc (.cells #[.int .i64 0] 3)).alloc (.cells #[.int .i64 0] 3)).alloc (.cells #[.int .i64 0] 3)).alloc (.cells #[.slice none 0 0, .slice (some ⟨w.heap.size, 0, none⟩) 1 1, .slice (some ⟨w.heap.size + 1, 0, none⟩) 1 1, .slice (some ⟨w.heap.size + 1 + 1, 0, none⟩) 1 1] 24)
theorem lit_below (w : World) : Below w.heap.size w (litW w) := by unfold litW; go_grown
theorem lit_mv (w : World) : MV (litW w) (.slice (some ⟨w.heap.size + 1 + 1 + 1, 0, none⟩) 4 4) LL := by
  have h0 : (litW w).heap[w.heap.size]? = some (.cells #[.int .i64 0] 3) := by show ((((w.heap.push _).push _).push _).push _)[_]? = _; simp only [Array.getElem?_push, Array.size_push]; repeat (first | rw [if_neg (by omega)] | rw [if_pos (by omega)] | rw [if_pos trivial])
  have h1 : (litW w).heap[w.heap.size + 1]? = some (.cells #[.int .i64 0] 3) := by show ((((w.heap.push _).push _).push _).push _)[_]? = _; simp only [Array.getElem?_push, Array.size_push]; repeat (first | rw [if_neg (by omega)] | rw [if_pos (by omega)] | rw [if_pos trivial])
  have h2 : (litW w).heap[w.heap.size + 1 + 1]? = some (.cells #[.int .i64 0] 3) := by show ((((w.heap.push _).push _).push _).push _)[_]? = _; simp only [Array.getElem?_push, Array.size_push]; repeat (first | rw [if_neg (by omega)] | rw [if_pos (by omega)] | rw [if_pos trivial])
  have h3 : (litW w).heap[w.heap.size + 1 + 1 + 1]? = some (.cells #[.slice none 0 0, .slice (some ⟨w.heap.size, 0, none⟩) 1 1, .slice (some ⟨w.heap.size + 1, 0, none⟩) 1 1, .slice (some ⟨w.heap.size + 1 + 1, 0, none⟩) 1 1] 24) := by show ((((w.heap.push _).push _).push _).push _)[_]? = _; simp only [Array.getElem?_push, Array.size_push]; repeat (first | rw [if_neg (by omega)] | rw [if_pos (by omega)] | rw [if_pos trivial])
  have v0 := view1 h0
  have v1 := view1 h1
  have v2 := view1 h2
  generalize litW w = W at *
  refine ⟨_, 4, rfl, Nat.le_refl _, by simp [maxLen], fun i hi => ?_⟩
  have hlt := (Array.getElem?_eq_some_iff.1 h3).1
  have : i = 0 ∨ i = 1 ∨ i = 2 ∨ i = 3 := by simp [LL] at hi; omega
  rcases this with rfl | rfl | rfl | rfl
  · exact ⟨_, 0, _, rfl, hlt, by simp [World.cell?, h3], View.nil W⟩
  · exact ⟨_, 0, _, rfl, hlt, by simp [World.cell?, h3], v0⟩
  · exact ⟨_, 0, _, rfl, hlt, by simp [World.cell?, h3], v1⟩
  · exact ⟨_, 0, _, rfl, hlt, by simp [World.cell?, h3], v2⟩
def acc1 : List Acc := [(2, 0, false)]
theorem acc_rv' (W : World) (g : Nat) (h : W.heap[g]? = some (.cells #[.int .i64 2, .int .i64 0, .bool false] 71)) : RV 3 enA W (.slice (some ⟨g, 0, none⟩) 1 1) acc1 :=
  ⟨_, 1, rfl, Nat.le_refl _, by simp [maxLen], (fun e => by cases e), fun i x hx => ⟨g, 0, rfl, (Array.getElem?_eq_some_iff.1 h).1, fun j u hu => by
    match i, hx with
    | 0, hx =>
      simp [acc1] at hx
      subst hx
      match j, hu with
      | 0, hu => simp [enA] at hu; subst hu; simp [World.cell?, h]
      | 1, hu => simp [enA] at hu; subst hu; simp [World.cell?, h]
      | 2, hu => simp [enA] at hu; subst hu; simp [World.cell?, h]⟩⟩
theorem acc_rv (w : World) : RV 3 enA (w.alloc (.cells #[.int .i64 2, .int .i64 0, .bool false] 71)) (.slice (some ⟨w.heap.size, 0, none⟩) 1 1) acc1 :=
  acc_rv' _ _ (heap_box1 w _ _)
theorem ck_LL : ck LL = 0 := by decide
theorem rows_LL : ∀ i, (LL.getD i []).length ≤ 40 := row_all (by decide)
theorem w_t : ∀ s, s < 3 → (dnT LL 4 2 s).length < 4 := by decide
theorem w_t2 : ¬ (dnT LL 4 2 3).length < 4 := by decide
theorem w_in : inA acc1 4 1 = true := by decide
theorem w_span : gt (hg LL (wA acc1 1)) 4 = 3 := by decide
theorem w_wide : gt (cl LL 4) 4 = 3 := by decide
theorem w_k : Hid (∃ m1 : Int, (if (2 : Int) < 1 then (1 : Int) else 2) = m1 ∧ (if 64 < m1 then (64 : Int) else m1) = ((2 : Nat) : Int)) := Lib.hid ⟨2, by decide, by decide⟩
set_option maxRecDepth 20000 in
theorem works41 (w : World) : Calls Try.prog 12 #[] w fun e w' => e = .returned (.bool true) ∧ Below w.heap.size w w' := by
  have C1 := Lib.hid (greedy_of _ 4 4 2 2 LL _ (lit_mv w) ck_LL (by omega) rows_LL (by omega) (by omega) w_k)
  unfold litW at C1
  go_enter Try.func12, Try.ntmps12
  go_wp2_with (first | (go_at_call 24; (with_reducible refine C1.out.mono ?_); rintro e w1 ⟨t, rfl, ht1, ht2, HB1⟩))
  obtain rfl : t = 3 := t_unique (f := fun s => (dnT LL 4 2 s).length) ht1 ht2 w_t w_t2
  have HB1' : Below w.heap.size w w1 := (lit_below w).trans (HB1.mono (lit_below w).size)
  have HBH := Lib.hid HB1'
  have HM1 := Lib.hid ((lit_mv w).below HB1)
  have hB2 : Below w1.heap.size w1 (w1.alloc (.cells #[.int .i64 2, .int .i64 0, .bool false] 71)) := (Below.refl _ _).alloc (Nat.le_refl _) _
  have C2 := Lib.hid (span_yes _ _ 4 4 1 1 LL acc1 (.slice none 0 0) _ (HM1.out.below hB2) (acc_rv w1) ck_LL (by omega) w_in)
  rw [w_span] at C2
  have HB2 := Lib.hid hB2
  clear C1 HB1' HB1 hB2 ht1 ht2
  go_wp2_with (first | (go_at_call 17; (with_reducible refine C2.out.mono ?_); rintro e w2 ⟨rfl, HB3⟩))
  have h12 := trans3 HB2.out HB3
  have HBH2 := Lib.hid (trans3 HBH.out h12)
  have C3 := Lib.hid (widest_of _ 4 4 LL w2 (HM1.out.below h12) ck_LL)
  rw [w_wide] at C3
  clear C2 HB3 h12
  go_wp2_with (first | (go_at_call 22; (with_reducible refine C3.out.mono ?_); rintro e w3 ⟨rfl, HB4⟩))
  go_ret
  exact ⟨rfl, trans3 HBH2.out HB4⟩
end Go.Proofs.Ytpflimnngilhnaa.rh
