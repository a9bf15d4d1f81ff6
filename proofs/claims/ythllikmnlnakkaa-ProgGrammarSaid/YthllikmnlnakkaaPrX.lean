/- Pure: a program with its functions doubled; how long its bytes are (layer 4). -/
import Derived.Test.YthllikmnlnakkaaPrR
import Derived.Test.YthllikmnlnakkaaPrN
namespace Go.Proofs.Ythllikmnlnakkaa.pr
open Go.ChangeShapes Go.WideShapes Go.ChangeAt Go.RowKit
open Go.Proofs.Ythllikmnlnakkaa.bin Go.Proofs.Ythllikmnlnakkaa.bits Go.Proofs.Ythllikmnlnakkaa.ins
set_option linter.unusedVariables false
set_option linter.unusedSimpArgs false
theorem ldL_more : ∀ (f : List UInt8) (xs : List Int) (p q q' : Nat), q ≤ q' → ldL f xs p q = true → ldL f xs p q' = true := by
  intro f
  induction f with
  | nil => intro xs p q q' _ _; rfl
  | cons c f ih =>
    intro xs p q q' hq h
    cases xs with
    | nil => rfl
    | cons x xs =>
      rw [ldL] at h ⊢
      by_cases h1 : (c = 116 ∧ (p : Int) ≤ x) ∨ (c = 102 ∧ (q : Int) ≤ x)
      · rw [if_pos h1] at h; cases h
      · rw [if_neg h1] at h
        rw [if_neg (by
          rintro (h2 | ⟨h2, h3⟩)
          · exact h1 (.inl h2)
          · exact h1 (.inr ⟨h2, by omega⟩))]
        exact ih xs p q q' hq h
theorem insR_of (l : List I4) (q : Nat) (h : ∀ k, k < l.length → ck4 (l.getD k d4) = 0 ∧ ld4 (l.getD k d4) l.length q = true) : ∀ k, k ≤ l.length → insR l q k = 0 := by
  intro k
  induction k with
  | zero => intro _; rfl
  | succ k ih =>
    intro hk
    obtain ⟨h1, h2⟩ := h k (by omega)
    rw [insR, ih (by omega), h1, h2]
    simp
theorem fnE_more {l : List I4} {q q' : Nat} (hq : q ≤ q') (h : fnE l q = 0) : fnE l q' = 0 := by
  obtain ⟨h1, h2, h3⟩ := fnE_0 h
  have h4 := insR_of l q' (fun k hk => ⟨(insR_0 h2 k hk).1, ldL_more _ _ _ _ _ hq (insR_0 h2 k hk).2⟩) l.length (Nat.le_refl _)
  unfold fnE
  rw [h1, h4, h3]
  simp
theorem fnR_of (L : List (List I4)) (h : ∀ k, k < L.length → fnE (L.getD k []) L.length = 0) : ∀ k, k ≤ L.length → fnR L k = 0 := by
  intro k
  induction k with
  | zero => intro _; rfl
  | succ k ih =>
    intro hk
    rw [fnR, ih (by omega), h k (by omega)]
    simp
theorem prE_dbl {m : Int} {L : List (List I4)} (h : prE m L = 0) (h2 : ¬ 16 < L.length + L.length) : prE m (L ++ L) = 0 := by
  obtain ⟨h1, h3⟩ := prE_0 h
  obtain ⟨m0, m1, n0, n1⟩ := cntE_0 h1
  have h4 : fnR (L ++ L) (L ++ L).length = 0 := fnR_of _ (fun k hk => by
    rw [List.length_append] at hk ⊢
    by_cases hkl : k < L.length
    · rw [List.getD_eq_getElem?_getD, List.getElem?_append_left hkl, ← List.getD_eq_getElem?_getD]
      exact fnE_more (by omega) (fnR_0 h3 k hkl)
    · rw [List.getD_eq_getElem?_getD, List.getElem?_append_right (by omega), ← List.getD_eq_getElem?_getD]
      exact fnE_more (by omega) (fnR_0 h3 _ (by omega))) _ (Nat.le_refl _)
  unfold prE
  rw [h4, List.length_append]
  have : cntE m (L.length + L.length) = 0 := by
    unfold cntE
    rw [if_neg (by omega), if_neg (by omega), if_neg h2]
  rw [this]
  simp
theorem prE_big {m : Int} {L : List (List I4)} (h : prE m L = 0) (h2 : 16 < L.length + L.length) : prE m (L ++ L) = 9 := by
  obtain ⟨h1, h3⟩ := prE_0 h
  obtain ⟨m0, m1, n0, n1⟩ := cntE_0 h1
  have : cntE m (L.length + L.length) = 9 := by
    unfold cntE
    rw [if_neg (by omega), if_neg (by omega), if_pos h2]
  unfold prE
  rw [List.length_append, this]
  simp
/-- the length as the law counts it. -/
def szF (L : List (List I4)) : Nat → Nat
  | 0 => 6
  | k + 1 => szF L k + 2 + 4 * (L.getD k []).length
theorem szF_take (L : List (List I4)) : ∀ k, k ≤ L.length → szF L k = 6 + ((L.take k).map (fun l => 2 + 4 * l.length)).sum := by
  intro k
  induction k with
  | zero => intro _; simp [szF]
  | succ k ih =>
    intro hk
    have hx : (L.take (k + 1)) = L.take k ++ [L.getD k []] := by
      rw [List.take_add_one, List.getD_eq_getElem?_getD, List.getElem?_eq_getElem (by omega)]; simp
    rw [szF, ih (by omega), hx, List.map_append, List.sum_append, List.map_cons, List.map_nil, List.sum_cons, List.sum_nil]
    omega
theorem szF_all (m : Int) (L : List (List I4)) : szF L L.length = (prB m L).length := by
  rw [szF_take L _ (Nat.le_refl _), List.take_length, prB_len]
theorem prB_two (m : Int) (L : List (List I4)) : (prB m (L ++ L)).length = 2 * (prB m L).length - 6 := by
  rw [prB_len, prB_len, List.map_append, List.sum_append]
  omega
theorem szF_small (L : List (List I4)) (h : Sm L) : ∀ k, k ≤ L.length → szF L k ≤ 6 + 1202 * k := by
  intro k
  induction k with
  | zero => intro _; simp [szF]
  | succ k ih =>
    intro hk
    have := h.2 k (by omega)
    rw [szF]
    have := ih (by omega)
    omega
end Go.Proofs.Ythllikmnlnakkaa.pr
