/- Pure: lists in writing (layer 5). -/
import Derived.Test.YtdgjlniciehjbaaDoorWdE
namespace Go.Proofs.YtdgjlniciehjbaaDoor.wd
open Go.ChangeShapes Go.WideShapes Go.ChangeAt Go.RowKit
open Go.Proofs.YtdgjlniciehjbaaDoor.st
set_option linter.unusedVariables false
set_option linter.unusedSimpArgs false
/-- what is still to be read: the word so far, and the rest. -/
def spW (word rest : List UInt8) : List (List UInt8) := match spl 44 rest with
  | [] => [word]
  | h :: t => (word ++ h) :: t
theorem spW_nil (r : List UInt8) : spW [] r = spl 44 r := by
  unfold spW
  cases h : spl 44 r with
  | nil => exact absurd h (spl_ne 44 r)
  | cons a t => rfl
theorem spW_more (word r : List UInt8) (c : UInt8) (hc : c ≠ 44) : spW word (c :: r) = spW (word ++ [c]) r := by
  unfold spW
  rw [spl, if_neg hc]
  cases h : spl 44 r with
  | nil => exact absurd h (spl_ne 44 r)
  | cons a t => simp
theorem spW_cut (word r : List UInt8) : spW word (44 :: r) = word :: spW [] r := by
  rw [spW_nil]
  unfold spW
  rw [spl, if_pos rfl]
  simp
theorem spW_end (word : List UInt8) : spW word [] = [word] := by simp [spW, spl]
theorem join_snoc (L : List (List UInt8)) (y sep : List UInt8) (h : L ≠ []) : Lib.join (L ++ [y]) sep = Lib.join L sep ++ sep ++ y := by
  cases L with
  | nil => exact absurd rfl h
  | cons x r =>
    rw [List.cons_append, Lib.join_cons, Lib.join_cons]
    simp [Lib.joinTail]
theorem itoa_cons (v : Int) : ∃ c r, Lib.itoa v = c :: r ∧ c ≠ 44 := by
  by_cases h : 0 ≤ v
  · obtain ⟨c, r, hc, hd⟩ := dec_cons v.toNat
    refine ⟨c, r, by rw [itoa_pos h, hc], ?_⟩
    rintro rfl
    unfold Dg at hd
    have : (44 : UInt8).toNat = 44 := rfl
    omega
  · exact ⟨45, _, itoa_negv (by omega), by decide⟩
theorem itoa_no44 (v : Int) : ∀ c ∈ Lib.itoa v, c ≠ 44 := by
  have hd : ∀ u, ∀ c ∈ Lib.decDigits u, c ≠ 44 := fun u c hc e => by
    have := dec_digits u c hc
    subst e
    unfold Dg at this
    have : (44 : UInt8).toNat = 44 := rfl
    omega
  intro c hc
  by_cases h : 0 ≤ v
  · rw [itoa_pos h] at hc; exact hd _ c hc
  · rw [itoa_negv (by omega)] at hc
    rcases List.mem_cons.1 hc with rfl | hc
    · decide
    · exact hd _ c hc
theorem itoa_ne45 (v : Int) (r : List UInt8) : Lib.itoa v ++ r ≠ [45] := by
  intro h
  by_cases hv : 0 ≤ v
  · obtain ⟨c, t, hc, hd⟩ := dec_cons v.toNat
    rw [itoa_pos hv, hc] at h
    simp only [List.cons_append, List.cons.injEq] at h
    obtain ⟨rfl, _⟩ := h
    unfold Dg at hd
    have : (45 : UInt8).toNat = 45 := rfl
    omega
  · obtain ⟨c, t, hc, _⟩ := dec_cons v.natAbs
    rw [itoa_negv (by omega), hc] at h
    simp at h
theorem spl_app (y rest : List UInt8) (h : ∀ c ∈ y, c ≠ 44) : spl 44 (y ++ rest) = match spl 44 rest with
    | [] => [y]
    | a :: t => (y ++ a) :: t := by
  induction y with
  | nil =>
    cases hr : spl 44 rest with
    | nil => exact absurd hr (spl_ne 44 rest)
    | cons a t => simp [hr]
  | cons x y ih =>
    rw [List.cons_append, spl, if_neg (h x (by simp)), ih (fun c hc => h c (List.mem_cons_of_mem _ hc))]
    cases hr : spl 44 rest with
    | nil => exact absurd hr (spl_ne 44 rest)
    | cons a t => simp
theorem spl_tail : ∀ (r : List (List UInt8)), (∀ y ∈ r, ∀ c ∈ y, c ≠ 44) → ∀ y : List UInt8, (∀ c ∈ y, c ≠ 44) → spl 44 (y ++ Lib.joinTail [44] r) = y :: r := by
  intro r
  induction r with
  | nil =>
    intro _ y hy
    rw [spl_app y _ hy]
    simp [Lib.joinTail, spl]
  | cons z r ih =>
    intro h y hy
    have hj : Lib.joinTail [44] (z :: r) = 44 :: (z ++ Lib.joinTail [44] r) := by simp [Lib.joinTail]
    rw [spl_app y _ hy, hj, spl, if_pos rfl, ih (fun a ha => h a (List.mem_cons_of_mem _ ha)) z (h z (by simp))]
    simp
theorem nmF_itoa : ∀ (xs acc : List Int), (∀ x ∈ xs, I64 x) → nmF acc (xs.map Lib.itoa) = some (acc ++ xs) := by
  intro xs
  induction xs with
  | nil => intro acc _; simp [nmF]
  | cons x xs ih =>
    intro acc h
    rw [List.map_cons, nmF, numV_itoa (h x (by simp)), if_pos rfl, ih _ (fun y hy => h y (List.mem_cons_of_mem _ hy)), List.append_assoc]
    rfl
theorem nums_list (xs : List Int) (h : ∀ x ∈ xs, I64 x) : numsV (lsV xs) = some xs := by
  unfold lsV
  cases xs with
  | nil => rw [if_pos rfl]; unfold numsV; rw [if_pos rfl]
  | cons x xs =>
    rw [if_neg (by simp), List.map_cons, Lib.join_cons]
    unfold numsV
    rw [if_neg (itoa_ne45 _ _), spl_tail _ (by
      intro y hy c hc
      obtain ⟨v, _, rfl⟩ := List.mem_map.1 hy
      exact itoa_no44 v c hc) _ (itoa_no44 x), ← List.map_cons, nmF_itoa _ _ h]
    rfl
theorem lsV_ne (xs : List Int) (h : xs ≠ []) : Lib.join (xs.map Lib.itoa) [44] ≠ [] := by
  cases xs with
  | nil => exact absurd rfl h
  | cons x xs =>
    rw [List.map_cons, Lib.join_cons]
    obtain ⟨c, r, hc, _⟩ := itoa_cons x
    rw [hc]; simp
end Go.Proofs.YtdgjlniciehjbaaDoor.wd
