/- Pure: words are the words of their line; lines are those of their text (layer 5). -/
import Derived.Test.YtdgjlniciehjbaaDoorWdI
namespace Go.Proofs.YtdgjlniciehjbaaDoor.wd
open Go.ChangeShapes Go.WideShapes Go.ChangeAt Go.RowKit
open Go.Proofs.YtdgjlniciehjbaaDoor.st
set_option linter.unusedVariables false
set_option linter.unusedSimpArgs false
theorem spl_mem (s : UInt8) : ∀ (l x : List UInt8), x ∈ spl s l → ∀ c ∈ x, c ≠ s := by
  intro l
  induction l with
  | nil =>
    intro x hx c hc
    simp [spl] at hx
    subst hx
    cases hc
  | cons y r ih =>
    intro x hx c hc
    rw [spl] at hx
    split at hx
    · rcases List.mem_cons.1 hx with rfl | hx
      · cases hc
      · exact ih x hx c hc
    · rename_i hy
      cases h : spl s r with
      | nil => exact absurd h (spl_ne s r)
      | cons a t =>
        rw [h] at hx ih
        rcases List.mem_cons.1 hx with rfl | hx
        · rcases List.mem_cons.1 hc with rfl | hc
          · exact hy
          · exact ih a (by simp) c hc
        · exact ih x (List.mem_cons_of_mem _ hx) c hc
/-- a word that is all of its line. -/
theorem fld_self (x : List UInt8) (h : fldV x = [x]) : x ≠ [] ∧ ∀ c ∈ x, c ≠ 32 := by
  have hm : x ∈ fldV x := by rw [h]; simp
  unfold fldV at hm
  obtain ⟨h1, h2⟩ := List.mem_filter.1 hm
  refine ⟨?_, spl_mem 32 x x h1⟩
  rintro rfl
  simp [ne] at h2
theorem lin_self (x : List UInt8) (h : linV x = [x]) : ∀ c ∈ x, c ≠ 10 := by
  have hm : x ∈ linV x := by rw [h]; simp
  unfold linV linX at hm
  rw [spX_nil] at hm
  split at hm
  · exact spl_mem 10 x x (List.dropLast_subset _ hm)
  · exact spl_mem 10 x x hm
theorem ne_of {x : List UInt8} (h : x ≠ []) : ne x = true := by
  cases x with
  | nil => exact absurd rfl h
  | cons _ _ => rfl
theorem join_two (x y : List UInt8) (r : List (List UInt8)) (sep : List UInt8) : Lib.join (x :: y :: r) sep = x ++ (sep ++ Lib.join (y :: r) sep) := by
  rw [Lib.join_cons, Lib.join_cons]
  simp [Lib.joinTail]
/-- the words of a line of words. -/
theorem fld_join : ∀ P : List (List UInt8), (∀ x ∈ P, x ≠ [] ∧ ∀ c ∈ x, c ≠ 32) → fldV (Lib.join P [32]) = P := by
  intro P
  induction P with
  | nil => intro _; rfl
  | cons x r ih =>
    intro h
    obtain ⟨h1, h2⟩ := h x (by simp)
    have hr := ih (fun y hy => h y (List.mem_cons_of_mem _ hy))
    cases r with
    | nil =>
      rw [Lib.join_one, ← fldX_nil]
      have := fldX_more [] x [] h2
      rw [List.append_nil, List.nil_append, fldX_end, if_pos (ne_of h1)] at this
      exact this
    | cons y r =>
      rw [join_two, ← fldX_nil, fldX_more [] x _ h2, List.nil_append, List.singleton_append, fldX_cut, if_pos (ne_of h1), fldX_nil, hr]
      rfl
theorem linX_app : ∀ (m word r : List UInt8), (∀ c ∈ m, c ≠ 10) → linX word (m ++ r) = linX (word ++ m) r := by
  intro m
  induction m with
  | nil => intro word r _; simp
  | cons c m ih =>
    intro word r h
    rw [List.cons_append, linX_more word _ c (h c (by simp)), ih _ _ (fun x hx => h x (List.mem_cons_of_mem _ hx)), List.append_assoc]
    rfl
def txt (P : List (List UInt8)) : List UInt8 := (P.map (· ++ [10])).flatten
theorem txt_snoc (P : List (List UInt8)) (x : List UInt8) : txt (P ++ [x]) = (txt P ++ x) ++ [10] := by simp [txt]
/-- the lines of a text of lines. -/
theorem lin_txt : ∀ P : List (List UInt8), (∀ x ∈ P, ∀ c ∈ x, c ≠ 10) → linV (txt P) = P := by
  intro P
  induction P with
  | nil => intro _; rfl
  | cons x r ih =>
    intro h
    have hr := ih (fun y hy => h y (List.mem_cons_of_mem _ hy))
    have e : txt (x :: r) = x ++ (10 :: txt r) := by simp [txt]
    unfold linV
    rw [e, linX_app x [] _ (h x (by simp)), List.nil_append, linX_cut]
    unfold linV at hr
    rw [hr]
end Go.Proofs.YtdgjlniciehjbaaDoor.wd
