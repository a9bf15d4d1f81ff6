/- Words and lines as pieces; two lists of words that are the same (layer 5). -/
import Derived.Test.YtdgjlniciehjbaaDoorWdQ
import Derived.BigQuiet
namespace Go.Proofs.YtdgjlniciehjbaaDoor.wd
open Go.ChangeShapes Go.WideShapes Go.ChangeAt Go.RowKit
open Go.Proofs.YtdgjlniciehjbaaDoor.st
set_option linter.unusedVariables false
set_option linter.unusedSimpArgs false
/-- the word so far, and what the rest is cut into. -/
def spX (s : UInt8) (word rest : List UInt8) : List (List UInt8) := match spl s rest with
  | [] => [word]
  | h :: t => (word ++ h) :: t
theorem spX_nil (s : UInt8) (r : List UInt8) : spX s [] r = spl s r := by
  unfold spX
  cases h : spl s r with
  | nil => exact absurd h (spl_ne s r)
  | cons a t => rfl
theorem spX_more (s : UInt8) (word r : List UInt8) (c : UInt8) (hc : c ≠ s) : spX s word (c :: r) = spX s (word ++ [c]) r := by
  unfold spX
  rw [spl, if_neg hc]
  cases h : spl s r with
  | nil => exact absurd h (spl_ne s r)
  | cons a t => simp
theorem spX_app (s : UInt8) : ∀ (m word r : List UInt8), (∀ c ∈ m, c ≠ s) → spX s word (m ++ r) = spX s (word ++ m) r := by
  intro m
  induction m with
  | nil => intro word r _; simp
  | cons c m ih =>
    intro word r h
    rw [List.cons_append, spX_more s word _ c (h c (by simp)), ih _ _ (fun x hx => h x (List.mem_cons_of_mem _ hx)), List.append_assoc]
    rfl
theorem spX_cut (s : UInt8) (word r : List UInt8) : spX s word (s :: r) = word :: spX s [] r := by
  rw [spX_nil]
  unfold spX
  rw [spl, if_pos rfl]
  simp
theorem spX_end (s : UInt8) (word : List UInt8) : spX s word [] = [word] := by simp [spX, spl]
def ne (l : List UInt8) : Bool := !l.isEmpty
/-- the words of a line. -/
def fldV (l : List UInt8) : List (List UInt8) := (spl 32 l).filter ne
/-- what is still to come. -/
def fldX (word rest : List UInt8) : List (List UInt8) := (spX 32 word rest).filter ne
theorem fldX_nil (l : List UInt8) : fldX [] l = fldV l := by unfold fldX fldV; rw [spX_nil]
theorem fldX_more (word m r : List UInt8) (h : ∀ c ∈ m, c ≠ 32) : fldX word (m ++ r) = fldX (word ++ m) r := by unfold fldX; rw [spX_app 32 m word r h]
theorem fldX_cut (word r : List UInt8) : fldX word (32 :: r) = (if ne word then [word] else []) ++ fldX [] r := by
  unfold fldX
  rw [spX_cut, List.filter_cons]
  split <;> simp
theorem fldX_end (word : List UInt8) : fldX word [] = if ne word then [word] else [] := by
  unfold fldX
  rw [spX_end, List.filter_cons, List.filter_nil]
/-- the lines of a text: the last piece only where it is not empty. -/
def linX (word rest : List UInt8) : List (List UInt8) := if (spX 10 word rest).getLast? = some [] then (spX 10 word rest).dropLast else spX 10 word rest
def linV (l : List UInt8) : List (List UInt8) := linX [] l
theorem spX_ne (s : UInt8) (word r : List UInt8) : spX s word r ≠ [] := by
  unfold spX
  split <;> simp
theorem linX_more (word r : List UInt8) (c : UInt8) (h : c ≠ 10) : linX word (c :: r) = linX (word ++ [c]) r := by unfold linX; rw [spX_more 10 word r c h]
theorem linX_cut (word r : List UInt8) : linX word (10 :: r) = word :: linX [] r := by
  unfold linX
  rw [spX_cut]
  obtain ⟨P, hP⟩ : ∃ P, spX 10 [] r = P := ⟨_, rfl⟩
  have hne : P ≠ [] := by rw [← hP]; exact spX_ne _ _ _
  rw [hP]
  cases P with
  | nil => exact absurd rfl hne
  | cons a t =>
    rw [List.getLast?_cons_cons]
    split
    · rw [List.dropLast_cons_of_ne_nil (by simp)]
    · rfl
theorem linX_end (word : List UInt8) : linX word [] = if word = [] then [] else [word] := by
  unfold linX
  rw [spX_end]
  by_cases h : word = []
  · subst h; rfl
  · rw [if_neg (by simpa using h), if_neg h]

end Go.Proofs.YtdgjlniciehjbaaDoor.wd
