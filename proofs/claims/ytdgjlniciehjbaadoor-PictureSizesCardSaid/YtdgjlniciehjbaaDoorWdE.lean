/- A list that is written, read (layer 5): the program's. -/
import Derived.Test.YtdgjlniciehjbaaDoorWdD
namespace Go.Proofs.YtdgjlniciehjbaaDoor.wd
open Go.ChangeShapes Go.WideShapes Go.ChangeAt Go.RowKit
open Go.Proofs.YtdgjlniciehjbaaDoor.st
set_option linter.unusedVariables false
set_option linter.unusedSimpArgs false
def nmF (acc : List Int) : List (List UInt8) → Option (List Int)
  | [] => some acc
  | x :: r => if (numV x).2 then nmF (acc ++ [(numV x).1]) r else none
def numsV (l : List UInt8) : Option (List Int) := if l = [45] then some [] else nmF [] (spl 44 l)
def NP (r : Option (List Int)) (w0 : World) (e : Ending) (w' : World) : Prop :=
  (match r with
    | some xs => ∃ v, e = .returned (.tuple #[v, .bool true]) ∧ View w' v xs
    | none => e = .returned (.tuple #[.slice none 0 0, .bool false])) ∧ Below w0.heap.size w0 w'
theorem own_below {w w' : World} {B : Nat} {v : Value} {n : Nat} {xs : List Value} (h : w.ownsRow B 3 1 v n xs) (hb : Below w.heap.size w w') : w'.ownsRow B 3 1 v n xs := by
  obtain ⟨hl, h⟩ := h
  refine ⟨hl, ?_⟩
  rcases h with h | ⟨g, cap, cur, rfl, hg, hh, h1, h2, h3, h4⟩
  · exact .inl h
  · exact .inr ⟨g, cap, cur, rfl, hg, (hb.block g (Array.getElem?_eq_some_iff.1 hh).1).trans hh, h1, h2, h3, h4⟩
theorem own_lt {w : World} {B : Nat} {v : Value} {n : Nat} {xs : List Value} (h : w.ownsRow B 3 1 v n xs) : ∀ k, v.ownBlock = some k → B ≤ k := by
  intro k hk
  obtain ⟨_, ⟨rfl, _⟩ | ⟨g, cap, cur, rfl, hg, hh, _⟩⟩ := h
  · simp [Value.ownBlock] at hk
  · simp [Value.ownBlock] at hk
    omega
theorem own_form {w : World} {B : Nat} {v : Value} {n : Nat} {xs : List Value} (h : w.ownsRow B 3 1 v n xs) : ∃ a c, v = .slice a n c := by
  obtain ⟨_, ⟨rfl, rfl⟩ | ⟨g, cap, cur, rfl, _⟩⟩ := h
  · exact ⟨none, 0, rfl⟩
  · exact ⟨_, cap, rfl⟩
theorem spl_len (c : UInt8) : ∀ l, (spl c l).length ≤ l.length + 1 := by
  intro l
  induction l with
  | nil => simp [spl]
  | cons x r ih =>
    rw [spl]
    split
    · simp; omega
    · split
      · simp
      · rename_i h t he
        rw [he] at ih
        simp at ih ⊢
        omega
theorem spl_part (c : UInt8) : ∀ l, ∀ x ∈ spl c l, x.length ≤ l.length := by
  intro l
  induction l with
  | nil => intro x hx; simp [spl] at hx; subst hx; simp
  | cons y r ih =>
    intro x hx
    rw [spl] at hx
    split at hx
    · rcases List.mem_cons.1 hx with rfl | hx
      · simp
      · have := ih x hx; simp; omega
    · split at hx
      · rename_i he
        simp at hx; subst hx; simp
      · rename_i h t he
        rcases List.mem_cons.1 hx with rfl | hx
        · have := ih h (by rw [he]; simp); simp; omega
        · have := ih x (by rw [he]; exact List.mem_cons_of_mem _ hx); simp; omega

end Go.Proofs.YtdgjlniciehjbaaDoor.wd
