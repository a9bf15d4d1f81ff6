/- The state of the law LayoutApart: a plan, the numbers how often each word is, and the list of all words. -/
import Derived.Test.YtfigabjcmpakeaaAppN
import Derived.Test.YtfigabjcmpakeaaLay11
import Derived.Test.YtfigabjcmpakeaaKeep
import Derived.Deep.OwnRows
namespace Go.Proofs.Ytfigabjcmpakeaa.layoutApart
open Go.ChangeShapes Go.WideShapes Go.ChangeAt Go.RowKit
set_option linter.unusedVariables false
set_option linter.unusedSimpArgs false
def rng (n : Nat) : List Int := (List.range n).map Int.ofNat
theorem rng_len (n : Nat) : (rng n).length = n := by simp [rng]
theorem rng_one (n : Nat) : rng n ++ [(n : Int)] = rng (n + 1) := by simp [rng, List.range_succ]
theorem rng_two (n : Nat) : rng n ++ [(n : Int), (n : Int) + 1] = rng (n + 2) := by
  rw [← rng_one (n + 1), ← rng_one n]; simp
theorem rng_four (n : Nat) : rng n ++ [(n : Int), (n : Int) + 1, (n : Int) + 2, (n : Int) + 3] = rng (n + 4) := by
  rw [← rng_two (n + 2), ← rng_two n]; simp; omega
theorem rng_at (n i : Nat) (h : i < n) : (rng n).getD i 0 = i := by simp [rng, h]
def mc (ms : Nat → Int) (j : Nat) : Value := .int .i64 (ms j)
structure LA (w0 w : World) (P M B : Nat) (a b c d : Int) (size : Nat) (va : Value) (n : Nat) (ms : Nat → Int) : Prop where
  bl : Below w0.heap.size w0 w
  c0 : w.cell? ⟨P, 0, none⟩ = some (.int .i64 a)
  c1 : w.cell? ⟨P, 1, none⟩ = some (.int .i64 b)
  c2 : w.cell? ⟨P, 2, none⟩ = some (.int .i64 c)
  c3 : w.cell? ⟨P, 3, none⟩ = some (.int .i64 d)
  m : w.rowIs M 3 size (mc ms)
  v : w.ownsRow B 3 1 va (rng n).length ((rng n).map (Value.int .i64))
  lt : P < B ∧ M < B ∧ P ≠ M ∧ w0.heap.size ≤ M ∧ w0.heap.size ≤ B ∧ B ≤ w.heap.size
variable {w0 w : World} {P M B : Nat} {a b c d : Int} {size : Nat} {va : Value} {n : Nat} {ms : Nat → Int}
theorem cellB {w' : World} {X i : Nat} {v : Value} (h : w.cell? ⟨X, i, none⟩ = some v) (hb : Below B w w') (hX : X < B) : w'.cell? ⟨X, i, none⟩ = some v :=
  (cell_heap (hb.block X hX)).trans h
theorem LA.grow {w' : World} {va' : Value} {n' : Nat} (h : LA w0 w P M B a b c d size va n ms) (hb : Below B w w') (hr : w'.ownsRow B 3 1 va' (rng n').length ((rng n').map (Value.int .i64))) : LA w0 w' P M B a b c d size va' n' ms := by
  obtain ⟨h0, h1, h2, h3, h4, h5, h6, l1, l2, l3, l4, l5, l6⟩ := h
  exact ⟨h0.trans (hb.mono l5), cellB h1 hb l1, cellB h2 hb l1, cellB h3 hb l1, cellB h4 hb l1, h5.of_block (hb.block M l2), hr, l1, l2, l3, l4, l5, Nat.le_trans l6 hb.size⟩
theorem LA.below {w' : World} (h : LA w0 w P M B a b c d size va n ms) (hb : Below w.heap.size w w') : LA w0 w' P M B a b c d size va n ms :=
  h.grow (hb.mono h.lt.2.2.2.2.2) (row_kept h.v fun k e => hb.block k (h.v.lt k e).2)
theorem LA.app {w' : World} {va' : Value} {n' : Nat} (h : LA w0 w P M B a b c d size va n ms) (hr : w'.ownsRow B 3 1 va' (rng n').length ((rng n').map (Value.int .i64))) (hg : w.grownBy w' va.ownBlock) : LA w0 w' P M B a b c d size va' n' ms :=
  h.grow ((Below.refl _ _).grown hg h.lt.2.2.2.2.2 (fun k e => (h.v.lt k e).1)) hr
theorem LA.set (h : LA w0 w P M B a b c d size va n ms) (i : Nat) (x : Int) : LA w0 (w.setCell ⟨M, i, none⟩ (.int .i64 x)) P M B a b c d size va n (fun j => if j = i then x else ms j) := by
  obtain ⟨h0, h1, h2, h3, h4, h5, h6, l1, l2, l3, l4, l5, l6⟩ := h
  have e : ∀ X, X ≠ M → (w.setCell ⟨M, i, none⟩ (.int .i64 x)).heap[X]? = w.heap[X]? := fun X hX => by
    show (w.heap.modify M _)[X]? = _
    rw [Array.getElem?_modify, if_neg (fun e => hX e.symm)]
  refine ⟨h0.setCell l4 _, (cell_heap (e P l3)).trans h1, (cell_heap (e P l3)).trans h2, (cell_heap (e P l3)).trans h3, (cell_heap (e P l3)).trans h4, (h5.set i _).congr (fun j hj => ?_), row_kept h6 (fun k q => e k ?_), l1, l2, l3, l4, l5, ?_⟩
  · by_cases e1 : j = i <;> simp [mc, e1]
  · have := (h6.lt k q).1; omega
  · show B ≤ (w.heap.modify M _).size; rw [Array.size_modify]; exact l6
theorem LA.congr {ms' : Nat → Int} (h : LA w0 w P M B a b c d size va n ms) (e : ∀ j, j < size → ms j = ms' j) : LA w0 w P M B a b c d size va n ms' :=
  { h with m := h.m.congr (fun j hj => by unfold mc; rw [e j hj]) }
end Go.Proofs.Ytfigabjcmpakeaa.layoutApart
