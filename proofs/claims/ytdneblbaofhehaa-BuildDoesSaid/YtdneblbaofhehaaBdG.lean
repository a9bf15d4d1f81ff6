/- The function's instructions with their targets: the copy (layer 7). -/
import Derived.Test.YtdneblbaofhehaaBdF
namespace Go.Proofs.Ytdneblbaofhehaa.bd
open Go.ChangeShapes Go.WideShapes Go.ChangeAt Go.RowKit Go.Maps
open Go.Proofs.Ytdneblbaofhehaa.ro
open Go.Proofs.Ytdneblbaofhehaa.pr
attribute [local go_sem ↓] Go.wp_at_zero Go.wp_at_succ
set_option linter.unusedVariables false
set_option linter.unusedSimpArgs false
theorem cloneI_none (w : World) : Calls Try.prog 25 #[.slice none 0 0] w fun e w' => ∃ v, e = .returned v ∧ OR 4 enI w' w.heap.size 33 v ([] : List I4) ∧ Below w.heap.size w w' := by
  have hs := @Lib.run_eql_slice_nil Try.prog
  go_enter Try.func25, Try.ntmps25
  go_wp2
  go_ret
  exact ⟨_, rfl, OR.nil _ _ _, Below.refl _ _⟩
theorem cloneI_some (ad : Addr) (n c : Nat) (xs : List I4) (w : World) (hv : RV 4 enI w (.slice (some ad) n c) xs) (hsm : xs.length ≤ 1000000) : Calls Try.prog 25 #[.slice (some ad) n c] w fun e w' => ∃ v, e = .returned v ∧ OR 4 enI w' w.heap.size 33 v xs ∧ Below w.heap.size w w' := by
  have hs := @Lib.run_eql_slice_nil Try.prog
  go_enter Try.func25, Try.ntmps25
  go_wp2_with (at_builtin; refine wpList_copyR (en := enI) rfl _ _ 50 33 _ 32 rfl Try.underlying50 infoI rfl (by decide) recI w.heap.size w.heap.size rfl ?o1 (Nat.le_refl _) xs ?v1 hsm ?_)
  case o1 => exact heap_new w _
  case v1 => exact hv.below ((Below.refl _ _).alloc (Nat.le_refl _) _)
  intro v' w' h1 h2
  clear hv
  go_wp2
  go_ret
  exact ⟨_, rfl, h1, ((Below.refl _ _).alloc (Nat.le_refl _) _).trans h2⟩
theorem cloneI (va : Value) (xs : List I4) (w : World) (hv : RV 4 enI w va xs) (hsm : xs.length ≤ 1000000) : Calls Try.prog 25 #[va] w fun e w' => ∃ v, e = .returned v ∧ OR 4 enI w' w.heap.size 33 v xs ∧ Below w.heap.size w w' := by
  have hv' := hv
  obtain ⟨a, c, rfl, h1, h2, hn, h3⟩ := hv
  cases a with
  | none =>
    have hc := hn rfl
    obtain rfl : xs = [] := List.eq_nil_of_length_eq_zero (by omega)
    subst hc
    exact cloneI_none w
  | some ad => exact cloneI_some ad _ c xs w hv' hsm
section
variable {α : Type} {k : Nat} {en : α → List Value}
theorem flat_set (hr : Rec k en) : ∀ (xs : List α) (i : Nat) (x y : α) (j : Nat) (u : Value), xs[i]? = some x → j < k → en y = (en x).set j u → flat en (xs.set i y) = (flat en xs).set (i * k + j) u
  | [], i, x, y, j, u, h, _, _ => by simp at h
  | q :: l, 0, x, y, j, u, h, hj, hy => by
    simp at h
    subst h
    show en y ++ flat en l = (en q ++ flat en l).set (0 * k + j) u
    rw [hy, List.set_append, if_pos (by rw [hr.2.1]; omega), Nat.zero_mul, Nat.zero_add]
  | q :: l, i + 1, x, y, j, u, h, hj, hy => by
    have h' : l[i]? = some x := by simpa using h
    show en q ++ flat en (l.set i y) = (en q ++ flat en l).set ((i + 1) * k + j) u
    rw [flat_set hr l i x y j u h' hj hy, List.set_append, if_neg (by rw [hr.2.1, Nat.succ_mul]; omega), hr.2.1]
    congr 2
    rw [Nat.succ_mul]
    omega
theorem OR.put {w : World} {B e g n c : Nat} {xs : List α} (hr : Rec k en) (h : OR k en w B e (.slice (some ⟨g, 0, none⟩) n c) xs) {i j : Nat} {x y : α} (hx : xs[i]? = some x) (hj : j < k) {u : Value} (hy : en y = (en x).set j u) :
    OR k en (w.setCell ⟨g, i * k + j, none⟩ u) B e (.slice (some ⟨g, 0, none⟩) n c) (xs.set i y) := by
  obtain ⟨hl, ⟨h0, _⟩ | ⟨g', cap, cur, h0, hg, hh, h1, h2, h3, h4⟩⟩ := h
  · simp at h0
  · simp only [Value.slice.injEq, Option.some.injEq, Addr.mk.injEq, and_true] at h0
    obtain ⟨rfl, rfl, rfl⟩ := h0
    refine ⟨by rw [flat_len hr], .inr ⟨g, c, cur.set! (i * k + j) u, by rw [List.length_set], hg, ro.set_blk w g _ u hh, by rw [List.length_set]; exact h1, h2, by simpa using h3, ?_⟩⟩
    rw [flat_set hr xs i x y j u hx hj hy, List.length_set, ← h4]
    simp [List.take_set]
end
/-- a jump's target is filled in. -/
def fillI (x : I4) (p : Int) : I4 := if x.1 = 18 then (x.1, p, x.2.2) else (x.1, x.2.1, p, x.2.2.2)
def fill1 (c : List I4) (a : Nat) (p : Int) : List I4 := c.set a (fillI (c.getD a d4) p)
/-- the targets, leap after leap. -/
def ledR (f : ByteArray → Option Int) : List (Int × ByteArray) → List I4 → Option (List I4)
  | [], c => some c
  | l :: r, c => match f l.2 with
    | none => none
    | some p => ledR f r (fill1 c l.1.toNat p)
end Go.Proofs.Ytdneblbaofhehaa.bd
