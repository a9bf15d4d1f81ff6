/- A row of whole numbers that the call itself made: one more at its end; where it lies; how it stays. -/
import Derived.Test.YtgbeghaojkhiaaaView
import Derived.Maps.AppendAt
import Derived.Handy
namespace Go.Proofs.Ytgbeghaojkhiaaa
open Go.ChangeShapes Go.WideShapes Go.ChangeAt Go.RowKit
set_option linter.unusedVariables false
set_option linter.unusedSimpArgs false
theorem row_kept {w w' : World} {base : Nat} {v : Value} {n : Nat} {xs : List Value} (h : w.ownsRow base 3 1 v n xs) (hk : ∀ k, v.ownBlock = some k → w'.heap[k]? = w.heap[k]?) : w'.ownsRow base 3 1 v n xs := by
  obtain ⟨hl, h⟩ := h
  refine ⟨hl, ?_⟩
  rcases h with h | ⟨g, cap, cur, rfl, hg, hh, h1, h2, h3, h4⟩
  · exact .inl h
  · exact .inr ⟨g, cap, cur, rfl, hg, (hk g rfl).trans hh, h1, h2, h3, h4⟩
theorem run_app1 {w : World} (ty B : Nat) (v : Value) (xs : List Int) (ad : Addr) (c : Nat) (u : Int) (hown : w.ownsRow B 3 1 v xs.length (xs.map (Value.int .i64))) (hu : w.cell? ad = some (.int .i64 u)) (hpl : ad.add 0 = ad) (hsm : xs.length ≤ 100000) (hB : B ≤ w.heap.size) :
    ∃ v' w', (Builtin.append_ #[46, 46] ty #[v, .slice (some ad) 1 c]).run Try.prog w = .ok v' w' ∧ w'.ownsRow B 3 1 v' (xs ++ [u]).length ((xs ++ [u]).map (Value.int .i64)) ∧ w.grownBy w' v.ownBlock ∧ (v'.ownBlock = v.ownBlock ∨ v'.ownBlock = some w.heap.size) := by
  obtain ⟨i0, hi, hz0, hz1, hz2⟩ := info_parts info3
  obtain ⟨v', w', h1, h2, h3, _, h5⟩ := run_append_own_at (P := Try.prog) w B 46 ty 3 i0 (.int .i64 0) 1 8 Try.underlying46 hi hz0 hz1 hz2 rfl (by decide) v xs.length _ hown ad 1 c [.int .i64 u] rfl (by
    intro j x hj
    match j, hj with
    | 0, hj => simp at hj; subst hj; rw [hpl]; exact hu) (by simp; rfl) (by unfold maxLen; omega) (by omega) hB
  exact ⟨v', w', h1, by simpa using h2, h3, h5⟩
theorem wpList_app1 {ops : Array Oper} {rest : List Oper} {o : Oper} {a : Act} {w : World} {Q : Exit → Act → World → Prop} (hgd : o.guard = none) (s x : Operand)
    (ho : o.op = .call { callee := .builtin .append, args := #[s, x], argTypes := #[46, 46] })
    (B : Nat) (v : Value) (xs : List Int) (hs : a.eval s = v) (ad : Addr) (c : Nat) (hx : a.eval x = .slice (some ad) 1 c) (u : Int) (hown : w.ownsRow B 3 1 v xs.length (xs.map (Value.int .i64))) (hu : w.cell? ad = some (.int .i64 u)) (hpl : ad.add 0 = ad) (hsm : xs.length ≤ 100000) (hB : B ≤ w.heap.size)
    (h : ∀ v' w', w'.ownsRow B 3 1 v' (xs ++ [u]).length ((xs ++ [u]).map (Value.int .i64)) → w.grownBy w' v.ownBlock → (v'.ownBlock = v.ownBlock ∨ v'.ownBlock = some w.heap.size) → wpList Try.prog ops Q rest (a.put o.dst v') w') : wpList Try.prog ops Q (o :: rest) a w :=
  wpList_plain hgd fun _ hK => by
    obtain ⟨v', w', hr, h2, h3, h4⟩ := run_app1 o.type B v xs ad c u hown hu hpl hsm hB
    unfold Oper.wp execOp
    simp only [ho, resolve, invoke, builtin, Sem.run_bind, Sem.run_pure, Result.andThen_ok, List.map_toArray, List.map_cons, List.map_nil, hs, hx, hr]
    exact hK _ _ (h v' w' h2 h3 h4)
end Go.Proofs.Ytgbeghaojkhiaaa
