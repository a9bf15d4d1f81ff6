/- A row of whole numbers that the call itself made: copied, one more, cut short; at a step of a drawn region. -/
import Derived.Test.YtgbeghaojkhiaaaApp1
import Derived.Laws.OwnMore
import Derived.Deep.AppendLies
namespace Go.Proofs.Ytgbeghaojkhiaaa
open Go.ChangeShapes Go.WideShapes Go.ChangeAt Go.RowKit
set_option linter.unusedVariables false
set_option linter.unusedSimpArgs false
abbrev OI (w : World) (B : Nat) (v : Value) (xs : List Int) : Prop := w.ownsRow B 3 1 v xs.length (xs.map (Value.int .i64))
theorem OI.form {w : World} {B : Nat} {v : Value} {xs : List Int} (h : OI w B v xs) : ∃ a cap, v = .slice a xs.length cap ∧ (a = none → xs = [] ∧ cap = 0) ∧ cap ≤ maxLen ∧ xs.length ≤ cap ∧ (∀ ad, a = some ad → ∃ g, ad = ⟨g, 0, none⟩ ∧ g < w.heap.size ∧ B ≤ g ∧ ∀ i, i < xs.length → w.cell? ⟨g, 0 + i, none⟩ = some (.int .i64 (xs.getD i 0))) := by
  have hv := view_of_own h
  obtain ⟨hl, ⟨rfl, h0⟩ | ⟨g, cap, cur, rfl, hg, hh, h1, h2, h3, h4⟩⟩ := h
  · have e : xs = [] := List.eq_nil_of_length_eq_zero h0
    refine ⟨none, 0, by rw [h0], fun _ => ⟨e, rfl⟩, by simp [maxLen], by omega, fun ad h => by cases h⟩
  · refine ⟨_, cap, rfl, fun h => by (cases h), h2, h1, fun ad had => ?_⟩
    cases had
    refine ⟨g, rfl, (Array.getElem?_eq_some_iff.1 hh).1, hg, fun i hi => ?_⟩
    rcases hv.cases with ⟨e, _⟩ | ⟨_, b, off, c2, e, _, _, _, hc⟩
    · rw [e] at hi; simp at hi
    · cases e
      exact hc i hi
theorem OI.below {w w' : World} {B : Nat} {v : Value} {xs : List Int} (h : OI w B v xs) (hb : Below w.heap.size w w') : OI w' B v xs := by
  obtain ⟨hl, h | ⟨g, cap, cur, rfl, hg, hh, h1, h2, h3, h4⟩⟩ := h
  · exact ⟨hl, .inl h⟩
  · exact ⟨hl, .inr ⟨g, cap, cur, rfl, hg, (hb.block g (Array.getElem?_eq_some_iff.1 hh).1).trans hh, h1, h2, h3, h4⟩⟩
theorem OI.base {w : World} {B B' : Nat} {v : Value} {xs : List Int} (h : OI w B v xs) (hb : B' ≤ B) : OI w B' v xs := by
  obtain ⟨hl, h | ⟨g, cap, cur, rfl, hg, hh, h1, h2, h3, h4⟩⟩ := h
  · exact ⟨hl, .inl h⟩
  · exact ⟨hl, .inr ⟨g, cap, cur, rfl, Nat.le_trans hb hg, hh, h1, h2, h3, h4⟩⟩
theorem OI.cut {w : World} {B : Nat} {a : Option Addr} {n cap : Nat} {xs : List Int} (h : OI w B (.slice a n cap) xs) (m : Nat) (hm : m ≤ n) (hn : n = xs.length) : OI w B (.slice a m cap) (xs.take m) := by
  have hl2 : (xs.take m).length = m := by rw [List.length_take]; omega
  obtain ⟨hl, ⟨e, h0⟩ | ⟨g, cap', cur, e, hg, hh, h1, h2, h3, h4⟩⟩ := h
  · rw [Value.slice.injEq] at e
    obtain ⟨rfl, _, rfl⟩ := e
    refine ⟨by simp, .inl ⟨?_, by omega⟩⟩
    rw [show m = 0 by omega]
  · rw [Value.slice.injEq] at e
    obtain ⟨rfl, _, rfl⟩ := e
    refine ⟨by simp, .inr ⟨g, cap, cur, by rw [hl2], hg, hh, by omega, h2, h3, ?_⟩⟩
    rw [hl2, Nat.mul_one, List.map_take, ← h4, List.take_take, Nat.mul_one, ← hn, Nat.min_eq_left hm]
theorem run_copyI {w : World} (ty g B : Nat) (va : Value) (xs : List Int) (hg : w.heap[g]? = some (.cells #[] 3 (0, 0))) (hB : B ≤ g) (hx : View w va xs) (hsm : xs.length ≤ 100000) :
    ∃ v' w', (Builtin.append_ #[46, 46] ty #[.slice (some ⟨g, 0, none⟩) 0 0, va]).run Try.prog w = .ok v' w' ∧ OI w' B v' xs ∧ w.grownBy w' (some g) := by
  obtain ⟨i0, hi, hz0, hz1, hz2⟩ := info_parts info3
  have hrow : w.ownsRow B 3 1 (.slice (some ⟨g, 0, none⟩) 0 0) 0 [] := ⟨rfl, .inr ⟨g, 0, #[], rfl, hB, hg, Nat.le_refl _, by simp, rfl, rfl⟩⟩
  have hgl : g < w.heap.size := (Array.getElem?_eq_some_iff.1 hg).1
  rcases hx.cases with ⟨rfl, ad, cap, rfl, hn, _⟩ | ⟨hne, b, off, cap, rfl, hle, hlt, hm, hc⟩
  · cases ad with
    | none =>
      obtain rfl := hn rfl
      exact ⟨_, w, run_append_owned_none (P := Try.prog) (w := w) B 46 ty 3 i0 1 Try.underlying46 hi _ 0 [] hrow, hrow, ⟨rfl, rfl, rfl, Nat.le_refl _, fun _ _ _ => rfl⟩⟩
    | some ad =>
      obtain ⟨v', w', r1, r2, r3, _, r5⟩ := run_append_own_at (P := Try.prog) w B 46 ty 3 i0 (.int .i64 0) 1 8 Try.underlying46 hi hz0 hz1 hz2 rfl (by decide) _ 0 [] hrow ad 0 cap [] rfl (by simp) (by simp) (by simp [maxLen]) (by simp) (by omega)
      exact ⟨v', w', r1, by simpa [OI] using r2, r3⟩
  · obtain ⟨v', w', r1, r2, r3, _, r5⟩ := run_append_own_at (P := Try.prog) w B 46 ty 3 i0 (.int .i64 0) 1 8 Try.underlying46 hi hz0 hz1 hz2 rfl (by decide) _ 0 [] hrow ⟨b, off, none⟩ xs.length cap (xs.map (Value.int .i64)) (by simp) (by
      intro j u hj
      have hj' : j < xs.length := by
        rcases Nat.lt_or_ge j xs.length with h | h
        · exact h
        · rw [List.getElem?_eq_none (by simpa using h)] at hj; cases hj
      have e : u = Value.int .i64 (xs.getD j 0) := by
        rw [List.getElem?_map, List.getElem?_eq_getElem hj'] at hj
        simp [hj'] at hj ⊢
        exact hj.symm
      subst e
      rw [Go.WideShapes.add_plain]
      exact hc j hj') (by intro u hu; obtain ⟨n, _, rfl⟩ := List.mem_map.1 hu; rfl) (by unfold maxLen; omega) (by omega) (by omega)
    exact ⟨v', w', r1, by simpa [OI] using r2, r3⟩
theorem step_copyI {ops : Array Oper} {o : Oper} {a : Act} {w : World} {K : Act → World → Prop} {Q : Exit → Act → World → Prop} {E : Prop} (hgd : o.guard = none) (s x : Operand)
    (ho : o.op = .call { callee := .builtin .append, args := #[s, x], argTypes := #[46, 46] })
    (g B : Nat) (va : Value) (xs : List Int) (hs : a.eval s = .slice (some ⟨g, 0, none⟩) 0 0) (hx : a.eval x = va) (hg : w.heap[g]? = some (.cells #[] 3 (0, 0))) (hB : B ≤ g) (hv : View w va xs) (m : Nat) (hm : xs.length = m) (hsm : m ≤ 100000)
    (h : ∀ ad cap w', Hid (OI w' B (.slice ad m cap) xs) → w.grownBy w' (some g) → K (a.put o.dst (.slice ad m cap)) w') :
    if Region.wanted o (yielded ops a.tmps) = true then Oper.wp Try.prog o a w K Q else E := by
  have hw : Region.wanted o (yielded ops a.tmps) = true := by simp [Region.wanted, hgd]
  rw [if_pos hw]
  subst hm
  obtain ⟨v', w', hr, h2, h3⟩ := run_copyI o.type g B va xs hg hB hv hsm
  obtain ⟨ad, cap, rfl, _⟩ := OI.form h2
  unfold Oper.wp execOp
  simp only [ho, resolve, invoke, builtin, Sem.run_bind, Sem.run_pure, Result.andThen_ok, List.map_toArray, List.map_cons, List.map_nil, hs, hx, hr]
  exact h ad cap w' (Lib.hid h2) h3
theorem step_oneI {ops : Array Oper} {o : Oper} {a : Act} {w : World} {K : Act → World → Prop} {Q : Exit → Act → World → Prop} {E : Prop} (hgd : o.guard = none) (s x : Operand)
    (ho : o.op = .call { callee := .builtin .append, args := #[s, x], argTypes := #[46, 46] })
    (B : Nat) (v : Value) (xs : List Int) (k c : Nat) (u : Int) (hs : a.eval s = v) (hx : a.eval x = .slice (some ⟨k, 0, none⟩) 1 c) (hown : Hid (OI w B v xs)) (hu : w.cell? ⟨k, 0, none⟩ = some (.int .i64 u)) (m : Nat) (hm : xs.length + 1 = m) (hsm : m ≤ 100000) (hB : B ≤ w.heap.size)
    (h : ∀ ad cap w', Hid (OI w' B (.slice ad m cap) (xs ++ [u])) → w.grownBy w' v.ownBlock → K (a.put o.dst (.slice ad m cap)) w') :
    if Region.wanted o (yielded ops a.tmps) = true then Oper.wp Try.prog o a w K Q else E := by
  have hw : Region.wanted o (yielded ops a.tmps) = true := by simp [Region.wanted, hgd]
  rw [if_pos hw]
  obtain ⟨v', w', hr, h2, h3, h4⟩ := run_app1 o.type B v xs ⟨k, 0, none⟩ c u hown.out hu rfl (by omega) hB
  obtain ⟨ad, cap, rfl, _⟩ := OI.form h2
  have hm2 : (xs ++ [u]).length = m := by simp; omega
  rw [hm2] at h2 hr
  unfold Oper.wp execOp
  simp only [ho, resolve, invoke, builtin, Sem.run_bind, Sem.run_pure, Result.andThen_ok, List.map_toArray, List.map_cons, List.map_nil, hs, hx, hr]
  exact h ad cap w' (Lib.hid (by unfold OI; rw [hm2]; exact h2)) h3
end Go.Proofs.Ytgbeghaojkhiaaa
