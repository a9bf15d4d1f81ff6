/- A copy of a row of records behind a guard. -/
import Derived.Test.YtbmndjedgedbdaaRecs
import Derived.BigFrame
namespace Go.Proofs.Ytbmndjedgedbdaa
open Go.ChangeShapes Go.WideShapes Go.ChangeAt Go.RowKit
set_option linter.unusedVariables false
set_option linter.unusedSimpArgs false
section
variable {α : Type} {k : Nat} {en : α → List Value}
theorem run_copyR {w : World} (t ty e : TypeId) (z : Value) (bytes : Nat) (ht : Try.prog.underlying t = some (.slice e)) (hinfo : (Try.prog.info? e).map (fun i => (i.zero, i.size, i.bytes)) = some (some z, k, bytes)) (hzs : z.cells.size = k) (hby : bytes ≤ 1000) (hr : Rec k en)
    (g B : Nat) (hown : w.heap[g]? = some (.cells #[] e (0, 0))) (hB : B ≤ g)
    (xs : List α) (x : Value) (hx : RV k en w x xs) (hsm : xs.length ≤ 1000000) :
    ∃ v' w', (Builtin.append_ #[t, t] ty #[.slice (some ⟨g, 0, none⟩) 0 0, x]).run Try.prog w = .ok v' w' ∧ OR k en w' B e v' xs ∧ Below B w w' := by
  obtain ⟨i0, hi, hz0, hz1, hz2⟩ := info_parts hinfo
  have hrow : w.ownsRow g e k (.slice (some ⟨g, 0, none⟩) 0 0) 0 [] := ⟨by simp, .inr ⟨g, 0, #[], rfl, Nat.le_refl _, hown, Nat.le_refl _, by simp, by simp, by simp⟩⟩
  have hgl : g < w.heap.size := (Array.getElem?_eq_some_iff.1 hown).1
  have hb1 : (0 + xs.length) * bytes ≤ 140737488355328 := by
    have := Nat.mul_le_mul (show 0 + xs.length ≤ 1000000 by omega) hby
    omega
  obtain ⟨ad, cap, hv, hle, hm, hnil, hc⟩ := hx
  subst hv
  have mono : ∀ {v : Value} {w' : World} {l : List Value} {n : Nat}, w'.ownsRow g e k v n l → w'.ownsRow B e k v n l := by
    intro v w' l n h
    obtain ⟨h1, h2 | ⟨g', cap', cur', h2, h3, h4⟩⟩ := h
    · exact ⟨h1, .inl h2⟩
    · exact ⟨h1, .inr ⟨g', cap', cur', h2, by omega, h4⟩⟩
  by_cases h0 : ad = none
  · subst h0
    obtain rfl : cap = 0 := hnil rfl
    obtain rfl : xs = [] := List.eq_nil_of_length_eq_zero (by omega)
    refine ⟨_, w, run_append_owned_none (P := Try.prog) (w := w) g t ty e i0 k ht hi _ 0 [] hrow, mono (by simpa [flat] using hrow), Below.refl _ _⟩
  · obtain ⟨ad, rfl⟩ := Option.ne_none_iff_exists'.1 h0
    have hnews : ∀ j u, (flat en xs)[j]? = some u → w.cell? (ad.add j) = some u := by
      intro j u hj
      obtain ⟨i, p, j', hip, rfl, hu⟩ := flat_inv hr xs j u hj
      obtain ⟨b', o', e', _, c0⟩ := hc i p hip
      simp only [Option.some.injEq] at e'
      subst e'
      rw [Go.WideShapes.add_plain]
      exact c0 j' u hu
    obtain ⟨v', w', r1, r2, r3, r4⟩ := run_append_own (P := Try.prog) w g t ty e i0 z k bytes ht hi hz0 hz1 hz2 hzs hr.1 _ 0 [] hrow ad xs.length cap (flat en xs) (flat_len hr xs) hnews (flat_one hr xs) (by unfold maxLen; omega) hb1 (by omega)
    have r2' : w'.ownsRow g e k v' xs.length (flat en xs) := by simpa using r2
    refine ⟨v', w', r1, mono r2', (Below.refl _ _).grown r3 (by omega) (by intro k hk; simp [Value.ownBlock] at hk; omega)⟩
/-- 'append([]T{}, x...)' behind a guard that holds. -/
theorem wpList_copyRw {ops : Array Oper} {rest : List Oper} {o : Oper} {a : Act} {w : World} {Q : Exit → Act → World → Prop} (hw : Region.wanted o (yielded ops a.tmps) = true) (s x : Operand) (t e : TypeId) (z : Value) (bytes : Nat)
    (ho : o.op = .call { callee := .builtin .append, args := #[s, x], argTypes := #[t, t] }) (ht : Try.prog.underlying t = some (.slice e)) (hinfo : (Try.prog.info? e).map (fun i => (i.zero, i.size, i.bytes)) = some (some z, k, bytes)) (hzs : z.cells.size = k) (hby : bytes ≤ 1000) (hr : Rec k en)
    (g B : Nat) (hs : a.eval s = .slice (some ⟨g, 0, none⟩) 0 0) (hown : w.heap[g]? = some (.cells #[] e (0, 0))) (hB : B ≤ g)
    (xs : List α) (hx : RV k en w (a.eval x) xs) (hsm : xs.length ≤ 1000000)
    (h : ∀ v' w', OR k en w' B e v' xs → Below B w w' → wpList Try.prog ops Q rest (a.put o.dst v') w') : wpList Try.prog ops Q (o :: rest) a w :=
  BigFrame.wpList_want hw fun _ hK => by
    obtain ⟨v', w', r1, r2, r3⟩ := run_copyR (w := w) t o.type e z bytes ht hinfo hzs hby hr g B hown hB xs _ hx hsm
    unfold Oper.wp execOp
    simp only [ho, resolve, invoke, builtin, Sem.run_bind, Sem.run_pure, Result.andThen_ok, List.map_toArray, List.map_cons, List.map_nil, hs, r1]
    exact hK _ _ (h v' w' r2 r3)
end
end Go.Proofs.Ytbmndjedgedbdaa
