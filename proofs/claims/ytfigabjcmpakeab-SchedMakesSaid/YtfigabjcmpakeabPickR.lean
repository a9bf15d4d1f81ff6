/- Rows of picks that the call itself made: one more at its end, at a list of operations and at a step of a drawn region; a copy (layer 36). -/
import Derived.Test.YtfigabjcmpakeabPickV
import Derived.Maps.AppendAt
import Derived.Deep.AppendLies
import Derived.Laws.AppendOwnNone
import Derived.OwnWalk
namespace Go.Proofs.Ytfigabjcmpakeab
open Go.ChangeShapes Go.WideShapes Go.ChangeAt Go.RowKit
set_option linter.unusedVariables false
set_option linter.unusedSimpArgs false
def prs (xs : List PK) : List Value := xs.flatMap fun p => [Value.int .i64 p.1, Value.int .i64 p.2]
theorem prs_cons (p : PK) (l : List PK) : prs (p :: l) = Value.int .i64 p.1 :: Value.int .i64 p.2 :: prs l := rfl
theorem prs_snoc (l : List PK) (p : PK) : prs (l ++ [p]) = prs l ++ [Value.int .i64 p.1, Value.int .i64 p.2] := by simp [prs]
theorem prs_len (xs : List PK) : (prs xs).length = xs.length * 2 := by
  induction xs with
  | nil => rfl
  | cons p l ih => rw [prs_cons]; simp [ih]; omega
theorem prs_at : ∀ (xs : List PK) (i : Nat) (p : PK), xs[i]? = some p → (prs xs)[i * 2]? = some (.int .i64 p.1) ∧ (prs xs)[i * 2 + 1]? = some (.int .i64 p.2) := by
  intro xs
  induction xs with
  | nil => intro i p h; simp at h
  | cons q l ih =>
    intro i p h
    rw [prs_cons]
    cases i with
    | zero => simp at h; subst h; simp
    | succ i =>
      have := ih i p (by simpa using h)
      rw [show (i + 1) * 2 = i * 2 + 1 + 1 by omega, show i * 2 + 1 + 1 + 1 = (i * 2 + 1) + 1 + 1 by omega]
      simpa using this
theorem prs_inv : ∀ (xs : List PK) (j : Nat) (u : Value), (prs xs)[j]? = some u → ∃ i p, xs[i]? = some p ∧ ((j = i * 2 ∧ u = .int .i64 p.1) ∨ (j = i * 2 + 1 ∧ u = .int .i64 p.2)) := by
  intro xs
  induction xs with
  | nil => intro j u h; simp [prs] at h
  | cons q l ih =>
    intro j u h
    rw [prs_cons] at h
    match j, h with
    | 0, h => simp at h; exact ⟨0, q, rfl, .inl ⟨rfl, h.symm⟩⟩
    | 1, h => simp at h; exact ⟨0, q, rfl, .inr ⟨rfl, h.symm⟩⟩
    | j + 2, h =>
      obtain ⟨i, p, hp, hc⟩ := ih j u (by simpa using h)
      refine ⟨i + 1, p, by simpa using hp, ?_⟩
      rcases hc with ⟨h1, h2⟩ | ⟨h1, h2⟩
      · exact .inl ⟨by omega, h2⟩
      · exact .inr ⟨by omega, h2⟩
theorem prs_one (xs : List PK) : ∀ u ∈ prs xs, u.oneCell' = true := by
  intro u hu
  obtain ⟨j, hj⟩ := List.getElem?_of_mem hu
  obtain ⟨i, p, _, ⟨_, rfl⟩ | ⟨_, rfl⟩⟩ := prs_inv xs j u hj <;> rfl
abbrev OP (w : World) (B : Nat) (v : Value) (xs : List PK) : Prop := w.ownsRow B 90 2 v xs.length (prs xs)
theorem infoPick : (Try.prog.info? 90).map (fun i => (i.zero, i.size, i.bytes)) = some (some (.agg #[.int .i64 0, .int .i64 0]), 2, 16) := by kernel_rfl
theorem OP.form {w : World} {B : Nat} {v : Value} {xs : List PK} (h : OP w B v xs) : ∃ a cap, v = .slice a xs.length cap ∧ PV w a xs.length cap xs ∧ (a = none → cap = 0) := by
  have hc := fun k e => h.cells (g := k) e
  obtain ⟨hl, ⟨rfl, h0⟩ | ⟨g, cap, cur, rfl, hg, hh, h1, h2, h3, h4⟩⟩ := h
  · refine ⟨none, 0, by rw [h0], ⟨rfl, by omega, fun i p hp => ?_⟩, fun _ => rfl⟩
    have := (List.getElem?_eq_some_iff.1 hp).1
    omega
  · refine ⟨some ⟨g, 0, none⟩, cap, rfl, ⟨rfl, h1, fun i p hp => ⟨g, 0, rfl, (Array.getElem?_eq_some_iff.1 hh).1, ?_, ?_⟩⟩, by simp⟩
    · have := hc g rfl (i * 2) _ (prs_at xs i p hp).1
      rw [Go.WideShapes.add_plain] at this
      exact this
    · have := hc g rfl (i * 2 + 1) _ (prs_at xs i p hp).2
      rw [Go.WideShapes.add_plain] at this
      exact this
theorem run_appP {w : World} (ty B : Nat) (v : Value) (xs : List PK) (p : PK) (k c : Nat) (hown : OP w B v xs) (h0 : w.cell? ⟨k, 0, none⟩ = some (.int .i64 p.1)) (h1 : w.cell? ⟨k, 1, none⟩ = some (.int .i64 p.2)) (hsm : xs.length ≤ 1100000) (hB : B ≤ w.heap.size) :
    ∃ v' w', (Builtin.append_ #[87, 87] ty #[v, .slice (some ⟨k, 0, none⟩) 1 c]).run Try.prog w = .ok v' w' ∧ Hid (OP w' B v' (xs ++ [p])) ∧ w.grownBy w' v.ownBlock ∧ (v'.ownBlock = v.ownBlock ∨ v'.ownBlock = some w.heap.size) := by
  obtain ⟨i0, hi, hz0, hz1, hz2⟩ := info_parts infoPick
  obtain ⟨v', w', r1, r2, r3, _, r5⟩ := run_append_own_at (P := Try.prog) w B 87 ty 90 i0 _ 2 16 Try.underlying87 hi hz0 hz1 hz2 rfl (by decide) v xs.length _ hown ⟨k, 0, none⟩ 1 c [.int .i64 p.1, .int .i64 p.2] rfl (by
      intro j x hj
      rw [Go.WideShapes.add_plain]
      match j, hj with
      | 0, hj => simp at hj; subst hj; exact h0
      | 1, hj => simp at hj; subst hj; exact h1) (by intro u hu; simp at hu; rcases hu with rfl | rfl <;> rfl) (by unfold maxLen; omega) (by omega) hB
  exact ⟨v', w', r1, Lib.hid (by rw [OP, prs_snoc, List.length_append]; exact r2), r3, r5⟩
theorem wp_appP {o : Oper} {a : Act} {w : World} {K : Act → World → Prop} {Q : Exit → Act → World → Prop} (s x : Operand)
    (ho : o.op = .call { callee := .builtin .append, args := #[s, x], argTypes := #[87, 87] })
    (B : Nat) (v : Value) (xs : List PK) (p : PK) (hs : a.eval s = v) (k c : Nat) (hx : a.eval x = .slice (some ⟨k, 0, none⟩) 1 c) (hown : Hid (OP w B v xs)) (h0 : w.cell? ⟨k, 0, none⟩ = some (.int .i64 p.1)) (h1 : w.cell? ⟨k, 1, none⟩ = some (.int .i64 p.2)) (hsm : xs.length ≤ 1100000) (hB : B ≤ w.heap.size)
    (h : ∀ v' w', Hid (OP w' B v' (xs ++ [p])) → w.grownBy w' v.ownBlock → (v'.ownBlock = v.ownBlock ∨ v'.ownBlock = some w.heap.size) → K (a.put o.dst v') w') : o.wp Try.prog a w K Q := by
  obtain ⟨v', w', hr, h2, h3, h4⟩ := run_appP o.type B v xs p k c hown.out h0 h1 hsm hB
  unfold Oper.wp execOp
  simp only [ho, resolve, invoke, builtin, Sem.run_bind, Sem.run_pure, Result.andThen_ok, List.map_toArray, List.map_cons, List.map_nil, hs, hx, hr]
  exact h v' w' h2 h3 h4
theorem wpList_appP {ops : Array Oper} {rest : List Oper} {o : Oper} {a : Act} {w : World} {Q : Exit → Act → World → Prop} (hgd : o.guard = none) (s x : Operand)
    (ho : o.op = .call { callee := .builtin .append, args := #[s, x], argTypes := #[87, 87] })
    (B : Nat) (v : Value) (xs : List PK) (p : PK) (hs : a.eval s = v) (k c : Nat) (hx : a.eval x = .slice (some ⟨k, 0, none⟩) 1 c) (hown : Hid (OP w B v xs)) (h0 : w.cell? ⟨k, 0, none⟩ = some (.int .i64 p.1)) (h1 : w.cell? ⟨k, 1, none⟩ = some (.int .i64 p.2)) (hsm : xs.length ≤ 1100000) (hB : B ≤ w.heap.size)
    (h : ∀ v' w', Hid (OP w' B v' (xs ++ [p])) → w.grownBy w' v.ownBlock → (v'.ownBlock = v.ownBlock ∨ v'.ownBlock = some w.heap.size) → wpList Try.prog ops Q rest (a.put o.dst v') w') : wpList Try.prog ops Q (o :: rest) a w :=
  wpList_plain hgd fun _ hK => wp_appP s x ho B v xs p hs k c hx hown h0 h1 hsm hB (fun v' w' h1 h2 h3 => hK _ _ (h v' w' h1 h2 h3))
theorem step_appP {ops : Array Oper} {o : Oper} {a : Act} {w : World} {K : Act → World → Prop} {Q : Exit → Act → World → Prop} {E : Prop} (hgd : o.guard = none) (s x : Operand)
    (ho : o.op = .call { callee := .builtin .append, args := #[s, x], argTypes := #[87, 87] })
    (B : Nat) (v : Value) (xs : List PK) (p : PK) (hs : a.eval s = v) (k c : Nat) (hx : a.eval x = .slice (some ⟨k, 0, none⟩) 1 c) (hown : Hid (OP w B v xs)) (h0 : w.cell? ⟨k, 0, none⟩ = some (.int .i64 p.1)) (h1 : w.cell? ⟨k, 1, none⟩ = some (.int .i64 p.2)) (hsm : xs.length ≤ 1100000) (hB : B ≤ w.heap.size)
    (h : ∀ v' w', Hid (OP w' B v' (xs ++ [p])) → w.grownBy w' v.ownBlock → (v'.ownBlock = v.ownBlock ∨ v'.ownBlock = some w.heap.size) → K (a.put o.dst v') w') :
    if Region.wanted o (yielded ops a.tmps) = true then Oper.wp Try.prog o a w K Q else E := by
  have hw : Region.wanted o (yielded ops a.tmps) = true := by simp [Region.wanted, hgd]
  rw [if_pos hw]
  exact wp_appP s x ho B v xs p hs k c hx hown h0 h1 hsm hB h
theorem OP.below {w w' : World} {B : Nat} {v : Value} {xs : List PK} (h : OP w B v xs) (hb : Below w.heap.size w w') : OP w' B v xs := row_keep h hb
/-- 'append([]api.Pick{}, x...)' of picks is a row of its own that holds the same. -/
theorem wpList_copyP {ops : Array Oper} {rest : List Oper} {o : Oper} {a : Act} {w : World} {Q : Exit → Act → World → Prop} (hgd : o.guard = none) (s x : Operand)
    (ho : o.op = .call { callee := .builtin .append, args := #[s, x], argTypes := #[87, 87] })
    (g B : Nat) (hs : a.eval s = .slice (some ⟨g, 0, none⟩) 0 0) (hown : w.heap[g]? = some (.cells #[] 90 (0, 0))) (hB : B ≤ g)
    (xs : List PK) (ad : Option Addr) (cap : Nat) (hx : a.eval x = .slice ad xs.length cap) (hp : PV w ad xs.length cap xs) (hnil : ad = none → cap = 0) (hsm : xs.length ≤ 1000000)
    (h : ∀ v' w', Hid (OP w' B v' xs) → Below B w w' → wpList Try.prog ops Q rest (a.put o.dst v') w') : wpList Try.prog ops Q (o :: rest) a w := by
  obtain ⟨i0, hi, hz0, hz1, hz2⟩ := info_parts infoPick
  have hrow : w.ownsRow B 90 2 (.slice (some ⟨g, 0, none⟩) 0 0) 0 [] := ⟨rfl, .inr ⟨g, 0, #[], rfl, hB, hown, Nat.le_refl _, by simp, rfl, rfl⟩⟩
  have hgl : g < w.heap.size := (Array.getElem?_eq_some_iff.1 hown).1
  by_cases h0 : xs = []
  · subst h0
    cases ad with
    | none =>
      have hr0 : OP w B (.slice (some ⟨g, 0, none⟩) 0 0) [] := hrow
      exact wpList_append_own_none hgd s x 87 ho B 90 i0 2 Try.underlying87 hi _ 0 [] hs hrow (by rw [hx, hnil rfl]; rfl) (h _ _ (Lib.hid hr0) (Below.refl _ _))
    | some ad =>
      refine wpList_append_own w hgd s x 87 ho B 90 i0 _ 2 16 Try.underlying87 hi hz0 hz1 hz2 rfl (by decide) _ 0 [] hs hrow ad 0 cap [] hx rfl (by simp) (by simp) (by simp [maxLen]) (by simp) (by omega) ?_
      intro v' w' h1 h2 _
      exact h _ _ (Lib.hid (by simpa [OP, prs] using h1)) ((Below.refl _ _).grown h2 (by omega) (by intro k hk; simp [Value.ownBlock] at hk; omega))
  · obtain ⟨q, hq⟩ : ∃ q, xs[0]? = some q := by
      cases xs with
      | nil => exact absurd rfl h0
      | cons q l => exact ⟨q, rfl⟩
    obtain ⟨b, off, rfl, _⟩ := hp.2.2 0 q hq
    refine wpList_append_own w hgd s x 87 ho B 90 i0 _ 2 16 Try.underlying87 hi hz0 hz1 hz2 rfl (by decide) _ 0 [] hs hrow ⟨b, off, none⟩ xs.length cap (prs xs) hx (prs_len xs) ?_ (prs_one xs) (by unfold maxLen; omega) (by omega) (by omega) ?_
    · intro j u hj
      obtain ⟨i, p, hip, hc⟩ := prs_inv xs j u hj
      obtain ⟨b', o', e, _, c0, c1⟩ := hp.2.2 i p hip
      simp only [Option.some.injEq, Addr.mk.injEq] at e
      obtain ⟨rfl, rfl, _⟩ := e
      rw [Go.WideShapes.add_plain]
      rcases hc with ⟨rfl, rfl⟩ | ⟨rfl, rfl⟩
      · exact c0
      · exact c1
    · intro v' w' h1 h2 _
      exact h _ _ (Lib.hid (by simpa [OP] using h1)) ((Below.refl _ _).grown h2 (by omega) (by intro k hk; simp [Value.ownBlock] at hk; omega))
end Go.Proofs.Ytfigabjcmpakeab
