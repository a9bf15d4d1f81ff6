/- Rows of records, each of k cells: that came in, or that the call itself made; one more; a copy. -/
import Derived.Test.YtgbeghaojkhiaaaView
import Derived.Maps.AppendAt
import Derived.Deep.AppendLies
import Derived.Laws.AppendOwnNone
import Derived.OwnWalk
import Derived.Handy
namespace Go.Proofs.Ytgbeghaojkhiaaa
open Go.ChangeShapes Go.WideShapes Go.ChangeAt Go.RowKit
set_option linter.unusedVariables false
set_option linter.unusedSimpArgs false
section
variable {α : Type} (k : Nat) (en : α → List Value)
/-- what they are as cells, one behind the other. -/
def flat (xs : List α) : List Value := xs.flatMap en
def Rec : Prop := 0 < k ∧ (∀ x, (en x).length = k) ∧ ∀ x, ∀ u ∈ en x, u.oneCell' = true
variable {k en}
theorem flat_snoc (l : List α) (p : α) : flat en (l ++ [p]) = flat en l ++ en p := by simp [flat]
theorem flat_len (hr : Rec k en) (xs : List α) : (flat en xs).length = xs.length * k := by
  induction xs with
  | nil => simp [flat]
  | cons p l ih =>
    show (en p ++ flat en l).length = _
    rw [List.length_append, hr.2.1, ih, List.length_cons, Nat.succ_mul]; omega
theorem flat_at (hr : Rec k en) : ∀ (xs : List α) (i : Nat) (x : α) (j : Nat) (u : Value), xs[i]? = some x → (en x)[j]? = some u → (flat en xs)[i * k + j]? = some u := by
  intro xs
  induction xs with
  | nil => intro i x j u h; simp at h
  | cons q l ih =>
    intro i x j u h hu
    show (en q ++ flat en l)[i * k + j]? = _
    cases i with
    | zero =>
      simp at h; subst h
      have := (List.getElem?_eq_some_iff.1 hu).1
      rw [Nat.zero_mul, Nat.zero_add, List.getElem?_append_left this, hu]
    | succ i =>
      rw [List.getElem?_append_right (by rw [hr.2.1, Nat.succ_mul]; omega), hr.2.1, show (i + 1) * k + j - k = i * k + j by rw [Nat.succ_mul]; omega]
      exact ih i x j u (by simpa using h) hu
theorem flat_inv (hr : Rec k en) : ∀ (xs : List α) (m : Nat) (u : Value), (flat en xs)[m]? = some u → ∃ i x j, xs[i]? = some x ∧ m = i * k + j ∧ (en x)[j]? = some u := by
  intro xs
  induction xs with
  | nil => intro m u h; simp [flat] at h
  | cons q l ih =>
    intro m u h
    have h' : (en q ++ flat en l)[m]? = some u := h
    by_cases hm : m < k
    · rw [List.getElem?_append_left (by rw [hr.2.1]; exact hm)] at h'
      exact ⟨0, q, m, rfl, by omega, h'⟩
    · rw [List.getElem?_append_right (by rw [hr.2.1]; omega), hr.2.1] at h'
      obtain ⟨i, x, j, h1, h2, h3⟩ := ih _ _ h'
      exact ⟨i + 1, x, j, by simpa using h1, by rw [Nat.succ_mul]; omega, h3⟩
theorem flat_one (hr : Rec k en) (xs : List α) : ∀ u ∈ flat en xs, u.oneCell' = true := by
  intro u hu
  obtain ⟨m, hm⟩ := List.getElem?_of_mem hu
  obtain ⟨i, x, j, _, _, h3⟩ := flat_inv hr xs m u hm
  exact hr.2.2 x u (List.mem_of_getElem? h3)
variable (k en)
/-- In world w the slice reads as the records xs. -/
def RV (w : World) (v : Value) (xs : List α) : Prop :=
  ∃ a cap, v = .slice a xs.length cap ∧ xs.length ≤ cap ∧ cap ≤ maxLen ∧ (a = none → cap = 0) ∧ ∀ i x, xs[i]? = some x → ∃ b o, a = some ⟨b, o, none⟩ ∧ b < w.heap.size ∧ ∀ j u, (en x)[j]? = some u → w.cell? ⟨b, o + (i * k + j), none⟩ = some u
/-- .. one of the call's own. -/
def OR (w : World) (B e : Nat) (v : Value) (xs : List α) : Prop := w.ownsRow B e k v xs.length (flat en xs)
variable {k en}
theorem RV.below {w w' : World} {v : Value} {xs : List α} (h : RV k en w v xs) (hb : Below w.heap.size w w') : RV k en w' v xs := by
  obtain ⟨a, cap, hv, h1, h2, h3, h4⟩ := h
  refine ⟨a, cap, hv, h1, h2, h3, fun i x hx => ?_⟩
  obtain ⟨b, o, e, hl, hc⟩ := h4 i x hx
  exact ⟨b, o, e, Nat.lt_of_lt_of_le hl hb.size, fun j u hu => (hb.cell (p := ⟨b, o + (i * k + j), none⟩) hl).trans (hc j u hu)⟩
theorem RV.form {w : World} {v : Value} {xs : List α} (h : RV k en w v xs) : ∃ a cap, v = .slice a xs.length cap ∧ xs.length ≤ cap ∧ cap ≤ maxLen := by
  obtain ⟨a, cap, hv, h1, h2, _⟩ := h
  exact ⟨a, cap, hv, h1, h2⟩
theorem RV.len {w : World} {a : Option Addr} {n cap : Nat} {xs : List α} (h : RV k en w (.slice a n cap) xs) : n = xs.length ∧ n ≤ cap ∧ cap ≤ maxLen := by
  obtain ⟨a', cap', hv, h1, h2, h3⟩ := h
  rw [Value.slice.injEq] at hv
  obtain ⟨rfl, rfl, rfl⟩ := hv
  exact ⟨rfl, h1, h2⟩
theorem RV.at {w : World} {a : Option Addr} {n cap : Nat} {xs : List α} (h : RV k en w (.slice a n cap) xs) (i : Nat) (x : α) (hx : xs[i]? = some x) :
    ∃ b o, a = some ⟨b, o, none⟩ ∧ b < w.heap.size ∧ ∀ j u, (en x)[j]? = some u → w.cell? ⟨b, o + (i * k + j), none⟩ = some u := by
  obtain ⟨a', cap', hv, h1, h2, h3, h4⟩ := h
  rw [Value.slice.injEq] at hv
  obtain ⟨rfl, rfl, rfl⟩ := hv
  exact h4 i x hx
theorem OR.nil (w : World) (B e : Nat) : OR k en w B e (.slice none 0 0) [] := World.ownsRow_nil _ _ _ _
theorem OR.below {w w' : World} {B e : Nat} {v : Value} {xs : List α} (h : OR k en w B e v xs) (hb : Below w.heap.size w w') : OR k en w' B e v xs := by
  obtain ⟨hl, h1 | ⟨g, cap, cur, h1, h2, hh, h3⟩⟩ := h
  · exact ⟨hl, .inl h1⟩
  · exact ⟨hl, .inr ⟨g, cap, cur, h1, h2, (hb.block g (Array.getElem?_eq_some_iff.1 hh).1).trans hh, h3⟩⟩
theorem OR.lt {w : World} {B e : Nat} {v : Value} {xs : List α} (h : OR k en w B e v xs) : ∀ g, v.ownBlock = some g → B ≤ g ∧ g < w.heap.size := by
  intro g hg
  obtain ⟨_, ⟨rfl, _⟩ | ⟨g2, cap2, cur2, rfl, h1, hh2, _⟩⟩ := h
  · simp [Value.ownBlock] at hg
  · simp [Value.ownBlock] at hg
    subst hg
    exact ⟨h1, (Array.getElem?_eq_some_iff.1 hh2).1⟩
theorem OR.rv (hr : Rec k en) {w : World} {B e : Nat} {v : Value} {xs : List α} (h : OR k en w B e v xs) : RV k en w v xs := by
  obtain ⟨hl, ⟨rfl, h0⟩ | ⟨g, cap, cur, rfl, hg, hh, h1, h2, h3, h4⟩⟩ := h
  · obtain rfl : xs = [] := List.eq_nil_of_length_eq_zero h0
    exact ⟨none, 0, rfl, Nat.le_refl _, Nat.zero_le _, fun _ => rfl, fun i x hx => by simp at hx⟩
  · refine ⟨_, cap, rfl, h1, h2, fun e => by simp at e, fun i x hx => ⟨g, 0, rfl, (Array.getElem?_eq_some_iff.1 hh).1, fun j u hu => ?_⟩⟩
    have h5 := flat_at hr xs i x j u hx hu
    have hlt := (List.getElem?_eq_some_iff.1 h5).1
    rw [hl] at hlt
    rw [← h4, List.getElem?_take_of_lt hlt] at h5
    have h6 : cur[i * k + j]? = some u := by simpa using h5
    rw [Nat.zero_add]
    simp [World.cell?, hh, h6]
theorem OR.form {w : World} {B e : Nat} {v : Value} {xs : List α} (h : OR k en w B e v xs) : ∃ a cap, v = .slice a xs.length cap := by
  obtain ⟨hl, ⟨rfl, h0⟩ | ⟨g, cap, cur, rfl, hg, hh, h1, h2, h3, h4⟩⟩ := h
  · exact ⟨none, 0, by rw [h0]⟩
  · exact ⟨_, cap, rfl⟩
/-- one more, of cells that stand at ad. -/
theorem wpList_appR {ops : Array Oper} {rest : List Oper} {o : Oper} {a : Act} {w : World} {Q : Exit → Act → World → Prop} (hgd : o.guard = none) (s x : Operand) (t e : TypeId) (z : Value) (bytes : Nat)
    (ho : o.op = .call { callee := .builtin .append, args := #[s, x], argTypes := #[t, t] }) (ht : Try.prog.underlying t = some (.slice e)) (hinfo : (Try.prog.info? e).map (fun i => (i.zero, i.size, i.bytes)) = some (some z, k, bytes)) (hzs : z.cells.size = k) (hby : bytes ≤ 1000) (hr : Rec k en)
    (B : Nat) (v : Value) (xs : List α) (hs : a.eval s = v) (ad : Addr) (c : Nat) (hx : a.eval x = .slice (some ad) 1 c) (p : α) (hown : OR k en w B e v xs) (hu : ∀ j u, (en p)[j]? = some u → w.cell? (ad.add j) = some u) (hsm : xs.length ≤ 1000000) (hB : B ≤ w.heap.size)
    (h : ∀ v' w', OR k en w' B e v' (xs ++ [p]) → w.grownBy w' v.ownBlock → (v'.ownBlock = v.ownBlock ∨ v'.ownBlock = some w.heap.size) → wpList Try.prog ops Q rest (a.put o.dst v') w') : wpList Try.prog ops Q (o :: rest) a w :=
  wpList_plain hgd fun _ hK => by
    obtain ⟨i0, hi, hz0, hz1, hz2⟩ := info_parts hinfo
    have hb1 : (xs.length + 1) * bytes ≤ 140737488355328 := by
      have := Nat.mul_le_mul (show xs.length + 1 ≤ 1000001 by omega) hby
      omega
    obtain ⟨v', w', r1, r2, r3, _, r5⟩ := run_append_own_at (P := Try.prog) w B t o.type e i0 z k bytes ht hi hz0 hz1 hz2 hzs hr.1 v xs.length _ hown ad 1 c (en p) (by rw [hr.2.1]; omega) hu (hr.2.2 p) (by unfold maxLen; omega) hb1 hB
    unfold Oper.wp execOp
    simp only [ho, resolve, invoke, builtin, Sem.run_bind, Sem.run_pure, Result.andThen_ok, List.map_toArray, List.map_cons, List.map_nil, hs, hx, r1]
    exact hK _ _ (h v' w' (by unfold OR; rw [flat_snoc, List.length_append]; exact r2) r3 r5)
/-- 'append([]T{}, x...)'. -/
theorem wpList_copyR {ops : Array Oper} {rest : List Oper} {o : Oper} {a : Act} {w : World} {Q : Exit → Act → World → Prop} (hgd : o.guard = none) (s x : Operand) (t e : TypeId) (z : Value) (bytes : Nat)
    (ho : o.op = .call { callee := .builtin .append, args := #[s, x], argTypes := #[t, t] }) (ht : Try.prog.underlying t = some (.slice e)) (hinfo : (Try.prog.info? e).map (fun i => (i.zero, i.size, i.bytes)) = some (some z, k, bytes)) (hzs : z.cells.size = k) (hby : bytes ≤ 1000) (hr : Rec k en)
    (g B : Nat) (hs : a.eval s = .slice (some ⟨g, 0, none⟩) 0 0) (hown : w.heap[g]? = some (.cells #[] e (0, 0))) (hB : B ≤ g)
    (xs : List α) (hx : RV k en w (a.eval x) xs) (hsm : xs.length ≤ 1000000)
    (h : ∀ v' w', OR k en w' B e v' xs → Below B w w' → wpList Try.prog ops Q rest (a.put o.dst v') w') : wpList Try.prog ops Q (o :: rest) a w := by
  obtain ⟨i0, hi, hz0, hz1, hz2⟩ := info_parts hinfo
  have hrow : w.ownsRow B e k (.slice (some ⟨g, 0, none⟩) 0 0) 0 [] := ⟨by simp, .inr ⟨g, 0, #[], rfl, hB, hown, Nat.le_refl _, by simp, by simp, by simp⟩⟩
  have hgl : g < w.heap.size := (Array.getElem?_eq_some_iff.1 hown).1
  have hb1 : (0 + xs.length) * bytes ≤ 140737488355328 := by
    have := Nat.mul_le_mul (show 0 + xs.length ≤ 1000000 by omega) hby
    omega
  obtain ⟨ad, cap, hv, hle, hm, hnil, hc⟩ := hx
  by_cases h0 : xs = []
  · subst h0
    cases ad with
    | none =>
      have hr0 : OR k en w B e (.slice (some ⟨g, 0, none⟩) 0 0) ([] : List α) := hrow
      exact wpList_append_own_none hgd s x t ho B e i0 k ht hi _ 0 [] hs hrow (by rw [hv, hnil rfl]; rfl) (h _ _ hr0 (Below.refl _ _))
    | some ad =>
      refine wpList_append_own w hgd s x t ho B e i0 _ k bytes ht hi hz0 hz1 hz2 hzs hr.1 _ 0 [] hs hrow ad 0 cap [] hv (by simp) (by simp) (by simp) (by simp [maxLen]) (by omega) (by omega) ?_
      intro v' w' h1 h2 _
      exact h _ _ (by simpa [OR, flat] using h1) ((Below.refl _ _).grown h2 (by omega) (by intro k hk; simp [Value.ownBlock] at hk; omega))
  · obtain ⟨q, hq⟩ : ∃ q, xs[0]? = some q := by
      cases xs with
      | nil => exact absurd rfl h0
      | cons q l => exact ⟨q, rfl⟩
    obtain ⟨b, off, rfl, _⟩ := hc 0 q hq
    refine wpList_append_own w hgd s x t ho B e i0 _ k bytes ht hi hz0 hz1 hz2 hzs hr.1 _ 0 [] hs hrow ⟨b, off, none⟩ xs.length cap (flat en xs) hv (flat_len hr xs) ?_ (flat_one hr xs) (by unfold maxLen; omega) hb1 (by omega) ?_
    · intro j u hj
      obtain ⟨i, p, j', hip, rfl, hu⟩ := flat_inv hr xs j u hj
      obtain ⟨b', o', e, _, c0⟩ := hc i p hip
      simp only [Option.some.injEq, Addr.mk.injEq] at e
      obtain ⟨rfl, rfl, _⟩ := e
      rw [Go.WideShapes.add_plain]
      exact c0 j' u hu
    · intro v' w' h1 h2 _
      exact h _ _ (by simpa [OR] using h1) ((Below.refl _ _).grown h2 (by omega) (by intro k hk; simp [Value.ownBlock] at hk; omega))
end
end Go.Proofs.Ytgbeghaojkhiaaa
