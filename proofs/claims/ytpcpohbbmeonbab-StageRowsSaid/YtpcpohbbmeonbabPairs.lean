/- Rows of cells (a stage, and whether it waits) that the call itself made. -/
import Derived.Test.YtpcpohbbmeonbabStage
import Derived.Maps.AppendAt
import Derived.Handy
namespace Go.Proofs.Ytpcpohbbmeonbab
open Go.ChangeShapes Go.WideShapes Go.ChangeAt Go.RowKit
set_option linter.unusedVariables false
set_option linter.unusedSimpArgs false
def pairs (n : Nat) (f : Nat → Int) (g : Nat → Bool) : List Value := (List.range n).flatMap fun i => [Value.int .i64 (f i), Value.bool (g i)]
theorem pairs_succ (n : Nat) (f : Nat → Int) (g : Nat → Bool) : pairs (n + 1) f g = pairs n f g ++ [Value.int .i64 (f n), Value.bool (g n)] := by
  simp [pairs, List.range_succ]
theorem pairs_len (n : Nat) (f : Nat → Int) (g : Nat → Bool) : (pairs n f g).length = n * 2 := by
  induction n with
  | zero => rfl
  | succ n ih => rw [pairs_succ, List.length_append, ih]; simp; omega
theorem pairs_at (n : Nat) (f : Nat → Int) (g : Nat → Bool) : ∀ i, i < n → (pairs n f g)[i * 2]? = some (.int .i64 (f i)) ∧ (pairs n f g)[i * 2 + 1]? = some (.bool (g i)) := by
  induction n with
  | zero => intro i hi; omega
  | succ n ih =>
    intro i hi
    rw [pairs_succ]
    by_cases h : i = n
    · subst h
      rw [List.getElem?_append_right (by rw [pairs_len]; omega), List.getElem?_append_right (by rw [pairs_len]; omega), pairs_len]
      simp
    · have hlt : i < n := by omega
      rw [List.getElem?_append_left (by rw [pairs_len]; omega), List.getElem?_append_left (by rw [pairs_len]; omega)]
      exact ih i hlt
theorem pairs_congr (n : Nat) (f f' : Nat → Int) (g g' : Nat → Bool) (h : ∀ i, i < n → f i = f' i ∧ g i = g' i) : pairs n f g = pairs n f' g' := by
  induction n with
  | zero => rfl
  | succ n ih =>
    rw [pairs_succ, pairs_succ, ih (fun i hi => h i (by omega)), (h n (by omega)).1, (h n (by omega)).2]
theorem info36 : (Try.prog.info? 36).map (fun i => (i.zero, i.size, i.bytes)) = some (some (.agg #[.int .i64 0, .bool false]), 2, 16) := by kernel_rfl
theorem row_k (b off len cap k : Nat) (f : Nat → Int) (g : Nat → Bool) (c : Int) (w : World) (hm : len ≤ maxLen) (hb : b < w.heap.size)
    (hc : ∀ i, i < len → w.cell? ⟨b, off + i * 2, none⟩ = some (.int .i64 (f i)) ∧ w.cell? ⟨b, off + i * 2 + 1, none⟩ = some (.bool (g i)))
    (hk : k ≤ len) (hall : ∀ i, i < k → f i < c) (hstop : k = len ∨ ¬ f k < c) :
    Calls Try.prog 17 #[.slice (some ⟨b, off, none⟩) len cap, .int .i64 c] w fun e w' => e = .returned (.int .i64 k) ∧ Below w.heap.size w w' := by
  have hg : ∀ i, i < len → ((List.range len).map f).getD i 0 = f i := fun i hi => by simp [hi]
  have hr : rowOf c ((List.range len).map f) = k := by
    rcases hstop with h | h
    · have e1 := rowOf_all c ((List.range len).map f) k (fun i hi => by rw [hg i (by omega)]; exact hall i hi) (by simpa using hk)
      have e2 := rowOf_le c ((List.range len).map f)
      simp at e2
      omega
    · rcases Nat.lt_or_ge k len with hl | hl
      · exact rowOf_stop c _ k (fun i hi => by rw [hg i (by omega)]; exact hall i hi) (by simpa using hl) (by rw [hg k hl]; exact h)
      · have e1 := rowOf_all c ((List.range len).map f) k (fun i hi => by rw [hg i (by omega)]; exact hall i hi) (by simpa using hk)
        have e2 := rowOf_le c ((List.range len).map f)
        simp at e2
        omega
  have h := row_any b off len cap ((List.range len).map f) ((List.range len).map g) c w (by simp) hm hb (fun i hi => by
    rw [hg i hi]
    have := hc i hi
    refine ⟨this.1, ?_⟩
    rw [this.2]; simp [hi])
  rw [hr] at h
  exact h
theorem row_e (ad : Option Addr) (cap : Nat) (c : Int) (w : World) : Calls Try.prog 17 #[.slice ad 0 cap, .int .i64 c] w fun e w' => e = .returned (.int .i64 0) ∧ Below w.heap.size w w' := by
  go_enter Try.func17, Try.ntmps17
  go_wp2
  go_loop [9] (fun i => i = .int .i64 ((0 : Nat) : Int)) (fun _ => 0)
  case atStart => rfl
  case round =>
    obtain rfl := hrel
    go_wp2
    go_ret
    exact ⟨rfl, Below.refl _ _⟩
/-- A row of cells of one's own, whatever it is: how many of the first ones are below a counter. -/
theorem row_own (B k : Nat) (v : Value) (n : Nat) (f : Nat → Int) (g : Nat → Bool) (c : Int) (w : World) (h : w.ownsRow B 36 2 v n (pairs n f g)) (hk : k ≤ n) (hall : ∀ i, i < k → f i < c) (hstop : k = n ∨ ¬ f k < c) :
    Calls Try.prog 17 #[v, .int .i64 c] w fun e w' => e = .returned (.int .i64 k) ∧ Below w.heap.size w w' := by
  have hlt := h.lt
  have hcs := fun q (hq : v.ownBlock = some q) => h.cells hq
  obtain ⟨_, ⟨rfl, rfl⟩ | ⟨q, cap, cur, rfl, hb, hg, hle, hm, _⟩⟩ := h
  · obtain rfl : k = 0 := by omega
    exact row_e none 0 c w
  · refine row_k q 0 n cap k f g c w (by omega) (hlt q rfl).2 (fun i hi => ?_) hk hall hstop
    have h0 := hcs q rfl (i * 2) _ (pairs_at n f g i hi).1
    have h1 := hcs q rfl (i * 2 + 1) _ (pairs_at n f g i hi).2
    rw [Go.WideShapes.add_plain] at h0 h1
    exact ⟨h0, h1⟩
/-- In world w the slice x reads as n cells. -/
def PView (w : World) (x : Option Addr) (n cap : Nat) (f : Nat → Int) (g : Nat → Bool) : Prop :=
  (x = none → n = 0 ∧ cap = 0) ∧ ∀ i, i < n → ∃ b o, x = some ⟨b, o, none⟩ ∧ w.cell? ⟨b, o + i * 2, none⟩ = some (.int .i64 (f i)) ∧ w.cell? ⟨b, o + i * 2 + 1, none⟩ = some (.bool (g i))
theorem pairs_news (n : Nat) (f : Nat → Int) (g : Nat → Bool) (j : Nat) (u : Value) (h : (pairs n f g)[j]? = some u) : ∃ i, i < n ∧ ((j = i * 2 ∧ u = .int .i64 (f i)) ∨ (j = i * 2 + 1 ∧ u = .bool (g i))) := by
  have hj := (List.getElem?_eq_some_iff.1 h).1
  rw [pairs_len] at hj
  refine ⟨j / 2, by omega, ?_⟩
  have hp := pairs_at n f g (j / 2) (by omega)
  rcases Nat.mod_two_eq_zero_or_one j with e | e
  · left
    have : j / 2 * 2 = j := by omega
    rw [this] at hp
    exact ⟨this.symm, by have := hp.1.symm.trans h; exact (Option.some.inj this).symm⟩
  · right
    have : j / 2 * 2 + 1 = j := by omega
    rw [this] at hp
    exact ⟨this.symm, by have := hp.2.symm.trans h; exact (Option.some.inj this).symm⟩
theorem run_copy_pairs {w : World} (ty B q n cap : Nat) (x : Option Addr) (f : Nat → Int) (g : Nat → Bool) (hq : w.heap[q]? = some (.cells #[] 36 (0, 0))) (hBq : B ≤ q) (hx : PView w x n cap f g) (hn : n ≤ 10000) :
    ∃ v' w', (Builtin.append_ #[34, 34] ty #[.slice (some ⟨q, 0, none⟩) 0 0, .slice x n cap]).run Try.prog w = .ok v' w' ∧ w'.ownsRow B 36 2 v' n (pairs n f g) ∧ Below B w w' := by
  obtain ⟨i0, hi, hz0, hz1, hz2⟩ := info_parts info36
  have hql : q < w.heap.size := by
    rcases Nat.lt_or_ge q w.heap.size with h | h
    · exact h
    · rw [Array.getElem?_eq_none h] at hq; cases hq
  have hrow : w.ownsRow B 36 2 (.slice (some ⟨q, 0, none⟩) 0 0) 0 [] := ⟨rfl, .inr ⟨q, 0, #[], rfl, hBq, hq, Nat.le_refl _, by simp [maxLen], rfl, rfl⟩⟩
  cases x with
  | none =>
    obtain ⟨rfl, rfl⟩ := hx.1 rfl
    exact ⟨_, w, run_append_owned_none (P := Try.prog) (w := w) B 34 ty 36 i0 2 Try.underlying34 hi _ 0 [] hrow, hrow, Below.refl _ _⟩
  | some ad =>
    obtain ⟨v', w', h1, h2, h3, _⟩ := run_append_own (P := Try.prog) (w := w) B 34 ty 36 i0 (.agg #[.int .i64 0, .bool false]) 2 16 Try.underlying34 hi hz0 hz1 hz2 rfl (by decide) _ 0 [] hrow ad n cap (pairs n f g) (by rw [pairs_len]) (by
      intro j u hj
      obtain ⟨i, hin, ⟨rfl, rfl⟩ | ⟨rfl, rfl⟩⟩ := pairs_news n f g j u hj
      · obtain ⟨b, o, e, c1, c2⟩ := hx.2 i hin
        cases e
        rw [Go.WideShapes.add_plain]; exact c1
      · obtain ⟨b, o, e, c1, c2⟩ := hx.2 i hin
        cases e
        rw [Go.WideShapes.add_plain]; exact c2) (by
      intro u hu
      obtain ⟨j, hj⟩ := List.getElem?_of_mem hu
      obtain ⟨i, _, ⟨_, rfl⟩ | ⟨_, rfl⟩⟩ := pairs_news n f g j u hj <;> rfl) (by unfold maxLen; omega) (by omega) (by omega)
    exact ⟨v', w', h1, by simpa using h2, (Below.refl _ _).grown h3 (by omega) (by intro k hk; simp [Value.ownBlock] at hk; omega)⟩
theorem wpList_copy_pairs {ops : Array Oper} {rest : List Oper} {o : Oper} {a : Act} {w : World} {Q : Exit → Act → World → Prop} (hw : Region.wanted o (yielded ops a.tmps) = true) (s y : Operand)
    (ho : o.op = .call { callee := .builtin .append, args := #[s, y], argTypes := #[34, 34] })
    (B q n cap : Nat) (x : Option Addr) (f : Nat → Int) (g : Nat → Bool) (hs : a.eval s = .slice (some ⟨q, 0, none⟩) 0 0) (hy : a.eval y = .slice x n cap) (hq : w.heap[q]? = some (.cells #[] 36 (0, 0))) (hBq : B ≤ q) (hx : PView w x n cap f g) (hn : n ≤ 10000)
    (h : ∀ v' w', w'.ownsRow B 36 2 v' n (pairs n f g) → Below B w w' → wpList Try.prog ops Q rest (a.put o.dst v') w') : wpList Try.prog ops Q (o :: rest) a w :=
  BigFrame.wpList_want hw fun _ hK => by
    obtain ⟨v', w', hr, h2, h3⟩ := run_copy_pairs o.type B q n cap x f g hq hBq hx hn
    unfold Oper.wp execOp
    simp only [ho, resolve, invoke, builtin, Sem.run_bind, Sem.run_pure, Result.andThen_ok, List.map_toArray, List.map_cons, List.map_nil, hs, hy, hr]
    exact hK _ _ (h v' w' h2 h3)
end Go.Proofs.Ytpcpohbbmeonbab
