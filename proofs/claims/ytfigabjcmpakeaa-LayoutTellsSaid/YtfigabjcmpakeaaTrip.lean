/- Rows of words (kind, who, slot) that the call itself made: what they hold, and some more at their end. -/
import Derived.Test.YtfigabjcmpakeaaView
import Derived.Maps.AppendAt
import Derived.Deep.AppendLies
import Derived.Laws.StructEq
import Derived.Handy
namespace Go.Proofs.Ytfigabjcmpakeaa
open Go.ChangeShapes Go.WideShapes Go.ChangeAt Go.RowKit
set_option linter.unusedVariables false
set_option linter.unusedSimpArgs false
abbrev T3 := Int × Int × Int
def trips (xs : List T3) : List Value := xs.flatMap fun t => [Value.int .i64 t.1, Value.int .i64 t.2.1, Value.int .i64 t.2.2]
theorem trips_add (xs ys : List T3) : trips (xs ++ ys) = trips xs ++ trips ys := by simp [trips]
theorem trips_len (xs : List T3) : (trips xs).length = xs.length * 3 := by
  induction xs with
  | nil => rfl
  | cons x xs ih => simp only [trips, List.flatMap_cons, List.length_append, List.length_cons, List.length_nil] at ih ⊢; omega
theorem trips_at : ∀ (xs : List T3) (i : Nat) (t : T3), xs[i]? = some t → (trips xs)[i * 3]? = some (.int .i64 t.1) ∧ (trips xs)[i * 3 + 1]? = some (.int .i64 t.2.1) ∧ (trips xs)[i * 3 + 2]? = some (.int .i64 t.2.2)
  | [], i, t, h => by simp at h
  | x :: xs, 0, t, h => by simp at h; subst h; exact ⟨rfl, rfl, rfl⟩
  | x :: xs, i + 1, t, h => by
    have := trips_at xs i t (by simpa using h)
    have e : ∀ j, (trips (x :: xs))[j + 3]? = (trips xs)[j]? := fun j => by simp [trips]
    rw [show (i + 1) * 3 = i * 3 + 3 from by omega, show i * 3 + 3 + 1 = (i * 3 + 1) + 3 from by omega, show i * 3 + 3 + 2 = (i * 3 + 2) + 3 from by omega, e, e, e]
    exact this
theorem trips_one (xs : List T3) : ∀ u ∈ trips xs, u.oneCell' = true := by
  intro u hu
  obtain ⟨t, _, h⟩ := List.mem_flatMap.1 hu
  simp at h
  rcases h with rfl | rfl | rfl <;> rfl
theorem info84 : (Try.prog.info? 84).map (fun i => (i.zero, i.size, i.bytes)) = some (some (.agg #[.int .i64 0, .int .i64 0, .int .i64 0]), 3, 24) := by kernel_rfl
theorem run_appT {w : World} (ty B : Nat) (v : Value) (xs us : List T3) (k m c t : Nat) (cs : Array Value) (fr : Nat × Nat) (hown : w.ownsRow B 84 3 v xs.length (trips xs)) (hb : w.heap[k]? = some (.cells cs t fr)) (hcs : cs.toList = trips us) (hm : us.length = m) (hsm : xs.length + m ≤ 100000) (hB : B ≤ w.heap.size) :
    ∃ v' w', (Builtin.append_ #[79, 79] ty #[v, .slice (some ⟨k, 0, none⟩) m c]).run Try.prog w = .ok v' w' ∧ w'.ownsRow B 84 3 v' (xs ++ us).length (trips (xs ++ us)) ∧ w.grownBy w' v.ownBlock := by
  obtain ⟨i0, hi, hz0, hz1, hz2⟩ := info_parts info84
  subst hm
  obtain ⟨v', w', h1, h2, h3, _, h5⟩ := run_append_own_at (P := Try.prog) w B 79 ty 84 i0 (.agg #[.int .i64 0, .int .i64 0, .int .i64 0]) 3 24 Try.underlying79 hi hz0 hz1 hz2 rfl (by decide) v xs.length _ hown ⟨k, 0, none⟩ us.length c (trips us) (trips_len us) (by rw [← hcs]; exact World.news_of_block hb) (trips_one us) (by unfold maxLen; omega) (by omega) hB
  exact ⟨v', w', h1, by rw [trips_add, List.length_append]; exact h2, h3⟩
theorem wpList_appT {ops : Array Oper} {rest : List Oper} {o : Oper} {a : Act} {w : World} {Q : Exit → Act → World → Prop} (hgd : o.guard = none) (s x : Operand)
    (ho : o.op = .call { callee := .builtin .append, args := #[s, x], argTypes := #[79, 79] })
    (B : Nat) (v : Value) (xs us : List T3) (hs : a.eval s = v) (k m c t : Nat) (cs : Array Value) (fr : Nat × Nat) (hx : a.eval x = .slice (some ⟨k, 0, none⟩) m c) (hown : w.ownsRow B 84 3 v xs.length (trips xs)) (hb : w.heap[k]? = some (.cells cs t fr)) (hcs : cs.toList = trips us) (hm : us.length = m) (hsm : xs.length + m ≤ 100000) (hB : B ≤ w.heap.size)
    (h : ∀ v' w', w'.ownsRow B 84 3 v' (xs ++ us).length (trips (xs ++ us)) → w.grownBy w' v.ownBlock → wpList Try.prog ops Q rest (a.put o.dst v') w') : wpList Try.prog ops Q (o :: rest) a w :=
  wpList_plain hgd fun _ hK => by
    obtain ⟨v', w', hr, h2, h3⟩ := run_appT o.type B v xs us k m c t cs fr hown hb hcs hm hsm hB
    unfold Oper.wp execOp
    simp only [ho, resolve, invoke, builtin, Sem.run_bind, Sem.run_pure, Result.andThen_ok, List.map_toArray, List.map_cons, List.map_nil, hs, hx, hr]
    exact hK _ _ (h v' w' h2 h3)
theorem word_eq (x y : T3) (w : World) : (binOp .eql 84 (.agg #[.int .i64 x.1, .int .i64 x.2.1, .int .i64 x.2.2]) (.agg #[.int .i64 y.1, .int .i64 y.2.1, .int .i64 y.2.2])).run Try.prog w = .ok (.bool (decide (x = y))) w := by
  have h : (Op.equalIn 10000 84 (.agg #[.int .i64 x.1, .int .i64 x.2.1, .int .i64 x.2.2]) (.agg #[.int .i64 y.1, .int .i64 y.2.1, .int .i64 y.2.2])).run Try.prog w = .ok (decide (x = y)) w := by
    rw [show (10000 : Nat) = 9999 + 1 from rfl, run_equalIn_struct w 9999 84 _ _ (by kernel_rfl) (by kernel_rfl)]
    obtain ⟨x1, x2, x3⟩ := x
    obtain ⟨y1, y2, y3⟩ := y
    by_cases e1 : x1 = y1
    · by_cases e2 : x2 = y2
      · by_cases e3 : x3 = y3
        · simp [go_sem, Try.underlying84, e1, e2, e3]
        · simp [go_sem, Try.underlying84, e1, e2, e3]
      · simp [go_sem, Try.underlying84, e1, e2]
    · simp [go_sem, Try.underlying84, e1]
  simp only [binOp]
  simp [Op.equal, Op.maxDepth, h]
end Go.Proofs.Ytfigabjcmpakeaa
