/- A row of whole numbers that the call itself made: some more at its end, out of a block that is known whole: at a list of operations, and at a step of a drawn region. -/
import Derived.Test.YtfigabjcmpakeaaApp1
import Derived.Deep.AppendLies
namespace Go.Proofs.Ytfigabjcmpakeaa
open Go.ChangeShapes Go.WideShapes Go.ChangeAt Go.RowKit
set_option linter.unusedVariables false
set_option linter.unusedSimpArgs false
theorem run_appN {w : World} (ty B : Nat) (v : Value) (xs us : List Int) (k m c t : Nat) (cs : Array Value) (fr : Nat × Nat) (hown : w.ownsRow B 3 1 v xs.length (xs.map (Value.int .i64))) (hb : w.heap[k]? = some (.cells cs t fr)) (hcs : cs.toList = us.map (Value.int .i64)) (hm : us.length = m) (hsm : xs.length + m ≤ 100000) (hB : B ≤ w.heap.size) :
    ∃ v' w', (Builtin.append_ #[26, 26] ty #[v, .slice (some ⟨k, 0, none⟩) m c]).run Try.prog w = .ok v' w' ∧ w'.ownsRow B 3 1 v' (xs ++ us).length ((xs ++ us).map (Value.int .i64)) ∧ w.grownBy w' v.ownBlock ∧ (v'.ownBlock = v.ownBlock ∨ v'.ownBlock = some w.heap.size) := by
  obtain ⟨i0, hi, hz0, hz1, hz2⟩ := info_parts info3
  subst hm
  obtain ⟨v', w', h1, h2, h3, _, h5⟩ := run_append_own_at (P := Try.prog) w B 26 ty 3 i0 (.int .i64 0) 1 8 Try.underlying26 hi hz0 hz1 hz2 rfl (by decide) v xs.length _ hown ⟨k, 0, none⟩ us.length c (us.map (Value.int .i64)) (by simp) (by rw [← hcs]; exact World.news_of_block hb) (by intro u hu; obtain ⟨n, _, rfl⟩ := List.mem_map.1 hu; rfl) (by unfold maxLen; omega) (by omega) hB
  exact ⟨v', w', h1, by simpa using h2, h3, h5⟩
theorem wp_appN {o : Oper} {a : Act} {w : World} {K : Act → World → Prop} {Q : Exit → Act → World → Prop} (s x : Operand)
    (ho : o.op = .call { callee := .builtin .append, args := #[s, x], argTypes := #[26, 26] })
    (B : Nat) (v : Value) (xs us : List Int) (hs : a.eval s = v) (k m c t : Nat) (cs : Array Value) (fr : Nat × Nat) (hx : a.eval x = .slice (some ⟨k, 0, none⟩) m c) (hown : w.ownsRow B 3 1 v xs.length (xs.map (Value.int .i64))) (hb : w.heap[k]? = some (.cells cs t fr)) (hcs : cs.toList = us.map (Value.int .i64)) (hm : us.length = m) (hsm : xs.length + m ≤ 100000) (hB : B ≤ w.heap.size)
    (h : ∀ v' w', w'.ownsRow B 3 1 v' (xs ++ us).length ((xs ++ us).map (Value.int .i64)) → w.grownBy w' v.ownBlock → (v'.ownBlock = v.ownBlock ∨ v'.ownBlock = some w.heap.size) → K (a.put o.dst v') w') : o.wp Try.prog a w K Q := by
  obtain ⟨v', w', hr, h2, h3, h4⟩ := run_appN o.type B v xs us k m c t cs fr hown hb hcs hm hsm hB
  unfold Oper.wp execOp
  simp only [ho, resolve, invoke, builtin, Sem.run_bind, Sem.run_pure, Result.andThen_ok, List.map_toArray, List.map_cons, List.map_nil, hs, hx, hr]
  exact h v' w' h2 h3 h4
theorem wpList_appN {ops : Array Oper} {rest : List Oper} {o : Oper} {a : Act} {w : World} {Q : Exit → Act → World → Prop} (hgd : o.guard = none) (s x : Operand)
    (ho : o.op = .call { callee := .builtin .append, args := #[s, x], argTypes := #[26, 26] })
    (B : Nat) (v : Value) (xs us : List Int) (hs : a.eval s = v) (k m c t : Nat) (cs : Array Value) (fr : Nat × Nat) (hx : a.eval x = .slice (some ⟨k, 0, none⟩) m c) (hown : w.ownsRow B 3 1 v xs.length (xs.map (Value.int .i64))) (hb : w.heap[k]? = some (.cells cs t fr)) (hcs : cs.toList = us.map (Value.int .i64)) (hm : us.length = m) (hsm : xs.length + m ≤ 100000) (hB : B ≤ w.heap.size)
    (h : ∀ v' w', w'.ownsRow B 3 1 v' (xs ++ us).length ((xs ++ us).map (Value.int .i64)) → w.grownBy w' v.ownBlock → (v'.ownBlock = v.ownBlock ∨ v'.ownBlock = some w.heap.size) → wpList Try.prog ops Q rest (a.put o.dst v') w') : wpList Try.prog ops Q (o :: rest) a w :=
  wpList_plain hgd fun _ hK => wp_appN s x ho B v xs us hs k m c t cs fr hx hown hb hcs hm hsm hB (fun v' w' h1 h2 h3 => hK _ _ (h v' w' h1 h2 h3))
theorem step_appN {ops : Array Oper} {o : Oper} {a : Act} {w : World} {K : Act → World → Prop} {Q : Exit → Act → World → Prop} {E : Prop} (hgd : o.guard = none) (s x : Operand)
    (ho : o.op = .call { callee := .builtin .append, args := #[s, x], argTypes := #[26, 26] })
    (B : Nat) (v : Value) (xs us : List Int) (hs : a.eval s = v) (k m c t : Nat) (cs : Array Value) (fr : Nat × Nat) (hx : a.eval x = .slice (some ⟨k, 0, none⟩) m c) (hown : w.ownsRow B 3 1 v xs.length (xs.map (Value.int .i64))) (hb : w.heap[k]? = some (.cells cs t fr)) (hcs : cs.toList = us.map (Value.int .i64)) (hm : us.length = m) (hsm : xs.length + m ≤ 100000) (hB : B ≤ w.heap.size)
    (h : ∀ v' w', w'.ownsRow B 3 1 v' (xs ++ us).length ((xs ++ us).map (Value.int .i64)) → w.grownBy w' v.ownBlock → (v'.ownBlock = v.ownBlock ∨ v'.ownBlock = some w.heap.size) → K (a.put o.dst v') w') :
    if Region.wanted o (yielded ops a.tmps) = true then Oper.wp Try.prog o a w K Q else E := by
  have hw : Region.wanted o (yielded ops a.tmps) = true := by simp [Region.wanted, hgd]
  rw [if_pos hw]
  exact wp_appN s x ho B v xs us hs k m c t cs fr hx hown hb hcs hm hsm hB h
end Go.Proofs.Ytfigabjcmpakeaa
