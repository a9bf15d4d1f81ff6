/- Who looks at a store: the list of what was seen, the function that is called at each access, and that a panic in it is none (layer 9). -/
import Derived.Test.YtfigabjcmpakeaaKeep
import Derived.Test.YtfigabjcmpakeaaView
import Derived.Maps.AppendAt
import Derived.Deep.AppendLies
import Derived.Handy
import Derived.Defers
import Derived.Recover
import Derived.Tactics2
namespace Go.Proofs.Ytfigabjcmpakeaa.sn
open Go.ChangeShapes Go.WideShapes Go.ChangeAt Go.RowKit
set_option linter.unusedVariables false
set_option linter.unusedSimpArgs false
abbrev SB := Int × Bool
def prs (xs : List SB) : List Value := xs.flatMap fun t => [Value.int .i64 t.1, Value.bool t.2]
theorem prs_add (xs ys : List SB) : prs (xs ++ ys) = prs xs ++ prs ys := by simp [prs]
theorem prs_len (xs : List SB) : (prs xs).length = xs.length * 2 := by
  induction xs with
  | nil => rfl
  | cons x xs ih => simp only [prs, List.flatMap_cons, List.length_append, List.length_cons, List.length_nil] at ih ⊢; omega
theorem prs_at : ∀ (xs : List SB) (i : Nat) (t : SB), xs[i]? = some t → (prs xs)[i * 2]? = some (.int .i64 t.1) ∧ (prs xs)[i * 2 + 1]? = some (.bool t.2)
  | [], i, t, h => by simp at h
  | x :: xs, 0, t, h => by simp at h; subst h; exact ⟨rfl, rfl⟩
  | x :: xs, i + 1, t, h => by
    have := prs_at xs i t (by simpa using h)
    have e : ∀ j, (prs (x :: xs))[j + 2]? = (prs xs)[j]? := fun j => by simp [prs]
    rw [show (i + 1) * 2 = i * 2 + 2 from by omega, show i * 2 + 2 + 1 = (i * 2 + 1) + 2 from by omega, e, e]
    exact this
theorem prs_one (xs : List SB) : ∀ u ∈ prs xs, u.oneCell' = true := by
  intro u hu
  obtain ⟨t, _, h⟩ := List.mem_flatMap.1 hu
  simp at h
  rcases h with rfl | rfl <;> rfl
theorem info42 : (Try.prog.info? 42).map (fun i => (i.zero, i.size, i.bytes)) = some (some (.agg #[.int .i64 0, .bool false]), 2, 16) := by kernel_rfl
theorem run_appS {w : World} (ty B : Nat) (v : Value) (xs us : List SB) (k m c t : Nat) (cs : Array Value) (fr : Nat × Nat) (hown : w.ownsRow B 42 2 v xs.length (prs xs)) (hb : w.heap[k]? = some (.cells cs t fr)) (hcs : cs.toList = prs us) (hm : us.length = m) (hsm : xs.length + m ≤ 100000) (hB : B ≤ w.heap.size) :
    ∃ v' w', (Builtin.append_ #[40, 40] ty #[v, .slice (some ⟨k, 0, none⟩) m c]).run Try.prog w = .ok v' w' ∧ w'.ownsRow B 42 2 v' (xs ++ us).length (prs (xs ++ us)) ∧ w.grownBy w' v.ownBlock ∧ (v'.ownBlock = v.ownBlock ∨ v'.ownBlock = some w.heap.size) := by
  obtain ⟨i0, hi, hz0, hz1, hz2⟩ := info_parts info42
  subst hm
  obtain ⟨v', w', h1, h2, h3, _, h5⟩ := run_append_own_at (P := Try.prog) w B 40 ty 42 i0 (.agg #[.int .i64 0, .bool false]) 2 16 Try.underlying40 hi hz0 hz1 hz2 rfl (by decide) v xs.length _ hown ⟨k, 0, none⟩ us.length c (prs us) (prs_len us) (by rw [← hcs]; exact World.news_of_block hb) (prs_one us) (by unfold maxLen; omega) (by omega) hB
  exact ⟨v', w', h1, by rw [prs_add, List.length_append]; exact h2, h3, h5⟩
theorem wpList_appS {ops : Array Oper} {rest : List Oper} {o : Oper} {a : Act} {w : World} {Q : Exit → Act → World → Prop} (hgd : o.guard = none) (s x : Operand)
    (ho : o.op = .call { callee := .builtin .append, args := #[s, x], argTypes := #[40, 40] })
    (B : Nat) (v : Value) (xs us : List SB) (hs : a.eval s = v) (k m c t : Nat) (cs : Array Value) (fr : Nat × Nat) (hx : a.eval x = .slice (some ⟨k, 0, none⟩) m c) (hown : w.ownsRow B 42 2 v xs.length (prs xs)) (hb : w.heap[k]? = some (.cells cs t fr)) (hcs : cs.toList = prs us) (hm : us.length = m) (hsm : xs.length + m ≤ 100000) (hB : B ≤ w.heap.size)
    (h : ∀ v' w', w'.ownsRow B 42 2 v' (xs ++ us).length (prs (xs ++ us)) → w.grownBy w' v.ownBlock → (v'.ownBlock = v.ownBlock ∨ v'.ownBlock = some w.heap.size) → wpList Try.prog ops Q rest (a.put o.dst v') w') : wpList Try.prog ops Q (o :: rest) a w :=
  wpList_plain hgd fun _ hK => by
    obtain ⟨v', w', hr, h2, h3, h4⟩ := run_appS o.type B v xs us k m c t cs fr hown hb hcs hm hsm hB
    unfold Oper.wp execOp
    simp only [ho, resolve, invoke, builtin, Sem.run_bind, Sem.run_pure, Result.andThen_ok, List.map_toArray, List.map_cons, List.map_nil, hs, hx, hr]
    exact hK _ _ (h v' w' h2 h3 h4)
theorem row_keptS {w w' : World} {base : Nat} {v : Value} {n : Nat} {xs : List Value} (h : w.ownsRow base 42 2 v n xs) (hk : ∀ k, v.ownBlock = some k → w'.heap[k]? = w.heap[k]?) : w'.ownsRow base 42 2 v n xs := by
  obtain ⟨hl, h⟩ := h
  refine ⟨hl, ?_⟩
  rcases h with h | ⟨g, cap, cur, rfl, hg, hh, h1, h2, h3, h4⟩
  · exact .inl h
  · exact .inr ⟨g, cap, cur, rfl, hg, (hk g rfl).trans hh, h1, h2, h3, h4⟩
theorem formS {W : World} {B n : Nat} {v : Value} {xs : List Value} (h : W.ownsRow B 42 2 v n xs) : ∃ o cap, v = .slice o n cap := by
  obtain ⟨_, ⟨rfl, h0⟩ | ⟨q, cap, cur, rfl, _⟩⟩ := h
  · exact ⟨none, 0, by rw [h0]⟩
  · exact ⟨_, _, rfl⟩
/-- The variable of what was seen (block V holds the list's value), and its row of one's own. -/
structure SN (w0 w : World) (V B : Nat) (vs : Value) (L : List SB) : Prop where
  bl : Below w0.heap.size w0 w
  c : w.heap[V]? = some (.cells #[vs] 40 (0, 0))
  v : w.ownsRow B 42 2 vs L.length (prs L)
  lt : V < B ∧ w0.heap.size ≤ V ∧ w0.heap.size ≤ B ∧ B ≤ w.heap.size
/-- All blocks but V and the row's stay. -/
def KP (V : Nat) (r : Option Nat) (w w' : World) : Prop := w.heap.size ≤ w'.heap.size ∧ ∀ k, k < w.heap.size → k ≠ V → some k ≠ r → w'.heap[k]? = w.heap[k]?
theorem SN.facts {w0 w : World} {V B : Nat} {vs : Value} {L : List SB} (h : SN w0 w V B vs L) : w.cell? ⟨V, 0, none⟩ = some vs ∧ w.frozen? ⟨V, 0, none⟩ = false := by
  have := h.c
  exact ⟨by simp [World.cell?, this], by simp [World.frozen?, this]⟩
theorem hook_of (V B : Nat) (vs : Value) (L : List SB) (x : Int) (b : Bool) (w0 w : World) (h : SN w0 w V B vs L) (hL : L.length ≤ 1000) :
    Calls Try.prog 24 #[.int .i64 x, .bool b, .pointer (some ⟨V, 0, none⟩)] w fun e w' => e = .returned (.tuple #[]) ∧ ∃ vs', SN w0 w' V B vs' (L ++ [(x, b)]) ∧ KP V vs.ownBlock w w' ∧ (vs'.ownBlock = vs.ownBlock ∨ ∃ k, vs'.ownBlock = some k ∧ w.heap.size ≤ k) := by
  obtain ⟨f0, f1⟩ := h.facts
  have H := Lib.hid h
  have hl := h.lt
  clear h
  go_enter Try.func24, Try.ntmps24
  go_wp2_with (at_builtin; refine wpList_appS rfl _ _ rfl B vs L [(x, b)] rfl w.heap.size 1 1 42 #[.int .i64 x, .bool b] (0, 0) rfl ?o1 ?o2 rfl rfl ?o3 ?o4 ?_)
  case o1 => exact H.out.v.alloc _
  case o2 => exact heap_made w _
  case o3 => (try simp only [List.length_cons, List.length_nil]); omega
  case o4 => show B ≤ (w.heap.push _).size; simp; omega
  intro v' w1 hr hg ho
  have hV : V < w.heap.size := by omega
  have hne : ∀ k, vs.ownBlock = some k → B ≤ k := fun k e => (H.out.v.lt k e).1
  have hal : ∀ k, k < w.heap.size → (w.alloc (Obj.cells #[Value.int IntKind.i64 x, Value.bool b] 42)).heap[k]? = w.heap[k]? := fun k hk => by
    show (w.heap.push _)[k]? = _
    rw [Array.getElem?_push, if_neg (by omega)]
  have hsz : w.heap.size < (w.alloc (Obj.cells #[Value.int IntKind.i64 x, Value.bool b] 42)).heap.size := by show _ < (w.heap.push _).size; simp
  have hkp : ∀ k, k < w.heap.size → some k ≠ vs.ownBlock → w1.heap[k]? = w.heap[k]? := fun k hk hn => (hg.block k (by omega) hn).trans (hal k hk)
  have hbl : Below w0.heap.size w0 w1 := (H.out.bl.alloc H.out.bl.size _).trans (((Below.refl _ _).grown hg (by omega) hne).mono hl.2.2.1)
  have hsz1 : w.heap.size ≤ w1.heap.size := Nat.le_trans (Nat.le_of_lt hsz) (((Below.refl _ _).grown hg (by omega) hne).size)
  have hc1 : w1.heap[V]? = some (.cells #[vs] 40 (0, 0)) := (hkp V hV (fun e => by have := hne V e.symm; omega)).trans H.out.c
  have g0 : w1.cell? ⟨V, 0, none⟩ = some vs := by simp [World.cell?, hc1]
  have g1 : w1.frozen? ⟨V, 0, none⟩ = false := by simp [World.frozen?, hc1]
  clear f0 f1
  obtain ⟨o, cap, rfl⟩ := formS hr
  go_wp2_with fail
  go_end0
  have hmod : ∀ k, k ≠ V → (w1.setCell ⟨V, 0, none⟩ (.slice o (L.length + 1) cap)).heap[k]? = w1.heap[k]? := fun k hk => by
    show (w1.heap.modify V _)[k]? = _
    rw [Array.getElem?_modify, if_neg (fun e => hk e.symm)]
  have hrl := hr.lt
  refine ⟨rfl, _, ⟨hbl.setCell hl.2.1 _, ?_, row_keptS (by simpa using hr) (fun k e => hmod k ?_), hl.1, hl.2.1, hl.2.2.1, ?_⟩, ⟨?_, fun k hk h1 h2 => (hmod k h1).trans (hkp k hk h2)⟩, ?_⟩
  · obtain ⟨hlt, hk⟩ := Array.getElem?_eq_some_iff.1 hc1
    show (w1.heap.modify V _)[V]? = _
    rw [Array.getElem?_eq_getElem (by rw [Array.size_modify]; exact hlt), Array.getElem_modify_self, hk]
    simp
  · have := (hrl k e).1; omega
  · show B ≤ (w1.heap.modify V _).size; rw [Array.size_modify]; omega
  · show w.heap.size ≤ (w1.heap.modify V _).size; rw [Array.size_modify]; omega
  · rcases ho with ho | ho
    · exact .inl ho
    · exact .inr ⟨_, ho, by omega⟩
theorem catch_idle (w : World) : CallsD Try.prog 72 #[] .returning w fun e u' w' => e = .returned (.tuple #[]) ∧ u' = .returning ∧ w' = w := by
  refine callsD_of_wpS Try.func72 rfl fun c₀ cs hu => ?_
  apply wpS_region
  simp [wpOpsS, go_sem, recoverD, hu, Try.ntmps72, bodyPostS, results, Try.results72]
  cases c₀
  simp_all
theorem show_of (V B : Nat) (vs : Value) (L : List SB) (x : Int) (b : Bool) (w0 w : World) (h : SN w0 w V B vs L) (hL : L.length ≤ 1000) :
    Calls Try.prog 70 #[.func (.func 24) #[] #[.pointer (some ⟨V, 0, none⟩)], .int .i64 x, .bool b] w fun e w' => e = .returned (.tuple #[]) ∧ ∃ vs', SN w0 w' V B vs' (L ++ [(x, b)]) ∧ KP V vs.ownBlock w w' ∧ (vs'.ownBlock = vs.ownBlock ∨ ∃ k, vs'.ownBlock = some k ∧ w.heap.size ≤ k) := by
  have hmf : ∀ (fn : Fn) (first cap : Array Value) (w : World), (Instr.makeFunc fn first cap).run Try.prog w = .ok (.func fn first cap) w := fun _ _ _ _ => rfl
  have H := Lib.hid h
  clear h
  go_enter_defers Try.func70, Try.ntmps70
  go_wp2_with (go_at_call 24; refine (hook_of V B vs L x b w0 _ H.out hL).mono ?_; rintro e w' ⟨rfl, vs', hs, hk, ho⟩)
  refine leaves_cons (f := 72) (args := #[]) (by simp) (by simp [go_sem]) ?_
  refine (catch_idle _).mono ?_
  rintro e u' w'' ⟨rfl, rfl, rfl⟩
  simp [Leaves, settle, results, Try.results70, go_sem]
  exact ⟨vs', hs, hk, ho⟩
end Go.Proofs.Ytfigabjcmpakeaa.sn
