/- Append of many own rows to own rows (layer 4). -/
import Derived.Test.YthllikmnlnakkaaPrO
namespace Go.Proofs.Ythllikmnlnakkaa.pr
open Go.ChangeShapes Go.WideShapes Go.ChangeAt Go.RowKit
open Go.Proofs.Ythllikmnlnakkaa.bin Go.Proofs.Ythllikmnlnakkaa.bits Go.Proofs.Ythllikmnlnakkaa.ins
set_option linter.unusedVariables false
set_option linter.unusedSimpArgs false
theorem OP.shape {w : World} {B : Nat} {v : Value} {rows : List Value} {L : List (List I4)} (h : OP w B v rows L) (hL : 0 < L.length) :
    ∃ g cap, v = .slice (some ⟨g, 0, none⟩) L.length cap ∧ B ≤ g ∧ rows.length = L.length ∧ (∀ j u, rows[j]? = some u → w.cell? ⟨g, j, none⟩ = some u) ∧ ∀ u ∈ rows, u.oneCell' = true := by
  obtain ⟨⟨hl, ⟨rfl, h0⟩ | ⟨g, cap, cur, rfl, hg, hh, h1, h2, h3, h4⟩⟩, hr⟩ := h
  · omega
  · have hrl : rows.length = L.length := by omega
    refine ⟨g, cap, rfl, hg, hrl, fun j u hj => ?_, fun u hu => ?_⟩
    · have hjl := (List.getElem?_eq_some_iff.1 hj).1
      have h5 : cur.toList[j]? = some u := by
        have h6 := congrArg (fun l => l[j]?) h4
        simp only [Nat.mul_one] at h6
        rw [List.getElem?_take_of_lt (by omega)] at h6
        rw [h6, hj]
      have h7 : cur[j]? = some u := by simpa using h5
      simp [World.cell?, hh, h7]
    · obtain ⟨j, hj⟩ := List.getElem?_of_mem hu
      obtain ⟨u', hu', ho⟩ := hr j (by have := (List.getElem?_eq_some_iff.1 hj).1; omega)
      rw [hj] at hu'
      obtain rfl := Option.some.inj hu'
      obtain ⟨a, cp, rfl⟩ := OR.form ho
      rfl
theorem OP.keepx {w w' : World} {B g : Nat} {v : Value} {rows : List Value} {L : List (List I4)} (h : OP w B v rows L) (hv : v.ownBlock ≠ some g) (hr : ∀ (i : Nat) (u : Value), rows[i]? = some u → u.ownBlock ≠ some g) (hk : ∀ k, k ≠ g → w'.heap[k]? = w.heap[k]?) : OP w' B v rows L := by
  refine ⟨?_, fun i hi => ?_⟩
  · obtain ⟨hl, h1 | ⟨g2, cap2, cur2, rfl, h1, hh2, h3⟩⟩ := h.1
    · exact ⟨hl, .inl h1⟩
    · exact ⟨hl, .inr ⟨g2, cap2, cur2, rfl, h1, (hk g2 (fun e => hv (by rw [e]; rfl))).trans hh2, h3⟩⟩
  · obtain ⟨u, hu, hl, h1 | ⟨g3, cap, cur, h1, h2, hh, h3⟩⟩ := h.2 i hi
    · exact ⟨u, hu, hl, .inl h1⟩
    · subst h1
      exact ⟨_, hu, hl, .inr ⟨g3, cap, cur, rfl, h2, (hk g3 (fun e => hr i _ hu (by rw [e]; rfl))).trans hh, h3⟩⟩
theorem OP.rows_lt {w : World} {B : Nat} {v : Value} {rows : List Value} {L : List (List I4)} (h : OP w B v rows L) : ∀ (i : Nat) (u : Value), rows[i]? = some u → ∀ k, u.ownBlock = some k → B ≤ k ∧ k < w.heap.size := by
  intro i u hu k hk
  have hrl : rows.length = L.length := by have := h.1.1; omega
  obtain ⟨u', hu', ho⟩ := h.2 i (by have := (List.getElem?_eq_some_iff.1 hu).1; omega)
  rw [hu] at hu'
  obtain rfl := Option.some.inj hu'
  exact ho.lt k hk
theorem run_appPP {w : World} (ty B B2 : Nat) (v v2 : Value) (rows rows2 : List Value) (L L2 : List (List I4)) (hown : OP w B v rows L) (hown2 : OP w B2 v2 rows2 L2) (hBB : B ≤ B2) (hL2 : 0 < L2.length) (hsm : L.length ≤ 100000) (hsm2 : L2.length ≤ 100000) (hB : B ≤ w.heap.size) :
    ∃ v' w', (Builtin.append_ #[22, 22] ty #[v, v2]).run Try.prog w = .ok v' w' ∧ OP w' B v' (rows ++ rows2) (L ++ L2) ∧ w.grownBy w' v.ownBlock ∧ (v'.ownBlock = v.ownBlock ∨ v'.ownBlock = some w.heap.size) := by
  obtain ⟨i0, hi, hz0, hz1, hz2⟩ := info_parts infoC
  obtain ⟨g, cap, rfl, hg, hl2, hc, h1⟩ := hown2.shape hL2
  obtain ⟨v', w', h1, h2, h3, _, h5⟩ := run_append_own_at (P := Try.prog) w B 22 ty 38 i0 (.slice none 0 0) 1 24 Try.underlying22 hi hz0 hz1 hz2 rfl (by decide) v L.length _ hown.1 ⟨g, 0, none⟩ L2.length cap rows2 (by omega) (by
    intro j u hj
    have := hc j u hj
    rw [Go.WideShapes.add_plain, Nat.zero_add]; exact this) h1 (by unfold maxLen; omega) (by omega) hB
  refine ⟨v', w', h1, ⟨by simpa using h2, fun i hi => ?_⟩, h3, h5⟩
  have hrl : rows.length = L.length := by have := hown.1.1; omega
  by_cases hi' : i < L.length
  · obtain ⟨u', hu', ho⟩ := hown.2 i hi'
    refine ⟨u', by rw [List.getElem?_append_left (by omega)]; exact hu', ?_⟩
    rw [List.getD_eq_getElem?_getD, List.getElem?_append_left hi', ← List.getD_eq_getElem?_getD]
    exact OR.grownP ho hown.1 h3
  · rw [List.length_append] at hi
    obtain ⟨u', hu', ho⟩ := hown2.2 (i - L.length) (by omega)
    refine ⟨u', by rw [List.getElem?_append_right (by omega), hrl]; exact hu', ?_⟩
    rw [List.getD_eq_getElem?_getD, List.getElem?_append_right (by omega), ← List.getD_eq_getElem?_getD]
    exact OR.grownP (OR.mono ho hBB) hown.1 h3
theorem step_appPP {ops : Array Oper} {o : Oper} {a : Act} {w : World} {K : Act → World → Prop} {Q : Exit → Act → World → Prop} {E : Prop} (hgd : o.guard = none) (s x : Operand)
    (ho : o.op = .call { callee := .builtin .append, args := #[s, x], argTypes := #[22, 22] })
    (B B2 : Nat) (v v2 : Value) (rows rows2 : List Value) (L L2 : List (List I4)) (hs : a.eval s = v) (hx : a.eval x = v2) (hown : OP w B v rows L) (hown2 : OP w B2 v2 rows2 L2) (hBB : B ≤ B2) (hL2 : 0 < L2.length) (hsm : L.length ≤ 100000) (hsm2 : L2.length ≤ 100000) (hB : B ≤ w.heap.size)
    (h : ∀ v' w', OP w' B v' (rows ++ rows2) (L ++ L2) → w.grownBy w' v.ownBlock → (v'.ownBlock = v.ownBlock ∨ v'.ownBlock = some w.heap.size) → K (a.put o.dst v') w') :
    if Region.wanted o (yielded ops a.tmps) = true then Oper.wp Try.prog o a w K Q else E := by
  have hw : Region.wanted o (yielded ops a.tmps) = true := by simp [Region.wanted, hgd]
  rw [if_pos hw]
  obtain ⟨v', w', hr, h2, h3, h4⟩ := run_appPP o.type B B2 v v2 rows rows2 L L2 hown hown2 hBB hL2 hsm hsm2 hB
  unfold Oper.wp execOp
  simp only [ho, resolve, invoke, builtin, Sem.run_bind, Sem.run_pure, Result.andThen_ok, List.map_toArray, List.map_cons, List.map_nil, hs, hx, hr]
  exact h v' w' h2 h3 h4
end Go.Proofs.Ythllikmnlnakkaa.pr
