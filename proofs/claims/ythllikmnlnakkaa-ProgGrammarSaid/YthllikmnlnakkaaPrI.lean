/- The program that bytes are: behind the label 'instruction' (layer 4). -/
import Derived.Test.YthllikmnlnakkaaPrH
import Derived.Lib.OthersKept
import Derived.Deep.RegionHeld3
namespace Go.Proofs.Ythllikmnlnakkaa.pr
open Go.ChangeShapes Go.WideShapes Go.ChangeAt Go.RowKit
open Go.Proofs.Ythllikmnlnakkaa.bin Go.Proofs.Ythllikmnlnakkaa.bits Go.Proofs.Ythllikmnlnakkaa.ins
set_option linter.unusedVariables false
set_option linter.unusedSimpArgs false
section
variable {α β : Type} {k k' : Nat} {en : α → List Value} {en' : β → List Value}
theorem rec_new {w : World} {cs : Array Value} {e g : Nat} (hg : w.heap.size = g) {p : α} (hp : cs.toList = en p) : ∀ j u, (en p)[j]? = some u → (w.alloc (.cells cs e)).cell? ((⟨g, 0, none⟩ : Addr).add j) = some u := by
  intro j u hu
  subst hg
  rw [← hp] at hu
  have h2 : cs[j]? = some u := by simpa using hu
  have := heap_new w cs e
  rw [Go.WideShapes.add_plain, Nat.zero_add]
  simp only [World.cell?]
  rw [this]
  exact h2
theorem step_appR {ops : Array Oper} {o : Oper} {a : Act} {w : World} {K : Act → World → Prop} {Q : Exit → Act → World → Prop} {E : Prop} (hgd : o.guard = none) (s x : Operand) (t e : TypeId) (z : Value) (bytes : Nat)
    (ho : o.op = .call { callee := .builtin .append, args := #[s, x], argTypes := #[t, t] }) (ht : Try.prog.underlying t = some (.slice e)) (hinfo : (Try.prog.info? e).map (fun i => (i.zero, i.size, i.bytes)) = some (some z, k, bytes)) (hzs : z.cells.size = k) (hby : bytes ≤ 1000) (hr : Rec k en)
    (B : Nat) (v : Value) (xs : List α) (p : α) (hs : a.eval s = v) (g c : Nat) (hx : a.eval x = .slice (some ⟨g, 0, none⟩) 1 c) (hown : Hid (OR k en w B e v xs)) (hu : ∀ j u, (en p)[j]? = some u → w.cell? ((⟨g, 0, none⟩ : Addr).add j) = some u) (hsm : xs.length ≤ 1000000) (hB : B ≤ w.heap.size)
    (h : ∀ v' w', Hid (OR k en w' B e v' (xs ++ [p])) → w.grownBy w' v.ownBlock → (v'.ownBlock = v.ownBlock ∨ v'.ownBlock = some w.heap.size) → K (a.put o.dst v') w') :
    if Region.wanted o (yielded ops a.tmps) = true then Oper.wp Try.prog o a w K Q else E := by
  have hw : Region.wanted o (yielded ops a.tmps) = true := by simp [Region.wanted, hgd]
  rw [if_pos hw]
  obtain ⟨i0, hi, hz0, hz1, hz2⟩ := info_parts hinfo
  have hb1 : (xs.length + 1) * bytes ≤ 140737488355328 := by
    have := Nat.mul_le_mul (show xs.length + 1 ≤ 1000001 by omega) hby
    omega
  obtain ⟨v', w', r1, r2, r3, _, r5⟩ := run_append_own_at (P := Try.prog) w B t o.type e i0 z k bytes ht hi hz0 hz1 hz2 hzs hr.1 v xs.length _ hown.out ⟨g, 0, none⟩ 1 c (en p) (by rw [hr.2.1]; omega) hu (hr.2.2 p) (by unfold maxLen; omega) hb1 hB
  unfold Oper.wp execOp
  simp only [ho, resolve, invoke, builtin, Sem.run_bind, Sem.run_pure, Result.andThen_ok, List.map_toArray, List.map_cons, List.map_nil, hs, hx, r1]
  exact h v' w' (Lib.hid (by unfold OR; rw [flat_snoc, List.length_append]; exact r2)) r3 r5
end
theorem row_block {w : World} {B i : Nat} {v u : Value} {rows : List Value} {L : List (List I4)} (h : OP w B v rows L) (hi : rows[i]? = some u) : OR 4 enI w B 40 u (L.getD i []) := by
  have hl : i < L.length := by
    have h1 := (List.getElem?_eq_some_iff.1 hi).1
    have h2 := h.1.1
    omega
  obtain ⟨u', hu', ho⟩ := h.2 i hl
  rw [hi] at hu'
  obtain rfl : u = u' := by simpa using hu'
  exact ho
theorem OP.grownU {w w' : World} {B : Nat} {v u : Value} {rows : List Value} {L : List (List I4)} {c : List I4} (h : OP w B v rows L) (hu : OR 4 enI w B 40 u c) (hn : NB rows u) (hg : w.grownBy w' u.ownBlock) : OP w' B v rows L := by
  refine ⟨?_, fun i hi => ?_⟩
  · obtain ⟨hl, h1 | ⟨g2, cap2, cur2, rfl, h1, hh2, h3⟩⟩ := h.1
    · exact ⟨hl, .inl h1⟩
    · refine ⟨hl, .inr ⟨g2, cap2, cur2, rfl, h1, (hg.block g2 (Array.getElem?_eq_some_iff.1 hh2).1 ?_).trans hh2, h3⟩⟩
      intro e
      obtain ⟨_, ⟨rfl, _⟩ | ⟨g, cap, cur, rfl, _, hh, _⟩⟩ := hu
      · simp [Value.ownBlock] at e
      · simp [Value.ownBlock] at e
        subst e
        rw [hh] at hh2
        simp at hh2
  · obtain ⟨x, hx, ho⟩ := h.2 i hi
    refine ⟨x, hx, ?_⟩
    obtain ⟨hl, h1 | ⟨g, cap, cur, rfl, h2, hh, h3⟩⟩ := ho
    · exact ⟨hl, .inl h1⟩
    · exact ⟨hl, .inr ⟨g, cap, cur, rfl, h2, (hg.block g (Array.getElem?_eq_some_iff.1 hh).1 (Ne.symm (hn i _ hx g (by simp [Value.ownBlock])))).trans hh, h3⟩⟩
theorem HG.grown {w0 w w' : World} {m : Int} {v u : Value} {rows : List Value} {acc : List (List I4)} (h : HG w0 w m v rows acc) (hg : w.grownBy w' u.ownBlock) (hu : ∀ g, u.ownBlock = some g → w0.heap.size + 3 ≤ g) (ho : OP w' (w0.heap.size + 3) v rows acc) : HG w0 w' m v rows acc := by
  obtain ⟨a, b, c, d, h2⟩ := h.r2
  have hlt := h.lt
  have hne : ∀ k, k < w0.heap.size + 3 → some k ≠ u.ownBlock := fun k hk e => by have := hu k e.symm; omega
  exact ⟨(hg.block _ (by omega) (hne _ (by omega))).trans h.r0, (hg.block _ (by omega) (hne _ (by omega))).trans h.r1, ⟨a, b, c, d, (hg.block _ (by omega) (hne _ (by omega))).trans h2⟩, ho, h.bel.grown hg (by omega) (fun k e => by have := hu k e; omega)⟩
theorem NB.app {w : World} {B : Nat} {v u u' : Value} {rows : List Value} {acc : List (List I4)} (h : NB rows u) (ho : OP w B v rows acc) (hor : u'.ownBlock = u.ownBlock ∨ u'.ownBlock = some w.heap.size) : NB rows u' := by
  intro i x hx g hg e
  rcases hor with h1 | h1
  · exact h i x hx g hg (h1 ▸ e)
  · have h2 := ((row_block ho hx).lt g hg).2
    rw [h1] at e
    simp at e
    omega
theorem HG.app {w0 w w' : World} {m : Int} {v v' : Value} {rows rows' : List Value} {acc acc' : List (List I4)} (h : HG w0 w m v rows acc) (hg : w.grownBy w' v.ownBlock) (ho : OP w' (w0.heap.size + 3) v' rows' acc') : HG w0 (w'.setCell ⟨w0.heap.size + 1, 1, none⟩ v') m v' rows' acc' ∧ w'.heap[w0.heap.size + 1]? = some (.cells #[.int .i64 m, v] 24 (0, 0)) := by
  obtain ⟨a, b, c, d, h2⟩ := h.r2
  have hlt := h.lt
  have hu := own_ltP h.own.1
  have hne : ∀ k, k < w0.heap.size + 3 → some k ≠ v.ownBlock := fun k hk e => by have := hu k e.symm; omega
  have r1 := (hg.block _ (by omega) (hne (w0.heap.size + 1) (by omega))).trans h.r1
  exact ⟨⟨(set_oth _ _ _ _ _ (by omega)).trans ((hg.block _ (by omega) (hne _ (by omega))).trans h.r0), set_blk _ _ _ _ r1, ⟨a, b, c, d, (set_oth _ _ _ _ _ (by omega)).trans ((hg.block _ (by omega) (hne _ (by omega))).trans h2)⟩, ho.keep (fun k hk => set_oth _ _ _ _ _ (by omega)), (h.bel.grown hg (by omega) (fun k e => by have := hu k e; omega)).setCell (p := ⟨w0.heap.size + 1, 1, none⟩) (by show w0.heap.size ≤ w0.heap.size + 1; omega) _⟩, r1⟩
theorem HG.fld {w0 w : World} {m : Int} {v v' : Value} {rows rows' : List Value} {acc acc' : List (List I4)} (h : HG w0 w m v rows acc) (ho : OP w (w0.heap.size + 3) v' rows' acc') : HG w0 (w.setCell ⟨w0.heap.size + 1, 1, none⟩ v') m v' rows' acc' := by
  obtain ⟨a, b, c, d, h2⟩ := h.r2
  exact ⟨(set_oth _ _ _ _ _ (by omega)).trans h.r0, set_blk _ _ _ _ h.r1, ⟨a, b, c, d, (set_oth _ _ _ _ _ (by omega)).trans h2⟩, ho.keep (fun k hk => set_oth _ _ _ _ _ (by omega)), h.bel.setCell (p := ⟨w0.heap.size + 1, 1, none⟩) (by show w0.heap.size ≤ w0.heap.size + 1; omega) _⟩
theorem st4_oth (w : World) (g k : Nat) (a b c d : Value) (h : k ≠ g) : (st4 w g a b c d).heap[k]? = w.heap[k]? := (set_oth _ _ _ _ _ h).trans ((set_oth _ _ _ _ _ h).trans ((set_oth _ _ _ _ _ h).trans (set_oth _ _ _ _ _ h)))
theorem HG.ins {w0 w : World} {m : Int} {v : Value} {rows : List Value} {acc : List (List I4)} (h : HG w0 w m v rows acc) (a b c d : Int) : HG w0 (st4 w (w0.heap.size + 2) (.int .i64 a) (.int .i64 b) (.int .i64 c) (.int .i64 d)) m v rows acc := by
  obtain ⟨a', b', c', d', h2⟩ := h.r2
  exact ⟨(st4_oth _ _ _ _ _ _ _ (by omega)).trans h.r0, (st4_oth _ _ _ _ _ _ _ (by omega)).trans h.r1, ⟨a, b, c, d, st4_blk h2⟩, h.own.keep (fun k hk => st4_oth _ _ _ _ _ _ _ (by omega)), st4_below h.bel (by omega) _ _ _ _⟩
end Go.Proofs.Ythllikmnlnakkaa.pr
