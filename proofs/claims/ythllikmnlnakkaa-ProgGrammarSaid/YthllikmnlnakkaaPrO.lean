/- A program in memory of its own (layer 4). -/
import Derived.Test.YthllikmnlnakkaaPrN
namespace Go.Proofs.Ythllikmnlnakkaa.pr
open Go.ChangeShapes Go.WideShapes Go.ChangeAt Go.RowKit
open Go.Proofs.Ythllikmnlnakkaa.bin Go.Proofs.Ythllikmnlnakkaa.bits Go.Proofs.Ythllikmnlnakkaa.ins
set_option linter.unusedVariables false
set_option linter.unusedSimpArgs false
section
variable {α : Type} {k : Nat} {en : α → List Value}
/-- 'append([]T{}, x...)' as a run. -/
theorem run_copyR {w : World} (t ty e : TypeId) (z : Value) (bytes : Nat) (ht : Try.prog.underlying t = some (.slice e)) (hinfo : (Try.prog.info? e).map (fun i => (i.zero, i.size, i.bytes)) = some (some z, k, bytes)) (hzs : z.cells.size = k) (hby : bytes ≤ 1000) (hr : Rec k en)
    (g B : Nat) (hown : w.heap[g]? = some (.cells #[] e (0, 0))) (hB : B ≤ g)
    (xs : List α) (x : Value) (hx : RV k en w x xs) (hsm : xs.length ≤ 1000000) :
    ∃ v' w', (Builtin.append_ #[t, t] ty #[.slice (some ⟨g, 0, none⟩) 0 0, x]).run Try.prog w = .ok v' w' ∧ OR k en w' B e v' xs ∧ Below B w w' := by
  obtain ⟨i0, hi, hz0, hz1, hz2⟩ := info_parts hinfo
  have hrow : w.ownsRow g e k (.slice (some ⟨g, 0, none⟩) 0 0) 0 [] := ⟨by simp, .inr ⟨g, 0, #[], rfl, Nat.le_refl _, hown, Nat.le_refl _, by simp, by simp, by simp⟩⟩
  have hgl : g < w.heap.size := (Array.getElem?_eq_some_iff.1 hown).1
  have hb1 : (0 + xs.length) * bytes ≤ 140737488355328 := by
    have := Nat.mul_le_mul (show 0 + xs.length ≤ 1000000 by omega) hby
    omega
  obtain ⟨ad, cap, hv, hle, hm, hnil, hc⟩ := hx
  subst hv
  have mono : ∀ {v : Value} {w' : World} {l : List Value} {n : Nat}, w'.ownsRow g e k v n l → w'.ownsRow B e k v n l := by
    intro v w' l n h
    obtain ⟨h1, h2 | ⟨g', cap', cur', h2, h3, h4⟩⟩ := h
    · exact ⟨h1, .inl h2⟩
    · exact ⟨h1, .inr ⟨g', cap', cur', h2, by omega, h4⟩⟩
  by_cases h0 : ad = none
  · subst h0
    obtain rfl : cap = 0 := hnil rfl
    obtain rfl : xs = [] := List.eq_nil_of_length_eq_zero (by omega)
    refine ⟨_, w, run_append_owned_none (P := Try.prog) (w := w) g t ty e i0 k ht hi _ 0 [] hrow, mono (by simpa [flat] using hrow), Below.refl _ _⟩
  · obtain ⟨ad, rfl⟩ := Option.ne_none_iff_exists'.1 h0
    have hnews : ∀ j u, (flat en xs)[j]? = some u → w.cell? (ad.add j) = some u := by
      intro j u hj
      obtain ⟨i, p, j', hip, rfl, hu⟩ := flat_inv hr xs j u hj
      obtain ⟨b', o', e', _, c0⟩ := hc i p hip
      simp only [Option.some.injEq] at e'
      subst e'
      rw [Go.WideShapes.add_plain]
      exact c0 j' u hu
    obtain ⟨v', w', r1, r2, r3, r4⟩ := run_append_own (P := Try.prog) w g t ty e i0 z k bytes ht hi hz0 hz1 hz2 hzs hr.1 _ 0 [] hrow ad xs.length cap (flat en xs) (flat_len hr xs) hnews (flat_one hr xs) (by unfold maxLen; omega) hb1 (by omega)
    have r2' : w'.ownsRow g e k v' xs.length (flat en xs) := by simpa using r2
    refine ⟨v', w', r1, mono r2', (Below.refl _ _).grown r3 (by omega) (by intro k hk; simp [Value.ownBlock] at hk; omega)⟩
theorem step_copyR {ops : Array Oper} {o : Oper} {a : Act} {w : World} {K : Act → World → Prop} {Q : Exit → Act → World → Prop} {E : Prop} (hgd : o.guard = none) (s x : Operand) (t e : TypeId) (z : Value) (bytes : Nat)
    (ho : o.op = .call { callee := .builtin .append, args := #[s, x], argTypes := #[t, t] }) (ht : Try.prog.underlying t = some (.slice e)) (hinfo : (Try.prog.info? e).map (fun i => (i.zero, i.size, i.bytes)) = some (some z, k, bytes)) (hzs : z.cells.size = k) (hby : bytes ≤ 1000) (hr : Rec k en)
    (g B : Nat) (xs : List α) (v : Value) (hs : a.eval s = .slice (some ⟨g, 0, none⟩) 0 0) (hown : w.heap[g]? = some (.cells #[] e (0, 0))) (hB : B ≤ g) (hx : a.eval x = v) (hv : RV k en w v xs) (hsm : xs.length ≤ 1000000)
    (h : ∀ v' w', Hid (OR k en w' B e v' xs) → Below B w w' → K (a.put o.dst v') w') :
    if Region.wanted o (yielded ops a.tmps) = true then Oper.wp Try.prog o a w K Q else E := by
  have hw : Region.wanted o (yielded ops a.tmps) = true := by simp [Region.wanted, hgd]
  rw [if_pos hw]
  obtain ⟨v', w', r1, r2, r3⟩ := run_copyR (w := w) t o.type e z bytes ht hinfo hzs hby hr g B hown hB xs v hv hsm
  unfold Oper.wp execOp
  simp only [ho, resolve, invoke, builtin, Sem.run_bind, Sem.run_pure, Result.andThen_ok, List.map_toArray, List.map_cons, List.map_nil, hs, hx, r1]
  exact h v' w' (Lib.hid r2) r3
end
theorem step_appP {ops : Array Oper} {o : Oper} {a : Act} {w : World} {K : Act → World → Prop} {Q : Exit → Act → World → Prop} {E : Prop} (hgd : o.guard = none) (s x : Operand)
    (ho : o.op = .call { callee := .builtin .append, args := #[s, x], argTypes := #[22, 22] })
    (B : Nat) (v : Value) (rows : List Value) (L : List (List I4)) (ad : Addr) (c : Nat) (u : Value) (xs : List I4) (hs : a.eval s = v) (hx : a.eval x = .slice (some ad) 1 c) (hown : OP w B v rows L) (hu : w.cell? ad = some u) (hux : OR 4 enI w B 40 u xs) (hpl : ad.add 0 = ad) (hsm : L.length ≤ 100000) (hB : B ≤ w.heap.size)
    (h : ∀ v' w', OP w' B v' (rows ++ [u]) (L ++ [xs]) → w.grownBy w' v.ownBlock → K (a.put o.dst v') w') :
    if Region.wanted o (yielded ops a.tmps) = true then Oper.wp Try.prog o a w K Q else E := by
  have hw : Region.wanted o (yielded ops a.tmps) = true := by simp [Region.wanted, hgd]
  rw [if_pos hw]
  obtain ⟨v', w', hr, h2, h3, h4⟩ := run_appP o.type B v rows L ad c u xs hown hu hux hpl hsm hB
  unfold Oper.wp execOp
  simp only [ho, resolve, invoke, builtin, Sem.run_bind, Sem.run_pure, Result.andThen_ok, List.map_toArray, List.map_cons, List.map_nil, hs, hx, hr]
  exact h v' w' h2 h3
theorem OR.mono {w : World} {B B' e : Nat} {u : Value} {xs : List I4} (h : OR 4 enI w B e u xs) (hb : B' ≤ B) : OR 4 enI w B' e u xs := by
  obtain ⟨h1, h2 | ⟨g', cap', cur', h2, h3, h4⟩⟩ := h
  · exact ⟨h1, .inl h2⟩
  · exact ⟨h1, .inr ⟨g', cap', cur', h2, by omega, h4⟩⟩
structure HO (w0 w : World) (m : Int) (pv v : Value) (rows : List Value) (acc : List (List I4)) : Prop where
  r0 : w.heap[w0.heap.size]? = some (.cells #[.int .i64 m, pv] 24 (0, 0))
  r1 : w.heap[w0.heap.size + 1]? = some (.cells #[.int .i64 0, .slice none 0 0] 24 (0, 0))
  r2 : w.heap[w0.heap.size + 2]? = some (.cells #[.int .i64 m, v] 24 (0, 0))
  own : OP w (w0.heap.size + 3) v rows acc
  bel : Below w0.heap.size w0 w
theorem HO.lt {w0 w : World} {m : Int} {pv v : Value} {rows : List Value} {acc : List (List I4)} (h : HO w0 w m pv v rows acc) : w0.heap.size + 3 ≤ w.heap.size := (Array.getElem?_eq_some_iff.1 h.r2).1
theorem HO.below {w0 w w' : World} {m : Int} {pv v : Value} {rows : List Value} {acc : List (List I4)} (h : HO w0 w m pv v rows acc) (hb : Below w.heap.size w w') : HO w0 w' m pv v rows acc := ⟨kb h.r0 hb, kb h.r1 hb, kb h.r2 hb, h.own.below hb, tr3 h.bel hb⟩
theorem HO.app {w0 w w' : World} {m : Int} {pv v v' : Value} {rows rows' : List Value} {acc acc' : List (List I4)} (h : HO w0 w m pv v rows acc) (hg : w.grownBy w' v.ownBlock) (ho : OP w' (w0.heap.size + 3) v' rows' acc') : HO w0 (w'.setCell ⟨w0.heap.size + 2, 1, none⟩ v') m pv v' rows' acc' ∧ w'.heap[w0.heap.size]? = some (.cells #[.int .i64 m, pv] 24 (0, 0)) ∧ w'.heap[w0.heap.size + 2]? = some (.cells #[.int .i64 m, v] 24 (0, 0)) ∧ Below w0.heap.size w0 w' := by
  have hlt := h.lt
  have hu := own_ltP h.own.1
  have hne : ∀ k, k < w0.heap.size + 3 → some k ≠ v.ownBlock := fun k hk e => by have := hu k e.symm; omega
  have r0 := (hg.block _ (by omega) (hne (w0.heap.size) (by omega))).trans h.r0
  have r2 := (hg.block _ (by omega) (hne (w0.heap.size + 2) (by omega))).trans h.r2
  have hb := h.bel.grown hg (by omega) (fun k e => by have := hu k e; omega)
  exact ⟨⟨(set_oth _ _ _ _ _ (by omega)).trans r0, (set_oth _ _ _ _ _ (by omega)).trans ((hg.block _ (by omega) (hne _ (by omega))).trans h.r1), set_blk _ _ _ _ r2, ho.keep (fun k hk => set_oth _ _ _ _ _ (by omega)), hb.setCell (p := ⟨w0.heap.size + 2, 1, none⟩) (by show w0.heap.size ≤ w0.heap.size + 2; omega) _⟩, r0, r2, hb⟩
theorem HO.init (w : World) (m : Int) (pv : Value) : HO w (((w.alloc (.cells #[.int .i64 m, pv] 24)).alloc (.cells #[.int .i64 0, .slice none 0 0] 24)).alloc (.cells #[.int .i64 m, .slice none 0 0] 24)) m pv (.slice none 0 0) [] [] := by
  have r0 := heap_new w #[.int .i64 m, pv] 24
  have r1 := heap_new (w.alloc (.cells #[.int .i64 m, pv] 24)) #[.int .i64 0, .slice none 0 0] 24
  have r2 := heap_new ((w.alloc (.cells #[.int .i64 m, pv] 24)).alloc (.cells #[.int .i64 0, .slice none 0 0] 24)) #[.int .i64 m, .slice none 0 0] 24
  refine ⟨kb r0 (by go_grown), ?_, ?_, OP.nil _ _, by go_grown⟩
  · have := kb r1 (W' := ((w.alloc (.cells #[.int .i64 m, pv] 24)).alloc (.cells #[.int .i64 0, .slice none 0 0] 24)).alloc (.cells #[.int .i64 m, .slice none 0 0] 24)) (by go_grown)
    simpa using this
  · simpa using r2
end Go.Proofs.Ythllikmnlnakkaa.pr
