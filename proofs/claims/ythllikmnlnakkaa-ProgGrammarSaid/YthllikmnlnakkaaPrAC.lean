/- The program that bytes are, as the document reads it: what holds between two steps (layer 4). -/
import Derived.Test.YthllikmnlnakkaaPrW
import Derived.Test.YthllikmnlnakkaaPrL
import Derived.Test.YthllikmnlnakkaaInG
namespace Go.Proofs.Ythllikmnlnakkaa.pr
open Go.ChangeShapes Go.WideShapes Go.ChangeAt Go.RowKit
open Go.Proofs.Ythllikmnlnakkaa.bin Go.Proofs.Ythllikmnlnakkaa.bits Go.Proofs.Ythllikmnlnakkaa.ins
set_option linter.unusedVariables false
set_option linter.unusedSimpArgs false
structure HR (w0 w : World) (m : Int) (v : Value) (rows : List Value) (acc : List (List I4)) : Prop where
  r0 : w.heap[w0.heap.size]? = some (.cells #[.int .i64 0, .slice none 0 0] 24 (0, 0))
  r1 : w.heap[w0.heap.size + 1]? = some (.cells #[.int .i64 0, .slice none 0 0] 24 (0, 0))
  r2 : w.heap[w0.heap.size + 2]? = some (.cells #[.int .i64 m, v] 24 (0, 0))
  own : OP w (w0.heap.size + 3) v rows acc
  bel : Below w0.heap.size w0 w
theorem HR.lt {w0 w : World} {m : Int} {v : Value} {rows : List Value} {acc : List (List I4)} (h : HR w0 w m v rows acc) : w0.heap.size + 2 < w.heap.size := (Array.getElem?_eq_some_iff.1 h.r2).1
theorem HR.below {w0 w w' : World} {m : Int} {v : Value} {rows : List Value} {acc : List (List I4)} (h : HR w0 w m v rows acc) (hb : Below w.heap.size w w') : HR w0 w' m v rows acc :=
  ⟨kb h.r0 hb, kb h.r1 hb, kb h.r2 hb, h.own.below hb, tr3 h.bel hb⟩
theorem HR.grown {w0 w w' : World} {m : Int} {v u : Value} {rows : List Value} {acc : List (List I4)} (h : HR w0 w m v rows acc) (hg : w.grownBy w' u.ownBlock) (hu : ∀ g, u.ownBlock = some g → w0.heap.size + 3 ≤ g) (ho : OP w' (w0.heap.size + 3) v rows acc) : HR w0 w' m v rows acc := by
  have hlt := h.lt
  have hne : ∀ k, k < w0.heap.size + 3 → some k ≠ u.ownBlock := fun k hk e => by have := hu k e.symm; omega
  exact ⟨(hg.block _ (by omega) (hne _ (by omega))).trans h.r0, (hg.block _ (by omega) (hne _ (by omega))).trans h.r1, (hg.block _ (by omega) (hne _ (by omega))).trans h.r2, ho, h.bel.grown hg (by omega) (fun k e => by have := hu k e; omega)⟩
theorem HR.app {w0 w w' : World} {m : Int} {v v' : Value} {rows rows' : List Value} {acc acc' : List (List I4)} (h : HR w0 w m v rows acc) (hg : w.grownBy w' v.ownBlock) (ho : OP w' (w0.heap.size + 3) v' rows' acc') : HR w0 (w'.setCell ⟨w0.heap.size + 2, 1, none⟩ v') m v' rows' acc' ∧ w'.heap[w0.heap.size + 2]? = some (.cells #[.int .i64 m, v] 24 (0, 0)) := by
  have hlt := h.lt
  have hu := own_ltP h.own.1
  have hne : ∀ k, k < w0.heap.size + 3 → some k ≠ v.ownBlock := fun k hk e => by have := hu k e.symm; omega
  have r2 := (hg.block _ (by omega) (hne (w0.heap.size + 2) (by omega))).trans h.r2
  exact ⟨⟨(set_oth _ _ _ _ _ (by omega)).trans ((hg.block _ (by omega) (hne _ (by omega))).trans h.r0), (set_oth _ _ _ _ _ (by omega)).trans ((hg.block _ (by omega) (hne _ (by omega))).trans h.r1), set_blk _ _ _ _ r2, ho.keep (fun k hk => set_oth _ _ _ _ _ (by omega)), (h.bel.grown hg (by omega) (fun k e => by have := hu k e; omega)).setCell (p := ⟨w0.heap.size + 2, 1, none⟩) (by show w0.heap.size ≤ w0.heap.size + 2; omega) _⟩, r2⟩
theorem HR.init {w W : World} (m : Int) (h0 : W.heap[w.heap.size]? = some (.cells #[.int .i64 0, .slice none 0 0] 24 (0, 0))) (h1 : W.heap[w.heap.size + 1]? = some (.cells #[.int .i64 0, .slice none 0 0] 24 (0, 0))) (hs : W.heap.size = w.heap.size + 2) (hb : Below w.heap.size w W) :
    HR w (W.alloc (.cells #[.int .i64 m, .slice none 0 0] 24)) m (.slice none 0 0) [] [] := by
  have r2 := heap_new W #[.int .i64 m, .slice none 0 0] 24
  rw [hs] at r2
  have hg : Below W.heap.size W (W.alloc (.cells #[.int .i64 m, .slice none 0 0] 24)) := by go_grown
  exact ⟨kb h0 hg, kb h1 hg, r2, OP.nil _ _, tr3 hb hg⟩
/-- the answer of a bad end. -/
theorem HR.bye {w0 w : World} {m : Int} {v : Value} {rows : List Value} {acc : List (List I4)} {A : Array Value} {a : Act} {res : R3} {e : Int} (h : HR w0 w m v rows acc) (hr : bad e = res) :
    PM (st2 w w0.heap.size (.int .i64 0) (.slice none 0 0)) (.slice none 0 0) res.2.2 ∧ res.2.1 = 0 ∧ res.1 = e ∧ Below w0.heap.size w0 (st2 w w0.heap.size (.int .i64 0) (.slice none 0 0)) := by
  subst hr
  exact ⟨PM.nil _, rfl, rfl, st2_below h.bel (Nat.le_refl _) _ _⟩
theorem gN_at (s : List UInt8) (h : 6 ≤ s.length) : gN s = (s.getD 3 0).toNat := by
  unfold gN
  have h1 : (s.drop 3).take 1 = [s.getD 3 0] := by
    rw [List.drop_eq_getElem_cons (by omega), List.getD_eq_getElem?_getD, List.getElem?_eq_getElem (by omega)]
    rfl
  rw [h1]
  have := ofB_one (s.getD 3 0)
  omega
theorem rof_v (l : List UInt8) (w : World) (n : Nat) (hl : l.length ≤ 4) (hn : ofB l = n) : Calls Try.prog 28 #[.string ⟨l.toArray⟩] w fun e w' => e = .returned (.int .i64 (n : Int)) ∧ w = w' := by
  have := of_v ⟨l.toArray⟩ w (by rw [str_size]; exact hl)
  rw [← hn]
  simpa using this
theorem rgi_v (l : List UInt8) (y0 y1 y2 y3 e : Int) (w : World) (hy : gI l = (y0, y1, y2, y3)) (he : getE l = e) : Calls Try.prog 30 #[.string ⟨l.toArray⟩] w fun e' w' => e' = .returned (.tuple #[.agg #[.int .i64 y0, .int .i64 y1, .int .i64 y2, .int .i64 y3], .int .i64 e]) ∧ Below w.heap.size w w' := by
  refine (rget_of l w).mono ?_
  rintro e' w' ⟨rfl, hb⟩
  refine ⟨?_, hb⟩
  unfold gI at hy
  simp only [Prod.mk.injEq] at hy
  obtain ⟨a0, a1, a2, a3⟩ := hy
  unfold GV
  rw [a0, a1, a2, a3, he]
end Go.Proofs.Ythllikmnlnakkaa.pr
