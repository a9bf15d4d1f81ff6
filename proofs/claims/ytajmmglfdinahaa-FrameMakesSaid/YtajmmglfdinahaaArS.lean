/- The numbers of an arena in memory: its object, which are taken, which were given back; how each store turns them (layer 10). -/
import Derived.Test.YtajmmglfdinahaaApp1
import Derived.Deep.OwnRows
import Derived.Laws.OwnMore
namespace Go.Proofs.Ytajmmglfdinahaa.ar
open Go.ChangeShapes Go.WideShapes Go.ChangeAt Go.RowKit
set_option linter.unusedVariables false
set_option linter.unusedSimpArgs false
theorem lt_heap {w : World} {B : Nat} {o : Obj} (h : w.heap[B]? = some o) : B < w.heap.size := (Array.getElem?_eq_some_iff.1 h).1
theorem set_heap (w : World) (B i k : Nat) (v : Value) (hk : k ≠ B) : (w.setCell ⟨B, i, none⟩ v).heap[k]? = w.heap[k]? := by
  show (w.heap.modify B _)[k]? = _
  rw [Array.getElem?_modify, if_neg (fun e => hk e.symm)]
theorem size_set (w : World) (B i : Nat) (v : Value) : (w.setCell ⟨B, i, none⟩ v).heap.size = w.heap.size := by
  show (w.heap.modify B _).size = _
  rw [Array.size_modify]
theorem set_obj {w : World} {B i t : Nat} {a : Array Value} (v : Value) (h : w.heap[B]? = some (.cells a t (0, 0))) : (w.setCell ⟨B, i, none⟩ v).heap[B]? = some (.cells (a.setIfInBounds i v) t (0, 0)) := by
  obtain ⟨hlt, hk⟩ := Array.getElem?_eq_some_iff.1 h
  show (w.heap.modify B _)[B]? = _
  rw [Array.getElem?_eq_getElem (by rw [Array.size_modify]; exact hlt), Array.getElem_modify_self, hk]
  simp
theorem row_keep {w w' : World} {base e sz : Nat} {v : Value} {n : Nat} {xs : List Value} (h : w.ownsRow base e sz v n xs) (hk : ∀ k, v.ownBlock = some k → w'.heap[k]? = w.heap[k]?) : w'.ownsRow base e sz v n xs := by
  obtain ⟨hl, h⟩ := h
  refine ⟨hl, ?_⟩
  rcases h with h | ⟨g, cap, cur, rfl, hg, hh, h1, h2, h3, h4⟩
  · exact .inl h
  · exact .inr ⟨g, cap, cur, rfl, hg, (hk g rfl).trans hh, h1, h2, h3, h4⟩
theorem row_form {w : World} {base e sz : Nat} {v : Value} {n : Nat} {xs : List Value} (h : w.ownsRow base e sz v n xs) : ∃ o cap, v = .slice o n cap := by
  obtain ⟨_, ⟨rfl, h0⟩ | ⟨g, cap, cur, rfl, _⟩⟩ := h
  · exact ⟨none, 0, by rw [h0]⟩
  · exact ⟨_, _, rfl⟩
theorem row_some {w : World} {base e sz : Nat} {v : Value} {n : Nat} {xs : List Value} (h : w.ownsRow base e sz v n xs) (hn : 0 < n) : ∃ g cap, v = .slice (some ⟨g, 0, none⟩) n cap ∧ n ≤ cap ∧ base ≤ g ∧ g < w.heap.size := by
  obtain ⟨_, ⟨rfl, h0⟩ | ⟨g, cap, cur, rfl, hg, hh, h1, _⟩⟩ := h
  · omega
  · exact ⟨g, cap, rfl, h1, hg, lt_heap hh⟩
theorem row_cut {w : World} {base e : Nat} {g n cap m : Nat} {xs : List Value} (h : w.ownsRow base e 1 (.slice (some ⟨g, 0, none⟩) n cap) n xs) (hm : m ≤ n) : w.ownsRow base e 1 (.slice (some ⟨g, 0, none⟩) m cap) m (xs.take m) := by
  obtain ⟨hl, h0 | ⟨g', cap', cur, he, hg, hh, h1, h2, h3, h4⟩⟩ := h
  · simp at h0
  · simp only [Value.slice.injEq, Option.some.injEq, Addr.mk.injEq] at he
    obtain ⟨⟨rfl, _, _⟩, _, rfl⟩ := he
    refine ⟨by simp; omega, .inr ⟨g, cap, cur, rfl, hg, hh, by omega, h2, h3, ?_⟩⟩
    rw [← h4, List.take_take]
    congr 1
    omega
theorem row_put {w : World} {base e : Nat} {g n cap j : Nat} {xs : List Value} (v : Value) (h : w.ownsRow base e 1 (.slice (some ⟨g, 0, none⟩) n cap) n xs) (hj : j < n) : (w.setCell ⟨g, j, none⟩ v).ownsRow base e 1 (.slice (some ⟨g, 0, none⟩) n cap) n (xs.set j v) := by
  obtain ⟨hl, h0 | ⟨g', cap', cur, he, hg, hh, h1, h2, h3, h4⟩⟩ := h
  · simp at h0
  · simp only [Value.slice.injEq, Option.some.injEq, Addr.mk.injEq] at he
    obtain ⟨⟨rfl, _, _⟩, _, rfl⟩ := he
    refine ⟨by simp; omega, .inr ⟨g, cap, cur.setIfInBounds j v, rfl, hg, set_obj v hh, h1, h2, by simpa using h3, ?_⟩⟩
    rw [← h4]
    simp [List.take_set]
theorem row_at {w : World} {base e : Nat} {g n cap j : Nat} {xs : List Value} {u : Value} (h : w.ownsRow base e 1 (.slice (some ⟨g, 0, none⟩) n cap) n xs) (hj : xs[j]? = some u) : w.cell? ⟨g, j, none⟩ = some u := by
  have hl := h.1
  have : j < xs.length := (List.getElem?_eq_some_iff.1 hj).1
  rw [h.cellAt j (by omega), hj]
theorem row_free {w : World} {base e : Nat} {g n cap : Nat} {xs : List Value} (h : w.ownsRow base e 1 (.slice (some ⟨g, 0, none⟩) n cap) n xs) (j : Nat) : w.frozen? ⟨g, j, none⟩ = false := h.frozenAt j

/-- In world w the arena's object lies in block A, and names the rows oh, ob; the row hv holds hs, the row bv holds bk; the blocks of S are others. -/
structure AS (S : Nat → Prop) (B A : Nat) (w : World) (m f p : Int) (oh ob hv bv : Value) (hs : List Bool) (bk : List Int) : Prop where
  obj : w.heap[A]? = some (.cells #[.int .i64 m, .int .i64 f, oh, ob, .int .i64 p] 91 (0, 0))
  rh : w.ownsRow B 4 1 hv hs.length (hs.map Value.bool)
  rb : w.ownsRow B 3 1 bv bk.length (bk.map (Value.int .i64))
  h1 : hv.ownBlock ≠ some A
  h2 : bv.ownBlock ≠ some A
  h3 : ∀ k, hv.ownBlock = some k → bv.ownBlock ≠ some k
  base : B ≤ A
  sa : ∀ k, S k → k < w.heap.size ∧ k ≠ A ∧ hv.ownBlock ≠ some k ∧ bv.ownBlock ≠ some k
def Same (S : Nat → Prop) (w w' : World) : Prop := ∀ k, S k → w'.heap[k]? = w.heap[k]?
theorem Same.refl (S : Nat → Prop) (w : World) : Same S w w := fun _ _ => rfl
theorem Same.trans {S : Nat → Prop} {w w1 w2 : World} (h : Same S w w1) (h' : Same S w1 w2) : Same S w w2 := fun k hk => (h' k hk).trans (h k hk)
section
variable {S : Nat → Prop} {B A : Nat} {w w' : World} {m f p : Int} {oh ob hv bv : Value} {hs : List Bool} {bk : List Int}
theorem AS.lt (h : AS S B A w m f p oh ob hv bv hs bk) : A < w.heap.size := lt_heap h.obj
theorem AS.below (h : AS S B A w m f p oh ob hv bv hs bk) (hb : Below w.heap.size w w') : AS S B A w' m f p oh ob hv bv hs bk :=
  ⟨(hb.block A h.lt).trans h.obj, row_keep h.rh fun k hk => hb.block k (h.rh.lt k hk).2, row_keep h.rb fun k hk => hb.block k (h.rb.lt k hk).2, h.h1, h.h2, h.h3, h.base, fun k hk => ⟨Nat.lt_of_lt_of_le (h.sa k hk).1 hb.size, (h.sa k hk).2⟩⟩
theorem AS.same (h : AS S B A w m f p oh ob hv bv hs bk) (hb : Below w.heap.size w w') : Same S w w' := fun k hk => hb.block k (h.sa k hk).1
theorem AS.cells (h : AS S B A w m f p oh ob hv bv hs bk) : w.cell? ⟨A, 0, none⟩ = some (.int .i64 m) ∧ w.cell? ⟨A, 1, none⟩ = some (.int .i64 f) ∧ w.cell? ⟨A, 2, none⟩ = some oh ∧ w.cell? ⟨A, 3, none⟩ = some ob ∧ w.cell? ⟨A, 4, none⟩ = some (.int .i64 p) ∧ ∀ i, w.frozen? ⟨A, i, none⟩ = false := by
  have e := h.obj
  refine ⟨?_, ?_, ?_, ?_, ?_, fun i => by simp [World.frozen?, e]⟩ <;> simp [World.cell?, e]
theorem AS.setA (i : Nat) (v : Value) (m' f' p' : Int) (oh' ob' : Value) (h : AS S B A w m f p oh ob hv bv hs bk) (he : #[Value.int .i64 m, .int .i64 f, oh, ob, .int .i64 p].setIfInBounds i v = #[.int .i64 m', .int .i64 f', oh', ob', .int .i64 p']) : AS S B A (w.setCell ⟨A, i, none⟩ v) m' f' p' oh' ob' hv bv hs bk :=
  ⟨by rw [set_obj v h.obj, he], row_keep h.rh fun k hk => set_heap w A i k v (fun e => h.h1 (e ▸ hk)), row_keep h.rb fun k hk => set_heap w A i k v (fun e => h.h2 (e ▸ hk)), h.h1, h.h2, h.h3, h.base, fun k hk => ⟨by rw [size_set]; exact (h.sa k hk).1, (h.sa k hk).2⟩⟩
theorem AS.sameA (i : Nat) (v : Value) (h : AS S B A w m f p oh ob hv bv hs bk) : Same S w (w.setCell ⟨A, i, none⟩ v) := fun k hk => set_heap w A i k v (h.sa k hk).2.1
theorem AS.set1 (f' : Int) (h : AS S B A w m f p oh ob hv bv hs bk) : AS S B A (w.setCell ⟨A, 1, none⟩ (.int .i64 f')) m f' p oh ob hv bv hs bk := h.setA 1 _ m f' p oh ob rfl
theorem AS.set2 (v : Value) (h : AS S B A w m f p oh ob hv bv hs bk) : AS S B A (w.setCell ⟨A, 2, none⟩ v) m f p v ob hv bv hs bk := h.setA 2 _ m f p v ob rfl
theorem AS.set3 (v : Value) (h : AS S B A w m f p oh ob hv bv hs bk) : AS S B A (w.setCell ⟨A, 3, none⟩ v) m f p oh v hv bv hs bk := h.setA 3 _ m f p oh v rfl
theorem AS.set4 (p' : Int) (h : AS S B A w m f p oh ob hv bv hs bk) : AS S B A (w.setCell ⟨A, 4, none⟩ (.int .i64 p')) m f p' oh ob hv bv hs bk := h.setA 4 _ m f p' oh ob rfl
theorem AS.putH {g cap j : Nat} (b : Bool) (h : AS S B A w m f p oh ob (.slice (some ⟨g, 0, none⟩) hs.length cap) bv hs bk) (hj : j < hs.length) :
    AS S B A (w.setCell ⟨g, j, none⟩ (.bool b)) m f p oh ob (.slice (some ⟨g, 0, none⟩) hs.length cap) bv (hs.set j b) bk ∧ Same S w (w.setCell ⟨g, j, none⟩ (.bool b)) := by
  have hA : A ≠ g := fun e => h.h1 (by simp [Value.ownBlock, e])
  refine ⟨⟨by rw [set_heap w g j A _ hA]; exact h.obj, ?_, row_keep h.rb fun k hk => set_heap w g j k _ (fun e => h.h3 g (by simp [Value.ownBlock]) (e ▸ hk)), h.h1, h.h2, h.h3, h.base, fun k hk => ⟨by rw [size_set]; exact (h.sa k hk).1, (h.sa k hk).2⟩⟩, fun k hk => set_heap w g j k _ (fun e => (h.sa k hk).2.2.1 (by simp [Value.ownBlock, e]))⟩
  have := row_put (.bool b) h.rh hj
  rw [List.length_set, List.map_set]
  exact this
theorem AS.grownH {hv' : Value} {hs' : List Bool} (h : AS S B A w m f p oh ob hv bv hs bk) (hr : w'.ownsRow B 4 1 hv' hs'.length (hs'.map Value.bool)) (hg : w.grownBy w' hv.ownBlock) (ho : hv'.ownBlock = hv.ownBlock ∨ hv'.ownBlock = some w.heap.size) : AS S B A w' m f p oh ob hv' bv hs' bk ∧ Same S w w' := by
  have kA : w'.heap[A]? = w.heap[A]? := hg.block A h.lt (fun e => h.h1 e.symm)
  have kS : Same S w w' := fun k hk => hg.block k (h.sa k hk).1 (fun e => (h.sa k hk).2.2.1 e.symm)
  have kb : ∀ k, bv.ownBlock = some k → w'.heap[k]? = w.heap[k]? := fun k hk => hg.block k (h.rb.lt k hk).2 (fun e => h.h3 k e.symm hk)
  refine ⟨⟨kA.trans h.obj, hr, row_keep h.rb kb, ?_, h.h2, ?_, h.base, fun k hk => ⟨Nat.lt_of_lt_of_le (h.sa k hk).1 hg.size, (h.sa k hk).2.1, ?_, (h.sa k hk).2.2.2⟩⟩, kS⟩
  · intro e
    rcases ho with ho | ho
    · exact h.h1 (ho ▸ e)
    · rw [ho] at e; have := h.lt; simp at e; omega
  · intro k hk hb
    rcases ho with ho | ho
    · exact h.h3 k (ho ▸ hk) hb
    · rw [ho] at hk; have := (h.rb.lt k hb).2; simp at hk; omega
  · intro e
    rcases ho with ho | ho
    · exact (h.sa k hk).2.2.1 (ho ▸ e)
    · rw [ho] at e; have := (h.sa k hk).1; simp at e; omega
theorem AS.grownB {bv' : Value} {bk' : List Int} (h : AS S B A w m f p oh ob hv bv hs bk) (hr : w'.ownsRow B 3 1 bv' bk'.length (bk'.map (Value.int .i64))) (hg : w.grownBy w' bv.ownBlock) (ho : bv'.ownBlock = bv.ownBlock ∨ bv'.ownBlock = some w.heap.size) : AS S B A w' m f p oh ob hv bv' hs bk' ∧ Same S w w' := by
  have kA : w'.heap[A]? = w.heap[A]? := hg.block A h.lt (fun e => h.h2 e.symm)
  have kS : Same S w w' := fun k hk => hg.block k (h.sa k hk).1 (fun e => (h.sa k hk).2.2.2 e.symm)
  have kh : ∀ k, hv.ownBlock = some k → w'.heap[k]? = w.heap[k]? := fun k hk => hg.block k (h.rh.lt k hk).2 (fun e => h.h3 k hk e.symm)
  refine ⟨⟨kA.trans h.obj, row_keep h.rh kh, hr, h.h1, ?_, ?_, h.base, fun k hk => ⟨Nat.lt_of_lt_of_le (h.sa k hk).1 hg.size, (h.sa k hk).2.1, (h.sa k hk).2.2.1, ?_⟩⟩, kS⟩
  · intro e
    rcases ho with ho | ho
    · exact h.h2 (ho ▸ e)
    · rw [ho] at e; have := h.lt; simp at e; omega
  · intro k hk hb
    rcases ho with ho | ho
    · exact h.h3 k hk (ho ▸ hb)
    · rw [ho] at hb; have := (h.rh.lt k hk).2; simp at hb; omega
  · intro e
    rcases ho with ho | ho
    · exact (h.sa k hk).2.2.2 (ho ▸ e)
    · rw [ho] at e; have := (h.sa k hk).1; simp at e; omega
theorem AS.cutB {g cap : Nat} (l : List Int) (x : Int) (h : AS S B A w m f p oh ob hv (.slice (some ⟨g, 0, none⟩) bk.length cap) hs bk) (e : bk = l ++ [x]) : AS S B A w m f p oh ob hv (.slice (some ⟨g, 0, none⟩) l.length cap) hs l := by
  have hr := row_cut (m := l.length) h.rb (by rw [e]; simp)
  refine ⟨h.obj, h.rh, ?_, h.h1, h.h2, h.h3, h.base, h.sa⟩
  have : (bk.map (Value.int .i64)).take l.length = l.map (Value.int .i64) := by rw [e, List.map_append, show l.length = (l.map (Value.int .i64)).length by simp]; exact List.take_left
  rw [← this]
  exact hr
end
end Go.Proofs.Ytajmmglfdinahaa.ar
