/- The numbers of an arena in memory: its object, which are taken, which were given back; how each store turns them (layer 10). -/
import Derived.Test.YtbmndjedgedbdaaApp1
import Derived.Deep.OwnRows
import Derived.Laws.OwnMore
import Derived.Outline
import Derived.RangeFuncNested
import Derived.RangeFuncBound
import Derived.RangeFuncCalls
import Derived.RangeFuncLeaves
import Derived.RangeFuncFrom
import Derived.RangeFuncBox
import Derived.Shelf.Abstract
import Derived.Shelf.RegionOpen
import Derived.WalkKit
import Derived.OwnWalkIn
import Derived.TacticsInMore
import Derived.LoopNIn
import Derived.LoopIn
import Derived.Deep.RegionHeld3
import Derived.Deep.DrawnRows
namespace Go.Proofs.Ytbmndjedgedbdaa.ar
open Go.ChangeShapes Go.WideShapes Go.ChangeAt Go.RowKit
set_option linter.unusedVariables false
set_option linter.unusedSimpArgs false
theorem lt_heap {w : World} {B : Nat} {o : Obj} (h : w.heap[B]? = some o) : B < w.heap.size := (Array.getElem?_eq_some_iff.1 h).1
theorem set_heap (w : World) (B i k : Nat) (v : Value) (hk : k ≠ B) : (w.setCell ⟨B, i, none⟩ v).heap[k]? = w.heap[k]? := by
  show (w.heap.modify B _)[k]? = _
  rw [Array.getElem?_modify, if_neg (fun e => hk e.symm)]
theorem size_set (w : World) (B i : Nat) (v : Value) : (w.setCell ⟨B, i, none⟩ v).heap.size = w.heap.size := by
  show (w.heap.modify B _).size = _
  rw [Array.size_modify]
theorem set_obj {w : World} {B i t : Nat} {a : Array Value} (v : Value) (h : w.heap[B]? = some (.cells a t (0, 0))) : (w.setCell ⟨B, i, none⟩ v).heap[B]? = some (.cells (a.setIfInBounds i v) t (0, 0)) := by
  obtain ⟨hlt, hk⟩ := Array.getElem?_eq_some_iff.1 h
  show (w.heap.modify B _)[B]? = _
  rw [Array.getElem?_eq_getElem (by rw [Array.size_modify]; exact hlt), Array.getElem_modify_self, hk]
  simp
theorem row_keep {w w' : World} {base e sz : Nat} {v : Value} {n : Nat} {xs : List Value} (h : w.ownsRow base e sz v n xs) (hk : ∀ k, v.ownBlock = some k → w'.heap[k]? = w.heap[k]?) : w'.ownsRow base e sz v n xs := by
  obtain ⟨hl, h⟩ := h
  refine ⟨hl, ?_⟩
  rcases h with h | ⟨g, cap, cur, rfl, hg, hh, h1, h2, h3, h4⟩
  · exact .inl h
  · exact .inr ⟨g, cap, cur, rfl, hg, (hk g rfl).trans hh, h1, h2, h3, h4⟩
theorem row_form {w : World} {base e sz : Nat} {v : Value} {n : Nat} {xs : List Value} (h : w.ownsRow base e sz v n xs) : ∃ o cap, v = .slice o n cap := by
  obtain ⟨_, ⟨rfl, h0⟩ | ⟨g, cap, cur, rfl, _⟩⟩ := h
  · exact ⟨none, 0, by rw [h0]⟩
  · exact ⟨_, _, rfl⟩
theorem row_some {w : World} {base e sz : Nat} {v : Value} {n : Nat} {xs : List Value} (h : w.ownsRow base e sz v n xs) (hn : 0 < n) : ∃ g cap, v = .slice (some ⟨g, 0, none⟩) n cap ∧ n ≤ cap ∧ base ≤ g ∧ g < w.heap.size := by
  obtain ⟨_, ⟨rfl, h0⟩ | ⟨g, cap, cur, rfl, hg, hh, h1, _⟩⟩ := h
  · omega
  · exact ⟨g, cap, rfl, h1, hg, lt_heap hh⟩
theorem row_cut {w : World} {base e : Nat} {g n cap m : Nat} {xs : List Value} (h : w.ownsRow base e 1 (.slice (some ⟨g, 0, none⟩) n cap) n xs) (hm : m ≤ n) : w.ownsRow base e 1 (.slice (some ⟨g, 0, none⟩) m cap) m (xs.take m) := by
  obtain ⟨hl, h0 | ⟨g', cap', cur, he, hg, hh, h1, h2, h3, h4⟩⟩ := h
  · simp at h0
  · simp only [Value.slice.injEq, Option.some.injEq, Addr.mk.injEq] at he
    obtain ⟨⟨rfl, _, _⟩, _, rfl⟩ := he
    refine ⟨by simp; omega, .inr ⟨g, cap, cur, rfl, hg, hh, by omega, h2, h3, ?_⟩⟩
    rw [← h4, List.take_take]
    congr 1
    omega
theorem row_put {w : World} {base e : Nat} {g n cap j : Nat} {xs : List Value} (v : Value) (h : w.ownsRow base e 1 (.slice (some ⟨g, 0, none⟩) n cap) n xs) (hj : j < n) : (w.setCell ⟨g, j, none⟩ v).ownsRow base e 1 (.slice (some ⟨g, 0, none⟩) n cap) n (xs.set j v) := by
  obtain ⟨hl, h0 | ⟨g', cap', cur, he, hg, hh, h1, h2, h3, h4⟩⟩ := h
  · simp at h0
  · simp only [Value.slice.injEq, Option.some.injEq, Addr.mk.injEq] at he
    obtain ⟨⟨rfl, _, _⟩, _, rfl⟩ := he
    refine ⟨by simp; omega, .inr ⟨g, cap, cur.setIfInBounds j v, rfl, hg, set_obj v hh, h1, h2, by simpa using h3, ?_⟩⟩
    rw [← h4]
    simp [List.take_set]
theorem row_at {w : World} {base e : Nat} {g n cap j : Nat} {xs : List Value} {u : Value} (h : w.ownsRow base e 1 (.slice (some ⟨g, 0, none⟩) n cap) n xs) (hj : xs[j]? = some u) : w.cell? ⟨g, j, none⟩ = some u := by
  have hl := h.1
  have : j < xs.length := (List.getElem?_eq_some_iff.1 hj).1
  rw [h.cellAt j (by omega), hj]
theorem row_free {w : World} {base e : Nat} {g n cap : Nat} {xs : List Value} (h : w.ownsRow base e 1 (.slice (some ⟨g, 0, none⟩) n cap) n xs) (j : Nat) : w.frozen? ⟨g, j, none⟩ = false := h.frozenAt j

/-- In world w the arena's object lies in block A, and names the rows oh, ob; the row hv holds hs, the row bv holds bk; the blocks of S are others. -/
structure AS (S : Nat → Prop) (B A : Nat) (w : World) (m f p : Int) (oh ob hv bv : Value) (hs : List Bool) (bk : List Int) : Prop where
  obj : w.heap[A]? = some (.cells #[.int .i64 m, .int .i64 f, oh, ob, .int .i64 p] 124 (0, 0))
  rh : w.ownsRow B 4 1 hv hs.length (hs.map Value.bool)
  rb : w.ownsRow B 3 1 bv bk.length (bk.map (Value.int .i64))
  h1 : hv.ownBlock ≠ some A
  h2 : bv.ownBlock ≠ some A
  h3 : ∀ k, hv.ownBlock = some k → bv.ownBlock ≠ some k
  base : B ≤ A
  sa : ∀ k, S k → k < w.heap.size ∧ k ≠ A ∧ hv.ownBlock ≠ some k ∧ bv.ownBlock ≠ some k
def Same (S : Nat → Prop) (w w' : World) : Prop := ∀ k, S k → w'.heap[k]? = w.heap[k]?
theorem Same.refl (S : Nat → Prop) (w : World) : Same S w w := fun _ _ => rfl
theorem Same.trans {S : Nat → Prop} {w w1 w2 : World} (h : Same S w w1) (h' : Same S w1 w2) : Same S w w2 := fun k hk => (h' k hk).trans (h k hk)
section
variable {S : Nat → Prop} {B A : Nat} {w w' : World} {m f p : Int} {oh ob hv bv : Value} {hs : List Bool} {bk : List Int}
theorem AS.lt (h : AS S B A w m f p oh ob hv bv hs bk) : A < w.heap.size := lt_heap h.obj
theorem AS.below (h : AS S B A w m f p oh ob hv bv hs bk) (hb : Below w.heap.size w w') : AS S B A w' m f p oh ob hv bv hs bk :=
  ⟨(hb.block A h.lt).trans h.obj, row_keep h.rh fun k hk => hb.block k (h.rh.lt k hk).2, row_keep h.rb fun k hk => hb.block k (h.rb.lt k hk).2, h.h1, h.h2, h.h3, h.base, fun k hk => ⟨Nat.lt_of_lt_of_le (h.sa k hk).1 hb.size, (h.sa k hk).2⟩⟩
theorem AS.same (h : AS S B A w m f p oh ob hv bv hs bk) (hb : Below w.heap.size w w') : Same S w w' := fun k hk => hb.block k (h.sa k hk).1
theorem AS.cells (h : AS S B A w m f p oh ob hv bv hs bk) : w.cell? ⟨A, 0, none⟩ = some (.int .i64 m) ∧ w.cell? ⟨A, 1, none⟩ = some (.int .i64 f) ∧ w.cell? ⟨A, 2, none⟩ = some oh ∧ w.cell? ⟨A, 3, none⟩ = some ob ∧ w.cell? ⟨A, 4, none⟩ = some (.int .i64 p) ∧ ∀ i, w.frozen? ⟨A, i, none⟩ = false := by
  have e := h.obj
  refine ⟨?_, ?_, ?_, ?_, ?_, fun i => by simp [World.frozen?, e]⟩ <;> simp [World.cell?, e]
theorem AS.setA (i : Nat) (v : Value) (m' f' p' : Int) (oh' ob' : Value) (h : AS S B A w m f p oh ob hv bv hs bk) (he : #[Value.int .i64 m, .int .i64 f, oh, ob, .int .i64 p].setIfInBounds i v = #[.int .i64 m', .int .i64 f', oh', ob', .int .i64 p']) : AS S B A (w.setCell ⟨A, i, none⟩ v) m' f' p' oh' ob' hv bv hs bk :=
  ⟨by rw [set_obj v h.obj, he], row_keep h.rh fun k hk => set_heap w A i k v (fun e => h.h1 (e ▸ hk)), row_keep h.rb fun k hk => set_heap w A i k v (fun e => h.h2 (e ▸ hk)), h.h1, h.h2, h.h3, h.base, fun k hk => ⟨by rw [size_set]; exact (h.sa k hk).1, (h.sa k hk).2⟩⟩
theorem AS.sameA (i : Nat) (v : Value) (h : AS S B A w m f p oh ob hv bv hs bk) : Same S w (w.setCell ⟨A, i, none⟩ v) := fun k hk => set_heap w A i k v (h.sa k hk).2.1
theorem AS.set1 (f' : Int) (h : AS S B A w m f p oh ob hv bv hs bk) : AS S B A (w.setCell ⟨A, 1, none⟩ (.int .i64 f')) m f' p oh ob hv bv hs bk := h.setA 1 _ m f' p oh ob rfl
theorem AS.set2 (v : Value) (h : AS S B A w m f p oh ob hv bv hs bk) : AS S B A (w.setCell ⟨A, 2, none⟩ v) m f p v ob hv bv hs bk := h.setA 2 _ m f p v ob rfl
theorem AS.set3 (v : Value) (h : AS S B A w m f p oh ob hv bv hs bk) : AS S B A (w.setCell ⟨A, 3, none⟩ v) m f p oh v hv bv hs bk := h.setA 3 _ m f p oh v rfl
theorem AS.set4 (p' : Int) (h : AS S B A w m f p oh ob hv bv hs bk) : AS S B A (w.setCell ⟨A, 4, none⟩ (.int .i64 p')) m f p' oh ob hv bv hs bk := h.setA 4 _ m f p' oh ob rfl
theorem AS.putH {g cap j : Nat} (b : Bool) (h : AS S B A w m f p oh ob (.slice (some ⟨g, 0, none⟩) hs.length cap) bv hs bk) (hj : j < hs.length) :
    AS S B A (w.setCell ⟨g, j, none⟩ (.bool b)) m f p oh ob (.slice (some ⟨g, 0, none⟩) hs.length cap) bv (hs.set j b) bk ∧ Same S w (w.setCell ⟨g, j, none⟩ (.bool b)) := by
  have hA : A ≠ g := fun e => h.h1 (by simp [Value.ownBlock, e])
  refine ⟨⟨by rw [set_heap w g j A _ hA]; exact h.obj, ?_, row_keep h.rb fun k hk => set_heap w g j k _ (fun e => h.h3 g (by simp [Value.ownBlock]) (e ▸ hk)), h.h1, h.h2, h.h3, h.base, fun k hk => ⟨by rw [size_set]; exact (h.sa k hk).1, (h.sa k hk).2⟩⟩, fun k hk => set_heap w g j k _ (fun e => (h.sa k hk).2.2.1 (by simp [Value.ownBlock, e]))⟩
  have := row_put (.bool b) h.rh hj
  rw [List.length_set, List.map_set]
  exact this
theorem AS.grownH {hv' : Value} {hs' : List Bool} (h : AS S B A w m f p oh ob hv bv hs bk) (hr : w'.ownsRow B 4 1 hv' hs'.length (hs'.map Value.bool)) (hg : w.grownBy w' hv.ownBlock) (ho : hv'.ownBlock = hv.ownBlock ∨ hv'.ownBlock = some w.heap.size) : AS S B A w' m f p oh ob hv' bv hs' bk ∧ Same S w w' := by
  have kA : w'.heap[A]? = w.heap[A]? := hg.block A h.lt (fun e => h.h1 e.symm)
  have kS : Same S w w' := fun k hk => hg.block k (h.sa k hk).1 (fun e => (h.sa k hk).2.2.1 e.symm)
  have kb : ∀ k, bv.ownBlock = some k → w'.heap[k]? = w.heap[k]? := fun k hk => hg.block k (h.rb.lt k hk).2 (fun e => h.h3 k e.symm hk)
  refine ⟨⟨kA.trans h.obj, hr, row_keep h.rb kb, ?_, h.h2, ?_, h.base, fun k hk => ⟨Nat.lt_of_lt_of_le (h.sa k hk).1 hg.size, (h.sa k hk).2.1, ?_, (h.sa k hk).2.2.2⟩⟩, kS⟩
  · intro e
    rcases ho with ho | ho
    · exact h.h1 (ho ▸ e)
    · rw [ho] at e; have := h.lt; simp at e; omega
  · intro k hk hb
    rcases ho with ho | ho
    · exact h.h3 k (ho ▸ hk) hb
    · rw [ho] at hk; have := (h.rb.lt k hb).2; simp at hk; omega
  · intro e
    rcases ho with ho | ho
    · exact (h.sa k hk).2.2.1 (ho ▸ e)
    · rw [ho] at e; have := (h.sa k hk).1; simp at e; omega
theorem AS.grownB {bv' : Value} {bk' : List Int} (h : AS S B A w m f p oh ob hv bv hs bk) (hr : w'.ownsRow B 3 1 bv' bk'.length (bk'.map (Value.int .i64))) (hg : w.grownBy w' bv.ownBlock) (ho : bv'.ownBlock = bv.ownBlock ∨ bv'.ownBlock = some w.heap.size) : AS S B A w' m f p oh ob hv bv' hs bk' ∧ Same S w w' := by
  have kA : w'.heap[A]? = w.heap[A]? := hg.block A h.lt (fun e => h.h2 e.symm)
  have kS : Same S w w' := fun k hk => hg.block k (h.sa k hk).1 (fun e => (h.sa k hk).2.2.2 e.symm)
  have kh : ∀ k, hv.ownBlock = some k → w'.heap[k]? = w.heap[k]? := fun k hk => hg.block k (h.rh.lt k hk).2 (fun e => h.h3 k hk e.symm)
  refine ⟨⟨kA.trans h.obj, row_keep h.rh kh, hr, h.h1, ?_, ?_, h.base, fun k hk => ⟨Nat.lt_of_lt_of_le (h.sa k hk).1 hg.size, (h.sa k hk).2.1, (h.sa k hk).2.2.1, ?_⟩⟩, kS⟩
  · intro e
    rcases ho with ho | ho
    · exact h.h2 (ho ▸ e)
    · rw [ho] at e; have := h.lt; simp at e; omega
  · intro k hk hb
    rcases ho with ho | ho
    · exact h.h3 k hk (ho ▸ hb)
    · rw [ho] at hb; have := (h.rh.lt k hk).2; simp at hb; omega
  · intro e
    rcases ho with ho | ho
    · exact (h.sa k hk).2.2.2 (ho ▸ e)
    · rw [ho] at e; have := (h.sa k hk).1; simp at e; omega
theorem AS.cutB {g cap : Nat} (l : List Int) (x : Int) (h : AS S B A w m f p oh ob hv (.slice (some ⟨g, 0, none⟩) bk.length cap) hs bk) (e : bk = l ++ [x]) : AS S B A w m f p oh ob hv (.slice (some ⟨g, 0, none⟩) l.length cap) hs l := by
  have hr := row_cut (m := l.length) h.rb (by rw [e]; simp)
  refine ⟨h.obj, h.rh, ?_, h.h1, h.h2, h.h3, h.base, h.sa⟩
  have : (bk.map (Value.int .i64)).take l.length = l.map (Value.int .i64) := by rw [e, List.map_append, show l.length = (l.map (Value.int .i64)).length by simp]; exact List.take_left
  rw [← this]
  exact hr
end
end Go.Proofs.Ytbmndjedgedbdaa.ar
namespace Go.Proofs.Ytbmndjedgedbdaa.ar
open Go.ChangeShapes Go.WideShapes Go.ChangeAt Go.RowKit
set_option linter.unusedVariables false
set_option linter.unusedSimpArgs false
theorem new_of (S : Nat → Prop) (B : Nat) (n m1 v : Int) (w : World) (h1 : (if n < 0 then (0 : Int) else n) = m1) (h2 : (if 1000 < m1 then (1000 : Int) else m1) = v) (hB : B ≤ w.heap.size) (hS : ∀ k, S k → k < w.heap.size) :
    Calls Try.prog 57 #[.int .i64 n] w fun e w' => e = .returned (.pointer (some ⟨w.heap.size, 0, none⟩)) ∧ AS S B w.heap.size w' v 0 0 (.slice none 0 0) (.slice none 0 0) (.slice none 0 0) (.slice none 0 0) [] [] ∧ Below w.heap.size w w' := by
  have HS := Lib.hid hS
  clear hS
  go_enter Try.func57, Try.ntmps57
  go_wp2
  go_ret
  refine ⟨rfl, ⟨heap_alloc_new _ _, World.ownsRow_nil _ _ _ _, World.ownsRow_nil _ _ _ _, by simp [Value.ownBlock], by simp [Value.ownBlock], by simp [Value.ownBlock], hB, fun k hk => ?_⟩, by go_grown⟩
  have := HS.out k hk
  exact ⟨by simp; omega, by omega, by simp [Value.ownBlock], by simp [Value.ownBlock]⟩
theorem below_drewN (w : World) (n : Nat) : Below w.heap.size w (w.drewN n) := ⟨rfl, rfl, rfl, Nat.le_refl _, fun _ _ => rfl⟩
section
variable {S : Nat → Prop} {B A : Nat} {m f p : Int} {hv bv : Value} {hs : List Bool} {bk : List Int}
theorem held_nil (w : World) (n : Int) : Calls Try.prog 51 #[.pointer none, .int .i64 n] w fun e w' => e = .returned (.bool false) ∧ w = w' := by
  go_enter Try.func51, Try.ntmps51
  go_wp2
  go_ret
  exact ⟨rfl, rfl⟩
/-- Is a number taken? -/
def heldB (hs : List Bool) (n : Int) : Bool := decide (1 ≤ n ∧ n ≤ hs.length) && hs.getD (n - 1).toNat false
theorem held_of (w : World) (n : Int) (h : AS S B A w m (hs.length : Int) p hv bv hv bv hs bk) (hl : hs.length ≤ 100000) : Calls Try.prog 51 #[.pointer (some ⟨A, 0, none⟩), .int .i64 n] w fun e w' => e = .returned (.bool (heldB hs n)) ∧ w = w' := by
  obtain ⟨c0, c1, c2, c3, c4, cf⟩ := h.cells
  by_cases h1 : 1 ≤ n
  · by_cases h2 : n ≤ (hs.length : Int)
    · obtain ⟨j, rfl⟩ : ∃ j : Nat, n = (j : Int) + 1 := ⟨(n - 1).toNat, by omega⟩
      have hj : j < hs.length := by omega
      obtain ⟨g, cap, rfl, hcap, hg, hlt⟩ := row_some h.rh (by omega)
      obtain ⟨b, hb⟩ : ∃ b, hs[j]? = some b := ⟨hs[j], by simp⟩
      have cb := row_at h.rh (j := j) (u := .bool b) (by simp [hb])
      have HV : Hid (heldB hs ((j : Int) + 1) = b) := Lib.hid (by
        unfold heldB
        rw [decide_eq_true ⟨h1, h2⟩, show ((j : Int) + 1 - 1).toNat = j by omega, List.getD_eq_getElem?_getD, hb]; rfl)
      have hs1 : (j : Int) + 1 - 1 = (j : Int) := by omega
      have HB := Lib.hid hb
      clear h hb h1 h2
      have h1 : (1 : Int) ≤ (j : Int) + 1 := by omega
      have h2 : (j : Int) + 1 ≤ (hs.length : Int) := by omega
      have ht : (j : Int).toNat = j := by omega
      rw [HV.out]
      go_enter Try.func51, Try.ntmps51
      cases b
      · go_wp2
        go_ret
        exact ⟨rfl, rfl⟩
      · go_wp2
        go_ret
        exact ⟨rfl, rfl⟩
    · have HV : Hid (heldB hs n = false) := Lib.hid (by unfold heldB; rw [decide_eq_false (fun e => h2 e.2)]; rfl)
      have h2' : (hs.length : Int) < n := by omega
      have h2'' : ¬ n ≤ (hs.length : Int) := h2
      clear h h2
      rw [HV.out]
      go_enter Try.func51, Try.ntmps51
      go_wp2
      go_ret
      exact ⟨rfl, rfl⟩
  · have HV : Hid (heldB hs n = false) := Lib.hid (by unfold heldB; rw [decide_eq_false (fun e => h1 e.1)]; rfl)
    have h1' : n < 1 := by omega
    clear h h1
    rw [HV.out]
    go_enter Try.func51, Try.ntmps51
    go_wp2
    go_ret
    exact ⟨rfl, rfl⟩
theorem free_back (w : World) (l : List Int) (x : Int) (h : AS S B A w m f p hv bv hv bv hs (l ++ [x])) (hm : l.length ≤ 100000) : Calls Try.prog 70 #[.pointer (some ⟨A, 0, none⟩)] w fun e w' => ∃ bv', e = .returned (.int .i64 x) ∧ AS S B A w' m f p hv bv' hv bv' hs l ∧ Below B w w' ∧ Same S w w' := by
  obtain ⟨g, cap, rfl, hcap, hg, hlt⟩ := row_some h.rb (by simp)
  have c5 := row_at h.rb (j := l.length) (u := .int .i64 x) (by simp)
  have hc := (h.set3 (.slice (some ⟨g, 0, none⟩) l.length cap)).cutB l x rfl
  have hsm := h.sameA 3 (.slice (some ⟨g, 0, none⟩) l.length cap)
  have hbs := h.base
  obtain ⟨c0, c1, c2, c3, c4, cf⟩ := h.cells
  have f3 := cf 3
  have el : (l ++ [x]).length = l.length + 1 := by simp
  rw [el] at c3 hcap
  generalize l.length = k at *
  have e1 : ((k + 1 : Nat) : Int) - 1 = (k : Int) := by omega
  have e2 : (0 : Int) ≤ (k : Int) := by omega
  have e3 : (k : Int) ≤ (cap : Int) := by omega
  have e4 : (k : Int).toNat = k := by omega
  clear h cf el
  go_enter Try.func70, Try.ntmps70
  go_wp2
  go_ret
  exact ⟨_, rfl, hc, (Below.refl _ _).setCell hbs _, hsm⟩
theorem free_none (w : World) (h : AS S B A w m m p hv bv hv bv hs []) : Calls Try.prog 70 #[.pointer (some ⟨A, 0, none⟩)] w fun e w' => e = .returned (.int .i64 0) ∧ AS S B A w' m m p hv bv hv bv hs [] ∧ Below w.heap.size w w' := by
  obtain ⟨o, cap, rfl⟩ := row_form h.rb
  obtain ⟨c0, c1, c2, c3, c4, cf⟩ := h.cells
  have H := Lib.hid h
  clear h cf
  simp only [List.length_nil] at c3
  go_enter Try.func70, Try.ntmps70
  go_wp2_with fail
  go_quiet (fail)
  go_wp2_with fail
  go_ret
  exact ⟨rfl, H.out.below (below_drewN w nq), below_drewN w nq⟩
end
end Go.Proofs.Ytbmndjedgedbdaa.ar
namespace Go.Proofs.Ytbmndjedgedbdaa.ar
open Go.ChangeShapes Go.WideShapes Go.ChangeAt Go.RowKit
set_option linter.unusedVariables false
set_option linter.unusedSimpArgs false
theorem infoBool : (Try.prog.info? 4).map (fun i => (i.zero, i.size, i.bytes)) = some (some (.bool false), 1, 1) := by kernel_rfl
theorem wpList_appH {ops : Array Oper} {rest : List Oper} {o : Oper} {a : Act} {w : World} {Q : Exit → Act → World → Prop} (hgd : o.guard = none) (s x : Operand)
    (ho : o.op = .call { callee := .builtin .append, args := #[s, x], argTypes := #[122, 122] })
    (B : Nat) (v : Value) (xs : List Bool) (hs : a.eval s = v) (ad : Addr) (c : Nat) (hx : a.eval x = .slice (some ad) 1 c) (u : Bool) (hown : w.ownsRow B 4 1 v xs.length (xs.map Value.bool)) (hu : w.cell? ad = some (.bool u)) (hpl : ad.add 0 = ad) (hsm : xs.length ≤ 100000) (hB : B ≤ w.heap.size)
    (h : ∀ v' w', w'.ownsRow B 4 1 v' (xs ++ [u]).length ((xs ++ [u]).map Value.bool) → w.grownBy w' v.ownBlock → (v'.ownBlock = v.ownBlock ∨ v'.ownBlock = some w.heap.size) → wpList Try.prog ops Q rest (a.put o.dst v') w') : wpList Try.prog ops Q (o :: rest) a w :=
  wpList_plain hgd fun _ hK => by
    obtain ⟨i0, hi, hz0, hz1, hz2⟩ := info_parts infoBool
    obtain ⟨v', w', hr, h2, h3, _, h4⟩ := run_append_own_at (P := Try.prog) w B 122 o.type 4 i0 (.bool false) 1 1 Try.underlying122 hi hz0 hz1 hz2 rfl (by decide) v xs.length _ hown ad 1 c [.bool u] rfl (by
      intro j x hj
      match j, hj with
      | 0, hj => simp at hj; subst hj; rw [hpl]; exact hu) (by simp; rfl) (by unfold maxLen; omega) (by omega) hB
    unfold Oper.wp execOp
    simp only [ho, resolve, invoke, builtin, Sem.run_bind, Sem.run_pure, Result.andThen_ok, List.map_toArray, List.map_cons, List.map_nil, hs, hx, hr]
    exact hK _ _ (h v' w' (by simpa using h2) h3 h4)
section
variable {S : Nat → Prop} {B A : Nat} {m f p : Int} {hv bv : Value} {hs : List Bool} {bk : List Int}
set_option maxHeartbeats 1000000 in
set_option maxRecDepth 20000 in
theorem free_new (w : World) (h : AS S B A w m (hs.length : Int) p hv bv hv bv hs []) (hne : ¬ (hs.length : Int) = m) (hm : hs.length ≤ 100000) : Calls Try.prog 70 #[.pointer (some ⟨A, 0, none⟩)] w fun e w' => ∃ hv', e = .returned (.int .i64 ((hs.length : Int) + 1)) ∧ AS S B A w' m ((hs ++ [false]).length : Int) p hv' bv hv' bv (hs ++ [false]) [] ∧ Below B w w' ∧ Same S w w' := by
  obtain ⟨o, cap, rfl⟩ := row_form h.rb
  have hbs := h.base
  have hAl := h.lt
  obtain ⟨c0, c1, c2, c3, c4, cf⟩ := h.cells
  have f1 := cf 1
  have f2 := cf 2
  have h1' := h.set1 ((hs.length : Int) + 1)
  have hd := h1'.below (below_drewN _ 0)
  have s1 := h.sameA 1 (.int .i64 ((hs.length : Int) + 1))
  have H := Lib.hid h
  clear h cf hd
  simp only [List.length_nil] at c3
  have hq : ((hs.length : Int) == m) = false := by simpa using hne
  have HN := Lib.hid hne
  clear hne
  go_enter Try.func70, Try.ntmps70
  go_wp2_with fail
  go_quiet (fail)
  obtain ⟨W, hW⟩ : ∃ W, w.drewN nq = W := ⟨_, rfl⟩
  have hbW := below_drewN w nq
  have hsW : W.heap.size = w.heap.size := by rw [← hW]; rfl
  rw [hW] at hbW
  have hA := H.out.below hbW
  have sA := H.out.same hbW
  clear H h1' s1 c0 c1 c2 c3 c4 f1 f2
  rw [hW]
  clear hW
  obtain ⟨c0, c1, c2, c3, c4, cf⟩ := hA.cells
  have f1 := cf 1
  have f2 := cf 2
  have h1' := hA.set1 ((hs.length : Int) + 1)
  have s1 := sA.trans (hA.sameA 1 (.int .i64 ((hs.length : Int) + 1)))
  have b1 : Below B w (W.setCell ⟨A, 1, none⟩ (.int .i64 ((hs.length : Int) + 1))) := (hbW.mono (by omega)).setCell hbs _
  have z1 : (W.setCell ⟨A, 1, none⟩ (.int .i64 ((hs.length : Int) + 1))).heap.size = w.heap.size := by rw [size_set, hsW]
  clear hA sA cf hbW
  obtain ⟨W1, hW1⟩ : ∃ W1, W.setCell ⟨A, 1, none⟩ (.int .i64 ((hs.length : Int) + 1)) = W1 := ⟨_, rfl⟩
  rw [hW1] at h1' s1 b1 z1
  obtain ⟨d0, d1, d2, d3, d4, df⟩ := h1'.cells
  have g2 := df 2
  clear df
  have H1 := Lib.hid h1'
  have HS := Lib.hid s1
  have HB := Lib.hid b1
  have hn1 : Below W1.heap.size W1 (W1.alloc (.cells #[.bool false] 4)) := by go_grown
  have hA2 := h1'.below hn1
  have s2 := s1.trans (h1'.same hn1)
  have b2 : Below B w (W1.alloc (.cells #[.bool false] 4)) := b1.trans (hn1.mono (by omega))
  clear h1' s1 b1 hn1
  have H2 := Lib.hid hA2
  have S2 := Lib.hid s2
  have B2 := Lib.hid b2
  clear hA2 s2 b2
  have Z1 := Lib.hid z1
  have hsz : B ≤ W1.heap.size := by omega
  clear z1 hsW
  have hsz2 : B ≤ (W1.alloc (.cells #[.bool false] 4)).heap.size := by simp; omega
  go_wp2_with ((at_builtin; refine wpList_appH rfl _ _ rfl B hv hs rfl ⟨W1.heap.size, 0, none⟩ 1 rfl false H2.out.rh (by go_simp) rfl hm hsz2 ?_))
  intro hv' W2 hr2 hg2 ho2
  have hr3 : W2.ownsRow B 4 1 hv' (hs ++ [false]).length ((hs ++ [false]).map Value.bool) := by simpa using hr2
  obtain ⟨o', cap', rfl⟩ := row_form hr3
  obtain ⟨hA3, s3⟩ := H2.out.grownH (hs' := hs ++ [false]) hr3 hg2 (by simpa using ho2)
  have b3 : Below B w W2 := B2.out.grown hg2 hsz2 (fun k e => (H2.out.rh.lt k e).1)
  have s4 := Lib.hid ((S2.out.trans s3).trans (hA3.sameA 2 (.slice o' (hs ++ [false]).length cap')))
  obtain ⟨e0, e1, e2, e3, e4, ef⟩ := hA3.cells
  have g2' := ef 2
  have H4 := Lib.hid (hA3.set2 (.slice o' (hs ++ [false]).length cap'))
  have LE : Hid (((hs ++ [false]).length : Int) = (hs.length : Int) + 1) := Lib.hid (by simp)
  clear ef hr2 hg2 ho2 s3 d0 d1 d2 d3 d4 c0 c1 c2 c3 c4 f1 f2 g2 hA3 hW1 hr3 hm
  generalize hL : (hs ++ [false]).length = L at *
  have HL := Lib.hid hL
  clear hL
  go_wp2_with fail
  go_ret
  exact ⟨_, rfl, by rw [HL.out, LE.out]; exact H4.out, b3.setCell hbs _, s4.out⟩

end
end Go.Proofs.Ytbmndjedgedbdaa.ar
namespace Go.Proofs.Ytbmndjedgedbdaa.ar
open Go.ChangeShapes Go.WideShapes Go.ChangeAt Go.RowKit Go.Shelf
set_option linter.unusedVariables false
set_option linter.unusedSimpArgs false
attribute [local go_sem] Oper.semAt_some
/-- The numbers taken among the first k. -/
def ups (hs : List Bool) : Nat → List Int
  | 0 => []
  | k + 1 => if hs.getD k false then ups hs k ++ [(k : Int) + 1] else ups hs k
theorem ups_s (hs : List Bool) (k : Nat) : ups hs (k + 1) = if hs.getD k false then ups hs k ++ [(k : Int) + 1] else ups hs k := rfl
theorem ups_len (hs : List Bool) (k : Nat) (hk : k ≤ hs.length) : (ups hs k).length = (hs.take k).count true := by
  induction k with
  | zero => simp [ups]
  | succ k ih =>
    have hlt : k < hs.length := by omega
    have ih := ih (by omega)
    rw [List.take_succ_eq_append_getElem hlt, List.count_append, ups_s, List.getD_eq_getElem?_getD, List.getElem?_eq_getElem hlt]
    cases h : hs[k] <;> simp [ih]
theorem ups_all (hs : List Bool) : (ups hs hs.length).length = hs.count true := by
  rw [ups_len hs hs.length (Nat.le_refl _), List.take_length]
theorem ups_le (hs : List Bool) (k : Nat) : (ups hs k).length ≤ k := by
  induction k with
  | zero => simp [ups]
  | succ k ih => rw [ups_s]; split <;> (try simp only [List.length_append, List.length_cons, List.length_nil]) <;> omega
theorem ups_pre (hs : List Bool) (j : Nat) : ∀ d, ups hs j <+: ups hs (j + d) := by
  intro d
  induction d with
  | zero => exact List.prefix_refl _
  | succ d ih =>
    rw [show j + (d + 1) = (j + d) + 1 by omega, ups_s]
    split
    · exact ih.trans (List.prefix_append _ _)
    · exact ih
theorem ups_lt (hs : List Bool) (k : Nat) (hk : k < hs.length) (h : hs.getD k false = true) : (ups hs k).length < (ups hs hs.length).length := by
  have h1 := (ups_pre hs (k + 1) (hs.length - (k + 1))).length_le
  rw [show k + 1 + (hs.length - (k + 1)) = hs.length by omega] at h1
  have h2 : (ups hs (k + 1)).length = (ups hs k).length + 1 := by
    rw [ups_s, if_pos h]; simp
  omega
theorem ups_succ (hs : List Bool) (k : Nat) (h : hs.getD k false = true) : ups hs k ++ [(k : Int) + 1] = ups hs (k + 1) := by
  rw [ups_s, if_pos h]
theorem ups_miss (hs : List Bool) (k : Nat) (h : hs.getD k false = false) : ups hs k = ups hs (k + 1) := by
  rw [ups_s, if_neg (by simp only [h]; decide)]
theorem eq_yield (l : Nat) (w : World) : (binOp .eql 64 (.func (.yield l) #[] #[]) .nilFunc).run Try.prog w = .ok (.bool false) w := by kernel_rfl
/-- What a round keeps: all that lay below, and the box in which the arena's address lies. -/
def KpA (n₀ Bn : Nat) (W W' : World) : Prop := Below n₀ W W' ∧ W'.heap[Bn]? = W.heap[Bn]?
set_option maxRecDepth 100000 in
set_option maxHeartbeats 1000000 in
theorem all1_in (F : Fence) (n : Nat) (h6 : F.fn 76) (hro : F.round = none) (hn : 1 ≤ n) (l Bn : Nat) (S : Nat → Prop) (B A : Nat) (m p : Int) (hv bv : Value) (hs : List Bool) (bk : List Int) (w0 : World) (hl : hs.length ≤ 100000)
    (hA : AS S B A w0 m (hs.length : Int) p hv bv hv bv hs bk) (J Jx : List Int → World → Prop)
    (hY : ∀ pre x W, J pre W → pre.length < (ups hs hs.length).length → YieldAt F (n - 1) Try.prog l #[.int .i64 x] W fun e W' =>
      (e = .returned (.bool true) ∧ J (pre ++ [x]) W' ∧ KpA w0.heap.size Bn W W') ∨ (e = .returned (.bool false) ∧ Jx (pre ++ [x]) W'))
    (W : World) (hbW : Below w0.heap.size w0 W) (hBn : W.cell? ⟨Bn, 0, none⟩ = some (.pointer (some ⟨A, 0, none⟩))) (h0 : J [] W) :
    CallsIn F n Try.prog 76 #[.func (.yield l) #[] #[], .pointer (some ⟨Bn, 0, none⟩)] W fun e W' => (∃ v, e = .returned v) ∧
      ((∃ ys, ys = ups hs hs.length ∧ J ys W') ∨ (∃ pre, pre <+: ups hs hs.length ∧ Jx pre W')) := by
  have HA := Lib.hid hA
  clear hA
  have hnf := eq_yield l
  refine callsIn_of_wp Try.func76 rfl h6 ?_ hro
  simp only [Try.ntmps76, List.size_toArray, List.length_cons, List.length_nil, Nat.reduceAdd, Nat.reduceSub, Array.replicate_succ, Array.replicate_zero, List.push_toArray, List.append_toArray, List.nil_append, List.cons_append]
  gi_wp2
  gi_loopw [3] (fun i wr => ∃ k : Nat, k ≤ hs.length ∧ i = .int .i64 ((k : Int) + 1) ∧ Below w0.heap.size w0 wr ∧ wr.cell? ⟨Bn, 0, none⟩ = some (.pointer (some ⟨A, 0, none⟩)) ∧ J (ups hs k) wr)
    (fun i _ => hs.length + 1 - (intOf i).toNat)
  case atStart => exact ⟨0, Nat.zero_le _, rfl, hbW, hBn, h0⟩
  case round =>
    obtain ⟨k, hk, rfl, hb, hBr, hJ⟩ := hrel
    have hAr := HA.out.below hb
    obtain ⟨c0, c1, c2, c3, c4, cf⟩ := hAr.cells
    clear hBn hbW h0 cf
    by_cases hlt : k < hs.length
    · obtain ⟨g, cap, rfl, hcap, hg, hgl⟩ := row_some hAr.rh (by omega)
      obtain ⟨b, hbv⟩ : ∃ b, hs[k]? = some b := ⟨hs[k], by simp⟩
      have ck := row_at hAr.rh (j := k) (u := .bool b) (by simp [hbv])
      have hgd : hs.getD k false = b := by rw [List.getD_eq_getElem?_getD, hbv]; rfl
      have e1 : (k : Int) + 1 - 1 = (k : Int) := by omega
      have e2 : (0 : Int) ≤ (k : Int) := by omega
      have e3 : (k : Int) < (hs.length : Int) := by omega
      have e4 : (k : Int).toNat = k := by omega
      have e5 : (k : Int) + 1 ≤ (hs.length : Int) := by omega
      clear hAr hbv
      cases b
      · have HJ := Lib.hid (ups_miss hs k hgd ▸ hJ)
        clear hgd hJ hY
        gi_wp2
        refine ⟨fun _ h => (by cases h), ?_⟩
        gi_wp2
        go_roundw
        case rel => exact ⟨k + 1, by omega, by go_num, hb, hBr, HJ.out⟩
        case measure => simp [intOf]; omega
      · obtain ⟨fn, tmps, assign, body, hy, hR⟩ := hY (ups hs k) ((k : Int) + 1) wr hJ (ups_lt hs k hlt hgd)
        have HG := Lib.hid (ups_succ hs k hgd)
        clear hgd hJ hY
        gi_wp2
        refine hR.mono ?_
        rintro e W3 (⟨rfl, hJ3, hk3⟩ | ⟨rfl, hJx3⟩)
        · have hB3 : W3.cell? ⟨Bn, 0, none⟩ = some (.pointer (some ⟨A, 0, none⟩)) := by
            rw [← hBr]; simp only [World.cell?, hk3.2]
          have hb3 := hb.trans hk3.1
          have HJ := Lib.hid (HG.out ▸ hJ3)
          clear hJ3 hk3 hb c0 c1 c2 c3 c4 ck hBr
          gi_wp2
          go_roundw
          case rel => exact ⟨k + 1, by omega, by go_num, hb3, hB3, HJ.out⟩
          case measure => simp [intOf]; omega
        · have HP : Hid (ups hs k ++ [(k : Int) + 1] <+: ups hs hs.length) := Lib.hid (by
            rw [HG.out]
            have := ups_pre hs (k + 1) (hs.length - (k + 1))
            rwa [show k + 1 + (hs.length - (k + 1)) = hs.length by omega] at this)
          gi_wp2
          refine bodyPost_ret (results_none rfl _ _ _) rfl ?_
          exact ⟨⟨_, rfl⟩, .inr ⟨_, HP.out, hJx3⟩⟩
    · obtain rfl : k = hs.length := by omega
      have HJ := Lib.hid hJ
      clear hJ hY hAr
      gi_wp2
      go_end0
      exact ⟨⟨_, rfl⟩, .inl ⟨_, rfl, HJ.out⟩⟩
theorem all_in (F : Fence) (n : Nat) (h5 : F.fn 67) (hro : F.round = none) (p0 : Option Addr) (w : World) :
    CallsIn F n Try.prog 67 #[.pointer p0] w fun e w' => e = .returned (.func (.func 76) #[] #[.pointer (some ⟨w.heap.size, 0, none⟩)]) ∧ w' = w.alloc (.cells #[.pointer p0] 102) := by
  refine callsIn_of_wp Try.func67 rfl h5 ?_ hro
  simp only [Try.ntmps67, List.size_toArray, List.length_cons, List.length_nil, Nat.reduceAdd, Nat.reduceSub, Array.replicate_succ, Array.replicate_zero, List.push_toArray, List.append_toArray, List.nil_append, List.cons_append]
  gi_wp2
  go_ret
  exact ⟨rfl, rfl⟩
theorem all_stops (F : Fence) (n : Nat) (h6 : F.fn 76) (hro : F.round = none) (hn : 1 ≤ n) (Bn : Nat) (S : Nat → Prop) (B A : Nat) (m p : Int) (hv bv : Value) (hs : List Bool) (bk : List Int) (w0 w : World) (hl : hs.length ≤ 100000)
    (hA : AS S B A w0 m (hs.length : Int) p hv bv hv bv hs bk) (hb : Below w0.heap.size w0 w) (hBn : Bn < w.heap.size) (hc : w.cell? ⟨Bn, 0, none⟩ = some (.pointer (some ⟨A, 0, none⟩))) :
    SeqStopsK F n Try.prog 76 #[.pointer (some ⟨Bn, 0, none⟩)] (fun x : Int => #[Value.int .i64 x]) (KpA w0.heap.size Bn) (fun ys => ys = ups hs hs.length) (fun pre => pre <+: ups hs hs.length) (ups hs hs.length).length w := fun l J Jx W hW _ _ hY h0 =>
  all1_in F n h6 hro hn l Bn S B A m p hv bv hs bk w0 hl hA J Jx hY W (hb.trans (hW.mono hb.size)) ((hW.cell (p := ⟨Bn, 0, none⟩) hBn).trans hc) h0
theorem cell_new_l (W : World) (v : Value) (t : TypeId) : (W.alloc (.cells #[v] t)).cell? ⟨W.heap.size, 0, none⟩ = some v ∧ (W.alloc (.cells #[v] t)).frozen? ⟨W.heap.size, 0, none⟩ = false := by
  have h : (W.alloc (.cells #[v] t)).heap[W.heap.size]? = some (.cells #[v] t (0, 0)) := heap_alloc_new W _
  exact ⟨by simp only [World.cell?, h]; rfl, by simp only [World.frozen?, h]; rfl⟩
theorem cell_alloc_l {W : World} {a : Addr} {v : Value} (o : Obj) (h : W.cell? a = some v) : (W.alloc o).cell? a = some v := cell_kept h (World.grownBy_alloc W o none) (fun r e => by cases e)
theorem frozen_alloc_l {W : World} {a : Addr} {v : Value} (o : Obj) (h : W.cell? a = some v) (hf : W.frozen? a = false) : (W.alloc o).frozen? a = false := (frozen_kept h (World.grownBy_alloc W o none) (fun r e => by cases e)).trans hf
theorem kpA_t {n₀ Bn : Nat} {A B C : World} (h : KpA n₀ Bn A B) (h' : KpA n₀ Bn B C) : KpA n₀ Bn A C := ⟨h.1.trans h'.1, h'.2.trans h.2⟩
set_option maxRecDepth 100000 in
set_option maxHeartbeats 2000000 in
theorem used_in (F : Fence) (n : Nat) (h3 : F.fn 55) (h5 : F.fn 67) (h6 : F.fn 76) (hro : F.round = none) (hn : 3 ≤ n) (S : Nat → Prop) (B A : Nat) (m p : Int) (hv bv : Value) (hs : List Bool) (bk : List Int) (w : World) (hl : hs.length ≤ 100000)
    (hA : AS S B A w m (hs.length : Int) p hv bv hv bv hs bk) :
    CallsIn F n Try.prog 55 #[.pointer (some ⟨A, 0, none⟩)] w fun e W' => e = .returned (.int .i64 (hs.count true : Nat)) ∧ Below w.heap.size w W' := by
  have h1 : 1 ≤ n := by omega
  refine callsIn_of_wp_marks Try.func55 rfl h3 ?_ hro
  simp only [Try.ntmps55, List.size_toArray, List.length_cons, List.length_nil, Nat.reduceAdd, Nat.reduceSub, Array.replicate_succ, Array.replicate_zero, List.push_toArray, List.append_toArray, List.nil_append, List.cons_append]
  gi_wp2_with (gi_at_call 67; refine (all_in F (n - 1) h5 hro _ _).mono ?_; rintro e w' ⟨rfl, rfl⟩)
  have hs0 := cell_new_l w (.int .i64 0) 3
  have hb := cell_new_l (w.alloc (.cells #[.int .i64 0] 3)) (.pointer (some ⟨A, 0, none⟩)) 102
  rw [World.size_alloc] at hb
  have hB0 : Below w.heap.size w ((w.alloc (.cells #[.int .i64 0] 3)).alloc (.cells #[.pointer (some ⟨A, 0, none⟩)] 102)) := ((Below.refl _ w).alloc (Nat.le_refl _) _).alloc (by simp) _
  have hUL := ups_le hs hs.length
  have hUA := Lib.hid (ups_all hs)
  refine wpIn_rangeFunc_ownF hro h1 (gf := 76) (lb := #[.pointer (some ⟨w.heap.size + 1, 0, none⟩)]) rfl h6 (enters_of Try.func76 (by kernel_rfl) rfl)
    (all_stops F (n - 1) h6 hro (by omega) (w.heap.size + 1) S B A m p hv bv hs bk w _ hl hA hB0 (by simp) hb.1) kpA_t (fun W l o o' hl' ho hc _ => ⟨belowK_b (w := w) (Nat.le_refl _) W l o o' (by simp at hl'; omega) ho hc (by assumption), World.putObj_heap_other (fun e => by simp at hl'; omega)⟩) (Below.refl _ _) (fun _ => rfl)
    (fun pre W => (W.cell? ⟨w.heap.size, 0, none⟩ = some (.int .i64 (pre.length : Nat)) ∧ W.frozen? ⟨w.heap.size, 0, none⟩ = false) ∧ Below w.heap.size w W)
    (fun _ _ _ => False)
    (OwnFrom.and (Own.from (fun s A B row hs hg hr => ⟨cell_kept hs.1 hg hr, (frozen_kept hs.1 hg hr).trans hs.2⟩) _) (ownFrom_below (Nat.le_refl _) (by simp; omega)))
    (fun _ _ _ _ _ hs _ _ => hs)
    ⟨⟨cell_alloc_l _ hs0.1, frozen_alloc_l _ hs0.1 hs0.2⟩, hB0⟩
    (fun x => { tmps := #[.pointer (some ⟨A, 0, none⟩), undef, .int .i64 0, .pointer (some ⟨w.heap.size, 0, none⟩), .pointer (some ⟨A, 0, none⟩), .func (.func 76) #[] #[.pointer (some ⟨w.heap.size + 1, 0, none⟩)], .int .i64 x, undef, undef, undef], defers := [] }) ?assign ?body ?done ?stop
  case assign =>
    intro l x W K hK
    gi_wp2
    simpa using hK
  case body =>
    rintro l pre x W ⟨⟨hc, hf⟩, hB⟩ hlen
    have hlen' : pre.length ≤ 100000 := by omega
    have HT : Hid ((pre ++ [x]).length = pre.length + 1) := Lib.hid (by simp)
    have hBk : Below w.heap.size W (W.setCell ⟨w.heap.size, 0, none⟩ (.int .i64 ((pre.length : Int) + 1))) := (Below.refl w.heap.size W).setCell (p := ⟨w.heap.size, 0, none⟩) (Nat.le_refl _) _
    gi_wp2
    refine ⟨KeepsOthers.setCell _ _ _, ⟨hBk, set_heap W w.heap.size 0 (w.heap.size + 1) _ (by omega)⟩, ⟨?_, by rw [World.frozen?_setCell]; exact hf⟩, hB.setCell (p := ⟨w.heap.size, 0, none⟩) (Nat.le_refl _) _⟩
    rw [HT.out]
    exact World.cell?_setCell_same' _ _ _ (by rw [hc]; rfl)
  case done =>
    rintro D ys W hD rfl ⟨⟨hc, _⟩, hB⟩ hK
    rw [hUA.out] at hc
    gi_wp2
    refine ⟨by simp, .inl ⟨_, _, rfl, run_takeDeferred hK, ?_⟩⟩
    exact ⟨_, results_tmp rfl _ _ _, rfl, hB.trans (belowK_b (w := w) (Nat.le_refl _) W D _ _ (by simp at hD; omega) hK rfl rfl)⟩
  case stop =>
    rintro D c pre W _ _ h _
    exact h.elim
theorem used_of (S : Nat → Prop) (B A : Nat) (m p : Int) (hv bv : Value) (hs : List Bool) (bk : List Int) (w : World) (hl : hs.length ≤ 100000)
    (hA : AS S B A w m (hs.length : Int) p hv bv hv bv hs bk) :
    Calls Try.prog 55 #[.pointer (some ⟨A, 0, none⟩)] w fun e W' => e = .returned (.int .i64 (hs.count true : Nat)) ∧ Below w.heap.size w W' :=
  callsIn_wide.1 (used_in Fence.wide 3 trivial trivial trivial rfl (by omega) S B A m p hv bv hs bk w hl hA)
end Go.Proofs.Ytbmndjedgedbdaa.ar
namespace Go.Proofs.Ytbmndjedgedbdaa.ar
open Go.ChangeShapes Go.WideShapes Go.ChangeAt Go.RowKit
set_option linter.unusedVariables false
set_option linter.unusedSimpArgs false
attribute [local go_sem ↓] Go.wp_at_zero Go.wp_at_succ
section
variable {S : Nat → Prop} {B A : Nat} {m f p : Int} {hv bv : Value} {hs : List Bool} {bk : List Int}
theorem take_nil (w : World) : Calls Try.prog 58 #[.pointer none] w fun e w' => e = .returned (.tuple #[.int .i64 0, .bool false]) ∧ w = w' := by
  go_enter Try.func58, Try.ntmps58
  go_wp2
  go_ret2
  exact ⟨rfl, rfl⟩
theorem take_no (w : World) (h : AS S B A w m m p hv bv hv bv hs []) : Calls Try.prog 58 #[.pointer (some ⟨A, 0, none⟩)] w fun e w' => e = .returned (.tuple #[.int .i64 0, .bool false]) ∧ AS S B A w' m m p hv bv hv bv hs [] ∧ Below w.heap.size w w' := by
  have C := Lib.hid (free_none w h)
  clear h
  go_enter Try.func58, Try.ntmps58
  go_wp2_with (go_at_call 70; refine C.out.mono ?_; rintro e w' ⟨rfl, hA, hb⟩)
  have HA := Lib.hid hA
  clear hA
  go_wp2
  go_ret2
  exact ⟨rfl, HA.out, hb⟩
/-- Which number is taken next, and what is left. -/
def FreeTo (m : Int) (hs : List Bool) (bk : List Int) (j : Nat) (hs' : List Bool) (bk' : List Int) : Prop :=
  (∃ l, bk = l ++ [(j : Int) + 1] ∧ hs' = hs ∧ bk' = l) ∨ (bk = [] ∧ (¬ (hs.length : Int) = m) ∧ j = hs.length ∧ hs' = hs ++ [false] ∧ bk' = [])
theorem free_any (w : World) (j : Nat) (hs' : List Bool) (bk' : List Int) (h : AS S B A w m (hs.length : Int) p hv bv hv bv hs bk) (hf : FreeTo m hs bk j hs' bk') (hl : hs.length ≤ 100000) (hk : bk.length ≤ 100000) :
    Calls Try.prog 70 #[.pointer (some ⟨A, 0, none⟩)] w fun e w' => ∃ hv' bv', e = .returned (.int .i64 ((j : Int) + 1)) ∧ AS S B A w' m (hs'.length : Int) p hv' bv' hv' bv' hs' bk' ∧ Below B w w' ∧ Same S w w' := by
  rcases hf with ⟨l, rfl, rfl, rfl⟩ | ⟨rfl, hne, rfl, rfl, rfl⟩
  · refine (free_back w _ _ h (by simp at hk; omega)).mono ?_
    rintro e w' ⟨bv', he, hA, hb, hS⟩
    exact ⟨_, bv', he, hA, hb, hS⟩
  · refine (free_new w h hne hl).mono ?_
    rintro e w' ⟨hv', he, hA, hb, hS⟩
    exact ⟨hv', _, he, hA, hb, hS⟩
set_option maxRecDepth 20000 in
set_option maxHeartbeats 1000000 in
theorem take_yes (w : World) (j : Nat) (hs' : List Bool) (bk' : List Int) (p' : Int) (h : AS S B A w m (hs.length : Int) p hv bv hv bv hs bk) (hf : FreeTo m hs bk j hs' bk') (hl : hs.length ≤ 100000) (hk : bk.length ≤ 100000) (hl' : hs'.length ≤ 100000) (hj : j < hs'.length) (hp : (if p < ((hs'.set j true).count true : Nat) then (((hs'.set j true).count true : Nat) : Int) else p) = p') :
    Calls Try.prog 58 #[.pointer (some ⟨A, 0, none⟩)] w fun e w' => ∃ hv' bv', e = .returned (.tuple #[.int .i64 ((j : Int) + 1), .bool true]) ∧ AS S B A w' m ((hs'.set j true).length : Int) p' hv' bv' hv' bv' (hs'.set j true) bk' ∧ Below B w w' ∧ Same S w w' := by
  have C := Lib.hid (free_any w j hs' bk' h hf hl hk)
  have HP := Lib.hid hp
  clear h hf hp
  go_enter Try.func58, Try.ntmps58
  go_wp2_with fail
  refine C.out.mono ?_
  rintro e w1 ⟨hv1, bv1, rfl, hA1, hb1, hs1⟩
  have hbs := hA1.base
  obtain ⟨g, cap, rfl, hcap, hg, hgl⟩ := row_some hA1.rh (by omega)
  obtain ⟨b, hbv⟩ : ∃ b, hs'[j]? = some b := ⟨hs'[j], by simp⟩
  have cj := row_at hA1.rh (j := j) (u := .bool b) (by simp [hbv])
  have fj := row_free hA1.rh j
  obtain ⟨c0, c1, c2, c3, c4, cf⟩ := hA1.cells
  obtain ⟨hA2, s2⟩ := hA1.putH true hj
  have b2 : Below B w (w1.setCell ⟨g, j, none⟩ (.bool true)) := hb1.setCell hg _
  have S2 := Lib.hid (hs1.trans s2)
  have hgA : g ≠ A := fun e => hA1.h1 (by simp [Value.ownBlock, e])
  have e1 : (j : Int) + 1 - 1 = (j : Int) := by omega
  have e2 : (0 : Int) ≤ (j : Int) := by omega
  have e3 : (j : Int) < (hs'.length : Int) := by omega
  have e4 : (j : Int).toNat = j := by omega
  have e5 : ((j : Int) + 1 == 0) = false := by simp; omega
  obtain ⟨W, hW⟩ : ∃ W, w1.setCell ⟨g, j, none⟩ (.bool true) = W := ⟨_, rfl⟩
  rw [hW] at hA2 b2 S2
  have hlen : (hs'.set j true).length = hs'.length := by simp
  have HL := Lib.hid hlen
  have hA2' : AS S B A W m ((hs'.set j true).length : Int) p (.slice (some ⟨g, 0, none⟩) hs'.length cap) bv1 (.slice (some ⟨g, 0, none⟩) hs'.length cap) bv1 (hs'.set j true) bk' := by rw [hlen]; exact hA2
  have H2 := Lib.hid hA2'
  have B2 := Lib.hid b2
  have hWs := hA2'.lt
  have CU : Hid (∀ w', Below W.heap.size W w' → Calls Try.prog 55 #[.pointer (some ⟨A, 0, none⟩)] w' fun e w'' => e = .returned (.int .i64 ((hs'.set j true).count true : Nat)) ∧ Below W.heap.size W w'' ∧ w''.cell? ⟨A, 4, none⟩ = some (.int .i64 p) ∧ w''.frozen? ⟨A, 4, none⟩ = false) := Lib.hid (fun w' hb' => by
    refine (used_of S B A m p _ _ _ _ w' (by simp; exact hl') (hA2'.below hb')).mono ?_
    rintro e w'' ⟨he, hb''⟩
    have hb3 := hb'.trans (hb''.mono hb'.size)
    have hA3 := (hA2'.below hb3).cells
    exact ⟨he, hb3, hA3.2.2.2.2.1, hA3.2.2.2.2.2 4⟩)
  obtain ⟨d0, d1, d2, d3, d4, df⟩ := hA2'.cells
  have f4 := df 4
  clear hA1 hb1 hs1 hA2 s2 b2 cf df hA2' hbv hlen
  go_wp2_with fail
  clear c0 c1 c2 c3 c4 cj fj hW e1 e2 e3 e4 e5 C
  generalize ((hs'.set j true).count true : Nat) = cnt at *
  go_region_with (go_at_call 55; refine (CU.out _ (by go_grown)).mono ?_; rintro e w' ⟨rfl, hb', k4, z4⟩)
  all_goals
    rw [HP.out]
    have hb5 : Below B w (w'.setCell ⟨A, 4, none⟩ (.int .i64 p')) := (B2.out.trans (hb'.mono (Nat.le_of_lt (Nat.lt_of_le_of_lt hbs hWs)))).setCell hbs _
    have S5 := (S2.out.trans (H2.out.same hb')).trans ((H2.out.below hb').sameA 4 (.int .i64 p'))
    have H5 := Lib.hid ((H2.out.below hb').set4 p')
    go_wp2_with fail
    go_ret2
    exact ⟨_, _, rfl, H5.out, hb5, S5⟩
end
end Go.Proofs.Ytbmndjedgedbdaa.ar
namespace Go.Proofs.Ytbmndjedgedbdaa.ar
open Go.ChangeShapes Go.WideShapes Go.ChangeAt Go.RowKit
set_option linter.unusedVariables false
set_option linter.unusedSimpArgs false
theorem btn {B : Nat} {w w1 w2 : World} (h1 : Below B w w1) (h2 : Below B w1 w2) : Below B w w2 := h1.trans h2

end Go.Proofs.Ytbmndjedgedbdaa.ar
