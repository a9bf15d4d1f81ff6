/- A core that begins: its code, its data, its frames (layer 25). -/
import Derived.Test.YtbmndjedgedbdaaCoB
import Derived.Test.YtbmndjedgedbdaaRecs
namespace Go.Proofs.Ytbmndjedgedbdaa.co
open Go.ChangeShapes Go.WideShapes Go.ChangeAt Go.RowKit
open Go.Proofs.Ytbmndjedgedbdaa.pr
attribute [local go_sem ↓] Go.wp_at_zero Go.wp_at_succ
attribute [local go_sem] Oper.semAt_some
set_option linter.unusedVariables false
set_option linter.unusedSimpArgs false
theorem or_low {α : Type} {k : Nat} {en : α → List Value} {w : World} {B B' e : Nat} {v : Value} {xs : List α} (h : OR k en w B e v xs) (hb : B' ≤ B) : OR k en w B' e v xs := by
  obtain ⟨hl, h1 | ⟨g, cap, cur, h1, h2, h3⟩⟩ := h
  · exact ⟨hl, .inl h1⟩
  · exact ⟨hl, .inr ⟨g, cap, cur, h1, by omega, h3⟩⟩
theorem op_form {w : World} {B : Nat} {v : Value} {rows : List Value} {L : List (List I4)} (h : OP w B v rows L) : ∃ a c, v = .slice a L.length c ∧ ∀ k, v.ownBlock = some k → B ≤ k ∧ k < w.heap.size := by
  obtain ⟨⟨hl, ⟨rfl, h0⟩ | ⟨g, cap, cur, rfl, hg, hh, _⟩⟩, _⟩ := h
  · exact ⟨none, 0, by rw [h0], fun k e => by simp [Value.ownBlock] at e⟩
  · exact ⟨_, _, rfl, fun k e => by simp [Value.ownBlock] at e; subst e; exact ⟨hg, lt_of_heap hh⟩⟩
theorem set_blk (w : World) (b i : Nat) (v : Value) {cs : Array Value} {e : TypeId} (h : w.heap[b]? = some (.cells cs e (0, 0))) : (w.setCell ⟨b, i, none⟩ v).heap[b]? = some (.cells (cs.set! i v) e (0, 0)) := ro.set_blk w b i v h
/-- a core that is put together: what has changed since W4. -/
structure LX (X : Nat → Prop) (W4 : World) (C : Nat) (cc : Value → Array Value) (acc : List (List I4)) (fv : Value) (rows : List Value) (W : World) : Prop where
  op : OP W W4.heap.size fv rows acc
  ho : W.heap[C]? = some (.cells (cc fv) 89 (0, 0))
  k : ∀ k, k < W4.heap.size → k ≠ C → ¬ X k → W.heap[k]? = W4.heap[k]?
  s : W4.heap.size ≤ W.heap.size
  q : W.os = W4.os ∧ W.tape = W4.tape ∧ W.output = W4.output
section
variable {X : Nat → Prop} {W4 W W' : World} {C : Nat} {cc : Value → Array Value} {acc : List (List I4)} {fv : Value} {rows : List Value}
theorem LX.below (h : LX X W4 C cc acc fv rows W) (hb : Below W.heap.size W W') : LX X W4 C cc acc fv rows W' :=
  ⟨h.op.below hb, bl_blk h.ho hb, fun k hk h1 h2 => (hb.block k (Nat.lt_of_lt_of_le hk h.s)).trans (h.k k hk h1 h2), Nat.le_trans h.s hb.size, hb.os.trans h.q.1, hb.tape.trans h.q.2.1, hb.output.trans h.q.2.2⟩
theorem LX.bel (h : LX X W4 C cc acc fv rows W) {w : World} (hb : Below w.heap.size w W4) (hC : w.heap.size ≤ C) (hX : ∀ k, k < w.heap.size → ¬ X k) : Below w.heap.size w W :=
  ⟨h.q.1.trans hb.os, h.q.2.1.trans hb.tape, h.q.2.2.trans hb.output, Nat.le_trans hb.size h.s, fun k hk => (h.k k (Nat.lt_of_lt_of_le hk hb.size) (by omega) (hX k hk)).trans (hb.block k hk)⟩
/-- a function more. -/
theorem LX.push (h : LX X W4 C cc acc fv rows W) (hC : C < W4.heap.size) (hcc : ∀ v, (cc fv).set! 7 v = cc v) {v' : Value} {rows' : List Value} {acc' : List (List I4)} {w3 : World} (hb : Below W.heap.size W w3) (hg : w3.grownBy W' fv.ownBlock) (ho : OP W' W4.heap.size v' rows' acc') :
    LX X W4 C cc acc' v' rows' (W'.setCell ⟨C, 7, none⟩ v') := by
  have h3 := h.below hb
  obtain ⟨_, _, _, hown⟩ := op_form h3.op
  have keep : ∀ k, k < W4.heap.size → W'.heap[k]? = w3.heap[k]? := fun k hk => hg.block k (Nat.lt_of_lt_of_le hk h3.s) (fun e => by have := (hown k e.symm).1; omega)
  have hCW := (keep C hC).trans h3.ho
  have hoo : ∀ k, k ≠ C → (W'.setCell ⟨C, 7, none⟩ v').heap[k]? = W'.heap[k]? := fun k hk => ro.set_oth W' C 7 k v' hk
  have hne : ∀ (b : Nat) (e : TypeId) (cur : Array Value), W'.heap[b]? = some (.cells cur e (0, 0)) → e ≠ 89 → b ≠ C := fun b e cur hb he hbC => by
    subst hbC
    rw [hCW] at hb
    injection hb with hb
    injection hb with _ h2 _
    exact he h2.symm
  refine ⟨?_, by rw [set_blk W' C 7 v' hCW, hcc], fun k hk h1 h2 => (hoo k h1).trans ((keep k hk).trans (h3.k k hk h1 h2)), Nat.le_trans h3.s (Nat.le_trans hg.size (by rw [ro.set_size]; exact Nat.le_refl _)), hg.os.trans h3.q.1, hg.tape.trans h3.q.2.1, hg.output.trans h3.q.2.2⟩
  refine ⟨?_, fun i hi => ?_⟩
  · obtain ⟨hl, h1 | ⟨g, cap, cur, rfl, h1, hh, h3⟩⟩ := ho.1
    · exact ⟨hl, .inl h1⟩
    · exact ⟨hl, .inr ⟨g, cap, cur, rfl, h1, (hoo g (hne g _ _ hh (by decide))).trans hh, h3⟩⟩
  · obtain ⟨u, hu, hor⟩ := ho.2 i hi
    refine ⟨u, hu, ro.OR.blk hor fun g hg => hoo g ?_⟩
    obtain ⟨_, ⟨rfl, _⟩ | ⟨g', cap, cur, rfl, h1, hh, _⟩⟩ := hor
    · simp [Value.ownBlock] at hg
    · simp [Value.ownBlock] at hg
      subst hg
      exact hne _ _ _ hh (by decide)
end
section
variable {X X' : Nat → Prop} {W4 W W' : World} {C : Nat} {cc cc' : Value → Array Value} {acc : List (List I4)} {fv : Value} {rows : List Value}
theorem LX.mono (h : LX X W4 C cc acc fv rows W) (hx : ∀ k, X k → X' k) : LX X' W4 C cc acc fv rows W :=
  ⟨h.op, h.ho, fun k hk h1 h2 => h.k k hk h1 (fun e => h2 (hx k e)), h.s, h.q⟩
theorem op_same {w w' : World} {B : Nat} {v : Value} {rows : List Value} {L : List (List I4)} (h : OP w B v rows L) (hs : ∀ k, B ≤ k → k < w.heap.size → w'.heap[k]? = w.heap[k]?) : OP w' B v rows L := by
  obtain ⟨⟨hl, h1⟩, h2⟩ := h
  refine ⟨⟨hl, ?_⟩, fun i hi => ?_⟩
  · rcases h1 with h1 | ⟨g, cap, cur, rfl, h1, hh, h3⟩
    · exact .inl h1
    · exact .inr ⟨g, cap, cur, rfl, h1, (hs g h1 (lt_of_heap hh)).trans hh, h3⟩
  · obtain ⟨u, hu, hor⟩ := h2 i hi
    exact ⟨u, hu, ro.OR.blk hor fun g hg => hs g (hor.lt g hg).1 (hor.lt g hg).2⟩
/-- other blocks, and the core's own cells, are others now. -/
theorem LX.same (h : LX X W4 C cc acc fv rows W) (hC : C < W4.heap.size) (hs : ∀ k, k < W.heap.size → k ≠ C → ¬ (k < W4.heap.size ∧ X k) → W'.heap[k]? = W.heap[k]?) (ho : W'.heap[C]? = some (.cells (cc' fv) 89 (0, 0))) (hz : W.heap.size ≤ W'.heap.size) (hq : W'.os = W4.os ∧ W'.tape = W4.tape ∧ W'.output = W4.output) : LX X W4 C cc' acc fv rows W' :=
  ⟨op_same h.op fun k h1 h2 => hs k h2 (by omega) (fun e => by omega), ho, fun k hk h1 h2 => (hs k (Nat.lt_of_lt_of_le hk h.s) h1 (fun e => h2 e.2)).trans (h.k k hk h1 h2), Nat.le_trans h.s hz, hq⟩
theorem LX.put (h : LX X W4 C cc acc fv rows W) (hC : C < W4.heap.size) {b : Nat} (hb : b < W4.heap.size) (hX : X b) (hne : b ≠ C) (i : Nat) (v : Value) : LX X W4 C cc acc fv rows (W.setCell ⟨b, i, none⟩ v) :=
  h.same hC (fun k hk h1 h2 => ro.set_oth W b i k v (fun e => h2 ⟨e ▸ hb, e ▸ hX⟩)) ((ro.set_oth W b i C v (fun e => hne e.symm)).trans h.ho) (by rw [ro.set_size]; exact Nat.le_refl _) h.q
theorem LX.cell (h : LX X W4 C cc acc fv rows W) (hC : C < W4.heap.size) (i : Nat) (v : Value) (hcc : (cc fv).set! i v = cc' fv) : LX X W4 C cc' acc fv rows (W.setCell ⟨C, i, none⟩ v) :=
  h.same hC (fun k hk h1 h2 => ro.set_oth W C i k v h1) (by rw [set_blk W C i v h.ho, hcc]) (by rw [ro.set_size]; exact Nat.le_refl _) h.q
end
end Go.Proofs.Ytbmndjedgedbdaa.co
