/- Several deques in one piece and rows of one's own, side by side (layer 14). -/
import Derived.Test.YtajmmglfdinahaaMoW
namespace Go.Proofs.Ytajmmglfdinahaa.mo
open Go.ChangeShapes Go.WideShapes Go.ChangeAt Go.RowKit
set_option linter.unusedVariables false
set_option linter.unusedSimpArgs false
def up {α : Type} (f : Nat → α) (i : Nat) (a : α) : Nat → α := fun j => if j = i then a else f j
theorem up_self {α : Type} (f : Nat → α) (i : Nat) (a : α) : up f i a i = a := if_pos rfl
theorem up_ne {α : Type} (f : Nat → α) {i j : Nat} (a : α) (h : j ≠ i) : up f i a j = f j := if_neg h
theorem oi_hi {w : World} {B F : Nat} {v : Value} {xs : List Int} (h : OI w B v xs) (hF : ∀ k, v.ownBlock = some k → F ≤ k) : OI w F v xs := by
  obtain ⟨hl, h | ⟨g, cap, cur, rfl, hg, hh, h1, h2, h3, h4⟩⟩ := h
  · exact ⟨hl, .inl h⟩
  · exact ⟨hl, .inr ⟨g, cap, cur, rfl, hF g rfl, hh, h1, h2, h3, h4⟩⟩
/-- d deques, whose rows are the first d of n rows of one's own; all rows lie from F on. -/
structure MF (F d n : Nat) (M : Nat → Nat) (R : Nat → Value) (Y : Nat → List Int) (w : World) : Prop where
  obj : ∀ i, i < d → w.heap[M i]? = some (.cells #[.int .i64 1000, R i] 95 (0, 0))
  lo : ∀ i, i < d → M i < F
  row : ∀ i, i < n → OI w F (R i) (Y i)
  sep : ∀ i j, i < n → j < n → i ≠ j → ∀ k, (R i).ownBlock = some k → (R j).ownBlock ≠ some k
  inj : ∀ i j, i < d → j < d → i ≠ j → M i ≠ M j
  top : F ≤ w.heap.size
  dn : d ≤ n
/-- All below F but the deques is as it was. -/
def KF (F d : Nat) (M : Nat → Nat) (w w' : World) : Prop := w.heap.size ≤ w'.heap.size ∧ ∀ k, k < F → (∀ i, i < d → k ≠ M i) → w'.heap[k]? = w.heap[k]?
section
variable {F d n : Nat} {M : Nat → Nat} {R : Nat → Value} {Y : Nat → List Int} {w w' : World}
theorem KF.refl : KF F d M w w := ⟨Nat.le_refl _, fun _ _ _ => rfl⟩
theorem KF.trans {w'' : World} (h : KF F d M w w') (h' : KF F d M w' w'') : KF F d M w w'' := ⟨Nat.le_trans h.1 h'.1, fun k hk hd => (h'.2 k hk hd).trans (h.2 k hk hd)⟩
theorem MF.ms (h : MF F d n M R Y w) {i B : Nat} (hi : i < d) (hB : B ≤ M i) : MS B (M i) w 1000 (R i) (Y i) :=
  ⟨h.obj i hi, (h.row i (Nat.lt_of_lt_of_le hi h.dn)).base (Nat.le_trans hB (Nat.le_of_lt (h.lo i hi))), fun e => by have := ((h.row i (Nat.lt_of_lt_of_le hi h.dn)).lt _ e).1; have := h.lo i hi; omega, hB⟩
theorem MF.below (h : MF F d n M R Y w) (hb : Below w.heap.size w w') : MF F d n M R Y w' ∧ KF F d M w w' :=
  ⟨⟨fun i hi => (hb.block _ (lt_of_heap (h.obj i hi))).trans (h.obj i hi), h.lo, fun i hi => (h.row i hi).below hb, h.sep, h.inj, Nat.le_trans h.top hb.size, h.dn⟩, hb.size, fun k hk _ => hb.block k (Nat.lt_of_lt_of_le hk h.top)⟩
theorem MF.put (h : MF F d n M R Y w) {i : Nat} (hi : i < n) {v' : Value} {xs' : List Int} (hr : OI w' F v' xs')
    (hnb : ∀ k, v'.ownBlock = some k → (R i).ownBlock = some k ∨ w.heap.size ≤ k)
    (ho : ∀ j, j < d → w'.heap[M j]? = some (.cells #[.int .i64 1000, up R i v' j] 95 (0, 0)))
    (hk : ∀ j, j < n → j ≠ i → ∀ k, (R j).ownBlock = some k → w'.heap[k]? = w.heap[k]?) (hs : w.heap.size ≤ w'.heap.size) : MF F d n M (up R i v') (up Y i xs') w' where
  obj := ho
  lo := h.lo
  row := by
    intro j hj
    by_cases e : j = i
    · subst e; rw [up_self, up_self]; exact hr
    · rw [up_ne _ _ e, up_ne _ _ e]; exact oi_keep (h.row j hj) (hk j hj e)
  sep := by
    intro a b ha hb hab k
    by_cases ea : a = i
    · subst ea
      rw [up_self, up_ne _ _ (fun e => hab e.symm)]
      intro e1 e2
      rcases hnb k e1 with e3 | e3
      · exact h.sep a b ha hb hab k e3 e2
      · have := ((h.row b hb).lt k e2).2; omega
    · rw [up_ne _ _ ea]
      by_cases eb : b = i
      · subst eb
        rw [up_self]
        intro e1 e2
        rcases hnb k e2 with e3 | e3
        · exact h.sep a b ha hb hab k e1 e3
        · have := ((h.row a ha).lt k e1).2; omega
      · rw [up_ne _ _ eb]; exact h.sep a b ha hb hab k
  inj := h.inj
  top := Nat.le_trans h.top hs
  dn := h.dn
/-- One deque makes a step. -/
theorem MF.step (h : MF F d n M R Y w) {i B : Nat} (hi : i < d) {xs' : List Int} {r : Value} {e : Ending} (hp : MPost B (M i) 1000 (R i) xs' r w e w') :
    e = .returned r ∧ ∃ v', MF F d n M (up R i v') (up Y i xs') w' ∧ KF F d M w w' ∧ Below B w w' := by
  obtain ⟨e, v', hm, hb, hk, hnb⟩ := hp
  have hin := Nat.lt_of_lt_of_le hi h.dn
  have hlo := h.lo i hi
  have hF : ∀ k, (R i).ownBlock = some k → F ≤ k := fun k e => ((h.row i hin).lt k e).1
  have hn : ∀ k, v'.ownBlock = some k → (R i).ownBlock = some k ∨ w.heap.size ≤ k := by
    intro k e
    rcases hnb with h1 | h1 | ⟨b, h1, h2⟩
    · exact .inl (h1 ▸ e)
    · rw [h1] at e; cases e
    · rw [h1] at e; cases e; exact .inr h2
  refine ⟨e, v', h.put hin (oi_hi hm.row fun k e => ?_) hn ?_ ?_ hk.1, ⟨hk.1, fun k hk1 hk2 => hk.2 k (Nat.lt_of_lt_of_le hk1 h.top) (hk2 i hi) (fun e => by have := hF k e; omega)⟩, hb⟩
  · rcases hn k e with e | e
    · exact hF k e
    · exact Nat.le_trans h.top e
  · intro j hj
    by_cases e : j = i
    · subst e; rw [up_self]; exact hm.obj
    · rw [up_ne _ _ e]
      have hl := h.lo j hj
      exact (hk.2 _ (Nat.lt_of_lt_of_le hl h.top) (h.inj j i hj hi e) (fun e => by have := hF _ e; omega)).trans (h.obj j hj)
  · intro j hj e k hkk
    have hl := (h.row j hj).lt k hkk
    exact hk.2 k hl.2 (by omega) (fun e2 => h.sep i j hin hj (fun e3 => e e3.symm) k e2 hkk)
/-- One row gets one more. -/
theorem MF.app (h : MF F d n M R Y w) {i : Nat} (hi : i < n) (hd : d ≤ i) {v' : Value} {xs' : List Int} (hr : OI w' F v' xs') (hg : w.grownBy w' (R i).ownBlock) (ho : v'.ownBlock = (R i).ownBlock ∨ v'.ownBlock = some w.heap.size) :
    MF F d n M (up R i v') (up Y i xs') w' ∧ KF F d M w w' := by
  have hF : ∀ k, (R i).ownBlock = some k → F ≤ k := fun k e => ((h.row i hi).lt k e).1
  refine ⟨h.put hi hr (fun k e => ?_) (fun j hj => ?_) (fun j hj e k hk => ?_) hg.size, hg.size, fun k hk1 hk2 => hg.block k (Nat.lt_of_lt_of_le hk1 h.top) (fun e => by have := hF k e.symm; omega)⟩
  · rcases ho with h1 | h1
    · exact .inl (h1 ▸ e)
    · rw [h1] at e; cases e; exact .inr (Nat.le_refl _)
  · rw [up_ne _ _ (by omega)]
    have hl := h.lo j hj
    exact (hg.block _ (Nat.lt_of_lt_of_le hl h.top) (fun e => by have := hF _ e.symm; omega)).trans (h.obj j hj)
  · have hl := (h.row j hj).lt k hk
    exact hg.block k hl.2 (fun e2 => h.sep i j hi hj (fun e3 => e e3.symm) k e2.symm hk)
end
/-- What a step of deque or row i leaves. -/
structure FP (F d n : Nat) (M : Nat → Nat) (R : Nat → Value) (Y : Nat → List Int) (w : World) (i B : Nat) (xs' : List Int) (R' : Nat → Value) (Y' : Nat → List Int) (w' : World) : Prop where
  m : MF F d n M R' Y' w'
  y : Y' i = xs'
  o : ∀ j, j ≠ i → Y' j = Y j
  r : ∀ j, j ≠ i → R' j = R j
  k : KF F d M w w'
  b : Below B w w'
section
variable {F d n : Nat} {M : Nat → Nat} {R : Nat → Value} {Y : Nat → List Int} {w w' : World}
theorem MF.fp (h : MF F d n M R Y w) {i B : Nat} (hi : i < d) {xs' : List Int} {r : Value} {e : Ending} (hp : MPost B (M i) 1000 (R i) xs' r w e w') :
    e = .returned r ∧ ∃ R' Y', Hid (FP F d n M R Y w i B xs' R' Y' w') := by
  obtain ⟨e, v', hm, hk, hb⟩ := h.step hi hp
  exact ⟨e, _, _, Lib.hid ⟨hm, up_self _ _ _, fun j hj => up_ne _ _ hj, fun j hj => up_ne _ _ hj, hk, hb⟩⟩
theorem MF.fa (h : MF F d n M R Y w) {i B : Nat} (hi : i < n) (hd : d ≤ i) (hB : B ≤ F) {v' : Value} {xs' : List Int} (hr : OI w' F v' xs') (hg : w.grownBy w' (R i).ownBlock) (ho : v'.ownBlock = (R i).ownBlock ∨ v'.ownBlock = some w.heap.size) :
    ∃ R' Y', R' i = v' ∧ Hid (FP F d n M R Y w i B xs' R' Y' w') := by
  obtain ⟨hm, hk⟩ := h.app hi hd hr hg ho
  exact ⟨_, _, up_self _ _ _, Lib.hid ⟨hm, up_self _ _ _, fun j hj => up_ne _ _ hj, fun j hj => up_ne _ _ hj, hk, (Below.refl _ _).grown hg (Nat.le_trans hB h.top) (fun k e => Nat.le_trans hB ((h.row i hi).lt k e).1)⟩⟩
theorem mf_push (h : Hid (MF F d n M R Y w)) (i B : Nat) (hi : i < d) (hB : B ≤ M i) (x : Int) (hl : (Y i).length < 1000) :
    Calls Try.prog 29 #[.pointer (some ⟨M i, 0, none⟩), .int .i64 x] w fun e w' => e = .returned (.bool true) ∧ ∃ R' Y', Hid (FP F d n M R Y w i B (Y i ++ [x]) R' Y' w') :=
  (push_yes B (M i) 1000 (R i) (Y i) x w (h.out.ms hi hB) (by omega) (by omega)).mono fun e w' hp => h.out.fp hi hp
theorem mf_pop (h : Hid (MF F d n M R Y w)) (i B : Nat) (hi : i < d) (hB : B ≤ M i) (xs : List Int) (x : Int) (hy : Y i = xs ++ [x]) (hl : xs.length < 1000) :
    Calls Try.prog 27 #[.pointer (some ⟨M i, 0, none⟩)] w fun e w' => e = .returned (.tuple #[.int .i64 x, .bool true]) ∧ ∃ R' Y', Hid (FP F d n M R Y w i B xs R' Y' w') :=
  (pop_yes B (M i) 1000 (R i) xs x w (hy ▸ h.out.ms hi hB) (by omega)).mono fun e w' hp => h.out.fp hi hp
theorem mf_steal (h : Hid (MF F d n M R Y w)) (i B : Nat) (hi : i < d) (hB : B ≤ M i) (xs : List Int) (x : Int) (hy : Y i = x :: xs) (hl : xs.length < 1000) :
    Calls Try.prog 28 #[.pointer (some ⟨M i, 0, none⟩)] w fun e w' => e = .returned (.tuple #[.int .i64 x, .bool true]) ∧ ∃ R' Y', Hid (FP F d n M R Y w i B xs R' Y' w') :=
  (steal_yes B (M i) 1000 (R i) xs x w (hy ▸ h.out.ms hi hB) (by omega)).mono fun e w' hp => h.out.fp hi hp
theorem mf_pop0 (h : Hid (MF F d n M R Y w)) (i : Nat) (hi : i < d) (hy : Y i = []) :
    Calls Try.prog 27 #[.pointer (some ⟨M i, 0, none⟩)] w fun e w' => e = .returned (.tuple #[.int .i64 0, .bool false]) ∧ w' = w :=
  pop_no (M i) (M i) 1000 (R i) w (hy ▸ h.out.ms hi (Nat.le_refl _))
theorem mf_steal0 (h : Hid (MF F d n M R Y w)) (i : Nat) (hi : i < d) (hy : Y i = []) :
    Calls Try.prog 28 #[.pointer (some ⟨M i, 0, none⟩)] w fun e w' => e = .returned (.tuple #[.int .i64 0, .bool false]) ∧ w' = w :=
  steal_no (M i) (M i) 1000 (R i) w (hy ▸ h.out.ms hi (Nat.le_refl _))
theorem mf_len (h : Hid (MF F d n M R Y w)) (i : Nat) (hi : i < d) (m : Nat) (hy : (Y i).length = m) :
    Calls Try.prog 30 #[.pointer (some ⟨M i, 0, none⟩)] w fun e w' => e = .returned (.int .i64 (m : Int)) ∧ w' = w :=
  len_of (M i) (M i) 1000 (R i) (Y i) m w (h.out.ms hi (Nat.le_refl _)) (Lib.hid hy)
end
section
variable {F d n : Nat} {M : Nat → Nat} {R : Nat → Value} {Y : Nat → List Int} {w w' : World}
theorem MF.room (h : Hid (MF F d n M R Y w)) (i : Nat) (hi : i < n) (y : Int) : Hid (OI (w.alloc (.cells #[.int .i64 y] 3)) F (R i) (Y i) ∧ F ≤ (w.alloc (.cells #[.int .i64 y] 3)).heap.size) :=
  have hb : Below w.heap.size w (w.alloc (.cells #[.int .i64 y] 3)) := by go_grown
  Lib.hid ⟨((h.out.below hb).1.row i hi), (h.out.below hb).1.top⟩
theorem MF.more (h : Hid (MF F d n M R Y w)) (i B : Nat) (hi : i < n) (hd : d ≤ i) (hB : B ≤ F) {y : Int} {v' : Value} (hr : OI w' F v' (Y i ++ [y])) (hg : (w.alloc (.cells #[.int .i64 y] 3)).grownBy w' (R i).ownBlock) (ho : v'.ownBlock = (R i).ownBlock ∨ v'.ownBlock = some (w.heap.size + 1)) :
    ∃ R' Y', R' i = v' ∧ Hid (FP F d n M R Y w i B (Y i ++ [y]) R' Y' w') := by
  have hb : Below w.heap.size w (w.alloc (.cells #[.int .i64 y] 3)) := by go_grown
  obtain ⟨hm, hk⟩ := h.out.below hb
  obtain ⟨R', Y', h1, h2⟩ := hm.fa (i := i) (B := B) hi hd hB hr hg (by simpa using ho)
  exact ⟨R', Y', h1, Lib.hid ⟨h2.out.m, h2.out.y, h2.out.o, h2.out.r, hk.trans h2.out.k, (hb.mono (Nat.le_trans hB h.out.top)).trans h2.out.b⟩⟩
end
end Go.Proofs.Ytajmmglfdinahaa.mo
