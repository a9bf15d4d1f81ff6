/- A deque in one piece, in memory: its object and its row of whole numbers (layer 14). -/
import Derived.Test.YtajmmglfdinahaaIntR
import Derived.Test.YtajmmglfdinahaaShelf
import Derived.Test.YtajmmglfdinahaaKeep
import Derived.Laws.IdiomCopy
import Derived.Deep.Upon
namespace Go.Proofs.Ytajmmglfdinahaa.mo
open Go.ChangeShapes Go.WideShapes Go.ChangeAt Go.RowKit
set_option linter.unusedVariables false
set_option linter.unusedSimpArgs false
theorem set_heap (w : World) (B i k : Nat) (v : Value) (hk : k ≠ B) : (w.setCell ⟨B, i, none⟩ v).heap[k]? = w.heap[k]? := by
  show (w.heap.modify B _)[k]? = _
  rw [Array.getElem?_modify, if_neg (fun e => hk e.symm)]
theorem set_obj {w : World} {B i t : Nat} {a : Array Value} (v : Value) (h : w.heap[B]? = some (.cells a t (0, 0))) : (w.setCell ⟨B, i, none⟩ v).heap[B]? = some (.cells (a.setIfInBounds i v) t (0, 0)) := by
  obtain ⟨hlt, hk⟩ := Array.getElem?_eq_some_iff.1 h
  show (w.heap.modify B _)[B]? = _
  rw [Array.getElem?_eq_getElem (by rw [Array.size_modify]; exact hlt), Array.getElem_modify_self, hk]
  simp
theorem size_set (w : World) (B i : Nat) (v : Value) : (w.setCell ⟨B, i, none⟩ v).heap.size = w.heap.size := by
  show (w.heap.modify B _).size = _
  rw [Array.size_modify]
/-- Cells of one block, stored one behind the other. -/
theorem setCells_row (g t : Nat) : ∀ (vs : List Value) (o : Nat) (w : World) (cur : Array Value), w.heap[g]? = some (.cells cur t (0, 0)) → o + vs.length ≤ cur.size →
    ∃ cur' : Array Value, (w.setCells g o vs).heap[g]? = some (.cells cur' t (0, 0)) ∧ cur'.size = cur.size ∧ (∀ i, i < o → cur'[i]? = cur[i]?) ∧ (∀ j, j < vs.length → cur'[o + j]? = vs[j]?) ∧ (w.setCells g o vs).heap.size = w.heap.size ∧ ∀ k, k ≠ g → (w.setCells g o vs).heap[k]? = w.heap[k]?
  | [], o, w, cur, h, _ => ⟨cur, h, rfl, fun _ _ => rfl, fun j hj => by simp at hj, rfl, fun _ _ => rfl⟩
  | v :: vs, o, w, cur, h, hl => by
    obtain ⟨cur', h1, h2, h3, h4, h5, h6⟩ := setCells_row g t vs (o + 1) (w.setCell ⟨g, o, none⟩ v) _ (set_obj v h) (by simp at hl ⊢; omega)
    refine ⟨cur', h1, by rw [h2]; simp, ?_, ?_, by rw [World.setCells, h5, size_set], fun k hk => by rw [World.setCells, h6 k hk, set_heap w g o k v hk]⟩
    · intro i hi
      rw [h3 i (by omega), Array.getElem?_setIfInBounds, if_neg (by omega)]
    · intro j hj
      cases j with
      | zero =>
        rw [Nat.add_zero, h3 o (by omega), Array.getElem?_setIfInBounds, if_pos rfl]
        simp at hl
        rw [if_pos (by omega)]
        rfl
      | succ j =>
        have := h4 j (by simpa using hj)
        rw [show o + (j + 1) = o + 1 + j by omega, this]
        rfl
/-- A world where only the object M and the row v have changed, or are new. -/
def KM (M : Nat) (v : Value) (w w' : World) : Prop := w.heap.size ≤ w'.heap.size ∧ ∀ k, k < w.heap.size → k ≠ M → v.ownBlock ≠ some k → w'.heap[k]? = w.heap[k]?
/-- The row is where it was, or new. -/
def NB (v v' : Value) (w : World) : Prop := v'.ownBlock = v.ownBlock ∨ v'.ownBlock = none ∨ ∃ b, v'.ownBlock = some b ∧ w.heap.size ≤ b
structure MS (B M : Nat) (w : World) (most : Int) (v : Value) (xs : List Int) : Prop where
  obj : w.heap[M]? = some (.cells #[.int .i64 most, v] 95 (0, 0))
  row : OI w B v xs
  nm : v.ownBlock ≠ some M
  base : B ≤ M
theorem own_lt {w : World} {B : Nat} {v : Value} {xs : List Int} (h : OI w B v xs) {k : Nat} (hk : v.ownBlock = some k) : B ≤ k ∧ k < w.heap.size := h.lt k hk
theorem oi_keep {w w' : World} {B : Nat} {v : Value} {xs : List Int} (h : OI w B v xs) (hk : ∀ k, v.ownBlock = some k → w'.heap[k]? = w.heap[k]?) : OI w' B v xs := by
  obtain ⟨hl, h | ⟨g, cap, cur, rfl, hg, hh, h1, h2, h3, h4⟩⟩ := h
  · exact ⟨hl, .inl h⟩
  · exact ⟨hl, .inr ⟨g, cap, cur, rfl, hg, (hk g rfl).trans hh, h1, h2, h3, h4⟩⟩
section
variable {B M : Nat} {w w' : World} {most : Int} {v : Value} {xs : List Int}
theorem MS.lt (h : MS B M w most v xs) : M < w.heap.size := lt_of_heap h.obj
theorem MS.cells (h : MS B M w most v xs) : w.cell? ⟨M, 0, none⟩ = some (.int .i64 most) ∧ w.cell? ⟨M, 1, none⟩ = some v ∧ ∀ i, w.frozen? ⟨M, i, none⟩ = false := by
  have e := h.obj
  refine ⟨?_, ?_, fun i => by simp [World.frozen?, e]⟩ <;> simp [World.cell?, e]
theorem MS.below (h : MS B M w most v xs) (hb : Below w.heap.size w w') : MS B M w' most v xs :=
  ⟨(hb.block M h.lt).trans h.obj, h.row.below hb, h.nm, h.base⟩
theorem KM.refl (M : Nat) (v : Value) (w : World) : KM M v w w := ⟨Nat.le_refl _, fun _ _ _ _ => rfl⟩
theorem KM.of_below (hb : Below w.heap.size w w') : KM M v w w' := ⟨hb.size, fun k hk _ _ => hb.block k hk⟩
theorem KM.trans {w'' : World} (h : KM M v w w') (h' : KM M v w' w'') : KM M v w w'' := ⟨Nat.le_trans h.1 h'.1, fun k hk h1 h2 => (h'.2 k (Nat.lt_of_lt_of_le hk h.1) h1 h2).trans (h.2 k hk h1 h2)⟩
end
theorem new_of (n : Int) (B : Nat) (w : World) (hB : B ≤ w.heap.size) :
    Calls Try.prog 26 #[.int .i64 n] w fun e w' => e = .returned (.pointer (some ⟨w.heap.size, 0, none⟩)) ∧ MS B w.heap.size w' (min (max n 0) 1000) (.slice none 0 0) [] ∧ Below w.heap.size w w' := by
  go_enter Try.func26, Try.ntmps26
  go_wp2
  go_ret
  exact ⟨rfl, ⟨heap_alloc_new _ _, World.ownsRow_nil _ _ _ _, by simp [Value.ownBlock], hB⟩, by go_grown⟩
theorem len_nil (w : World) : Calls Try.prog 30 #[.pointer none] w fun e w' => e = .returned (.int .i64 0) ∧ w' = w := by
  go_enter Try.func30, Try.ntmps30
  go_wp2
  go_ret
  exact ⟨rfl, rfl⟩
theorem len_of (B M : Nat) (most : Int) (v : Value) (xs : List Int) (n : Nat) (w : World) (h : MS B M w most v xs) (hn : Hid (xs.length = n)) : Calls Try.prog 30 #[.pointer (some ⟨M, 0, none⟩)] w fun e w' => e = .returned (.int .i64 (n : Int)) ∧ w' = w := by
  obtain ⟨c0, c1, cf⟩ := h.cells
  obtain ⟨a, cap, rfl, _⟩ := OI.form h.row
  rw [hn.out] at c1
  clear h cf
  go_enter Try.func30, Try.ntmps30
  go_wp2
  go_ret
  exact ⟨rfl, rfl⟩
theorem push_nil (x : Int) (w : World) : Calls Try.prog 29 #[.pointer none, .int .i64 x] w fun e w' => e = .returned (.bool false) ∧ ∃ n, w' = w.drewN n := by
  go_enter Try.func29, Try.ntmps29
  go_wp2_with fail
  go_quiet (fail)
  go_wp2_with fail
  go_ret
  exact ⟨rfl, nq, rfl⟩
theorem push_no (B M : Nat) (most : Int) (v : Value) (xs : List Int) (x : Int) (w : World) (h : MS B M w most v xs) (hf : most ≤ (xs.length : Int)) : Calls Try.prog 29 #[.pointer (some ⟨M, 0, none⟩), .int .i64 x] w fun e w' => e = .returned (.bool false) ∧ ∃ n, w' = w.drewN n := by
  obtain ⟨c0, c1, cf⟩ := h.cells
  obtain ⟨a, cap, rfl, _⟩ := OI.form h.row
  clear h cf
  generalize xs.length = n at *
  go_enter Try.func29, Try.ntmps29
  go_wp2_with fail
  go_quiet (fail)
  go_wp2_with fail
  go_ret
  exact ⟨rfl, nq, rfl⟩
/-- What a change of the row leaves. -/
def MPost (B M : Nat) (most : Int) (v : Value) (xs : List Int) (r : Value) (w : World) (e : Ending) (w' : World) : Prop :=
  e = .returned r ∧ ∃ v', MS B M w' most v' xs ∧ Below B w w' ∧ KM M v w w' ∧ NB v v' w
set_option maxRecDepth 20000 in
set_option maxHeartbeats 1000000 in
theorem push_yes (B M : Nat) (most : Int) (v : Value) (xs : List Int) (x : Int) (w : World) (h : MS B M w most v xs) (hf : (xs.length : Int) < most) (hl : xs.length ≤ 2000) : Calls Try.prog 29 #[.pointer (some ⟨M, 0, none⟩), .int .i64 x] w (MPost B M most v (xs ++ [x]) (.bool true) w) := by
  have hf' : ¬ most ≤ (xs.length : Int) := by omega
  obtain ⟨c0, c1, cf⟩ := h.cells
  obtain ⟨a, cap, rfl, _⟩ := OI.form h.row
  have H := Lib.hid h
  clear h cf
  generalize hL : xs.length = n at *
  have HL := Lib.hid hL
  clear hL
  go_enter Try.func29, Try.ntmps29
  go_wp2_with fail
  go_quiet (fail)
  obtain ⟨W, hW⟩ : ∃ W, w.drewN nq = W := ⟨_, rfl⟩
  have hb1 : Below w.heap.size w W := by rw [← hW]; exact below_drewN (Below.refl _ _) nq
  rw [hW]
  have h1 := H.out.below hb1
  obtain ⟨d0, d1, df⟩ := h1.cells
  have f1 := df 1
  have HW := Lib.hid h1
  have hMl : M < W.heap.size := h1.lt
  have HB := Lib.hid hb1
  have hBW : B ≤ W.heap.size := by have := h1.base; omega
  have hn1 : Below W.heap.size W (W.alloc (.cells #[.int .i64 x] 3)) := by go_grown
  have H2 := Lib.hid (h1.below hn1)
  have hsz2 : B ≤ (W.alloc (.cells #[.int .i64 x] 3)).heap.size := by simp; omega
  have HN := Lib.hid hn1
  clear c0 c1 hW h1 df hb1 hn1
  go_wp2_with ((at_builtin; refine wpList_app1 rfl _ _ rfl B (.slice a n cap) xs rfl ⟨W.heap.size, 0, none⟩ 1 rfl x H2.out.row (by go_simp) rfl (by have := HL.out; omega) hsz2 ?_))
  intro v' W2 hr2 hg2 ho2
  replace hr2 : OI W2 B v' (xs ++ [x]) := by unfold OI; simpa using hr2
  obtain ⟨o', cap', rfl, _⟩ := OI.form (xs := xs ++ [x]) hr2
  have hS2 : W2.heap[M]? = some (.cells #[.int .i64 most, .slice a n cap] 95 (0, 0)) := (hg2.block M (by simp; omega) (fun e => H2.out.nm e.symm)).trans H2.out.obj
  have c0 : W2.cell? ⟨M, 0, none⟩ = some (.int .i64 most) := by simp [World.cell?, hS2]
  have c1 : W2.cell? ⟨M, 1, none⟩ = some (.slice a n cap) := by simp [World.cell?, hS2]
  have f1' : W2.frozen? ⟨M, 1, none⟩ = false := by simp [World.frozen?, hS2]
  have hnew : (Value.slice o' (xs ++ [x]).length cap').ownBlock ≠ some M := by
    rcases ho2 with e | e
    · rw [e]; exact H2.out.nm
    · rw [e]; simp; omega
  have hS3 := set_obj (i := 1) (.slice o' (xs ++ [x]).length cap') hS2
  have hM3 : MS B M (W2.setCell ⟨M, 1, none⟩ (.slice o' (xs ++ [x]).length cap')) most (.slice o' (xs ++ [x]).length cap') (xs ++ [x]) :=
    ⟨by rw [hS3]; rfl, oi_keep hr2 (fun k hk => set_heap W2 M 1 k _ (fun e => hnew (e ▸ hk))), hnew, H2.out.base⟩
  have hb2 : Below B w W2 := ((HB.out.mono (by have := H.out.base; have := H.out.lt; omega)).trans (HN.out.mono hBW)).grown hg2 hsz2 (fun k e => (H2.out.row.lt k e).1)
  have hb3 : Below B w (W2.setCell ⟨M, 1, none⟩ (.slice o' (xs ++ [x]).length cap')) := hb2.setCell H.out.base _
  have hk3 : KM M (.slice a n cap) w (W2.setCell ⟨M, 1, none⟩ (.slice o' (xs ++ [x]).length cap')) := by
    refine ⟨by rw [size_set]; have := hg2.size; have := HB.out.size; simp at *; omega, fun k hk h1 h2 => ?_⟩
    rw [set_heap W2 M 1 k _ h1, hg2.block k (by simp; have := HB.out.size; omega) (fun e => h2 e.symm), HN.out.block k (by have := HB.out.size; omega), HB.out.block k hk]
  have hnb : NB (.slice a n cap) (.slice o' (xs ++ [x]).length cap') w := by
    rcases ho2 with e | e
    · exact .inl e
    · exact .inr (.inr ⟨_, e, by have := HB.out.size; simp; omega⟩)
  have FIN := Lib.hid (And.intro hM3 (And.intro hb3 (And.intro hk3 hnb)))
  clear hr2 hg2 ho2 hS2 hS3 hM3 hb2 hb3 hk3 hnb hnew d0 d1 f1
  generalize (xs ++ [x]).length = L at *
  go_wp2_with fail
  go_ret
  exact ⟨rfl, _, FIN.out⟩
end Go.Proofs.Ytajmmglfdinahaa.mo
