/- The document's arena in memory: its object and its two lists (layer 10). -/
import Derived.Test.YtajmmglfdinahaaMoW
import Derived.Test.YtajmmglfdinahaaArG
import Derived.Test.YtajmmglfdinahaaApp1
import Derived.Deep.RegionHeld3
import Derived.Deep.DrawnRows
import Derived.BigQuiet
namespace Go.Proofs.Ytajmmglfdinahaa.rf
open Go.ChangeShapes Go.WideShapes Go.ChangeAt Go.RowKit Go.Proofs.Ytajmmglfdinahaa.mo
set_option linter.unusedVariables false
set_option linter.unusedSimpArgs false
theorem view_keep {w w' : World} {v : Value} {xs : List Int} (h : View w v xs) (hs : w.heap.size ≤ w'.heap.size) (hk : ∀ k, v.ownBlock = some k → w'.heap[k]? = w.heap[k]?) : View w' v xs := by
  obtain ⟨a, cap, hv, hm, hn, hc⟩ := h
  refine ⟨a, cap, hv, hm, hn, fun hne => ?_⟩
  obtain ⟨b, off, ha, hlt, hle, hcell⟩ := hc hne
  subst ha
  subst hv
  exact ⟨b, off, rfl, Nat.lt_of_lt_of_le hlt hs, hle, fun i hi => (cell_heap (hk b rfl)).trans (hcell i hi)⟩
/-- In world w the reference's object lies in block N, and names the lists vb (given back) and vt (taken). -/
structure RS (N : Nat) (w : World) (m fr pk : Int) (vb vt : Value) (bk tk : List Int) : Prop where
  obj : w.heap[N]? = some (.cells #[.int .i64 m, vb, vt, .int .i64 fr, .int .i64 pk] 36 (0, 0))
  b : View w vb bk
  t : View w vt tk
  nb : vb.ownBlock ≠ some N
  nt : vt.ownBlock ≠ some N
  lb : ∀ k, vb.ownBlock = some k → k < w.heap.size
  lt : ∀ k, vt.ownBlock = some k → k < w.heap.size
def KN (N : Nat) (w w' : World) : Prop := w.heap.size ≤ w'.heap.size ∧ ∀ k, k < w.heap.size → k ≠ N → w'.heap[k]? = w.heap[k]?
theorem KN.trans {N : Nat} {w w1 w2 : World} (h : KN N w w1) (h' : KN N w1 w2) : KN N w w2 := ⟨Nat.le_trans h.1 h'.1, fun k hk hN => (h'.2 k (Nat.lt_of_lt_of_le hk h.1) hN).trans (h.2 k hk hN)⟩
theorem KN.below {N : Nat} {w w' : World} (h : Below w.heap.size w w') : KN N w w' := ⟨h.size, fun k hk _ => h.block k hk⟩
theorem KN.set (N i : Nat) (w : World) (v : Value) : KN N w (w.setCell ⟨N, i, none⟩ v) := ⟨by rw [size_set]; exact Nat.le_refl _, fun k _ hN => set_heap w N i k v hN⟩
section
variable {N : Nat} {w w' : World} {m fr pk : Int} {vb vt : Value} {bk tk : List Int}
theorem RS.ltN (h : RS N w m fr pk vb vt bk tk) : N < w.heap.size := (Array.getElem?_eq_some_iff.1 h.obj).1
theorem RS.cells (h : RS N w m fr pk vb vt bk tk) : w.cell? ⟨N, 0, none⟩ = some (.int .i64 m) ∧ w.cell? ⟨N, 1, none⟩ = some vb ∧ w.cell? ⟨N, 2, none⟩ = some vt ∧ w.cell? ⟨N, 3, none⟩ = some (.int .i64 fr) ∧ w.cell? ⟨N, 4, none⟩ = some (.int .i64 pk) ∧ ∀ i, w.frozen? ⟨N, i, none⟩ = false := by
  have e := h.obj
  refine ⟨?_, ?_, ?_, ?_, ?_, fun i => by simp [World.frozen?, e]⟩ <;> simp [World.cell?, e]
theorem RS.keep (h : RS N w m fr pk vb vt bk tk) (hs : w.heap.size ≤ w'.heap.size) (hN : w'.heap[N]? = w.heap[N]?) (h1 : ∀ k, vb.ownBlock = some k → w'.heap[k]? = w.heap[k]?) (h2 : ∀ k, vt.ownBlock = some k → w'.heap[k]? = w.heap[k]?) : RS N w' m fr pk vb vt bk tk :=
  ⟨hN.trans h.obj, view_keep h.b hs h1, view_keep h.t hs h2, h.nb, h.nt, fun k e => Nat.lt_of_lt_of_le (h.lb k e) hs, fun k e => Nat.lt_of_lt_of_le (h.lt k e) hs⟩
theorem RS.below (h : RS N w m fr pk vb vt bk tk) (hb : Below w.heap.size w w') : RS N w' m fr pk vb vt bk tk :=
  h.keep hb.size (hb.block N h.ltN) (fun k e => hb.block k (h.lb k e)) (fun k e => hb.block k (h.lt k e))
theorem RS.set (i : Nat) (v : Value) (m' fr' pk' : Int) (vb' vt' : Value) (bk' tk' : List Int) (h : RS N w m fr pk vb vt bk tk) (he : #[Value.int .i64 m, vb, vt, .int .i64 fr, .int .i64 pk].setIfInBounds i v = #[.int .i64 m', vb', vt', .int .i64 fr', .int .i64 pk'])
    (hb : View w vb' bk') (ht : View w vt' tk') (nb : vb'.ownBlock ≠ some N) (nt : vt'.ownBlock ≠ some N) (lb : ∀ k, vb'.ownBlock = some k → k < w.heap.size) (lt : ∀ k, vt'.ownBlock = some k → k < w.heap.size) : RS N (w.setCell ⟨N, i, none⟩ v) m' fr' pk' vb' vt' bk' tk' :=
  ⟨by rw [set_obj v h.obj, he], view_keep hb (by rw [size_set]; exact Nat.le_refl _) (fun k e => set_heap w N i k v (fun e2 => nb (e2 ▸ e))), view_keep ht (by rw [size_set]; exact Nat.le_refl _) (fun k e => set_heap w N i k v (fun e2 => nt (e2 ▸ e))), nb, nt, fun k e => by rw [size_set]; exact lb k e, fun k e => by rw [size_set]; exact lt k e⟩
end
theorem refnew_of (n v : Int) (w : World) (h1 : min (max n 0) 1000 = v) :
    Calls Try.prog 13 #[.int .i64 n] w fun e w' => e = .returned (.pointer (some ⟨w.heap.size, 0, none⟩)) ∧ RS w.heap.size w' v 0 0 (.slice none 0 0) (.slice none 0 0) [] [] ∧ Below w.heap.size w w' := by
  go_enter Try.func13, Try.ntmps13
  go_wp2
  go_ret
  exact ⟨rfl, ⟨heap_alloc_new _ _, View.nil _, View.nil _, by simp [Value.ownBlock], by simp [Value.ownBlock], by simp [Value.ownBlock], by simp [Value.ownBlock]⟩, by go_grown⟩
/-- Is a number one of a list? -/
def hasB (xs : List Int) (n : Int) : Bool := xs.contains n
theorem has_of (v : Value) (xs : List Int) (n : Int) (w : World) (h : View w v xs) (hl : xs.length ≤ 100000) : Calls Try.prog 21 #[v, .int .i64 n] w fun e w' => e = .returned (.bool (hasB xs n)) ∧ w' = w := by
  obtain ⟨a, cap, rfl, _, _, hc⟩ := h
  have HC := Lib.hid hc
  clear hc
  generalize hL : xs.length = L at *
  have HL := Lib.hid hL
  clear hL
  go_enter Try.func21, Try.ntmps21
  go_wp2_with fail
  go_loopw [5] (fun i wr => ∃ k : Nat, k ≤ L ∧ i = .int .i64 (k : Int) ∧ wr = w ∧ Hid (∀ j, j < k → xs.getD j 0 ≠ n)) (fun i _ => L - (intOf i).toNat)
  case atStart => exact ⟨0, by omega, rfl, rfl, Lib.hid (fun j hj => absurd hj (Nat.not_lt_zero _))⟩
  case round =>
    obtain ⟨k, hk, rfl, rfl, HN⟩ := hrel
    by_cases hlt : k < L
    · obtain ⟨b, off, rfl, hbl, _, hcc⟩ := HC.out (by intro e; rw [e] at HL; have := HL.out; simp at this; omega)
      have ck := hcc k hlt
      obtain ⟨u, hu⟩ : ∃ u, xs.getD k 0 = u := ⟨_, rfl⟩
      rw [hu] at ck
      have HU := Lib.hid hu
      clear hu hcc
      by_cases hun : u = n
      · subst hun
        go_wp2_with fail
        go_ret
        refine ⟨ret_bool ?_, rfl⟩
        symm
        unfold hasB
        rw [List.contains_iff_mem]
        have hkl : k < xs.length := by have := HL.out; omega
        have hg : xs[k] = u := by rw [← HU.out, List.getD_eq_getElem?_getD, List.getElem?_eq_getElem hkl]; rfl
        exact hg ▸ List.getElem_mem hkl
      · have hne : (u == n) = false := beq_eq_false_iff_ne.2 hun
        go_wp2_with fail
        go_roundw
        case rel =>
          refine ⟨k + 1, by omega, by go_num, trivial, Lib.hid (fun j hj => ?_)⟩
          by_cases e : j = k
          · rw [e, HU.out]; exact hun
          · exact HN.out j (by omega)
        case measure => simp [intOf]; omega
    · obtain rfl : k = L := by omega
      go_wp2_with fail
      go_ret
      refine ⟨ret_bool ?_, rfl⟩
      symm
      unfold hasB
      rw [← Bool.not_eq_true, List.contains_iff_mem]
      intro hm
      obtain ⟨j, hj, e⟩ := List.getElem_of_mem hm
      have := HN.out j (by have := HL.out; omega)
      rw [List.getD_eq_getElem?_getD, List.getElem?_eq_getElem hj] at this
      exact this e
end Go.Proofs.Ytajmmglfdinahaa.rf
