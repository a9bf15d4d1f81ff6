/- What a walk is told of steps that came in (layer 7). -/
import Derived.Test.YtdneblbaofhehaaBdO
import Derived.Lib.SmallJoins
import Derived.Deep.Slices
namespace Go.Proofs.Ytdneblbaofhehaa.bd
open Go.ChangeShapes Go.WideShapes Go.ChangeAt Go.RowKit
set_option linter.unusedVariables false
set_option linter.unusedSimpArgs false
section
variable {H : Type} {enc : TypeId × Value → H} {w : World} {base : Nat} {spare : Nat → Bool} {held : Bool}
theorem ins_cells {fuel : Nat} {cs : List Value} {y : DataW H × List MemPlace} (h : DataW.trod enc Try.prog w base spare held fuel 33 cs = some y) : ∃ a b c d : Int, cs = [.int .i64 a, .int .i64 b, .int .i64 c, .int .i64 d] := by
  obtain ⟨y0, y1, y2, y3, n, _, hl, t0, t1, t2, t3⟩ := Go.Joins.trod_struct4 Try.underlying33 h
  rw [show Try.prog.cellsOf 33 = 4 by kernel_rfl] at hl
  dsimp only at t0 t1 t2 t3
  rw [show Try.prog.cellsOf 3 = 1 by kernel_rfl] at t0 t1 t2 t3
  match cs, hl with
  | [u0, u1, u2, u3], _ =>
    obtain ⟨a, e0, _⟩ := DataW.trod_int (k := .i64) Try.underlying3 t0
    obtain ⟨b, e1, _⟩ := DataW.trod_int (k := .i64) Try.underlying3 t1
    obtain ⟨c, e2, _⟩ := DataW.trod_int (k := .i64) Try.underlying3 t2
    obtain ⟨d, e3, _⟩ := DataW.trod_int (k := .i64) Try.underlying3 t3
    simp at e0 e1 e2 e3
    exact ⟨a, b, c, d, by rw [e0, e1, e2, e3]⟩
theorem op_cells {fuel : Nat} {cs : List Value} {y : DataW H × List MemPlace} (h : DataW.trod enc Try.prog w base spare held fuel 53 cs = some y) : ∃ o : St, cs = enO o ∧ o.s.size ≤ maxLen := by
  obtain ⟨y0, y1, y2, y3, n, _, hl, t0, t1, t2, t3⟩ := Go.Joins.trod_struct4 Try.underlying53 h
  rw [show Try.prog.cellsOf 53 = 7 by kernel_rfl] at hl
  dsimp only at t0 t1 t2 t3
  rw [show Try.prog.cellsOf 3 = 1 by kernel_rfl] at t0 t1
  rw [show Try.prog.cellsOf 9 = 1 by kernel_rfl] at t2
  rw [show Try.prog.cellsOf 33 = 4 by kernel_rfl] at t3
  match cs, hl with
  | [u0, u1, u2, u3, u4, u5, u6], _ =>
    obtain ⟨a, e0, _⟩ := DataW.trod_int (k := .i64) Try.underlying3 t0
    obtain ⟨b, e1, _⟩ := DataW.trod_int (k := .i64) Try.underlying3 t1
    obtain ⟨s, e2, _, hw⟩ := DataW.trod_string Try.underlying9 t2
    obtain ⟨x0, x1, x2, x3, e3⟩ := ins_cells t3
    simp at e0 e1 e2 e3
    obtain ⟨e3, e4, e5, e6⟩ := e3
    exact ⟨⟨a, b, s, x0, x1, x2, x3⟩, by rw [e0, e1, e2, e3, e4, e5, e6]; rfl, hw⟩
end
theorem open_ops {H : Type} {enc : TypeId × Value → H} {w : World} {base : Nat} {held : Bool} {fuel : Nat} {a : Option Addr} {n c : Nat} {y : DataW H × List MemPlace} (h : DataW.trod enc Try.prog w base (fun _ => true) held fuel 22 [.slice a n c] = some y) :
    ∃ l, RV 7 enO w (.slice a n c) l ∧ ∀ o ∈ l, o.s.size ≤ maxLen := by
  rcases Go.Deep.open_slice Try.underlying22 h with ⟨hcs, _⟩ | ⟨ad, len, cap, m, k, D, Pl, hcs, _, hl, hm, hmm, _, hx⟩
  · simp at hcs
    obtain ⟨rfl, rfl, rfl⟩ := hcs
    exact ⟨[], ⟨none, 0, rfl, Nat.le_refl _, by simp [maxLen], fun _ => rfl, fun i x hx => by simp at hx⟩, fun o ho => by simp at ho⟩
  · simp at hcs
    obtain ⟨rfl, rfl, rfl⟩ := hcs
    rw [if_pos rfl] at hmm
    subst hmm
    rw [show Try.prog.cellsOf 53 = 7 by kernel_rfl] at hx
    have hz : ∀ i : Nat, ∃ o : St, i < m → o.s.size ≤ maxLen ∧ ∀ j u, (enO o)[j]? = some u → w.cell? (ad.add (i * 7 + j)) = some u := by
      intro i
      by_cases hi : i < m
      · obtain ⟨cs', hc', ht'⟩ := hx i hi
        obtain ⟨_, hlen, hcell⟩ := World.cells?_some hc'
        obtain ⟨o, e, hs⟩ := op_cells ht'
        refine ⟨o, fun _ => ⟨hs, fun j u hu => ?_⟩⟩
        have hj : j < 7 := by have := (List.getElem?_eq_some_iff.1 hu).1; simpa [enO] using this
        have := hcell j hj
        rw [Go.Deep.add_add] at this
        rw [this, e, hu]
      · exact ⟨⟨0, 0, ByteArray.empty, 0, 0, 0, 0⟩, fun h => absurd h hi⟩
    classical
    have hg : ∀ i, i < n → ((List.range n).map fun i => Classical.choose (hz i))[i]? = some (Classical.choose (hz i)) := fun i hi => by
      rw [List.getElem?_map, List.getElem?_range hi]; rfl
    have hlen : ((List.range n).map fun i => Classical.choose (hz i)).length = n := by simp
    refine ⟨(List.range n).map fun i => Classical.choose (hz i), ⟨some ad, m, by rw [hlen], by rw [hlen]; exact hl, hm, (fun h => by cases h), fun i x hx2 => ?_⟩, fun o ho => ?_⟩
    · have hi : i < n := by have := (List.getElem?_eq_some_iff.1 hx2).1; rw [hlen] at this; exact this
      rw [hg i hi] at hx2
      obtain rfl := Option.some.inj hx2
      obtain ⟨_, hc⟩ := Classical.choose_spec (hz i) (by omega)
      obtain ⟨b, off, spot⟩ := ad
      have h0 := hc 0 _ rfl
      have hspot : spot = none := by simpa [Addr.add] using World.cell?_spot ((Classical.choose_spec (hz 0) (by omega)).2 0 _ rfl)
      subst hspot
      rw [Go.WideShapes.add_plain] at h0
      refine ⟨b, off, rfl, World.block_lt_of_cell? w _ h0, fun j u hu => ?_⟩
      rw [← Go.WideShapes.add_plain]
      exact hc j u hu
    · obtain ⟨i, hi, rfl⟩ := List.mem_map.1 ho
      exact (Classical.choose_spec (hz i) (by have := List.mem_range.1 hi; omega)).1
end Go.Proofs.Ytdneblbaofhehaa.bd
