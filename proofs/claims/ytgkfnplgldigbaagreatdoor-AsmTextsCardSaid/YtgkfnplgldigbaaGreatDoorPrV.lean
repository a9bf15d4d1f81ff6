/- What a walk is told of a program that came in: a number and rows of instructions. -/
import Derived.Test.YtgkfnplgldigbaaGreatDoorPrA
import Derived.Test.YtgkfnplgldigbaaGreatDoorGrids
import Derived.Deep.Grids
import Derived.ChangeSame
namespace Go.Proofs.YtgkfnplgldigbaaGreatDoor.pr
open Go.ChangeShapes Go.WideShapes Go.ChangeAt Go.RowKit
set_option linter.unusedVariables false
set_option linter.unusedSimpArgs false
abbrev k4 : List IntKind := [.i64, .i64, .i64, .i64]
theorem row_of_grid {w : World} {a : Addr} {len cap : Nat} {Z : Nat → Nat → Int} (hl : len ≤ cap) (hm : cap ≤ maxLen)
    (hc : ∀ i, i < cap → ∀ (j : Nat) (k : IntKind), k4[j]? = some k → w.cell? (a.add (i * k4.length + j)) = some (.int k (Z i j)) ∧ (Lit.int k (Z i j)).wf = true) : ∃ l, RV 4 enI w (.slice (some a) len cap) l := by
  have hlen : ((List.range len).map fun i => ((Z i 0, Z i 1, Z i 2, Z i 3) : I4)).length = len := by simp
  refine ⟨(List.range len).map fun i => (Z i 0, Z i 1, Z i 2, Z i 3), some a, cap, by rw [hlen], by rw [hlen]; exact hl, hm, (fun h => by cases h), fun i x hx => ?_⟩
  have hi : i < len := by have := (List.getElem?_eq_some_iff.1 hx).1; rw [hlen] at this; exact this
  rw [List.getElem?_map, List.getElem?_range hi] at hx
  obtain rfl := Option.some.inj hx
  obtain ⟨b, o, spot⟩ := a
  have h0 := (hc i (by omega) 0 .i64 rfl).1
  have hspot : spot = none := by simpa [Addr.add] using World.cell?_spot (hc 0 (by omega) 0 .i64 rfl).1
  subst hspot
  rw [Go.WideShapes.add_plain] at h0
  refine ⟨b, o, rfl, World.block_lt_of_cell? w _ h0, fun j u hu => ?_⟩
  rw [← Go.WideShapes.add_plain]
  match j, hu with
  | 0, hu => simp [enI] at hu; subst hu; exact (hc i (by omega) 0 .i64 rfl).1
  | 1, hu => simp [enI] at hu; subst hu; exact (hc i (by omega) 1 .i64 rfl).1
  | 2, hu => simp [enI] at hu; subst hu; exact (hc i (by omega) 2 .i64 rfl).1
  | 3, hu => simp [enI] at hu; subst hu; exact (hc i (by omega) 3 .i64 rfl).1
  | j + 4, hu => simp [enI] at hu
theorem rv_nil (w : World) : RV 4 enI w (.slice none 0 0) [] := ⟨none, 0, rfl, Nat.le_refl _, by simp [maxLen], fun _ => rfl, fun i x hx => by simp at hx⟩
section
variable {H : Type} {enc : TypeId × Value → H} {w : World} {base : Nat} {held : Bool}
theorem open_row {fuel : Nat} {V : Value} {y : DataW H × List MemPlace} (h : DataW.trod enc Tryz.prog w base (fun _ => true) held fuel 39 [V] = some y) : ∃ l, RV 4 enI w V l := by
  rcases open_grid (ks := k4) Tryz.underlying39 (by kernel_rfl) (fun h => struct_ints (by kernel_rfl) (by kernel_rfl) h) h with hcs | ⟨x, l, c, z, hcs, hl, hm, hcell⟩
  · obtain rfl : V = .slice none 0 0 := by simpa using hcs
    exact ⟨[], rv_nil w⟩
  · obtain rfl : V = .slice (some x) l c := by simpa using hcs
    exact row_of_grid hl hm hcell
theorem open_rows {fuel : Nat} {V : Value} {y : DataW H × List MemPlace} (h : DataW.trod enc Tryz.prog w base (fun _ => true) held fuel 22 [V] = some y) : ∃ a n c L, V = .slice a n c ∧ PM w (.slice a n c) L := by
  rcases Go.Deep.open_slice1 Tryz.underlying22 (by kernel_rfl) h with ⟨hcs, _⟩ | ⟨a, len, cap, m, n, U, D, Pl, hcs, _, hl, hm, hmm, _, hx⟩
  · obtain rfl : V = .slice none 0 0 := by simpa using hcs
    exact ⟨none, 0, 0, [], rfl, PM.nil w⟩
  · obtain rfl : V = .slice (some a) len cap := by simpa using hcs
    rw [if_pos rfl] at hmm
    subst hmm
    have hz : ∀ i : Nat, ∃ l : List I4, i < m → RV 4 enI w (U i) l := by
      intro i
      by_cases hi : i < m
      · obtain ⟨l, hl⟩ := open_row (hx i hi).2
        exact ⟨l, fun _ => hl⟩
      · exact ⟨[], fun h => absurd h hi⟩
    classical
    have hg : ∀ i, i < len → ((List.range len).map fun i => Classical.choose (hz i)).getD i [] = Classical.choose (hz i) := fun i hi => by
      rw [List.getD_eq_getElem?_getD, List.getElem?_map, List.getElem?_range hi]; rfl
    have hlen : ((List.range len).map fun i => Classical.choose (hz i)).length = len := by simp
    refine ⟨some a, len, m, (List.range len).map fun i => Classical.choose (hz i), rfl, some a, m, by rw [hlen], by rw [hlen]; exact hl, hm, fun i hi => ?_⟩
    rw [hlen] at hi
    have h1 := (hx i (by omega)).1
    obtain ⟨b, off, spot⟩ := a
    have hspot : spot = none := by simpa [Addr.add] using World.cell?_spot (hx 0 (by omega)).1
    subst hspot
    rw [Go.WideShapes.add_plain] at h1
    refine ⟨b, off, _, rfl, World.block_lt_of_cell? w _ h1, h1, ?_⟩
    rw [hg i hi]
    exact Classical.choose_spec (hz i) (by omega)
set_option maxRecDepth 20000 in
theorem open_prog {r : Reach} {b0 : Nat} {v : Value} {d : DataW H} {p : List MemPlace} (hv : Value.okWide Tryz.prog w r b0 24 v) (h : DataW.Trod enc Tryz.prog w base (fun _ => true) held 24 v d p) :
    ∃ m a n c L, v = .agg #[.int .i64 m, .slice a n c] ∧ PM w (.slice a n c) L := by
  obtain ⟨cs, rfl, hsz⟩ := okWide_struct Tryz.underlying24 hv
  obtain ⟨fuel, hf⟩ := h
  have h2 : Tryz.prog.cellsOf 24 = 2 := by kernel_rfl
  rw [h2] at hsz
  obtain ⟨y0, y1, k, _, _, t0, t1⟩ := trod_struct2 Tryz.underlying24 hf
  obtain ⟨u0, u1, rfl⟩ : ∃ u0 u1, cs = #[u0, u1] := by
    obtain ⟨l⟩ := cs
    simp at hsz
    match l, hsz with
    | [u0, u1], _ => exact ⟨u0, u1, rfl⟩
  rw [show Tryz.prog.cellsOf 3 = 1 by kernel_rfl] at t0
  rw [show Tryz.prog.cellsOf 22 = 1 by kernel_rfl] at t1
  simp [Value.cells] at t0 t1
  obtain ⟨m, e0, _⟩ := DataW.trod_int (k := .i64) Tryz.underlying3 t0
  obtain ⟨a, n, c, L, rfl, hp⟩ := open_rows t1
  exact ⟨m, a, n, c, L, by simp at e0; rw [e0], hp⟩
end
end Go.Proofs.YtgkfnplgldigbaaGreatDoor.pr
