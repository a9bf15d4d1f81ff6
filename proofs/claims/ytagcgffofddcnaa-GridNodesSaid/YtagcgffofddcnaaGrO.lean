/- What a walk is told of rows of cells that came in (layer 33). -/
import Derived.Test.YtagcgffofddcnaaGrA
import Derived.Test.YtagcgffofddcnaaGrids
import Derived.Test.YtagcgffofddcnaaMix
import Derived.Deep.Grids
import Derived.ChangeSame
namespace Go.Proofs.Ytagcgffofddcnaa.gr
open Go.ChangeShapes Go.WideShapes Go.ChangeAt Go.RowKit
set_option linter.unusedVariables false
set_option linter.unusedSimpArgs false
abbrev kC : List (Option IntKind) := [some .i64, none]
theorem row_of_mix {w : World} {a : Addr} {len cap : Nat} {Z : Nat → Nat → Int} {Y : Nat → Nat → Bool} (hl : len ≤ cap) (hm : cap ≤ maxLen)
    (hc : ∀ i, i < cap → ∀ (j : Nat) (k : Option IntKind), kC[j]? = some k → w.cell? (a.add (i * kC.length + j)) = some (mixAt k (Z i j) (Y i j)) ∧ mixOk k (Z i j)) : ∃ l, RV 2 enC w (.slice (some a) len cap) l := by
  have hlen : ((List.range len).map fun i => ((Z i 0, Y i 1) : C2)).length = len := by simp
  refine ⟨(List.range len).map fun i => (Z i 0, Y i 1), some a, cap, by rw [hlen], by rw [hlen]; exact hl, hm, (fun h => by cases h), fun i x hx => ?_⟩
  have hi : i < len := by have := (List.getElem?_eq_some_iff.1 hx).1; rw [hlen] at this; exact this
  rw [List.getElem?_map, List.getElem?_range hi] at hx
  obtain rfl := Option.some.inj hx
  obtain ⟨b, o, spot⟩ := a
  have h0 := (hc i (by omega) 0 (some .i64) rfl).1
  have hspot : spot = none := by simpa [Addr.add] using World.cell?_spot (hc 0 (by omega) 0 (some .i64) rfl).1
  subst hspot
  rw [Go.WideShapes.add_plain] at h0
  refine ⟨b, o, rfl, World.block_lt_of_cell? w _ h0, fun j u hu => ?_⟩
  rw [← Go.WideShapes.add_plain]
  match j, hu with
  | 0, hu => simp [enC] at hu; subst hu; exact (hc i (by omega) 0 (some .i64) rfl).1
  | 1, hu => simp [enC] at hu; subst hu; exact (hc i (by omega) 1 none rfl).1
  | j + 2, hu => simp [enC] at hu
theorem rv_nil (w : World) : RV 2 enC w (.slice none 0 0) [] := ⟨none, 0, rfl, Nat.le_refl _, by simp [maxLen], fun _ => rfl, fun i x hx => by simp at hx⟩
section
variable {H : Type} {enc : TypeId × Value → H} {w : World} {base : Nat} {held : Bool}
theorem open_row {fuel : Nat} {V : Value} {y : DataW H × List MemPlace} (h : DataW.trod enc Try.prog w base (fun _ => true) held fuel 46 [V] = some y) : ∃ l, RV 2 enC w V l := by
  rcases open_mix (ks := kC) Try.underlying46 (by kernel_rfl) (fun h => struct_mix (by kernel_rfl) (by kernel_rfl) h) h with hcs | ⟨x, l, c, z, y, hcs, hl, hm, hcell⟩
  · obtain rfl : V = .slice none 0 0 := by simpa using hcs
    exact ⟨[], rv_nil w⟩
  · obtain rfl : V = .slice (some x) l c := by simpa using hcs
    exact row_of_mix hl hm hcell
theorem open_cells {fuel : Nat} {V : Value} {y : DataW H × List MemPlace} (h : DataW.trod enc Try.prog w base (fun _ => true) held fuel 31 [V] = some y) : ∃ a n c L, V = .slice a n c ∧ PM w (.slice a n c) L := by
  rcases Go.Deep.open_slice1 Try.underlying31 (by kernel_rfl) h with ⟨hcs, _⟩ | ⟨a, len, cap, m, n, U, D, Pl, hcs, _, hl, hm, hmm, _, hx⟩
  · obtain rfl : V = .slice none 0 0 := by simpa using hcs
    exact ⟨none, 0, 0, [], rfl, PM.nil w⟩
  · obtain rfl : V = .slice (some a) len cap := by simpa using hcs
    rw [if_pos rfl] at hmm
    subst hmm
    have hz : ∀ i : Nat, ∃ l : List C2, i < m → RV 2 enC w (U i) l := by
      intro i
      by_cases hi : i < m
      · obtain ⟨l, hl⟩ := open_row (hx i hi).2
        exact ⟨l, fun _ => hl⟩
      · exact ⟨[], fun h => absurd h hi⟩
    classical
    have hg : ∀ i, i < len → ((List.range len).map fun i => Classical.choose (hz i)).getD i [] = Classical.choose (hz i) := fun i hi => by
      rw [List.getD_eq_getElem?_getD, List.getElem?_map, List.getElem?_range hi]; rfl
    have hlen : ((List.range len).map fun i => Classical.choose (hz i)).length = len := by simp
    refine ⟨some a, len, m, (List.range len).map fun i => Classical.choose (hz i), rfl, some a, m, by rw [hlen], by rw [hlen]; exact hl, hm, fun i hi => ?_⟩
    rw [hlen] at hi
    have h1 := (hx i (by omega)).1
    obtain ⟨b, off, spot⟩ := a
    have hspot : spot = none := by simpa [Addr.add] using World.cell?_spot (hx 0 (by omega)).1
    subst hspot
    rw [Go.WideShapes.add_plain] at h1
    refine ⟨b, off, _, rfl, World.block_lt_of_cell? w _ h1, h1, ?_⟩
    rw [hg i hi]
    exact Classical.choose_spec (hz i) (by omega)
end
end Go.Proofs.Ytagcgffofddcnaa.gr
