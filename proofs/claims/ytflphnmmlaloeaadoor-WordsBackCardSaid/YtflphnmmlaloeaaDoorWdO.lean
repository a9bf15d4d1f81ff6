/- What a walk is told of a list of strings that came in (layer 5). -/
import Derived.Test.YtflphnmmlaloeaaDoorWdS
import Derived.SliceStrings
namespace Go.Proofs.YtflphnmmlaloeaaDoor.wd
open Go.ChangeShapes Go.WideShapes Go.ChangeAt Go.RowKit
open Go.Proofs.YtflphnmmlaloeaaDoor.st
set_option linter.unusedVariables false
set_option linter.unusedSimpArgs false
set_option maxRecDepth 5000 in
theorem open_strs {H : Type} {enc : TypeId × Value → H} {w : World} {base : Nat} {held : Bool} {fuel : Nat} {a : Option Addr} {n c : Nat} {cs : List Value} {y : DataW H × List MemPlace} (h : DataW.trod enc Tryd.prog w base (fun _ => true) held fuel 22 cs = some y) (hcs : cs = [.slice a n c]) :
    ∃ L, SV w (.slice a n c) L ∧ ∀ l ∈ L, l.length ≤ maxLen := by
  rcases open_strings Tryd.underlying22 Tryd.underlying9 (by kernel_rfl) h with ⟨e, _⟩ | ⟨ad, len, cap, ss, e, _, hl, hm, hss, _, hcell, hwf⟩
  · rw [hcs] at e
    simp at e
    obtain ⟨rfl, rfl, rfl⟩ := e
    exact ⟨[], ⟨none, 0, rfl, Nat.le_refl _, by simp [maxLen], fun _ => rfl, fun i x hx => by simp at hx⟩, fun l hl => by simp at hl⟩
  · rw [hcs] at e
    simp at e
    obtain ⟨rfl, rfl, rfl⟩ := e
    rw [if_pos rfl] at hss
    have hlen : ((ss.take n).map (·.data.toList)).length = n := by rw [List.length_map, List.length_take]; omega
    refine ⟨(ss.take n).map (·.data.toList), ⟨some ad, c, by rw [hlen], by rw [hlen]; exact hl, hm, (fun h => by cases h), fun i x hx => ?_⟩, fun l hl => ?_⟩
    · have hi : i < n := by have := (List.getElem?_eq_some_iff.1 hx).1; rw [hlen] at this; exact this
      obtain ⟨b, o, spot⟩ := ad
      have h0 := hcell i (by omega)
      have hspot : spot = none := by simpa [Addr.add] using World.cell?_spot (hcell 0 (by omega))
      subst hspot
      rw [Go.WideShapes.add_plain] at h0
      refine ⟨b, o, rfl, World.block_lt_of_cell? w _ h0, fun j u hu => ?_⟩
      match j, hu with
      | 0, hu =>
        simp [enS] at hu
        subst hu
        rw [Nat.mul_one, Nat.add_zero, h0]
        rw [List.getElem?_map, List.getElem?_take, if_pos hi, List.getElem?_eq_getElem (by omega)] at hx
        have hx' := Option.some.inj hx
        rw [List.getD_eq_getElem?_getD, List.getElem?_eq_getElem (by omega), ← hx']
        simp
    · obtain ⟨s, hs, rfl⟩ := List.mem_map.1 hl
      have := hwf s (List.mem_of_mem_take hs)
      rw [Array.length_toList]
      exact this
end Go.Proofs.YtflphnmmlaloeaaDoor.wd
