/- What a walk is told of a slice of slices of whole numbers that came in. -/
import Derived.Test.YtpflimnngilhnaaMat
import Derived.Test.YtpflimnngilhnaaOpen
import Derived.OpenShut
import Derived.Deep.Matrix
namespace Go.Proofs.Ytpflimnngilhnaa
open Go.ChangeShapes Go.WideShapes Go.ChangeAt Go.RowKit
def IsMat (w : World) (a : Option Addr) (len cap : Nat) (L : List (List Int)) : Prop :=
  MV w (.slice a len cap) L ∧ ∀ i, ∀ x ∈ L.getD i [], (Lit.int .i64 x).wf = true
theorem open_mat {H : Type} {enc : TypeId × Value → H} {P : Program} {w : World} {base : Nat} {held : Bool} {t e q : TypeId} {fuel : Nat} {a0 : Option Addr} {l0 c0 : Nat} {x : DataW H × List MemPlace} (ht : P.underlying t = some (.slice e)) (he : P.underlying e = some (.slice q)) (hq : P.underlying q = some (.int .i64))
    (ce : P.cellsOf e = 1) (cq : P.cellsOf q = 1) (h : DataW.trod enc P w base (fun _ => true) held fuel t (Value.slice a0 l0 c0).cells.toList = some x) : ∃ L, IsMat w a0 l0 c0 L := by
  rcases Go.Deep.open_int_rows ht he hq ce cq h with ⟨hcs, _⟩ | ⟨a, len, cap, A, Ln, C, Z, hcs, _, hl, hm, _, hr⟩
  · simp [Value.cells] at hcs
    obtain ⟨rfl, rfl, rfl⟩ := hcs
    exact ⟨[], MV.nil w, by simp⟩
  · simp [Value.cells] at hcs
    obtain ⟨rfl, rfl, rfl⟩ := hcs
    have hg : ∀ i, i < l0 → ((List.range l0).map fun r => (Z r).take (Ln r)).getD i [] = (Z i).take (Ln i) := fun i hi => by
      rw [List.getD_eq_getElem?_getD, List.getElem?_map, List.getElem?_range hi]; rfl
    have hlen : ((List.range l0).map fun r => (Z r).take (Ln r)).length = l0 := by simp
    refine ⟨(List.range l0).map fun r => (Z r).take (Ln r), ⟨some a, c0, by rw [hlen], by rw [hlen]; exact hl, hm, fun i hi => ?_⟩, fun i y hy => ?_⟩
    · rw [hlen] at hi
      obtain ⟨h1, h2, h3, h4, h5, h6, h7⟩ := hr i (by omega)
      obtain ⟨b, off, spot⟩ := a
      have hspot : spot = none := by simpa [Addr.add] using World.cell?_spot (hr 0 (by omega)).1
      subst hspot
      rw [Go.WideShapes.add_plain] at h1
      refine ⟨b, off, _, rfl, World.block_lt_of_cell? w _ h1, h1, ?_⟩
      rw [hg i hi]
      refine view_of_row ?_
      cases hA : A i with
      | none =>
        have h0 := h6 hA
        exact .inl ⟨rfl, by omega, h0, List.eq_nil_of_length_eq_zero (by omega)⟩
      | some a' => exact .inr ⟨a', rfl, h2, h3, h4, fun c hc => (h7 a' hA).2 c (by omega), h5⟩
    · by_cases hi : i < l0
      · rw [hg i hi] at hy
        obtain ⟨h1, h2, h3, h4, h5, h6, h7⟩ := hr i (by omega)
        exact h5 y (List.mem_of_mem_take hy)
      · rw [List.getD_eq_getElem?_getD, List.getElem?_eq_none (by rw [hlen]; omega)] at hy
        simp at hy
end Go.Proofs.Ytpflimnngilhnaa
