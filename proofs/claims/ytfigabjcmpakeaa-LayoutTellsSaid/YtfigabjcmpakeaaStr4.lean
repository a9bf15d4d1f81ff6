/- An opener for a struct of four whole numbers. -/
import Derived.Test.YtfigabjcmpakeaaGrids
namespace Go.Proofs.Ytfigabjcmpakeaa
open Go.ChangeShapes Go.WideShapes Go.RowKit
variable {H : Type} {enc : TypeId × Value → H} {P : Program} {w : World} {base : Nat} {spare : Nat → Bool} {held : Bool}
theorem openStr4 {H : Type} {enc : TypeId × Value → H} {P : Program} {w : World} {r : Reach} {b0 base : Nat} {spare : Nat → Bool} {held : Bool} {t : TypeId} {fs : Array Field} {k0 k1 k2 k3 : IntKind} {v : Value} {d : DataW H} {p : List MemPlace}
    (ht : P.underlying t = some (.struct fs)) (hk : kindsOf P t = some [k0, k1, k2, k3]) (hC : P.cellsOf t = 4) (hv : Value.okWide P w r b0 t v) (h : DataW.Trod enc P w base spare held t v d p) :
    ∃ a0 a1 a2 a3 : Int, v = .agg #[.int k0 a0, .int k1 a1, .int k2 a2, .int k3 a3] ∧ (Lit.int k0 a0).wf = true ∧ (Lit.int k1 a1).wf = true ∧ (Lit.int k2 a2).wf = true ∧ (Lit.int k3 a3).wf = true := by
  obtain ⟨cs, rfl, hsz⟩ := okWide_struct ht hv
  obtain ⟨fuel, hf⟩ := h
  have hs := struct_ints hk hC hf
  obtain ⟨a0, e0, w0⟩ := hs 0 k0 rfl
  obtain ⟨a1, e1, w1⟩ := hs 1 k1 rfl
  obtain ⟨a2, e2, w2⟩ := hs 2 k2 rfl
  obtain ⟨a3, e3, w3⟩ := hs 3 k3 rfl
  simp only [Value.cells] at e0 e1 e2 e3
  refine ⟨a0, a1, a2, a3, ?_, w0, w1, w2, w3⟩
  congr 1
  apply Array.ext'
  have hl : cs.toList.length = 4 := by rw [Array.length_toList, hsz, hC]
  generalize cs.toList = l at *
  match l, hl with
  | [c0, c1, c2, c3], _ => simp at e0 e1 e2 e3; simp [e0, e1, e2, e3]
end Go.Proofs.Ytfigabjcmpakeaa
