/- What a walk is told of a slice of truth values that came in. -/
import Derived.OpenShut
import Derived.ChangeArms
import Derived.WideShapes
namespace Go.Proofs.Ytfigabjcmpakeab
open Go.ChangeShapes Go.WideShapes Go.RowKit

def IsBools (w : World) (a : Option Addr) (len cap : Nat) (z : Nat → Bool) : Prop :=
  (a = none ∧ len = 0 ∧ cap = 0) ∨
  ∃ x, a = some x ∧ len ≤ cap ∧ cap ≤ maxLen ∧ ∀ i, i < cap → w.cell? (x.add i) = some (.bool (z i))
theorem IsBools.split {w : World} {a : Option Addr} {len cap : Nat} {z : Nat → Bool} (h : IsBools w a len cap z) :
    len = 0 ∨ ∃ b off, a = some ⟨b, off, none⟩ ∧ b < w.heap.size ∧ len ≤ cap ∧ cap ≤ maxLen ∧ (∀ i, i < cap → w.cell? ⟨b, off + i, none⟩ = some (.bool (z i))) := by
  rcases h with ⟨_, h, _⟩ | ⟨x, rfl, hle, hm, hc⟩
  · exact .inl h
  · by_cases h0 : len = 0
    · exact .inl h0
    · obtain ⟨b, off, spot⟩ := x
      have h1 := hc 0 (by omega)
      have hspot : spot = none := by simpa [Addr.add] using World.cell?_spot h1
      subst hspot
      rw [Go.WideShapes.add_plain] at h1
      refine .inr ⟨b, off, rfl, World.block_lt_of_cell? w _ h1, hle, hm, fun i hi => ?_⟩
      rw [← Go.WideShapes.add_plain]
      exact hc i hi
end Go.Proofs.Ytfigabjcmpakeab
