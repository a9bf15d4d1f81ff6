/- Words and lines, as the document has them (layer 5). -/
import Derived.Test.YtgkfnplgldigbaaGreatDoorWdI
import Derived.Test.YtgkfnplgldigbaaGreatDoorWdD
namespace Go.Proofs.YtgkfnplgldigbaaGreatDoor.wd
open Go.ChangeShapes Go.WideShapes Go.ChangeAt Go.RowKit
open Go.Proofs.YtgkfnplgldigbaaGreatDoor.st
set_option linter.unusedVariables false
set_option linter.unusedSimpArgs false
theorem one_str (w : World) (word : List UInt8) : ∀ j u, (enS word)[j]? = some u → (w.alloc (.cells #[.string ⟨word.toArray⟩] 9)).cell? ((⟨w.heap.size, 0, none⟩ : Addr).add j) = some u := by
  intro j u hu
  match j, hu with
  | 0, hu =>
    simp [enS] at hu
    subst hu
    have := cel (heap_new w #[.string ⟨word.toArray⟩] 9) 0
    simp [Addr.add, this]
theorem ne_true {l : List UInt8} (h : l.isEmpty = false) : ne l = true := by unfold ne; rw [h]; rfl
theorem ne_false {l : List UInt8} (h : l.isEmpty = true) : ne l = false := by unfold ne; rw [h]; rfl

end Go.Proofs.YtgkfnplgldigbaaGreatDoor.wd
