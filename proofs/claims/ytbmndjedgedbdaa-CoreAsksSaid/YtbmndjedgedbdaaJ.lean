/- A store that is younger than a first world. -/
import Derived.Test.YtbmndjedgedbdaaStore
namespace Go.Proofs.Ytbmndjedgedbdaa
open Go.ChangeShapes Go.WideShapes Go.ChangeAt Go.RowKit
set_option linter.unusedVariables false
/-- Behind world w0 a store of the words xs stands, that is younger than w0. -/
def J (w0 w : World) (S g : Nat) (xs : List Int) : Prop := StoreAt w S g xs ∧ Below w0.heap.size w0 w ∧ w0.heap.size ≤ g
theorem J.set {w0 w w' : World} {S g : Nat} {xs : List Int} (h : J w0 w S g xs) (i : Nat) (x : Int) (hw : w.setCell ⟨g, i, none⟩ (.int .i64 x) = w') : J w0 w' S g (xs.set i x) := by
  subst hw
  exact ⟨h.1.set i x, h.2.1.setCell h.2.2 _, h.2.2⟩
theorem new_j (n : Nat) (w0 w : World) (hb : Below w0.heap.size w0 w) (hn : n ≤ 1048576) : Calls Try.prog 36 #[.int .i64 n] w fun e w' => ∃ S g, e = .returned (.pointer (some ⟨S, 0, none⟩)) ∧ J w0 w' S g (List.replicate n 0) := by
  refine (new_n n w hn).mono ?_
  rintro e w' ⟨rfl, hs, hb'⟩
  exact ⟨_, _, rfl, hs, hb.trans (hb'.mono hb.size), hb.size⟩
end Go.Proofs.Ytbmndjedgedbdaa
