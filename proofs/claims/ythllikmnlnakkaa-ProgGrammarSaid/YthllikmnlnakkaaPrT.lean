/- Where instructions lead, as the document says it (layer 4). Pure. -/
import Derived.Test.YthllikmnlnakkaaPrS
namespace Go.Proofs.Ythllikmnlnakkaa.pr
open Go.ChangeShapes Go.WideShapes Go.ChangeAt Go.RowKit
open Go.Proofs.Ythllikmnlnakkaa.bin Go.Proofs.Ythllikmnlnakkaa.bits Go.Proofs.Ythllikmnlnakkaa.ins
set_option linter.unusedVariables false
set_option linter.unusedSimpArgs false
/-- an instruction leads to where nothing is -/
def away (op A B : Int) (p q : Nat) : Bool := (op == 18 && decide ((p : Int) ≤ A)) || (op == 19 && decide ((p : Int) ≤ B)) || ((op == 20 || op == 22) && decide ((q : Int) ≤ A))
theorem ld_away (op A B C : Int) (p q : Nat) (h0 : 0 ≤ op) (h1 : op ≤ 25) : leadsI op A B C p q = !away op A B p q := by
  have hc : op = 0 ∨ op = 1 ∨ op = 2 ∨ op = 3 ∨ op = 4 ∨ op = 5 ∨ op = 6 ∨ op = 7 ∨ op = 8 ∨ op = 9 ∨ op = 10 ∨ op = 11 ∨ op = 12 ∨ op = 13 ∨ op = 14 ∨ op = 15 ∨ op = 16 ∨ op = 17 ∨ op = 18 ∨ op = 19 ∨ op = 20 ∨ op = 21 ∨ op = 22 ∨ op = 23 ∨ op = 24 ∨ op = 25 := by omega
  rcases hc with rfl | rfl | rfl | rfl | rfl | rfl | rfl | rfl | rfl | rfl | rfl | rfl | rfl | rfl | rfl | rfl | rfl | rfl | rfl | rfl | rfl | rfl | rfl | rfl | rfl | rfl <;> simp [leadsI, frmI, frm, ldL, three, away] <;> (try split) <;> simp_all <;> omega
end Go.Proofs.Ythllikmnlnakkaa.pr
