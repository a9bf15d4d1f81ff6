/- Where each word is: the law LayoutTells answers true, for plans that may be and that may not. No condition. -/
import Derived.Test.YtfigabjcmpakeaaWLtBad
import Derived.Test.YtfigabjcmpakeaaWLtGood
import Derived.Test.YtfigabjcmpakeaaStr4
namespace Go.Proofs.Ytfigabjcmpakeaa.layoutTells
open Go.ChangeShapes Go.WideShapes Go.ChangeAt Go.RowKit
set_option linter.unusedVariables false
theorem walk (a0_0 a0_1 a0_2 a0_3 : Int) (a1 : Int) (a2 : Int) (a3 : Int) (a4 : Int) (w : World) (w0_0 : (Lit.int .i64 a0_0).wf = true) (w0_1 : (Lit.int .i64 a0_1).wf = true) (w0_2 : (Lit.int .i64 a0_2).wf = true) (w0_3 : (Lit.int .i64 a0_3).wf = true) (w1 : (Lit.int .i64 a1).wf = true) (w2 : (Lit.int .i64 a2).wf = true) (w3 : (Lit.int .i64 a3).wf = true) (w4 : (Lit.int .i64 a4).wf = true) :
    Calls Try.prog 11 #[.agg #[.int .i64 a0_0, .int .i64 a0_1, .int .i64 a0_2, .int .i64 a0_3], .int .i64 a1, .int .i64 a2, .int .i64 a3, .int .i64 a4] w fun e w' => e = .returned (.bool true) ∧ Below w.heap.size w w' := by
  by_cases hO : Okay a0_0 a0_1 a0_2 a0_3
  · obtain ⟨x0, x1, y0, y1, z0, z1, t0, t1⟩ := hO
    obtain ⟨a, rfl⟩ : ∃ a : Nat, a0_0 = a := ⟨a0_0.toNat, by omega⟩
    obtain ⟨b, rfl⟩ : ∃ b : Nat, a0_1 = b := ⟨a0_1.toNat, by omega⟩
    obtain ⟨c, rfl⟩ : ∃ c : Nat, a0_2 = c := ⟨a0_2.toNat, by omega⟩
    obtain ⟨d, rfl⟩ : ∃ d : Nat, a0_3 = d := ⟨a0_3.toNat, by omega⟩
    exact good a b c d a1 a2 a3 a4 w (Lib.hid ⟨x0, x1, y0, y1, z0, z1, t0, t1⟩)
  · exact bad a0_0 a0_1 a0_2 a0_3 a1 a2 a3 a4 w (Lib.hid hO)
end Go.Proofs.Ytfigabjcmpakeaa.layoutTells
