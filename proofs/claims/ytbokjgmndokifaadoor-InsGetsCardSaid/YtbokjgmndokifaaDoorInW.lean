/- What has to work at all (layer 3). -/
import Derived.Test.YtbokjgmndokifaaDoorInF
import Derived.Test.YtbokjgmndokifaaDoorInN
import Derived.Test.YtbokjgmndokifaaDoorInP
namespace Go.Proofs.YtbokjgmndokifaaDoor.ins
open Go.ChangeShapes Go.WideShapes Go.ChangeAt Go.RowKit
open Go.Proofs.YtbokjgmndokifaaDoor.bin Go.Proofs.YtbokjgmndokifaaDoor.bits
set_option linter.unusedVariables false
set_option linter.unusedSimpArgs false
theorem cel4 {w : World} {g : Nat} {a b c d : Value} {e : TypeId} (h : w.heap[g]? = some (.cells #[a, b, c, d] e (0, 0))) : w.cell? ⟨g, 0, none⟩ = some a ∧ w.cell? ⟨g, 1, none⟩ = some b ∧ w.cell? ⟨g, 2, none⟩ = some c ∧ w.cell? ⟨g, 3, none⟩ = some d := ⟨cel h 0, cel h 1, cel h 2, cel h 3⟩
theorem gv_nil : GV [] = .tuple #[.agg #[.int .i64 0, .int .i64 0, .int .i64 0, .int .i64 0], .int .i64 1] := gv_bad [] 1 rfl (by decide)
theorem w_chk : chkI 1 2 (-1) 0 = 0 := by decide
theorem w_enc : encI 1 2 (-1) 0 = [1, 2, 255, 255] := by decide
theorem w_get : GV [19, 1, 0, 7] = .tuple #[.agg #[.int .i64 19, .int .i64 1, .int .i64 7, .int .i64 0], .int .i64 0] := by
  unfold GV
  rw [show getV [19, 1, 0, 7] 0 = 19 from by decide, show getV [19, 1, 0, 7] 1 = 1 from by decide, show getV [19, 1, 0, 7] 2 = 7 from by decide, show getV [19, 1, 0, 7] 3 = 0 from by decide, show getE [19, 1, 0, 7] = 0 from by decide]
theorem w_of : ∀ j, j < 26 → (nmL.getD j [] == [119, 97, 105, 116]) = decide (true = true ∧ j = 23) := by decide
set_option maxRecDepth 20000 in
theorem works03 (w : World) (hN : NM w) : Calls Tryd.prog 7 #[] w fun e w' => e = .returned (.bool true) ∧ Below w.heap.size w w' := by
  have C1 := pput_of 1 2 (-1) 0 0 w w_chk
  rw [if_pos rfl, w_enc] at C1
  replace C1 := Lib.hid C1
  have C2 := fun w => pget_of [19, 1, 0, 7] w
  rw [w_get] at C2
  replace C2 := Lib.hid C2
  have C3 := fun w h => of_name [119, 97, 105, 116] 23 true w h (Lib.hid w_of) (fun _ => by omega) (fun h => by cases h)
  replace C3 := Lib.hid C3
  have HEQ : ∀ w : World, (binOp .eql 30 (.agg #[.int .i64 19, .int .i64 1, .int .i64 7, .int .i64 0]) (.agg #[.int .i64 19, .int .i64 1, .int .i64 7, .int .i64 0])).run Tryd.prog w = .ok (.bool true) w := fun w => ins_eq 19 1 7 0 19 1 7 0 true w rfl
  have HN := Lib.hid hN
  clear hN
  go_enter Tryd.func7, Tryd.ntmps7
  go_wp2_with (go_at_call 13; (refine C1.out.mono ?_); rintro e w1 ⟨rfl, hb1⟩)
  refine (C2.out _).mono ?_
  rintro e w2 ⟨rfl, hb2⟩
  have hB2 := tr3 hb1 hb2
  have hnm := (HN.out.below hB2).below (w' := w2.alloc (.cells #[.int .i64 19, .int .i64 1, .int .i64 7, .int .i64 0] 30)) (by go_grown)
  have C4 := Lib.hid (C3.out _ hnm)
  have HB2 := Lib.hid hB2
  clear hb1 hb2 hB2 hnm C1 C2 C3
  go_wp2_with (go_at_call 12; (refine C4.out.mono ?_); rintro e w3 ⟨rfl, rfl⟩)
  go_ret
  exact ⟨rfl, HB2.out.alloc HB2.out.size _⟩
end Go.Proofs.YtbokjgmndokifaaDoor.ins
