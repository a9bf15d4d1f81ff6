/- That the laws of layer 11 begin. -/
import Derived.Test.YtfigabjcmpakeaaLayout3
namespace Go.Proofs.Ytfigabjcmpakeaa
open Go.ChangeShapes Go.WideShapes Go.ChangeAt Go.RowKit
set_option linter.unusedVariables false
set_option linter.unusedSimpArgs false
theorem works11 (w : World) : Calls Try.prog 43 #[] w fun e w' => e = .returned (.bool true) ∧ Below w.heap.size w w' := by
  have hO : Hid (Okay 1 1 1 2) := Lib.hid (by unfold Okay; omega)
  have hF : Hid ((1 : Int) * (4 + 2) + (1 - 1) * (2 + (1 + 1) * 4) = 6) := Lib.hid (by decide)
  go_enter Try.func43, Try.ntmps43
  go_wp2_with fail
  refine (check_ok 1 1 1 2 _ hO).mono ?_
  rintro e w1 ⟨rfl, hb1⟩
  obtain ⟨c0, c1, c2, c3, hb⟩ := recv4 hb1
  clear hb1
  go_wp2_with fail
  refine (size_of 1 1 1 2 6 10 _ hO (Lib.hid (by decide)) (Lib.hid (by decide))).mono ?_
  rintro e w2 ⟨rfl, hb2⟩
  replace c0 := keepc c0 hb2
  replace c1 := keepc c1 hb2
  replace c2 := keepc c2 hb2
  replace c3 := keepc c3 hb2
  replace hb := Below.tr hb hb2
  clear hb2
  go_wp2_with fail
  refine (room_of 1 1 1 2 10 _ hO (Lib.hid (by decide))).mono ?_
  rintro e w3 ⟨rfl, hb2⟩
  replace c0 := keepc c0 hb2
  replace c1 := keepc c1 hb2
  replace c2 := keepc c2 hb2
  replace c3 := keepc c3 hb2
  replace hb := Below.tr hb hb2
  clear hb2
  go_wp2_with fail
  refine (frame_of 1 1 1 2 1 6 _ hO (by decide) (by decide) hF).mono ?_
  rintro e w4 ⟨rfl, hb2⟩
  replace c0 := keepc c0 hb2
  replace c1 := keepc c1 hb2
  replace c2 := keepc c2 hb2
  replace c3 := keepc c3 hb2
  replace hb := Below.tr hb hb2
  clear hb2
  go_wp2_with fail
  refine (done_of 1 1 1 2 1 1 6 1 _ hO (by decide) (by decide) hF (by decide) (Lib.hid (by decide))).mono ?_
  rintro e w5 ⟨rfl, hb2⟩
  replace c0 := keepc c0 hb2
  replace c1 := keepc c1 hb2
  replace c2 := keepc c2 hb2
  replace c3 := keepc c3 hb2
  replace hb := Below.tr hb hb2
  clear hb2
  go_wp2_with fail
  go_ret
  exact ⟨rfl, hb⟩
end Go.Proofs.Ytfigabjcmpakeaa
