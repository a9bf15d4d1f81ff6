/- works of layer 7. -/
import Derived.Test.YtdneblbaofhehaaBdS
namespace Go.Proofs.Ytdneblbaofhehaa.bd
open Go.ChangeShapes Go.WideShapes Go.ChangeAt Go.RowKit Go.Maps
open Go.Proofs.Ytdneblbaofhehaa.ro
open Go.Proofs.Ytdneblbaofhehaa.pr
open Go.Proofs.Ytdneblbaofhehaa.ins (kb tr3)
attribute [local go_sem ↓] Go.wp_at_zero Go.wp_at_succ
set_option linter.unusedVariables false
set_option linter.unusedSimpArgs false
abbrev sA : ByteArray := ⟨#[97]⟩
abbrev LW : List (List I4) := [[(18, 1, 0, 0), (0, 0, 0, 0)]]
theorem pmlit (w : World) : PM ((w.alloc (.cells #[.int .i64 18, .int .i64 1, .int .i64 0, .int .i64 0, .int .i64 0, .int .i64 0, .int .i64 0, .int .i64 0] 33)).alloc (.cells #[.slice (some ⟨w.heap.size, 0, none⟩) 2 2] 50)) (.slice (some ⟨w.heap.size + 1, 0, none⟩) 1 1) LW := by
  obtain ⟨h1, h2⟩ := two w (.cells #[.int .i64 18, .int .i64 1, .int .i64 0, .int .i64 0, .int .i64 0, .int .i64 0, .int .i64 0, .int .i64 0] 33) (.cells #[.slice (some ⟨w.heap.size, 0, none⟩) 2 2] 50)
  refine ⟨some ⟨w.heap.size + 1, 0, none⟩, 1, rfl, by simp, by unfold maxLen; omega, fun i hi => ?_⟩
  have hi0 : i = 0 := by simpa using hi
  subst hi0
  refine ⟨w.heap.size + 1, 0, .slice (some ⟨w.heap.size, 0, none⟩) 2 2, rfl, ro.lt_of h2, ro.cel h2 0, ⟨some ⟨w.heap.size, 0, none⟩, 2, rfl, by simp, by unfold maxLen; omega, by simp, fun i x hx => ⟨w.heap.size, 0, rfl, ro.lt_of h1, fun j u hu => ?_⟩⟩⟩
  rw [Nat.zero_add]
  match i, hx with
  | 0, hx =>
    cases hx
    match j, hu with
    | 0, hu => cases hu; exact ro.cel h1 0
    | 1, hu => cases hu; exact ro.cel h1 1
    | 2, hu => cases hu; exact ro.cel h1 2
    | 3, hu => cases hu; exact ro.cel h1 3
    | j + 4, hu => simp [enI] at hu
  | 1, hx =>
    cases hx
    match j, hu with
    | 0, hu => cases hu; exact ro.cel h1 4
    | 1, hu => cases hu; exact ro.cel h1 5
    | 2, hu => cases hu; exact ro.cel h1 6
    | 3, hu => cases hu; exact ro.cel h1 7
    | j + 4, hu => simp [enI] at hu
  | i + 2, hx => simp at hx
set_option maxRecDepth 20000 in
set_option maxHeartbeats 2000000 in
theorem works_v (w : World) : Calls Try.prog 6 #[] w fun e w' => e = .returned (.bool true) ∧ Below w.heap.size w w' := by
  have HN := Lib.hid (new_v 1 w)
  go_enter Try.func6, Try.ntmps6
  go_wp2_with fail
  refine HN.out.mono ?_
  rintro e w1 ⟨Bb, ρ1, rfl, hB⟩
  have H1 := Lib.hid (func_v hB (by simp))
  clear hB HN
  go_wp2_with fail
  refine H1.out.mono ?_
  rintro e w2 ⟨ρ2, fv, F, M, rfl, hB⟩
  have H2 := Lib.hid (goto_of (leap_v (n := 0) hB rfl rfl (by omega) (by simp) (by simp) sA 18 0 0 0))
  clear hB H1
  go_wp2_with fail
  refine H2.out.mono ?_
  rintro e w3 ⟨rfl, ρ3, cv, lv, hB⟩
  have H3 := Lib.hid (label_v (n := 0) hB rfl rfl (by omega) (by simp [lpd]) sA (by decide) rfl (by simp [lpd]))
  clear hB H2
  go_wp2_with fail
  refine H3.out.mono ?_
  rintro e w4 ⟨rfl, ρ4, hB⟩
  obtain ⟨W, hW⟩ : ∃ W, w4.alloc (.cells #[.int .i64 0, .int .i64 0, .int .i64 0, .int .i64 0] 33) = W := ⟨_, rfl⟩
  have hB2 := hB.below (w' := W) (by rw [← hW]; go_grown)
  have H4 := Lib.hid (add_v (n := 0) hB2 rfl rfl (by omega) (by simp [lpd]) w4.heap.size 1 (0, 0, 0, 0) (by rw [← hW]; exact rec_new rfl rfl))
  clear hB hB2 H3
  go_wp2_with fail
  refine H4.out.mono ?_
  rintro e w5 ⟨rfl, ρ5, cv5, hB⟩
  have H5 := Lib.hid (end_v hB (by simp) (fun j x hx => by
    match j, hx with
    | 0, hx =>
      simp at hx
      subst hx
      refine ⟨by simp [lpd], by simp [lpd], fun i l hl => ?_⟩
      match i, hl with
      | 0, hl =>
        simp [lpd] at hl
        subst hl
        exact ⟨0, rfl, by simp [lpd], by decide⟩
      | i + 1, hl => simp [lpd] at hl
    | j + 1, hx => simp at hx) (some [[(18, 1, 0, 0), (0, 0, 0, 0)]]) (by simp [allR, ledR, lpd, fill1, fillI]))
  have HB5 := Lib.hid hB.b
  clear hB H4 hW
  go_wp2_with fail
  refine H5.out.mono ?_
  rintro e w6 ⟨hb6, hm⟩
  have hm' : if prE 1 LW = 0 then ∃ v rows, e = .returned (.tuple #[.agg #[.int .i64 1, v], .int .i64 0]) ∧ OP w6 (w5.heap.size + 1 + 1) v rows LW else e = .returned (.tuple #[.agg #[.int .i64 0, .slice none 0 0], .int .i64 (prE 1 LW)]) := hm
  rw [if_pos (by decide)] at hm'
  obtain ⟨v, rows, rfl, hp⟩ := hm'
  have hpm := OP.pm hp
  obtain ⟨va, vc, hv, _, _⟩ := hpm.form
  have hv1 : v = .slice va 1 vc := hv
  subst hv1
  have HPM := Lib.hid hpm
  have HB6 := Lib.hid (HB5.out.trans (hb6.mono HB5.out.size))
  clear hm hp hpm hv hb6 H5 HB5
  go_wp2_with fail
  have hl := pmlit (w6.alloc (.cells #[.int .i64 1, .slice va 1 vc] 38))
  have e9 : (w6.alloc (.cells #[.int .i64 1, .slice va 1 vc] 38)).heap.size = w6.heap.size + 1 := by simp
  rw [e9] at hl
  obtain ⟨W9, hW9⟩ : ∃ W9, ((w6.alloc (.cells #[.int .i64 1, .slice va 1 vc] 38)).alloc (.cells #[.int .i64 18, .int .i64 1, .int .i64 0, .int .i64 0, .int .i64 0, .int .i64 0, .int .i64 0, .int .i64 0] 33)).alloc (.cells #[.slice (some ⟨w6.heap.size + 1, 0, none⟩) 2 2] 50) = W9 := ⟨_, rfl⟩
  have hb9 : Below w6.heap.size w6 W9 := by rw [← hW9]; go_grown
  rw [hW9] at hl ⊢
  refine (same_v 1 va _ 1 1 vc 1 LW W9 (HPM.out.below hb9) hl).mono ?_
  rintro e w7 ⟨rfl, hb7⟩
  have HB7 := Lib.hid (tr3 HB6.out (tr3 hb9 hb7))
  clear hl hb9 hW9 hb7 e9
  go_wp2_with fail
  go_ret
  exact ⟨rfl, HB7.out⟩
end Go.Proofs.Ytdneblbaofhehaa.bd
