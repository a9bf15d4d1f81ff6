/- Where each word is: the law LayoutTells answers true. No condition. -/
import Derived.Test.YtfigabjcmpakeaaEight
import Derived.Test.YtfigabjcmpakeaaLay11
import Derived.Deep.RegionHeld3
import Derived.Deep.DrawnRows
import Derived.Deep.Cut
import Derived.Outline
namespace Go.Proofs.Ytfigabjcmpakeaa.layoutTells
open Go.ChangeShapes Go.WideShapes Go.ChangeAt Go.RowKit
attribute [local go_sem ↓] Go.wp_at_zero Go.wp_at_succ
set_option linter.unusedVariables false
set_option linter.unusedSimpArgs false
set_option maxRecDepth 20000 in
set_option maxHeartbeats 4000000 in
theorem bad (a b c d wk n id it : Int) (w : World) (hO : Hid (¬ Okay a b c d)) :
    Calls Try.prog 11 #[.agg #[.int .i64 a, .int .i64 b, .int .i64 c, .int .i64 d], .int .i64 wk, .int .i64 n, .int .i64 id, .int .i64 it] w fun e w' => e = .returned (.bool true) ∧ Below w.heap.size w w' := by
  have hw0 : IntKind.i64.wrap 0 = 0 := by decide
  go_enter Try.func11, Try.ntmps11
  go_wp2_with fail
  refine (works11 _).mono ?_
  rintro e wx ⟨rfl, hb1⟩
  obtain ⟨p0, p1, p2, p3, hbW⟩ := recv4 hb1
  clear hb1
  obtain ⟨P, hP⟩ : ∃ P, P = w.heap.size := ⟨_, rfl⟩
  rw [← hP] at p0 p1 p2 p3 ⊢
  clear hP
  go_wp2_with fail
  refine (right_no a b c d _ hO).mono ?_
  rintro e w0 ⟨rfl, hb2⟩
  have hb3 := Below.tr (show Below wx.heap.size wx _ from (Below.refl _ _).alloc (Nat.le_refl _) _) hb2
  clear hb2
  replace p0 := keepc p0 hb3
  replace p1 := keepc p1 hb3
  replace p2 := keepc p2 hb3
  replace p3 := keepc p3 hb3
  replace hbW := Below.tr hbW hb3
  clear hb3
  go_wp2_with fail
  go_region_held3 (fun w' => Below w.heap.size w w' ∧ w'.cell? ⟨P, 0, none⟩ = some (.int .i64 a) ∧ w'.cell? ⟨P, 1, none⟩ = some (.int .i64 b) ∧ w'.cell? ⟨P, 2, none⟩ = some (.int .i64 c) ∧ w'.cell? ⟨P, 3, none⟩ = some (.int .i64 d)) (first | (with_reducible assumption) | exact ⟨hbW, p0, p1, p2, p3⟩ | (refine keep4 ⟨hbW, p0, p1, p2, p3⟩ ?_; go_grown; done) | (refine keep4 (by with_reducible assumption) ?_; first | (with_reducible assumption) | (go_grown; done)))
    (first | (go_at_call 45; refine (check_no a b c d _ hO).mono ?_; rintro e w1 ⟨rfl, hn1⟩) | (go_at_call 46; refine (size_no a b c d _ hO).mono ?_; rintro e w2 ⟨rfl, hn2⟩) | (go_at_call 47; refine (room_no a b c d _ hO).mono ?_; rintro e w3 ⟨rfl, hn3⟩) | (go_at_call 48; refine (base_no a b c d wk _ hO).mono ?_; rintro e w4 ⟨rfl, hn4⟩) | (go_at_call 49; refine (slot_no a b c d wk n _ hO).mono ?_; rintro e w5 ⟨rfl, hn5⟩) | (go_at_call 50; refine (frame_no a b c d id _ hO).mono ?_; rintro e w6 ⟨rfl, hn6⟩) | (go_at_call 51; refine (nap_no a b c d id _ hO).mono ?_; rintro e w7 ⟨rfl, hn7⟩) | (go_at_call 52; refine (counter_no a b c d id it _ hO).mono ?_; rintro e w8 ⟨rfl, hn8⟩) | (go_at_call 53; refine (status_no a b c d id it _ hO).mono ?_; rintro e w9 ⟨rfl, hn9⟩) | (go_at_call 54; refine (link_no a b c d id it _ hO).mono ?_; rintro e w10 ⟨rfl, hn10⟩) | (go_at_call 55; refine (done_no a b c d id it _ hO).mono ?_; rintro e w11 ⟨rfl, hn11⟩))
  all_goals
    go_wp2_with fail
    go_ret
    exact ⟨by simp [hw0], And.left (by assumption)⟩
end Go.Proofs.Ytfigabjcmpakeaa.layoutTells
