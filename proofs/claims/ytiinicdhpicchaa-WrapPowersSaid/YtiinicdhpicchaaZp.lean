/- WrapPowers of no numbers. -/
import Derived.Test.YtiinicdhpicchaaWp1
namespace Go.Proofs.Ytiinicdhpicchaa.wrapPowers
open Go.ChangeShapes Go.WideShapes Go.ChangeAt Go.RowKit
open Go.Proofs.Ytiinicdhpicchaa.ref01
attribute [local go_sem ↓] Go.wp_at_zero Go.wp_at_succ
set_option linter.unusedVariables false
set_option linter.unusedSimpArgs false
theorem view_e (w : World) (x : Addr) (c : Nat) (h : c ≤ maxLen) : View w (.slice (some x) 0 c) [] := ⟨_, c, rfl, ⟨Nat.zero_le _, h⟩, (fun h => by cases h), fun h => absurd rfl h⟩
theorem own_nil_cases {w : World} {B : Nat} {v : Value} (h : w.ownsRow B 3 1 v ([] : List Int).length (([] : List Int).map (Value.int .i64))) : v = .slice none 0 0 ∨ (∃ g, v = .slice (some ⟨g, 0, none⟩) 0 0) ∨ ∃ g c, v = .slice (some ⟨g, 0, none⟩) 0 c ∧ 0 < c ∧ c ≤ maxLen := by
  obtain ⟨_, h | ⟨g, c, _, h, _, _, _, h2, _⟩⟩ := h
  · exact .inl h.1
  · rcases Nat.eq_zero_or_pos c with rfl | hc
    · exact .inr (.inl ⟨g, h⟩)
    · exact .inr (.inr ⟨g, c, h, hc, h2⟩)
set_option maxRecDepth 20000 in
set_option maxHeartbeats 4000000 in
theorem zeroN (a1 a2 : Int) (m n : Nat) (w : World) (hm : m ≤ 255) (hn : n ≤ 255) (l1 : -9223372036854775808 ≤ a2) (l2 : a2 ≤ 9223372036854775807) :
    Calls Try.prog 6 #[.slice none 0 0, .int .i64 a1, .int .i64 a2, .int .u8 m, .int .u8 n] w fun e w' => e = .returned (.bool true) ∧ Below w.heap.size w w' := by
  go_enter Try.func6, Try.ntmps6
  go_wp2_with fail
  refine (works_any _).mono ?_
  rintro e w1 ⟨rfl, hb1⟩
  go_wp2_with (at_builtin; refine wpList_copy_row rfl _ _ rfl w1.heap.size w1.heap.size rfl ?o1 (Nat.le_refl _) [] ?v1 (by simp) ?_)
  case o1 => exact heap_made w1 _
  case v1 => exact View.nil _
  intro mine w2 hown hb2
  have hbx : Below w1.heap.size w1 w2 := Below.trans (by go_grown) hb2
  have hb2' : Below w.heap.size w w2 := hb1.trans (hbx.mono hb1.size)
  have hmc := own_nil_cases hown
  clear hown hbx hb2 hb1
  go_wp2_with fail
  go_region_held3 (fun w' => Below w2.heap.size w2 w')
    (first | with_reducible assumption | exact b_drew w2 | exact Below.alloc (by assumption) (Below.size (by assumption)) _ | exact Below.trans (by assumption) (by assumption))
    (first | ((refine step_copy_view rfl _ _ (by rfl) w2.heap.size (.slice (some ⟨w2.heap.size, 0, none⟩) 0 0) [] ?hs ?hrow _ [] (by rfl) ?hv ?hsm ?hB ?_; (case hs => rfl); (case hrow => exact made0 w2.drew _ (Nat.le_refl _)); (case hv => exact View.nil _); (case hsm => simp); (case hB => simp); intro v1 w3 hrow1 hbw1))
           | ((refine step_copy_view rfl _ _ (by rfl) w2.heap.size v1 ([] ++ []) ?hs ?hrow _ [] (by rfl) ?hv ?hsm ?hB ?_; (case hs => rfl); (case hrow => exact hrow1); (case hv => exact View.nil _); (case hsm => simp); (case hB => exact bsz (w := w2) (by with_reducible assumption)); intro v2 w4 hrow2 hbw2)))
  have hH : Below w2.heap.size w2 w4 := by with_reducible assumption
  have B4 := Lib.hid (hb2'.trans (hH.mono hb2'.size))
  have hv2 : View w4 v2 [] := view_of_own hrow2
  have V4 := Lib.hid hv2
  clear hH hb2' hrow2 hbw1 hbw2 hrow1 hv2
  have P1 := Lib.hid (powW_one a2 l1 l2)
  have P2 := Lib.hid (powW_add a2 m n)
  have q1 : Hid (IntKind.i64.wrap ((m : Int) + (n : Int)) = ((m + n : Nat) : Int)) := Lib.hid (by rw [IntKind.wrap_i64]; omega)
  have C1 : Hid (∀ ad c q, Calls Try.prog 12 #[.slice ad 0 c] (w4.drewN q) fun e w'' => e = .returned (.int .i64 0) ∧ ∃ m, w'' = w4.drewN m) := Lib.hid (fun ad c q => quiet_eq (sum_empty ad c _))
  have C3 : Hid (∀ q, Calls Try.prog 8 #[.int .i64 3, .int .i64 0, .int .i64 0] (w4.drewN q) fun e w'' => e = .returned (.tuple #[.int .i64 0, .int .i64 0]) ∧ ∃ m, w'' = w4.drewN m) := Lib.hid (fun q => quiet_eq (pdo_v 3 0 0 0 0 _ (Lib.hid (show (wrap64 (0 + 0), (0 : Int)) = (0, 0) from by rw [show wrap64 (0 + 0) = 0 from by unfold wrap64; omega]))))
  have C4 : Hid (∀ (w : World), Calls Try.prog 8 #[.int .i64 5, .int .i64 (powW a2 m), .int .i64 (powW a2 n)] w fun e w' => e = .returned (.tuple #[.int .i64 (powW a2 (m + n)), .int .i64 0]) ∧ w = w') := Lib.hid (fun w => pdo_v 5 _ _ _ 0 _ (Lib.hid (by rw [← P2.out]; rfl)))
  rcases hmc with rfl | ⟨g, rfl⟩ | ⟨g, c, rfl, hc, hcm2⟩
  all_goals
    try unfold maxLen at hcm2
    try have hcz2 : ¬ c = 0 := by omega
    try have hci2 : (0 : Int) ≤ (c : Int) := by omega
    go_wp2_with fail
    go_quiet ((first | (go_at_call 12; with_reducible exact C1.out _ _ _) | (go_at_call 8; with_reducible exact C3.out _)))
    go_wp2_with fail
    refine (pow_k a2 m _ (by omega)).mono ?_
    rintro e wz ⟨rfl, rfl⟩
    go_wp2_with fail
    refine (pow_k a2 n _ (by omega)).mono ?_
    rintro e wz ⟨rfl, rfl⟩
    go_wp2_with fail
    refine (C4.out _).mono ?_
    rintro e wz ⟨rfl, rfl⟩
    go_wp2_with fail
    refine (sum_empty _ _ _).mono ?_
    rintro e wz ⟨rfl, rfl⟩
    go_wp2_with fail
    refine (sum_v _ _ _ (V4.out.drewN _)).mono ?_
    rintro e wz ⟨rfl, rfl⟩
    rw [show sumW [] = 0 from rfl]
    go_wp2_with fail
    refine (pow_k a2 (m + n) _ (by omega)).mono ?_
    rintro e wz ⟨rfl, rfl⟩
    go_wp2_with fail
    refine (pow_k a2 1 _ (by omega)).mono ?_
    rintro e wz ⟨rfl, rfl⟩
    rw [P1.out]
    go_wp2_with fail
    refine (pow_mm a2 (-1) 0 _ (by omega) 0 (by decide) (by decide)).mono ?_
    rintro e wz ⟨rfl, rfl⟩
    go_wp2_with fail
    refine (pow_mm a2 2000 1000 _ (by omega) 2000 (by decide) (by decide)).mono ?_
    rintro e wz ⟨rfl, rfl⟩
    go_wp2_with fail
    refine (pow_k a2 1000 _ (by omega)).mono ?_
    rintro e wz ⟨rfl, rfl⟩
    go_wp2_with fail
    go_ret
    exact ⟨rfl, B4.out.trans (below_drewN (Below.refl _ _) _)⟩
set_option maxRecDepth 20000 in
set_option maxHeartbeats 4000000 in
theorem zeroZ (x : Addr) (a1 a2 : Int) (m n : Nat) (w : World) (hm : m ≤ 255) (hn : n ≤ 255) (l1 : -9223372036854775808 ≤ a2) (l2 : a2 ≤ 9223372036854775807) :
    Calls Try.prog 6 #[.slice (some x) 0 0, .int .i64 a1, .int .i64 a2, .int .u8 m, .int .u8 n] w fun e w' => e = .returned (.bool true) ∧ Below w.heap.size w w' := by
  go_enter Try.func6, Try.ntmps6
  go_wp2_with fail
  refine (works_any _).mono ?_
  rintro e w1 ⟨rfl, hb1⟩
  go_wp2_with (at_builtin; refine wpList_copy_row rfl _ _ rfl w1.heap.size w1.heap.size rfl ?o1 (Nat.le_refl _) [] ?v1 (by simp) ?_)
  case o1 => exact heap_made w1 _
  case v1 => exact view_e _ _ _ (by decide)
  intro mine w2 hown hb2
  have hbx : Below w1.heap.size w1 w2 := Below.trans (by go_grown) hb2
  have hb2' : Below w.heap.size w w2 := hb1.trans (hbx.mono hb1.size)
  have hmc := own_nil_cases hown
  clear hown hbx hb2 hb1
  go_wp2_with fail
  go_region_held3 (fun w' => Below w2.heap.size w2 w')
    (first | with_reducible assumption | exact b_drew w2 | exact Below.alloc (by assumption) (Below.size (by assumption)) _ | exact Below.trans (by assumption) (by assumption))
    (first | ((refine step_copy_view rfl _ _ (by rfl) w2.heap.size (.slice (some ⟨w2.heap.size, 0, none⟩) 0 0) [] ?hs ?hrow _ [] (by rfl) ?hv ?hsm ?hB ?_; (case hs => rfl); (case hrow => exact made0 w2.drew _ (Nat.le_refl _)); (case hv => exact view_e _ _ _ (by decide)); (case hsm => simp); (case hB => simp); intro v1 w3 hrow1 hbw1))
           | ((refine step_copy_view rfl _ _ (by rfl) w2.heap.size v1 ([] ++ []) ?hs ?hrow _ [] (by rfl) ?hv ?hsm ?hB ?_; (case hs => rfl); (case hrow => exact hrow1); (case hv => exact view_e _ _ _ (by decide)); (case hsm => simp); (case hB => exact bsz (w := w2) (by with_reducible assumption)); intro v2 w4 hrow2 hbw2)))
  have hH : Below w2.heap.size w2 w4 := by with_reducible assumption
  have B4 := Lib.hid (hb2'.trans (hH.mono hb2'.size))
  have hv2 : View w4 v2 [] := view_of_own hrow2
  have V4 := Lib.hid hv2
  clear hH hb2' hrow2 hbw1 hbw2 hrow1 hv2
  have P1 := Lib.hid (powW_one a2 l1 l2)
  have P2 := Lib.hid (powW_add a2 m n)
  have q1 : Hid (IntKind.i64.wrap ((m : Int) + (n : Int)) = ((m + n : Nat) : Int)) := Lib.hid (by rw [IntKind.wrap_i64]; omega)
  have C1 : Hid (∀ ad c q, Calls Try.prog 12 #[.slice ad 0 c] (w4.drewN q) fun e w'' => e = .returned (.int .i64 0) ∧ ∃ m, w'' = w4.drewN m) := Lib.hid (fun ad c q => quiet_eq (sum_empty ad c _))
  have C3 : Hid (∀ q, Calls Try.prog 8 #[.int .i64 3, .int .i64 0, .int .i64 0] (w4.drewN q) fun e w'' => e = .returned (.tuple #[.int .i64 0, .int .i64 0]) ∧ ∃ m, w'' = w4.drewN m) := Lib.hid (fun q => quiet_eq (pdo_v 3 0 0 0 0 _ (Lib.hid (show (wrap64 (0 + 0), (0 : Int)) = (0, 0) from by rw [show wrap64 (0 + 0) = 0 from by unfold wrap64; omega]))))
  have C4 : Hid (∀ (w : World), Calls Try.prog 8 #[.int .i64 5, .int .i64 (powW a2 m), .int .i64 (powW a2 n)] w fun e w' => e = .returned (.tuple #[.int .i64 (powW a2 (m + n)), .int .i64 0]) ∧ w = w') := Lib.hid (fun w => pdo_v 5 _ _ _ 0 _ (Lib.hid (by rw [← P2.out]; rfl)))
  rcases hmc with rfl | ⟨g, rfl⟩ | ⟨g, c, rfl, hc, hcm2⟩
  all_goals
    try unfold maxLen at hcm2
    try have hcz2 : ¬ c = 0 := by omega
    try have hci2 : (0 : Int) ≤ (c : Int) := by omega
    go_wp2_with fail
    go_quiet ((first | (go_at_call 12; with_reducible exact C1.out _ _ _) | (go_at_call 8; with_reducible exact C3.out _)))
    go_wp2_with fail
    refine (pow_k a2 m _ (by omega)).mono ?_
    rintro e wz ⟨rfl, rfl⟩
    go_wp2_with fail
    refine (pow_k a2 n _ (by omega)).mono ?_
    rintro e wz ⟨rfl, rfl⟩
    go_wp2_with fail
    refine (C4.out _).mono ?_
    rintro e wz ⟨rfl, rfl⟩
    go_wp2_with fail
    refine (sum_empty _ _ _).mono ?_
    rintro e wz ⟨rfl, rfl⟩
    go_wp2_with fail
    refine (sum_v _ _ _ (V4.out.drewN _)).mono ?_
    rintro e wz ⟨rfl, rfl⟩
    rw [show sumW [] = 0 from rfl]
    go_wp2_with fail
    refine (pow_k a2 (m + n) _ (by omega)).mono ?_
    rintro e wz ⟨rfl, rfl⟩
    go_wp2_with fail
    refine (pow_k a2 1 _ (by omega)).mono ?_
    rintro e wz ⟨rfl, rfl⟩
    rw [P1.out]
    go_wp2_with fail
    refine (pow_mm a2 (-1) 0 _ (by omega) 0 (by decide) (by decide)).mono ?_
    rintro e wz ⟨rfl, rfl⟩
    go_wp2_with fail
    refine (pow_mm a2 2000 1000 _ (by omega) 2000 (by decide) (by decide)).mono ?_
    rintro e wz ⟨rfl, rfl⟩
    go_wp2_with fail
    refine (pow_k a2 1000 _ (by omega)).mono ?_
    rintro e wz ⟨rfl, rfl⟩
    go_wp2_with fail
    go_ret
    exact ⟨rfl, B4.out.trans (below_drewN (Below.refl _ _) _)⟩
set_option maxRecDepth 20000 in
set_option maxHeartbeats 4000000 in
theorem zeroS (b off cap : Nat) (hcap : 0 < cap) (hcm : cap ≤ 9223372036854775807) (a1 a2 : Int) (m n : Nat) (w : World) (hm : m ≤ 255) (hn : n ≤ 255) (l1 : -9223372036854775808 ≤ a2) (l2 : a2 ≤ 9223372036854775807) :
    Calls Try.prog 6 #[.slice (some ⟨b, off, none⟩) 0 cap, .int .i64 a1, .int .i64 a2, .int .u8 m, .int .u8 n] w fun e w' => e = .returned (.bool true) ∧ Below w.heap.size w w' := by
  have hcz : ¬ cap = 0 := by omega
  have hci : (0 : Int) ≤ (cap : Int) := by omega
  go_enter Try.func6, Try.ntmps6
  go_wp2_with fail
  refine (works_any _).mono ?_
  rintro e w1 ⟨rfl, hb1⟩
  go_wp2_with (at_builtin; refine wpList_copy_row rfl _ _ rfl w1.heap.size w1.heap.size rfl ?o1 (Nat.le_refl _) [] ?v1 (by simp) ?_)
  case o1 => exact heap_made w1 _
  case v1 => exact view_e _ _ _ (by unfold maxLen; omega)
  intro mine w2 hown hb2
  have hbx : Below w1.heap.size w1 w2 := Below.trans (by go_grown) hb2
  have hb2' : Below w.heap.size w w2 := hb1.trans (hbx.mono hb1.size)
  have hmc := own_nil_cases hown
  clear hown hbx hb2 hb1
  go_wp2_with fail
  go_region_held3 (fun w' => Below w2.heap.size w2 w')
    (first | with_reducible assumption | exact b_drew w2 | exact Below.alloc (by assumption) (Below.size (by assumption)) _ | exact Below.trans (by assumption) (by assumption))
    (first | ((refine step_copy_view rfl _ _ (by rfl) w2.heap.size (.slice (some ⟨w2.heap.size, 0, none⟩) 0 0) [] ?hs ?hrow _ [] (by rfl) ?hv ?hsm ?hB ?_; (case hs => rfl); (case hrow => exact made0 w2.drew _ (Nat.le_refl _)); (case hv => exact view_e _ _ _ (by unfold maxLen; omega)); (case hsm => simp); (case hB => simp); intro v1 w3 hrow1 hbw1))
           | ((refine step_copy_view rfl _ _ (by rfl) w2.heap.size v1 ([] ++ []) ?hs ?hrow _ [] (by rfl) ?hv ?hsm ?hB ?_; (case hs => rfl); (case hrow => exact hrow1); (case hv => exact view_e _ _ _ (by unfold maxLen; omega)); (case hsm => simp); (case hB => exact bsz (w := w2) (by with_reducible assumption)); intro v2 w4 hrow2 hbw2)))
  have hH : Below w2.heap.size w2 w4 := by with_reducible assumption
  have B4 := Lib.hid (hb2'.trans (hH.mono hb2'.size))
  have hv2 : View w4 v2 [] := view_of_own hrow2
  have V4 := Lib.hid hv2
  clear hH hb2' hrow2 hbw1 hbw2 hrow1 hv2
  have P1 := Lib.hid (powW_one a2 l1 l2)
  have P2 := Lib.hid (powW_add a2 m n)
  have q1 : Hid (IntKind.i64.wrap ((m : Int) + (n : Int)) = ((m + n : Nat) : Int)) := Lib.hid (by rw [IntKind.wrap_i64]; omega)
  have C1 : Hid (∀ ad c q, Calls Try.prog 12 #[.slice ad 0 c] (w4.drewN q) fun e w'' => e = .returned (.int .i64 0) ∧ ∃ m, w'' = w4.drewN m) := Lib.hid (fun ad c q => quiet_eq (sum_empty ad c _))
  have C3 : Hid (∀ q, Calls Try.prog 8 #[.int .i64 3, .int .i64 0, .int .i64 0] (w4.drewN q) fun e w'' => e = .returned (.tuple #[.int .i64 0, .int .i64 0]) ∧ ∃ m, w'' = w4.drewN m) := Lib.hid (fun q => quiet_eq (pdo_v 3 0 0 0 0 _ (Lib.hid (show (wrap64 (0 + 0), (0 : Int)) = (0, 0) from by rw [show wrap64 (0 + 0) = 0 from by unfold wrap64; omega]))))
  have C4 : Hid (∀ (w : World), Calls Try.prog 8 #[.int .i64 5, .int .i64 (powW a2 m), .int .i64 (powW a2 n)] w fun e w' => e = .returned (.tuple #[.int .i64 (powW a2 (m + n)), .int .i64 0]) ∧ w = w') := Lib.hid (fun w => pdo_v 5 _ _ _ 0 _ (Lib.hid (by rw [← P2.out]; rfl)))
  rcases hmc with rfl | ⟨g, rfl⟩ | ⟨g, c, rfl, hc, hcm2⟩
  all_goals
    try unfold maxLen at hcm2
    try have hcz2 : ¬ c = 0 := by omega
    try have hci2 : (0 : Int) ≤ (c : Int) := by omega
    go_wp2_with fail
    go_quiet ((first | (go_at_call 12; with_reducible exact C1.out _ _ _) | (go_at_call 8; with_reducible exact C3.out _)))
    go_wp2_with fail
    refine (pow_k a2 m _ (by omega)).mono ?_
    rintro e wz ⟨rfl, rfl⟩
    go_wp2_with fail
    refine (pow_k a2 n _ (by omega)).mono ?_
    rintro e wz ⟨rfl, rfl⟩
    go_wp2_with fail
    refine (C4.out _).mono ?_
    rintro e wz ⟨rfl, rfl⟩
    go_wp2_with fail
    refine (sum_empty _ _ _).mono ?_
    rintro e wz ⟨rfl, rfl⟩
    go_wp2_with fail
    refine (sum_v _ _ _ (V4.out.drewN _)).mono ?_
    rintro e wz ⟨rfl, rfl⟩
    rw [show sumW [] = 0 from rfl]
    go_wp2_with fail
    refine (pow_k a2 (m + n) _ (by omega)).mono ?_
    rintro e wz ⟨rfl, rfl⟩
    go_wp2_with fail
    refine (pow_k a2 1 _ (by omega)).mono ?_
    rintro e wz ⟨rfl, rfl⟩
    rw [P1.out]
    go_wp2_with fail
    refine (pow_mm a2 (-1) 0 _ (by omega) 0 (by decide) (by decide)).mono ?_
    rintro e wz ⟨rfl, rfl⟩
    go_wp2_with fail
    refine (pow_mm a2 2000 1000 _ (by omega) 2000 (by decide) (by decide)).mono ?_
    rintro e wz ⟨rfl, rfl⟩
    go_wp2_with fail
    refine (pow_k a2 1000 _ (by omega)).mono ?_
    rintro e wz ⟨rfl, rfl⟩
    go_wp2_with fail
    go_ret
    exact ⟨rfl, B4.out.trans (below_drewN (Below.refl _ _) _)⟩
end Go.Proofs.Ytiinicdhpicchaa.wrapPowers
