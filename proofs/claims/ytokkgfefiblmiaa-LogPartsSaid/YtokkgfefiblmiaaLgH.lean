/- The anchor of layer 24's laws (layer 24). -/
import Derived.Test.YtokkgfefiblmiaaLgG
import Derived.Test.YtokkgfefiblmiaaView
namespace Go.Proofs.Ytokkgfefiblmiaa.lg
open Go.ChangeShapes Go.WideShapes Go.ChangeAt Go.RowKit Go.Maps
open Go.Proofs.Ytokkgfefiblmiaa.ro Go.Shelf
set_option linter.unusedVariables false
set_option linter.unusedSimpArgs false
attribute [local go_sem ↓] Go.wp_at_zero Go.wp_at_succ
attribute [local go_sem] Oper.semAt_some
def e1 : I4 := (1, 1, 0, 0)
def e2 : I4 := (4, 1, 0, 0)
set_option maxRecDepth 20000 in
set_option maxHeartbeats 1000000 in
theorem works_v (w : World) : Calls Try.prog 5 #[] w fun e w' => e = .returned (.bool true) ∧ Below w.heap.size w w' := by
  go_enter Try.func5, Try.ntmps5
  go_wp2_with fail
  refine (new_v w).mono ?_
  rintro e w1 ⟨rfl, hb, hA⟩
  obtain ⟨A, hAe⟩ : ∃ A, A = w.heap.size := ⟨_, rfl⟩
  rw [← hAe] at hA ⊢
  have HE := Lib.hid hAe
  clear hAe
  have HB := Lib.hid hb
  have HS := Lib.hid hb.size
  clear hb
  go_wp2_with fail
  refine (note_v hA (by rw [HE.out]; exact HS.out) (by simp) 1 1 0 0).mono ?_
  rintro e w2 ⟨rfl, v2, hA2, hb2⟩
  rw [HE.out] at hb2
  replace HB := Lib.hid (HB.out.trans hb2)
  replace HS := Lib.hid (Nat.le_trans HS.out hb2.size)
  clear hb2 hA
  go_wp2_with fail
  refine (note_v hA2 (by rw [HE.out]; exact HS.out) (by simp) 4 1 0 0).mono ?_
  rintro e w3 ⟨rfl, v3, hA3, hb3⟩
  rw [HE.out] at hb3
  replace HB := Lib.hid (HB.out.trans hb3)
  replace HS := Lib.hid (Nat.le_trans HS.out hb3.size)
  clear hb3 hA2
  rw [List.nil_append, List.cons_append, List.nil_append] at hA3
  have H3 := Lib.hid hA3
  clear hA3
  go_wp2_with fail
  refine (last_v H3.out 1 rfl (by decide) 4 1 0 0 rfl).mono ?_
  rintro e w4 ⟨rfl, hb4⟩
  have H4 := Lib.hid (H3.out.below hb4)
  replace HB := Lib.hid (HB.out.trans (hb4.mono HS.out))
  replace HS := Lib.hid (Nat.le_trans HS.out hb4.size)
  clear hb4 H3
  go_wp2_with fail
  have hc0 := cel (heap_new w4 (.cells #[.int .i64 4, .int .i64 1, .int .i64 0, .int .i64 0] 28)) 0
  have hlt : w4.heap.size < (w4.alloc (.cells #[.int .i64 4, .int .i64 1, .int .i64 0, .int .i64 0] 28)).heap.size := by simp
  have hb5 : Below w4.heap.size w4 (w4.alloc (.cells #[.int .i64 4, .int .i64 1, .int .i64 0, .int .i64 0] 28)) := (Below.refl _ _).alloc (Nat.le_refl _) _
  obtain ⟨w5, hw5⟩ : ∃ w5, w4.alloc (.cells #[.int .i64 4, .int .i64 1, .int .i64 0, .int .i64 0] 28) = w5 := ⟨_, rfl⟩
  rw [hw5] at hc0 hlt hb5 ⊢
  clear hw5
  have H5 := Lib.hid (H4.out.below hb5)
  replace HB := Lib.hid (HB.out.trans (hb5.mono HS.out))
  replace HS := Lib.hid (Nat.le_trans HS.out hb5.size)
  clear hb5 H4
  refine (len_v H5.out).mono ?_
  rintro e w5' ⟨rfl, rfl⟩
  go_wp2_with fail
  refine (count_v _ A _ _ w5' 1 (by simp) H5.out).mono ?_
  rintro e w6 ⟨rfl, hb6⟩
  have H6 := Lib.hid (H5.out.below hb6)
  replace HB := Lib.hid (HB.out.trans (hb6.mono HS.out))
  replace HS := Lib.hid (Nat.le_trans HS.out hb6.size)
  have hn : ((tel (qk 1) [(1, 1, 0, 0), (4, 1, 0, 0)] [(1, 1, 0, 0), ((4 : Int), (1 : Int), (0 : Int), (0 : Int))].length).length : Int) = 1 := by decide
  rw [hn]
  clear hb6 H5 hc0 hn
  go_wp2_with fail
  refine (loops_v _ A _ _ w6 (by simp) (fun x hx => by simp at hx; rcases hx with rfl | rfl <;> decide) H6.out).mono ?_
  rintro e w7 ⟨u, rfl, hr, hb7⟩
  replace HB := Lib.hid (HB.out.trans (hb7.mono HS.out))
  have hs7 := hb7.size
  clear hb7 H6
  go_wp2_with fail
  have hb8 : Below w7.heap.size w7 (w7.alloc (.cells #[.int .i64 1] 3)) := (Below.refl _ _).alloc (Nat.le_refl _) _
  have hV : View w7 u [1] := view_of_own (xs := [1]) hr
  have hC := Lib.hid (ints_any u (.slice (some ⟨w7.heap.size, 0, none⟩) 1 1) [1] [1] _ (hV.below hb8) (view1 w7.heap.size 1 _ (cell_new_l w7 (.int .i64 1) 3).1))
  obtain ⟨w8, hw8⟩ : ∃ w8, w7.alloc (.cells #[.int .i64 1] 3) = w8 := ⟨_, rfl⟩
  rw [hw8] at hC hb8 ⊢
  replace HB := Lib.hid (HB.out.trans (hb8.mono (Nat.le_trans HS.out (by assumption))))
  clear hr hV hb8 hw8
  refine hC.out.mono ?_
  rintro e w9 ⟨rfl, m, rfl⟩
  rw [show (([1] : List Int) == [1]) = true from rfl]
  go_wp2_with fail
  go_ret
  exact ⟨rfl, HB.out.trans (Below.mono (lg.below_drewN w8 m) HB.out.size)⟩
end Go.Proofs.Ytokkgfefiblmiaa.lg
