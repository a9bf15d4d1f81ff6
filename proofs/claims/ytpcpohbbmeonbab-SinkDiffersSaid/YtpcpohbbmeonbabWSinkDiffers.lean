/- Whether any list begins another one, and where two differ first, is as the chapter says: the law SinkDiffers answers true. No condition. -/
import Derived.Test.YtpcpohbbmeonbabSinkRef
namespace Go.Proofs.Ytpcpohbbmeonbab.sinkDiffers
open Go.ChangeShapes Go.WideShapes Go.ChangeAt Go.RowKit
set_option linter.unusedVariables false
set_option maxHeartbeats 400000 in
theorem big (a b : Option Addr) (n1 c1 n2 c2 : Nat) (w : World) (h : 1000 < n1 ∨ 1000 < n2) :
    Calls Try.prog 7 #[.slice a n1 c1, .slice b n2 c2] w fun e w' => e = .returned (.bool true) ∧ Below w.heap.size w w' := by
  by_cases h1 : 1000 < n1
  · clear h
    go_enter Try.func7, Try.ntmps7
    go_wp2_with (first | (go_at_call 18; refine (works22 _).mono ?_; rintro e w' ⟨rfl, hb1⟩))
    go_ret
    exact ⟨rfl, hb1⟩
  · have h2 : 1000 < n2 := by omega
    clear h
    go_enter Try.func7, Try.ntmps7
    go_wp2_with (first | (go_at_call 18; refine (works22 _).mono ?_; rintro e w' ⟨rfl, hb1⟩))
    go_ret
    exact ⟨rfl, hb1⟩
theorem pre_take (xs ys : List Int) : preB (xs.take (difK xs ys)) ys = true := by
  by_cases h : xs = ys
  · subst h; rw [difK_same]; exact (preC_iff _ _).2 (by simp)
  · obtain ⟨h1, h2, h3, _⟩ := difK_at xs ys h
    have hl : (xs.take (difK xs ys)).length = difK xs ys := by rw [List.length_take]; omega
    refine preB_true _ _ (by omega) fun i hi => ?_
    rw [hl] at hi
    have := h3 i hi
    simpa [List.getElem?_take_of_lt hi] using this
theorem difK_le (xs ys : List Int) : difK xs ys ≤ xs.length ∧ difK xs ys ≤ ys.length := by
  by_cases h : xs = ys
  · subst h; rw [difK_same]; omega
  · obtain ⟨h1, h2, _⟩ := difK_at xs ys h
    exact ⟨h1, h2⟩
set_option maxHeartbeats 4000000 in
theorem small (a b : Option Addr) (n1 c1 n2 c2 : Nat) (xs ys : List Int) (w : World) (h1 : n1 ≤ 1000) (h2 : n2 ≤ 1000)
    (hA : View w (.slice a n1 c1) xs) (hB : View w (.slice b n2 c2) ys) :
    Calls Try.prog 7 #[.slice a n1 c1, .slice b n2 c2] w fun e w' => e = .returned (.bool true) ∧ Below w.heap.size w w' := by
  have l1 : xs.length ≤ 1000 := by have := hA.len; omega
  have l2 : ys.length ≤ 1000 := by have := hB.len; omega
  go_enter Try.func7, Try.ntmps7
  go_wp2_with (first | (go_at_call 18; refine (works22 _).mono ?_; rintro e w1 ⟨rfl, hb1⟩) | (at_builtin; refine wpList_copy_view rfl _ _ rfl w1.heap.size w.heap.size rfl ?o1 ?b1 xs ?v1 (by omega) ?_))
  case o1 => exact (heap_made w1 _)
  case b1 => exact hb1.size
  case v1 => exact (hA.below hb1).below ((Below.refl _ _).alloc (Nat.le_refl _) _)
  intro va w2 hVa hb2
  have hb2' : Below w.heap.size w w2 := (hb1.alloc hb1.size _).trans hb2
  clear hb2 hb1
  go_wp2_with (at_builtin; refine wpList_copy_view rfl _ _ rfl w2.heap.size w2.heap.size rfl ?o1 ?b1 ys ?v1 (by omega) ?_)
  case o1 => exact (heap_made w2 _)
  case b1 => exact Nat.le_refl _
  case v1 => exact (hB.below hb2').below ((Below.refl _ _).alloc (Nat.le_refl _) _)
  intro vb w3 hVb hb3
  have hb3' : Below w2.heap.size w2 w3 := ((Below.refl _ _).alloc (Nat.le_refl _) _).trans hb3
  have hVa3 := hVa.below hb3'
  have hbb : Below w.heap.size w w3 := hb2'.trans (hb3'.mono hb2'.size)
  have hA3 := hA.below hbb
  have hB3 := hB.below hbb
  clear hb3 hVa hb2' hb3' hA hB
  obtain ⟨aa, ca, hva⟩ : ∃ aa ca, va = .slice aa xs.length ca := by obtain ⟨x, y, h, _⟩ := hVa3; exact ⟨x, y, h⟩
  subst hva
  have hle := hVa3.len
  have e1 := hA3.len
  have e2 := hB3.len
  have kk := difK_le xs ys
  have k1 : difK xs ys ≤ n1 := by omega
  have k2 : difK xs ys ≤ n2 := by omega
  have k3 : difK xs ys ≤ ca := by omega
  have k4 : ca ≤ 9223372036854775807 := by have := hle.2.2; unfold maxLen at this; omega
  have hT := hVa3.take (difK xs ys) kk.1
  have FT := Lib.hid (pre_take xs ys)
  clear e1 e2 hle kk l1 l2
  go_wp2_with fail
  refine (differ_any _ vb xs ys _ hVa3 hVb).mono ?_
  rintro e w5 ⟨rfl, m5, rfl⟩
  go_wp2_with fail
  refine (rdiffer_any _ _ xs ys _ (hA3.drewN _) (hB3.drewN _)).mono ?_
  rintro e w5 ⟨rfl, m6, rfl⟩
  have F := Lib.hid (preC_both xs ys)
  have HT := Lib.hid hT
  generalize hz : xs.take (difK xs ys) = zs at *
  generalize difK xs ys = k at *
  clear hz hT
  generalize hab : preB xs ys = ab at *
  generalize hba : preB ys xs = ba at *
  generalize (xs == ys) = eq at *
  have HAB := Lib.hid hab
  have HBA := Lib.hid hba
  clear hab hba
  cases ab <;> cases ba <;> cases eq <;> first
    | exact absurd F.out (by decide)
    | (clear F
       go_wp2_with fail
       refine (begins_any _ vb xs ys _ (hVa3.drewN _) (hVb.drewN _)).mono ?_
       rintro e w5 ⟨rfl, m7, rfl⟩
       rw [HAB.out]
       go_wp2_with fail
       refine (rbegins_any _ _ xs ys _ (hA3.drewN _) (hB3.drewN _)).mono ?_
       rintro e w5 ⟨rfl, m8, rfl⟩
       rw [HAB.out]
       go_wp2_with fail
       refine (begins_any _ vb zs ys _ (HT.out.drewN _) (hVb.drewN _)).mono ?_
       rintro e w5 ⟨rfl, m9, rfl⟩
       rw [FT.out]
       go_wp2_with fail
       refine (begins_any _ vb xs ys _ (hVa3.drewN _) (hVb.drewN _)).mono ?_
       rintro e w5 ⟨rfl, m10, rfl⟩
       rw [HAB.out]
       go_wp2_with fail
       first
         | (go_ret; exact ⟨rfl, below_drewN hbb _⟩)
         | (refine (begins_any vb _ ys xs _ (hVb.drewN _) (hVa3.drewN _)).mono ?_
            rintro e w5 ⟨rfl, m11, rfl⟩
            rw [HBA.out]
            go_wp2_with fail
            go_ret
            exact ⟨rfl, below_drewN hbb _⟩))
theorem walk (a0 : Option Addr) (len0 cap0 : Nat) (z0 : List Int) (a1 : Option Addr) (len1 cap1 : Nat) (z1 : List Int) (w : World) (w0 : IsRow .i64 w a0 len0 cap0 z0) (w1 : IsRow .i64 w a1 len1 cap1 z1) :
    Calls Try.prog 7 #[.slice a0 len0 cap0, .slice a1 len1 cap1] w fun e w' => e = .returned (.bool true) ∧ Below w.heap.size w w' := by
  by_cases h : 1000 < len0 ∨ 1000 < len1
  · exact big a0 a1 _ _ _ _ w h
  · exact small a0 a1 _ _ _ _ _ _ w (by omega) (by omega) (view_of_row w0) (view_of_row w1)
end Go.Proofs.Ytpcpohbbmeonbab.sinkDiffers
