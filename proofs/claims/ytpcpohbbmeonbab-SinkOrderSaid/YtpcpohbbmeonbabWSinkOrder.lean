/- Beginnings are an order: the law SinkOrder answers true. No condition. -/
import Derived.Test.YtpcpohbbmeonbabSinkObj
namespace Go.Proofs.Ytpcpohbbmeonbab.sinkOrder
open Go.ChangeShapes Go.WideShapes Go.ChangeAt Go.RowKit
set_option linter.unusedVariables false

theorem preB_iff (xs ys : List Int) : preB xs ys = true ↔ xs <+: ys := by
  unfold preB
  rw [Bool.and_eq_true, decide_eq_true_eq, beq_iff_eq]
  constructor
  · rintro ⟨_, h⟩; rw [h]; exact List.take_prefix _ _
  · intro h; exact ⟨h.length_le, (List.prefix_iff_eq_take.1 h)⟩
theorem pre_self (xs : List Int) : preB xs xs = true := (preB_iff _ _).2 (List.prefix_refl _)
theorem pre_nil (xs : List Int) : preB [] xs = true := (preB_iff _ _).2 (List.nil_prefix)
theorem f1 (xs ys zs : List Int) : (!preB xs ys || !preB ys zs || preB xs zs) = true := by
  by_cases h1 : preB xs ys = true
  · by_cases h2 : preB ys zs = true
    · have h3 : preB xs zs = true := (preB_iff _ _).2 (((preB_iff _ _).1 h1).trans ((preB_iff _ _).1 h2))
      rw [h3]; simp
    · simp [h2]
  · simp [h1]
theorem f2 (xs ys : List Int) : ((preB xs ys && preB ys xs) == (xs == ys)) = true := by
  rw [beq_iff_eq, Bool.eq_iff_iff, Bool.and_eq_true, beq_iff_eq, preB_iff, preB_iff]
  constructor
  · rintro ⟨h1, h2⟩; exact h1.eq_of_length (Nat.le_antisymm h1.length_le h2.length_le)
  · rintro rfl; exact ⟨List.prefix_refl _, List.prefix_refl _⟩
theorem f3 (xs ys zs : List Int) : (!preB xs zs || !preB ys zs || preB xs ys || preB ys xs) = true := by
  by_cases h1 : preB xs zs = true
  · by_cases h2 : preB ys zs = true
    · rcases List.prefix_or_prefix_of_prefix ((preB_iff _ _).1 h1) ((preB_iff _ _).1 h2) with h | h
      · simp [(preB_iff _ _).2 h]
      · simp [(preB_iff _ _).2 h]
    · simp [h2]
  · simp [h1]
set_option maxHeartbeats 400000 in
theorem big (a b c : Option Addr) (n1 c1 n2 c2 n3 c3 : Nat) (w : World) (h : 500 < n1 ∨ 500 < n2 ∨ 500 < n3) :
    Calls Try.prog 8 #[.slice a n1 c1, .slice b n2 c2, .slice c n3 c3] w fun e w' => e = .returned (.bool true) ∧ Below w.heap.size w w' := by
  by_cases h1 : 500 < n1
  · clear h
    go_enter Try.func8, Try.ntmps8
    go_wp2_with (first | (go_at_call 18; refine (works22 _).mono ?_; rintro e w' ⟨rfl, hb1⟩))
    go_ret
    exact ⟨rfl, hb1⟩
  · by_cases h2 : 500 < n2
    · clear h
      go_enter Try.func8, Try.ntmps8
      go_wp2_with (first | (go_at_call 18; refine (works22 _).mono ?_; rintro e w' ⟨rfl, hb1⟩))
      go_ret
      exact ⟨rfl, hb1⟩
    · have h3 : 500 < n3 := by omega
      clear h
      go_enter Try.func8, Try.ntmps8
      go_wp2_with (first | (go_at_call 18; refine (works22 _).mono ?_; rintro e w' ⟨rfl, hb1⟩))
      go_ret
      exact ⟨rfl, hb1⟩
set_option maxHeartbeats 4000000 in
theorem small (a b c : Option Addr) (n1 c1 n2 c2 n3 c3 : Nat) (xs ys zs : List Int) (w : World) (h1 : n1 ≤ 500) (h2 : n2 ≤ 500) (h3 : n3 ≤ 500)
    (hA : View w (.slice a n1 c1) xs) (hB : View w (.slice b n2 c2) ys) (hC : View w (.slice c n3 c3) zs) (l1 : xs.length ≤ 500) (l2 : ys.length ≤ 500) (l3 : zs.length ≤ 500) :
    Calls Try.prog 8 #[.slice a n1 c1, .slice b n2 c2, .slice c n3 c3] w fun e w' => e = .returned (.bool true) ∧ Below w.heap.size w w' := by
  go_enter Try.func8, Try.ntmps8
  go_wp2_with (first | (go_at_call 18; refine (works22 _).mono ?_; rintro e w1 ⟨rfl, hb1⟩) | (at_builtin; refine wpList_copy_view rfl _ _ rfl w1.heap.size w.heap.size rfl ?o1 ?b1 xs ?v1 (by omega) ?_))
  case o1 => exact (heap_made w1 _)
  case b1 => exact hb1.size
  case v1 => exact (hA.below hb1).below ((Below.refl _ _).alloc (Nat.le_refl _) _)
  intro va w2 hVa hb2
  have hb2' : Below w.heap.size w w2 := (hb1.alloc hb1.size _).trans hb2
  clear hb2 hA hb1
  go_wp2_with (at_builtin; refine wpList_copy_view rfl _ _ rfl w2.heap.size w2.heap.size rfl ?o1 ?b1 ys ?v1 (by omega) ?_)
  case o1 => exact (heap_made w2 _)
  case b1 => exact Nat.le_refl _
  case v1 => exact (hB.below hb2').below ((Below.refl _ _).alloc (Nat.le_refl _) _)
  intro vb w3 hVb hb3
  have hb3' : Below w2.heap.size w2 w3 := ((Below.refl _ _).alloc (Nat.le_refl _) _).trans hb3
  have hVa3 := hVa.below hb3'
  have hb3'' : Below w.heap.size w w3 := hb2'.trans (hb3'.mono hb2'.size)
  clear hb3 hB hVa hb2' hb3'
  go_wp2_with (at_builtin; refine wpList_copy_view rfl _ _ rfl w3.heap.size w3.heap.size rfl ?o1 ?b1 zs ?v1 (by omega) ?_)
  case o1 => exact (heap_made w3 _)
  case b1 => exact Nat.le_refl _
  case v1 => exact (hC.below hb3'').below ((Below.refl _ _).alloc (Nat.le_refl _) _)
  intro vc w4 hVc hb4
  have hb4' : Below w3.heap.size w3 w4 := ((Below.refl _ _).alloc (Nat.le_refl _) _).trans hb4
  have hA := hVa3.below hb4'
  have hB := hVb.below hb4'
  have hbb : Below w.heap.size w w4 := hb3''.trans (hb4'.mono hb3''.size)
  clear hb4 hC hVa3 hVb hb3'' hb4' h1 h2 h3 l1 l2 l3
  go_wp2_with fail
  refine (begins_any va vb xs ys _ hA hB).mono ?_
  rintro e w5 ⟨rfl, m5, rfl⟩
  go_wp2_with fail
  refine (begins_any vb vc ys zs _ (hB.drewN _) (hVc.drewN _)).mono ?_
  rintro e w5 ⟨rfl, m6, rfl⟩
  go_wp2_with fail
  refine (begins_any va vc xs zs _ (hA.drewN _) (hVc.drewN _)).mono ?_
  rintro e w5 ⟨rfl, m7, rfl⟩
  go_wp2_with fail
  refine (begins_any vb va ys xs _ (hB.drewN _) (hA.drewN _)).mono ?_
  rintro e w5 ⟨rfl, m8, rfl⟩
  go_wp2_with fail
  refine (differ_any va vb xs ys _ (hA.drewN _) (hB.drewN _)).mono ?_
  rintro e w5 ⟨rfl, m9, rfl⟩
  have F1 : (!preB xs ys || !preB ys zs || preB xs zs) = true := f1 xs ys zs
  have F2 : ((preB xs ys && preB ys xs) == (xs == ys)) = true := f2 xs ys
  have F3 : (!preB xs zs || !preB ys zs || preB xs ys || preB ys xs) = true := f3 xs ys zs
  clear hB hVc
  generalize preB xs ys = ab at *
  generalize preB ys zs = bc at *
  generalize preB xs zs = ac at *
  generalize preB ys xs = ba at *
  generalize (xs == ys) = eq at *
  have F := Lib.hid (And.intro F1 (And.intro F2 F3))
  clear F1 F2 F3
  cases ab <;> cases bc <;> cases ac <;> cases ba <;> cases eq <;> first
    | exact absurd F.out (by decide)
    | (clear F
       go_wp2_with fail
       refine (begins_any va va xs xs _ (hA.drewN _) (hA.drewN _)).mono ?_
       rintro e w5 ⟨rfl, m10, rfl⟩
       rw [pre_self]
       go_wp2_with fail
       refine (begins_any _ va [] xs _ (View.nil _) (hA.drewN _)).mono ?_
       rintro e w5 ⟨rfl, m11, rfl⟩
       rw [pre_nil]
       go_wp2_with fail
       go_ret
       exact ⟨rfl, below_drewN hbb _⟩)
theorem walk (a0 : Option Addr) (len0 cap0 : Nat) (z0 : List Int) (a1 : Option Addr) (len1 cap1 : Nat) (z1 : List Int) (a2 : Option Addr) (len2 cap2 : Nat) (z2 : List Int) (w : World) (w0 : IsRow .i64 w a0 len0 cap0 z0) (w1 : IsRow .i64 w a1 len1 cap1 z1) (w2 : IsRow .i64 w a2 len2 cap2 z2) :
    Calls Try.prog 8 #[.slice a0 len0 cap0, .slice a1 len1 cap1, .slice a2 len2 cap2] w fun e w' => e = .returned (.bool true) ∧ Below w.heap.size w w' := by
  by_cases h : 500 < len0 ∨ 500 < len1 ∨ 500 < len2
  · exact big a0 a1 a2 _ _ _ _ _ _ w h
  · have e0 : (z0.take len0).length ≤ len0 := List.length_take_le _ _
    have e1 : (z1.take len1).length ≤ len1 := List.length_take_le _ _
    have e2 : (z2.take len2).length ≤ len2 := List.length_take_le _ _
    exact small a0 a1 a2 _ _ _ _ _ _ _ _ _ w (by omega) (by omega) (by omega) (view_of_row w0) (view_of_row w1) (view_of_row w2) (by omega) (by omega) (by omega)
end Go.Proofs.Ytpcpohbbmeonbab.sinkOrder
