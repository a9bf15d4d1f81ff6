/- Lists in writing (layer 5): the walk of the law. -/
import Derived.Test.YtflphnmmlaloeaaDoorWdF
import Derived.Test.YtflphnmmlaloeaaDoorWdH
namespace Go.Proofs.YtflphnmmlaloeaaDoor.wordsLists
open Go.ChangeShapes Go.WideShapes Go.ChangeAt Go.RowKit
open Go.Proofs.YtflphnmmlaloeaaDoor.st Go.Proofs.YtflphnmmlaloeaaDoor.wd
set_option linter.unusedVariables false
set_option linter.unusedSimpArgs false
def lst (r : Option (List Int)) : List Int := r.getD []
/-- what Nums answers, in one form. -/
theorem np_one {r : Option (List Int)} {w0 : World} {e : Ending} {w' : World} (h : NP r w0 e w') : (∃ v, e = .returned (.tuple #[v, .bool r.isSome]) ∧ View w' v (lst r)) ∧ Below w0.heap.size w0 w' := by
  obtain ⟨h1, hb⟩ := h
  refine ⟨?_, hb⟩
  cases r with
  | some xs => exact h1
  | none => exact ⟨.slice none 0 0, h1, View.nil _⟩
theorem lsV_len (xs : List Int) (h : ∀ x ∈ xs, I64 x) (hn : xs.length ≤ 200) : (lsV xs).length ≤ 10000 := by
  unfold lsV
  split
  · simp
  · have := join_itoa_len xs h; omega
set_option maxRecDepth 20000 in
set_option maxHeartbeats 1600000 in
theorem walk (a0 : Option Addr) (len0 cap0 : Nat) (z0 : List Int) (a1 : ByteArray) (w : World) (w0 : IsRow .i64 w a0 len0 cap0 z0) (w1 : a1.size ≤ maxLen) (hN : NM w) :
    Calls Tryd.prog 5 #[.slice a0 len0 cap0, .string a1] w fun e w' => e = .returned (.bool true) ∧ Below w.heap.size w w' := by
  obtain ⟨s, hs⟩ : ∃ s : List UInt8, a1 = ⟨s.toArray⟩ := ⟨a1.data.toList, by simp⟩
  subst hs
  have hfs := str_size s
  rw [hfs] at w1
  unfold maxLen at w1
  have CW := Lib.hid works_v
  have HN := Lib.hid hN
  have hv0 := view_of_row w0
  have hI0 : ∀ x ∈ z0.take len0, I64 x := by
    intro x hx
    rcases w0 with ⟨_, _, _, rfl⟩ | ⟨_, _, _, _, _, _, hwf⟩
    · simp at hx
    · exact bounds_i64 (hwf x (List.mem_of_mem_take hx))
  obtain ⟨xs, hxs⟩ : ∃ xs, z0.take len0 = xs := ⟨_, rfl⟩
  rw [hxs] at hv0 hI0
  have hlen : xs.length = len0 := by
    obtain ⟨a', c', e, _⟩ := hv0
    rw [Value.slice.injEq] at e
    exact e.2.1.symm
  have hlm : len0 ≤ 9223372036854775807 := by
    obtain ⟨a', c', e, hm, _⟩ := hv0
    unfold maxLen at hm
    omega
  have HI0 := Lib.hid hI0
  have HV0 := Lib.hid hv0
  have HL0 := Lib.hid hlen
  clear w0 hxs hN hv0 hI0
  by_cases hbig : 1000 < s.length
  · have hbi : (1000 : Int) < s.length := by omega
    have hbd : decide ((1000 : Int) < s.length) = true := decide_eq_true hbi
    go_enter Tryd.func5, Tryd.ntmps5
    go_wp2_with fail
    refine (CW.out _ HN.out).mono ?_
    rintro e w1 ⟨rfl, hb1⟩
    go_wp2_with fail
    go_ret
    exact ⟨rfl, hb1⟩
  · have hbi : ¬ (1000 : Int) < s.length := by omega
    have hbd : decide ((1000 : Int) < s.length) = false := decide_eq_false hbi
    by_cases hmany : 200 < len0
    · have hmi : (200 : Int) < (len0 : Int) := by omega
      have hmd : decide ((200 : Int) < (len0 : Int)) = true := decide_eq_true hmi
      go_enter Tryd.func5, Tryd.ntmps5
      go_wp2_with fail
      refine (CW.out _ HN.out).mono ?_
      rintro e w1 ⟨rfl, hb1⟩
      go_wp2_with fail
      go_ret
      exact ⟨rfl, hb1⟩
    · have hmi : ¬ (200 : Int) < (len0 : Int) := by omega
      have hmd : decide ((200 : Int) < (len0 : Int)) = false := decide_eq_false hmi
      have C1 := Lib.hid (fun w hN => (nums_v s w (by omega) hN).mono fun _ _ => np_one)
      have C2 := Lib.hid (fun w => (rnums_v s w (by omega)).mono fun _ _ => np_one)
      have hTl := lsV_len xs HI0.out (by omega)
      have hnl := nums_list xs HI0.out
      have C3 := fun w hN => (nums_v (lsV xs) w hTl hN).mono fun _ _ => np_one
      rw [hnl] at C3
      have CL := fun v w hv hN => list_v xs v w hv HI0.out (by omega) hN
      have CR := fun v w hv => rlist_v xs v w hv HI0.out (by omega)
      obtain ⟨T, hT⟩ : ∃ T, lsV xs = T := ⟨_, rfl⟩
      rw [hT] at C3 CL CR
      replace C3 := Lib.hid C3
      replace CL := Lib.hid CL
      replace CR := Lib.hid CR
      obtain ⟨R, hR⟩ : ∃ R, numsV s = R := ⟨_, rfl⟩
      rw [hR] at C1 C2
      obtain ⟨rb, hrb⟩ : ∃ b, R.isSome = b := ⟨_, rfl⟩
      rw [hrb] at C1 C2
      have hTT : (T == T) = true := by simp
      have hbb : (rb == rb) = true := by simp
      clear hTl hnl hT hR hrb hbig hmany
      go_enter Tryd.func5, Tryd.ntmps5
      go_wp2_with fail
      refine (CW.out _ HN.out).mono ?_
      rintro e w1 ⟨rfl, hb1⟩
      have HN1 := Lib.hid (HN.out.below hb1)
      have HB1 := Lib.hid hb1
      clear hb1 CW
      go_wp2_with fail
      refine (C1.out _ HN1.out).mono ?_
      rintro e w2 ⟨⟨v2, rfl, hv2⟩, hb2⟩
      have HV2 := Lib.hid hv2
      have HN2 := Lib.hid (HN1.out.below hb2)
      have HB2 := Lib.hid (tr3 HB1.out hb2)
      clear hb2 C1 hv2
      go_wp2_with fail
      refine (C2.out _).mono ?_
      rintro e w3 ⟨⟨v3, rfl, hv3⟩, hb3⟩
      have HV3 := Lib.hid hv3
      have HV23 := Lib.hid (HV2.out.below hb3)
      have HN3 := Lib.hid (HN2.out.below hb3)
      have HB3 := Lib.hid (tr3 HB2.out hb3)
      clear hb3 C2 hv3 HV2
      obtain ⟨w4, hw4⟩ : ∃ w4, w3.alloc (.cells #[] 3) = w4 := ⟨_, rfl⟩
      have h34 : Below w3.heap.size w3 w4 := by rw [← hw4]; exact (Below.refl _ _).alloc (Nat.le_refl _) _
      have he4 : w4.heap[w3.heap.size]? = some (.cells #[] 3 (0, 0)) := by rw [← hw4]; exact heap_new _ _ _
      have hx4 : View w4 (.slice a0 len0 cap0) xs := HV0.out.below (tr3 HB3.out h34)
      have H34 := Lib.hid h34
      have HW4 := Lib.hid hw4
      have HE4 := Lib.hid he4
      have HX4 := Lib.hid hx4
      have hs34 : w3.heap.size < w4.heap.size := (Array.getElem?_eq_some_iff.1 he4).1
      have hxl : xs.length ≤ 100000 := by have := HL0.out; omega
      clear h34 he4 hx4 hw4 hlen
      go_wp2_with ((at_builtin; rw [HW4.out]; refine wpList_copy_row rfl _ _ rfl w3.heap.size w3.heap.size rfl HE4.out (Nat.le_refl _) xs HX4.out hxl ?_))
      intro v5 w5 ho5 hb5
      have hb35 := H34.out.trans hb5
      have HB5 := Lib.hid (tr3 HB3.out hb35)
      have HN5 := Lib.hid (HN3.out.below hb35)
      have HV25 := Lib.hid (HV23.out.below hb35)
      have HV35 := Lib.hid (HV3.out.below hb35)
      have CL5 := Lib.hid (CL.out v5 w5 (view_of_own ho5) HN5.out)
      clear hb5 hb35 ho5 H34 HV23 HV3 HW4 HE4 HX4 hs34 CL
      go_wp2_with fail
      refine CL5.out.mono ?_
      rintro e w6 ⟨rfl, hb6⟩
      have HB6 := Lib.hid (tr3 HB5.out hb6)
      have HN6 := Lib.hid (HN5.out.below hb6)
      have HV26 := Lib.hid (HV25.out.below hb6)
      have HV36 := Lib.hid (HV35.out.below hb6)
      clear hb6 CL5 HV25 HV35
      go_wp2_with fail
      refine (C3.out _ HN6.out).mono ?_
      rintro e w7 ⟨⟨v7, rfl, hv7⟩, hb7⟩
      have HV7 : Hid (View w7 v7 xs) := Lib.hid hv7
      have HB7 := Lib.hid (tr3 HB6.out hb7)
      have CI := ints_any v2 v3 (lst R) (lst R) w7 (HV26.out.below hb7) (HV36.out.below hb7)
      rw [show (lst R == lst R) = true by simp] at CI
      replace CI := Lib.hid CI
      have hsome : (some xs).isSome = true := rfl
      clear hb7 hv7 C3 HV26 HV36
      go_wp2_with fail
      refine CI.out.mono ?_
      rintro e w8 ⟨rfl, n8, hw8⟩
      have hb8 : Below w7.heap.size w7 w8 := by rw [hw8]; exact below_drewN (Below.refl _ _) _
      have HB8 := Lib.hid (tr3 HB7.out hb8)
      have HV8 := Lib.hid (HV7.out.below hb8)
      have CR8 := Lib.hid (CR.out _ w8 (HV0.out.below HB8.out))
      clear hb8 hw8 CI CR HV7
      go_wp2_with fail
      refine CR8.out.mono ?_
      rintro e w9 ⟨rfl, hb9⟩
      have HB9 := Lib.hid (tr3 HB8.out hb9)
      have CI := ints_any v7 _ xs xs w9 (HV8.out.below hb9) (HV0.out.below HB9.out)
      rw [show (xs == xs) = true by simp] at CI
      replace CI := Lib.hid CI
      clear hb9 CR8 HV8
      go_wp2_with fail
      refine CI.out.mono ?_
      rintro e wx ⟨rfl, nx, hwx⟩
      have HBx := Lib.hid (tr3 HB9.out (show Below w9.heap.size w9 wx by rw [hwx]; exact below_drewN (Below.refl _ _) _))
      clear hwx CI
      go_wp2_with fail
      go_ret
      exact ⟨by first | rfl | simp, HBx.out⟩
end Go.Proofs.YtflphnmmlaloeaaDoor.wordsLists
