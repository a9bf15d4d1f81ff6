/- The examples that each law of words asks first (layer 5). -/
import Derived.Test.YtflphnmmlaloeaaDoorWdE
namespace Go.Proofs.YtflphnmmlaloeaaDoor.wd
open Go.ChangeShapes Go.WideShapes Go.ChangeAt Go.RowKit
open Go.Proofs.YtflphnmmlaloeaaDoor.st
set_option linter.unusedVariables false
set_option linter.unusedSimpArgs false
theorem i47 : Lib.itoa (-47) = [45, 52, 55] := by
  rw [itoa_negv (by omega), show (-47 : Int).natAbs = 47 from rfl, dec_rec 47 (by omega), dec_one (47 / 10) (by omega)]
  rfl
theorem i1 : Lib.itoa 1 = [49] := by
  rw [itoa_pos (by omega), show (1 : Int).toNat = 1 from rfl, dec_one 1 (by omega)]
  rfl
theorem im2 : Lib.itoa (-2) = [45, 50] := by
  rw [itoa_negv (by omega), show (-2 : Int).natAbs = 2 from rfl, dec_one 2 (by omega)]
  rfl
theorem I64' (v : Int) (h0 : -9223372036854775808 ≤ v) (h1 : v ≤ 9223372036854775807) : I64 v := ⟨h0, h1⟩
theorem n47 : numV [45, 52, 55] = (-47, true) := by rw [← i47]; exact numV_itoa (I64' _ (by omega) (by omega))
theorem n1 : numV [49] = (1, true) := by rw [← i1]; exact numV_itoa (I64' _ (by omega) (by omega))
theorem nm2 : numV [45, 50] = (-2, true) := by rw [← im2]; exact numV_itoa (I64' _ (by omega) (by omega))
theorem ns12 : numsV [49, 44, 45, 50] = some [1, -2] := by
  unfold numsV
  rw [if_neg (by decide), show spl 44 [49, 44, 45, 50] = [[49], [45, 50]] from rfl, nmF, n1, if_pos rfl, nmF, nm2, if_pos rfl, nmF]
  rfl
theorem ls12 : lsV [1, -2] = [49, 44, 45, 50] := by
  unfold lsV
  rw [if_neg (by decide), List.map_cons, List.map_cons, List.map_nil, i1, im2]
  rfl
theorem jab : Lib.join [[97], [98]] [32] = [97, 32, 98] := rfl
set_option maxRecDepth 20000 in
set_option maxHeartbeats 1600000 in
theorem works_v (w : World) (hN : NM w) : Calls Tryd.prog 7 #[] w fun e w' => e = .returned (.bool true) ∧ Below w.heap.size w w' := by
  have C1 := Lib.hid (fun w hN => num_v [45, 52, 55] w (by decide) hN)
  rw [n47] at C1
  have C2 := Lib.hid (fun w hN => nums_v [49, 44, 45, 50] w (by decide) hN)
  rw [ns12] at C2
  have C3 := Lib.hid (fun w hN => of_v (-47) w (I64' _ (by omega) (by omega)) hN)
  rw [i47] at C3
  have HN := Lib.hid hN
  clear hN
  go_enter Tryd.func7, Tryd.ntmps7
  go_wp2_with fail
  refine (C1.out w HN.out).mono ?_
  rintro e w1 ⟨rfl, hb1⟩
  have HN1 := Lib.hid (HN.out.below hb1)
  have HB1 := Lib.hid hb1
  clear hb1 C1
  go_wp2_with fail
  refine (C2.out w1 HN1.out).mono ?_
  rintro e w2 ⟨⟨v2, rfl, hv2⟩, hb2⟩
  obtain ⟨a2, c2, rfl, _⟩ := hv2
  have hv2 : View w2 (.slice a2 ([1, -2] : List Int).length c2) [1, -2] := ⟨a2, c2, rfl, by assumption⟩
  have HV2 := Lib.hid hv2
  have HN2 := Lib.hid (HN1.out.below hb2)
  have HB2 := Lib.hid (tr3 HB1.out hb2)
  clear hb2 C2 hv2
  go_wp2_with fail
  refine (C3.out w2 HN2.out).mono ?_
  rintro e w3 ⟨rfl, hb3⟩
  have HV3 := Lib.hid (HV2.out.below hb3)
  have HN3 := Lib.hid (HN2.out.below hb3)
  have HB3 := Lib.hid (tr3 HB2.out hb3)
  clear hb3 C3 HV2
  go_wp2_with fail
  obtain ⟨w4, hw4⟩ : ∃ w4, w3.alloc (.cells #[.int .i64 1, .int .i64 (-2)] 3) = w4 := ⟨_, rfl⟩
  have hb4 : Below w3.heap.size w3 w4 := by rw [← hw4]; exact (Below.refl _ _).alloc (Nat.le_refl _) _
  have hv4 : View w4 (.slice (some ⟨w3.heap.size, 0, none⟩) 2 2) [1, -2] := by
    have h := heap_new w3 #[.int .i64 1, .int .i64 (-2)] 3
    rw [hw4] at h
    refine ⟨_, 2, rfl, ⟨Nat.le_refl _, by simp [maxLen]⟩, (fun h => by cases h), fun _ => ⟨w3.heap.size, 0, rfl, (Array.getElem?_eq_some_iff.1 h).1, Nat.le_refl _, fun i hi => ?_⟩⟩
    rw [Nat.zero_add, cel h i]
    match i, hi with
    | 0, _ => rfl
    | 1, _ => rfl
  have C4 := ints_any (.slice a2 2 c2) _ [1, -2] [1, -2] w4 (HV3.out.below hb4) hv4
  rw [show (([1, -2] : List Int) == [1, -2]) = true by decide] at C4
  have HV4 := Lib.hid (HV3.out.below hb4)
  have HN4 := Lib.hid (HN3.out.below hb4)
  have HB4 := Lib.hid (tr3 HB3.out hb4)
  replace C4 := Lib.hid C4
  rw [hw4]
  clear hb4 hv4 hw4
  refine C4.out.mono ?_
  rintro e w5 ⟨rfl, n5, hw5⟩
  have hb5 : Below w4.heap.size w4 w5 := by rw [hw5]; exact below_drewN (Below.refl _ _) _
  have C5 := list_v [1, -2] _ w5 (HV4.out.below hb5) (by intro x hx; simp at hx; rcases hx with rfl | rfl <;> exact I64' _ (by omega) (by omega)) (by decide) (HN4.out.below hb5)
  rw [ls12] at C5
  have HB5 := Lib.hid (tr3 HB4.out hb5)
  replace C5 := Lib.hid C5
  clear hb5 hw5 C4 HV3 HV4
  go_wp2_with fail
  refine C5.out.mono ?_
  rintro e w6 ⟨rfl, hb6⟩
  have HB6 := Lib.hid (tr3 HB5.out hb6)
  clear hb6 C5
  obtain ⟨w7, hw7⟩ : ∃ w7, w6.alloc (.cells #[.string ⟨#[97]⟩, .string ⟨#[98]⟩] 9) = w7 := ⟨_, rfl⟩
  have hb7 : Below w6.heap.size w6 w7 := by rw [← hw7]; exact (Below.refl _ _).alloc (Nat.le_refl _) _
  have hs7 : SV w7 (.slice (some ⟨w6.heap.size, 0, none⟩) 2 2) [[97], [98]] := by
    have h := heap_new w6 #[.string ⟨#[97]⟩, .string ⟨#[98]⟩] 9
    rw [hw7] at h
    exact SV.of_block (L := [[97], [98]]) h (by simp [maxLen])
  have C7 := wjoin_v _ _ w7 hs7 (by decide) (by decide)
  rw [jab] at C7
  have HB7 := Lib.hid (tr3 HB6.out hb7)
  have HW7 := Lib.hid hw7
  replace C7 := Lib.hid C7
  clear hb7 hs7 hw7
  go_wp2_with fail
  rw [HW7.out]
  refine C7.out.mono ?_
  rintro e w8 ⟨rfl, hb8⟩
  have HB8 := Lib.hid (tr3 HB7.out hb8)
  clear hb8 C7
  go_wp2_with fail
  go_ret
  exact ⟨by first | rfl | simp, HB8.out⟩
end Go.Proofs.YtflphnmmlaloeaaDoor.wd
