/- Lists in writing, as the document has them (layer 5). -/
import Derived.Test.YtflphnmmlaloeaaDoorWdQ
import Derived.Test.YtflphnmmlaloeaaDoorWdC
namespace Go.Proofs.YtflphnmmlaloeaaDoor.wd
open Go.ChangeShapes Go.WideShapes Go.ChangeAt Go.RowKit
open Go.Proofs.YtflphnmmlaloeaaDoor.st
set_option linter.unusedVariables false
set_option linter.unusedSimpArgs false
set_option maxRecDepth 20000 in
set_option maxHeartbeats 1600000 in
theorem rlist_v (xs : List Int) (v : Value) (w : World) (hv : View w v xs) (hI : ∀ x ∈ xs, I64 x) (hn : xs.length ≤ 100000) : Calls Tryd.prog 23 #[v] w fun e w' => e = .returned (.string ⟨(lsV xs).toArray⟩) ∧ Below w.heap.size w w' := by
  obtain ⟨a, cap, rfl, hcm, hnn, hcell⟩ := hv
  obtain ⟨n, hnl⟩ : ∃ n, xs.length = n := ⟨_, rfl⟩
  have hvn : (Value.slice a xs.length cap) = .slice a n cap := by rw [hnl]
  rw [hvn]
  rw [hnl] at hn
  have HX := Lib.hid hnl
  have HC := Lib.hid hcell
  have HI := Lib.hid hI
  have hj0 : Hid (([] : List UInt8) = Lib.join ((xs.take 0).map Lib.itoa) [44]) := Lib.hid rfl
  have hl0 : Hid (([] : List UInt8).length ≤ 21 * 0) := Lib.hid (Nat.le_refl _)
  have HB0 := Lib.hid (Below.refl w.heap.size w)
  obtain ⟨T, hT⟩ : ∃ T, lsV xs = T := ⟨_, rfl⟩
  rw [hT]
  have HT := Lib.hid hT
  clear hnn hcell hI hcm hnl hvn hT
  go_enter Tryd.func23, Tryd.ntmps23
  go_wp2_with fail
  go_loopw [3, 4] (fun sv iv wr => ∃ (k : Nat) (l : List UInt8), sv = .string ⟨l.toArray⟩ ∧ iv = .int .i64 (k : Int) ∧ k ≤ n ∧ Hid (l = Lib.join ((xs.take k).map Lib.itoa) [44]) ∧ Hid (l.length ≤ 21 * k) ∧ Hid (Below w.heap.size w wr)) (fun _ iv _ => n - (RowKit.intOf iv).toNat)
  case atStart => exact ⟨0, [], rfl, rfl, by omega, hj0, hl0, HB0⟩
  case round =>
    clear hj0 hl0 HB0
    obtain ⟨k, l, rfl, rfl, hk, HJ, HL, HB⟩ := hrel
    by_cases hlt : k < n
    · have hki : (k : Int) < (n : Int) := by omega
      have hkx : k < xs.length := by have := HX.out; omega
      obtain ⟨b, off, rfl, hbl, _, hc⟩ := HC.out (by intro e; rw [e] at hkx; simp at hkx)
      have hxc := kc (hc k hkx) HB.out
      have htk : xs.take (k + 1) = xs.take k ++ [xs.getD k 0] := by
        rw [List.take_add_one, List.getD_eq_getElem?_getD, List.getElem?_eq_getElem hkx]; simp
      have hxI := HI.out (xs.getD k 0) (by rw [List.getD_eq_getElem?_getD, List.getElem?_eq_getElem hkx]; exact List.getElem_mem _)
      obtain ⟨x, hxe⟩ : ∃ x, xs.getD k 0 = x := ⟨_, rfl⟩
      rw [hxe] at hxc htk hxI
      have CO := Lib.hid (fun w => rof_v x w hxI)
      have hxl := itoa_len hxI
      obtain ⟨E, hE⟩ : ∃ E, Lib.itoa x = E := ⟨_, rfl⟩
      rw [hE] at CO hxl
      have hll := HL.out
      by_cases hk0 : k = 0
      · subst hk0
        have hl0 : l = [] := by
          have := HJ.out
          rw [List.take_zero, List.map_nil, Lib.join_nil] at this
          exact this
        rw [Nat.add_zero] at hxc
        subst hl0
        have h0i : decide ((0 : Int) < 0) = false := rfl
        have hj := str_join [] E
        have hsz : ¬ 9223372036854775807 < 0 + E.length := by omega
        have HJN : Hid (E = Lib.join ((xs.take (0 + 1)).map Lib.itoa) [44]) := Lib.hid (by rw [htk]; simp [Lib.join_one, hE])
        have HLN : Hid (E.length ≤ 21 * (0 + 1)) := Lib.hid (by omega)
        clear htk hxe hE hc HJ HL hll
        go_wp2_with fail
        refine (CO.out _).mono ?_
        rintro e w5 ⟨rfl, hb5⟩
        have HB5 := Lib.hid (tr3 HB.out hb5)
        clear hb5 CO hxc
        go_wp2_with fail
        go_roundw
        case rel => exact ⟨0 + 1, E, by simp, by go_num, by omega, HJN, HLN, HB5⟩
        case measure => simp [RowKit.intOf]; omega
      · have h0i : (0 : Int) < (k : Int) := by omega
        have h0d : decide ((0 : Int) < (k : Int)) = true := decide_eq_true h0i
        have hj1 := str_join l [44]
        have hj2 := str_join (l ++ [44]) E
        have hsz1 : ¬ 9223372036854775807 < l.length + 1 := by omega
        have hsz2 : ¬ 9223372036854775807 < l.length + 1 + E.length := by omega
        have HJN : Hid ((l ++ [44]) ++ E = Lib.join ((xs.take (k + 1)).map Lib.itoa) [44]) := Lib.hid (by
          rw [htk, List.map_append, List.map_cons, List.map_nil, join_snoc _ _ _ (by
            intro e
            have := congrArg List.length e
            rw [List.length_map, List.length_take, List.length_nil] at this
            omega), ← HJ.out, hE])
        have HLN : Hid (((l ++ [44]) ++ E).length ≤ 21 * (k + 1)) := Lib.hid (by rw [List.length_append, List.length_append, List.length_singleton]; omega)
        obtain ⟨l2, hl2⟩ : ∃ l2, l ++ [44] = l2 := ⟨_, rfl⟩
        have hl2l : l2.length = l.length + 1 := by rw [← hl2]; simp
        rw [hl2] at hj1 hj2 HJN HLN
        rw [← hl2l] at hsz2
        obtain ⟨l3, hl3⟩ : ∃ l3, l2 ++ E = l3 := ⟨_, rfl⟩
        rw [hl3] at hj2 HJN HLN
        clear htk hxe hE hc HJ HL hll hl2 hl3 hl2l
        go_wp2_with fail
        refine (CO.out _).mono ?_
        rintro e w5 ⟨rfl, hb5⟩
        have HB5 := Lib.hid (tr3 HB.out hb5)
        clear hb5 CO hxc
        go_wp2_with fail
        go_roundw
        case rel => exact ⟨k + 1, l3, rfl, by go_num, by omega, HJN, HLN, HB5⟩
        case measure => simp [RowKit.intOf]; omega
    · obtain rfl : k = n := by omega
      have hj := HJ.out
      rw [List.take_of_length_le (by rw [HX.out]; exact Nat.le_refl _)] at hj
      have ht := HT.out
      unfold lsV at ht
      by_cases h0 : xs = []
      · rw [if_pos h0] at ht
        subst ht
        rw [h0] at hj
        have hl0 : l = [] := hj
        subst hl0
        clear hj HJ HL HX HC HI HT h0
        go_wp2_with fail
        go_ret
        exact ⟨rfl, HB.out⟩
      · rw [if_neg h0, ← hj] at ht
        subst ht
        have hne : l.isEmpty = false := by
          have := lsV_ne xs h0
          rw [← hj] at this
          cases l with
          | nil => exact absurd rfl this
          | cons _ _ => rfl
        clear hj HJ HL HX HC HI HT h0
        go_wp2_with fail
        go_ret
        exact ⟨rfl, HB.out⟩
end Go.Proofs.YtflphnmmlaloeaaDoor.wd
