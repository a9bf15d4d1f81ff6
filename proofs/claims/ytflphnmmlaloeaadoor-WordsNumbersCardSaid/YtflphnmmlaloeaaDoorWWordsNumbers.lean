/- Numbers in writing (layer 5): the walk of the law. -/
import Derived.Test.YtflphnmmlaloeaaDoorWdF
import Derived.Test.YtflphnmmlaloeaaDoorWdC
namespace Go.Proofs.YtflphnmmlaloeaaDoor.wordsNumbers
open Go.ChangeShapes Go.WideShapes Go.ChangeAt Go.RowKit
open Go.Proofs.YtflphnmmlaloeaaDoor.st Go.Proofs.YtflphnmmlaloeaaDoor.wd
set_option linter.unusedVariables false
set_option linter.unusedSimpArgs false
set_option maxRecDepth 20000 in
set_option maxHeartbeats 1600000 in
theorem walk (a0 : Int) (a1 : ByteArray) (w : World) (w0 : (Lit.int .i64 a0).wf = true) (w1 : a1.size ≤ maxLen) (hN : NM w) :
    Calls Tryd.prog 4 #[.int .i64 a0, .string a1] w fun e w' => e = .returned (.bool true) ∧ Below w.heap.size w w' := by
  obtain ⟨s, hs⟩ : ∃ s : List UInt8, a1 = ⟨s.toArray⟩ := ⟨a1.data.toList, by simp⟩
  subst hs
  have hfs := str_size s
  rw [hfs] at w1
  unfold maxLen at w1
  have hI : I64 a0 := bounds_i64 w0
  have CW := Lib.hid works_v
  have HN := Lib.hid hN
  clear hN w0
  by_cases hbig : 1000 < s.length
  · have hbi : (1000 : Int) < s.length := by omega
    go_enter Tryd.func4, Tryd.ntmps4
    go_wp2_with fail
    refine (CW.out _ HN.out).mono ?_
    rintro e w1 ⟨rfl, hb1⟩
    go_wp2_with fail
    go_ret
    exact ⟨rfl, hb1⟩
  · have hbi : ¬ (1000 : Int) < s.length := by omega
    have C1 := Lib.hid (fun w hN => num_v s w (by omega) hN)
    have C2 := Lib.hid (fun w => rnum_v s w (by omega))
    have CO := Lib.hid (fun w hN => of_v a0 w hI hN)
    have CR := Lib.hid (fun w => rof_v a0 w hI)
    have C3 := Lib.hid (fun w hN => num_v (Lib.itoa a0) w (by have := itoa_len hI; omega) hN)
    rw [numV_itoa hI] at C3
    obtain ⟨x, b, hxb⟩ : ∃ x b, numV s = (x, b) := ⟨_, _, rfl⟩
    rw [hxb] at C1 C2
    obtain ⟨T, hT⟩ : ∃ T, Lib.itoa a0 = T := ⟨_, rfl⟩
    rw [hT] at CO CR C3
    have hTT : (T == T) = true := by simp
    have hbb : (b == b) = true := by simp
    clear hxb hT hI
    go_enter Tryd.func4, Tryd.ntmps4
    go_wp2_with fail
    refine (CW.out _ HN.out).mono ?_
    rintro e w1 ⟨rfl, hb1⟩
    have HN1 := Lib.hid (HN.out.below hb1)
    have HB1 := Lib.hid hb1
    clear hb1 CW
    go_wp2_with fail
    refine (C1.out _ HN1.out).mono ?_
    rintro e w2 ⟨rfl, hb2⟩
    have HN2 := Lib.hid (HN1.out.below hb2)
    have HB2 := Lib.hid (tr3 HB1.out hb2)
    clear hb2 C1
    go_wp2_with fail
    refine (C2.out _).mono ?_
    rintro e w3 ⟨rfl, hb3⟩
    have HN3 := Lib.hid (HN2.out.below hb3)
    have HB3 := Lib.hid (tr3 HB2.out hb3)
    clear hb3 C2
    go_wp2_with fail
    refine (CO.out _ HN3.out).mono ?_
    rintro e w4 ⟨rfl, hb4⟩
    have HN4 := Lib.hid (HN3.out.below hb4)
    have HB4 := Lib.hid (tr3 HB3.out hb4)
    clear hb4
    go_wp2_with fail
    refine (C3.out _ HN4.out).mono ?_
    rintro e w5 ⟨rfl, hb5⟩
    have HN5 := Lib.hid (HN4.out.below hb5)
    have HB5 := Lib.hid (tr3 HB4.out hb5)
    clear hb5 C3
    go_wp2_with fail
    refine (CO.out _ HN5.out).mono ?_
    rintro e w6 ⟨rfl, hb6⟩
    have HB6 := Lib.hid (tr3 HB5.out hb6)
    clear hb6 CO
    go_wp2_with fail
    refine (CR.out _).mono ?_
    rintro e w7 ⟨rfl, hb7⟩
    have HB7 := Lib.hid (tr3 HB6.out hb7)
    clear hb7 CR
    go_wp2_with fail
    go_ret
    exact ⟨by first | rfl | simp, HB7.out⟩
end Go.Proofs.YtflphnmmlaloeaaDoor.wordsNumbers
