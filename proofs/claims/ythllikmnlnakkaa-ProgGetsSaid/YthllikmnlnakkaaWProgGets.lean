/- Programs (layer 4): the program that any bytes are, or what is wrong with them: the walk of the law. -/
import Derived.Test.YthllikmnlnakkaaPrAD
import Derived.Test.YthllikmnlnakkaaPrAA
import Derived.Test.YthllikmnlnakkaaPrAB
import Derived.Test.YthllikmnlnakkaaPrM
namespace Go.Proofs.Ythllikmnlnakkaa.progGets
open Go.ChangeShapes Go.WideShapes Go.ChangeAt Go.RowKit
open Go.Proofs.Ythllikmnlnakkaa.bin Go.Proofs.Ythllikmnlnakkaa.bits Go.Proofs.Ythllikmnlnakkaa.ins Go.Proofs.Ythllikmnlnakkaa.pr
set_option linter.unusedVariables false
set_option linter.unusedSimpArgs false
set_option maxRecDepth 20000 in
set_option maxHeartbeats 1600000 in
theorem walk (a0 : ByteArray) (w : World) (w0 : a0.size ≤ maxLen) :
    Calls Try.prog 4 #[.string a0] w fun e w' => e = .returned (.bool true) ∧ Below w.heap.size w w' := by
  obtain ⟨s, hs⟩ : ∃ s : List UInt8, a0 = ⟨s.toArray⟩ := ⟨a0.data.toList, by simp⟩
  subst hs
  have hfs := str_size s
  have CW := Lib.hid works_v
  rw [hfs] at w0
  unfold maxLen at w0
  by_cases hbig : 20000 < s.length
  · have hbi : (20000 : Int) < s.length := by omega
    go_enter Try.func4, Try.ntmps4
    go_wp2_with fail
    refine (CW.out _).mono ?_
    rintro e w1 ⟨rfl, hb1⟩
    go_wp2_with fail
    go_ret
    exact ⟨rfl, hb1⟩
  · have hbi : ¬ (20000 : Int) < s.length := by omega
    obtain ⟨⟨e, m, L⟩, hg⟩ : ∃ x, getP s = x := ⟨_, rfl⟩
    have CG := Lib.hid (fun w => get_v s w (e, m, L) (by omega) hg)
    have CR := Lib.hid (fun w => rgetp_v s w (e, m, L) (by omega) hg)
    have hee : (e == e) = true := by simp
    have HG := Lib.hid hg
    clear hg
    go_enter Try.func4, Try.ntmps4
    go_wp2_with fail
    refine (CW.out _).mono ?_
    rintro e1 w1 ⟨rfl, hb1⟩
    go_wp2_with fail
    refine (CG.out _).mono ?_
    rintro e2 w2 ⟨⟨v2, rfl, hv2⟩, hb2⟩
    obtain ⟨a2, c2, rfl, _⟩ := hv2.form
    obtain ⟨W2, hW2⟩ : ∃ W2, w2.alloc (.cells #[.int .i64 m, .slice a2 L.length c2] 24) = W2 := ⟨_, rfl⟩
    have h22 : Below w2.heap.size w2 W2 := by rw [← hW2]; go_grown
    have HP2 := Lib.hid (show W2.heap[w2.heap.size]? = some (.cells #[.int .i64 m, .slice a2 L.length c2] 24 (0, 0)) by rw [← hW2]; exact heap_new _ _ _)
    have HV2 := Lib.hid (hv2.below h22)
    have HB2 := Lib.hid (tr3 (tr3 hb1 hb2) h22)
    have HW2 := Lib.hid hW2
    clear hb1 hb2 hv2 hW2 h22 CW CG
    go_wp2_with fail
    rw [HW2.out]
    refine (CR.out _).mono ?_
    rintro e3 w3 ⟨⟨v3, rfl, hv3⟩, hb3⟩
    obtain ⟨a3, c3, rfl, _⟩ := hv3.form
    obtain ⟨W3, hW3⟩ : ∃ W3, w3.alloc (.cells #[.int .i64 m, .slice a3 L.length c3] 24) = W3 := ⟨_, rfl⟩
    have h33 : Below w3.heap.size w3 W3 := by rw [← hW3]; go_grown
    have HP3 := Lib.hid (show W3.heap[w3.heap.size]? = some (.cells #[.int .i64 m, .slice a3 L.length c3] 24 (0, 0)) by rw [← hW3]; exact heap_new _ _ _)
    have HV3 := Lib.hid (hv3.below h33)
    have HQ3 := Lib.hid (kb HP2.out (tr3 hb3 h33))
    have HU3 := Lib.hid (HV2.out.below (tr3 hb3 h33))
    have HB3 := Lib.hid (tr3 HB2.out (tr3 hb3 h33))
    have q0 : (w3.alloc (.cells #[.int .i64 m, .slice a3 L.length c3] 24)).cell? ⟨w2.heap.size, 0, none⟩ = some (.int .i64 m) := by rw [hW3]; exact cel HQ3.out 0
    have q1 : (w3.alloc (.cells #[.int .i64 m, .slice a3 L.length c3] 24)).cell? ⟨w2.heap.size, 1, none⟩ = some (.slice a2 L.length c2) := by rw [hW3]; exact cel HQ3.out 1
    have HW3 := Lib.hid hW3
    clear hb3 hv3 hW3 h33 CR
    go_wp2_with fail
    rw [HW3.out]
    refine (pput_any m a2 _ c2 L W3 HU3.out).mono ?_
    rintro e4 w4 ⟨rfl, hb4⟩
    have HB4 := Lib.hid (tr3 HB3.out hb4)
    have HU4 := Lib.hid (HU3.out.below hb4)
    have HV4 := Lib.hid (HV3.out.below hb4)
    have HQ4 := Lib.hid (kb HQ3.out hb4)
    have HP4 := Lib.hid (kb HP3.out hb4)
    clear hb4 q0 q1
    have q0 : w4.cell? ⟨w2.heap.size, 0, none⟩ = some (.int .i64 m) := cel HQ4.out 0
    have q1 : w4.cell? ⟨w2.heap.size, 1, none⟩ = some (.slice a2 L.length c2) := cel HQ4.out 1
    have p0 : w4.cell? ⟨w3.heap.size, 0, none⟩ = some (.int .i64 m) := cel HP4.out 0
    have p1 : w4.cell? ⟨w3.heap.size, 1, none⟩ = some (.slice a3 L.length c3) := cel HP4.out 1
    by_cases h0 : e = 0
    · subst h0
      obtain ⟨hp, hb⟩ := getP_got s m L HG.out
      have hS : prS m L = s := by unfold prS; rw [if_pos hp, hb]
      rw [hS, hp]
      have hss : (s == s) = true := by simp
      clear hS hp hb
      go_wp2_with fail
      refine (same_v m a2 a3 _ _ c2 c3 L w4 HU4.out HV4.out).mono ?_
      rintro e5 w5 ⟨rfl, hb5⟩
      have HB5 := Lib.hid (tr3 HB4.out hb5)
      clear hb5 q0 q1 p0 p1
      go_wp2_with fail
      go_ret
      exact ⟨by first | rfl | simp, tr3 HB5.out (by go_grown)⟩
    · have hcb : (e == 0) = false := by simpa using h0
      have hcn : (e != 0) = true := by simpa using h0
      go_wp2_with fail
      refine (same_v m a2 a3 _ _ c2 c3 L w4 HU4.out HV4.out).mono ?_
      rintro e5 w5 ⟨rfl, hb5⟩
      have HB5 := Lib.hid (tr3 HB4.out hb5)
      clear hb5 q0 q1 p0 p1
      go_wp2_with fail
      go_ret
      exact ⟨by first | rfl | simp, tr3 HB5.out (by go_grown)⟩
end Go.Proofs.Ythllikmnlnakkaa.progGets
