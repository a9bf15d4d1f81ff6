/- Programs (layer 4): one text, one program: the walk of the law. -/
import Derived.Test.YthllikmnlnakkaaPrW
import Derived.Test.YthllikmnlnakkaaPrX
import Derived.Test.YthllikmnlnakkaaPrM
import Derived.Test.YthllikmnlnakkaaPrL
namespace Go.Proofs.Ythllikmnlnakkaa.progOnce
open Go.ChangeShapes Go.WideShapes Go.ChangeAt Go.RowKit
open Go.Proofs.Ythllikmnlnakkaa.bin Go.Proofs.Ythllikmnlnakkaa.bits Go.Proofs.Ythllikmnlnakkaa.ins Go.Proofs.Ythllikmnlnakkaa.pr
set_option linter.unusedVariables false
set_option linter.unusedSimpArgs false
set_option maxRecDepth 20000 in
set_option maxHeartbeats 1600000 in
theorem walk (m0 : Int) (a0 : Option Addr) (n0 c0 : Nat) (L0 : List (List I4)) (a1 : Int) (w : World) (w0 : PM w (.slice a0 n0 c0) L0) (w1 : (Lit.int .u8 a1).wf = true) :
    Calls Try.prog 6 #[.agg #[.int .i64 m0, .slice a0 n0 c0], .int .u8 a1] w fun e w' => e = .returned (.bool true) ∧ Below w.heap.size w w' := by
  have hwf1 := w1
  obtain ⟨W, hW⟩ : ∃ W, w.alloc (.cells #[.int .i64 m0, .slice a0 n0 c0] 24) = W := ⟨_, rfl⟩
  have hb0 : Below w.heap.size w W := by rw [← hW]; go_grown
  have HP := Lib.hid (show W.heap[w.heap.size]? = some (.cells #[.int .i64 m0, .slice a0 n0 c0] 24 (0, 0)) by rw [← hW]; exact heap_new _ _ _)
  have hs1 : w.heap.size < W.heap.size := by rw [← hW]; simp
  have HM := Lib.hid w0
  have HW := Lib.hid hW
  have HB := Lib.hid hb0
  have CW := Lib.hid works_v
  clear w0 hW hb0
  go_enter Try.func6, Try.ntmps6
  go_wp2_with fail
  rw [HW.out]
  refine (CW.out _).mono ?_
  rintro e w1 ⟨rfl, hb1⟩
  have HB1 := Lib.hid hb1
  have hp0 : w1.cell? ⟨w.heap.size, 0, none⟩ = some (.int .i64 m0) := cel (kb HP.out HB1.out) 0
  have hp1 : w1.cell? ⟨w.heap.size, 1, none⟩ = some (.slice a0 n0 c0) := cel (kb HP.out HB1.out) 1
  clear hb1 CW
  go_wp2_with fail
  refine (great_v m0 a0 n0 c0 L0 w1 (HM.out.below (tr3 HB.out HB1.out))).mono ?_
  rintro e w2 ⟨rfl | ⟨rfl, hS⟩, hb2⟩
  · have HB2 := Lib.hid (tr3 HB1.out hb2)
    clear hb2 hp0 hp1
    go_wp2_with fail
    go_ret
    exact ⟨rfl, tr3 (tr3 HB.out HB2.out) (by go_grown)⟩
  · have HB2 := Lib.hid (tr3 HB1.out hb2)
    clear hb2 hp0 hp1
    have hp0 : w2.cell? ⟨w.heap.size, 0, none⟩ = some (.int .i64 m0) := cel (kb HP.out HB2.out) 0
    have hp1 : w2.cell? ⟨w.heap.size, 1, none⟩ = some (.slice a0 n0 c0) := cel (kb HP.out HB2.out) 1
    go_wp2_with fail
    refine (own_v m0 a0 n0 c0 L0 w2 (HM.out.below (tr3 HB.out HB2.out)) hS).mono ?_
    rintro e w3 ⟨v3, rows3, rfl, ho3, hb3⟩
    obtain ⟨a3, c3, rfl, _⟩ := ho3.pm.form
    have HB3 := Lib.hid (tr3 HB2.out hb3)
    have HO3 := Lib.hid ho3.pm
    clear hb3 ho3 hp0 hp1
    go_wp2_with fail
    refine (pput_any m0 a3 _ c3 L0 w3 HO3.out).mono ?_
    rintro e w4 ⟨rfl, hb4⟩
    have HB4 := Lib.hid (tr3 HB3.out hb4)
    clear hb4
    obtain ⟨r, hr⟩ : ∃ r, prE m0 L0 = r := ⟨_, rfl⟩
    have CR := Lib.hid (fun w h => rcheck_v m0 a0 n0 c0 L0 w h)
    rw [hr] at CR
    have hp0 : w4.cell? ⟨w.heap.size, 0, none⟩ = some (.int .i64 m0) := cel (kb HP.out HB4.out) 0
    have hp1 : w4.cell? ⟨w.heap.size, 1, none⟩ = some (.slice a0 n0 c0) := cel (kb HP.out HB4.out) 1
    by_cases h0 : r = 0
    · subst h0
      have hs : prS m0 L0 = prB m0 L0 := by unfold prS; rw [if_pos hr]
      rw [hs, hr]
      have hlen := prB_len m0 L0
      obtain ⟨b, hb⟩ : ∃ b, prB m0 L0 = b := ⟨_, rfl⟩
      have hsz : b.length ≤ 60000 := by
        rw [← hb, ← szF_all]
        have := szF_small L0 hS _ (Nat.le_refl _)
        have := hS.1
        omega
      have hsz0 : 6 ≤ b.length := by rw [← hb, hlen]; omega
      rw [hb] at hlen ⊢
      have hlb := prE_0 hr
      obtain ⟨x, hx⟩ : ∃ x : UInt8, (x.toNat : Int) = a1 := ⟨UInt8.ofNat a1.toNat, by
        have h1 : 0 ≤ a1 ∧ a1 ≤ 255 := by
          simp only [Lit.wf, Bool.and_eq_true, decide_eq_true_eq] at hwf1
          exact hwf1
        rw [u8_of a1 (by omega) (by omega)]⟩
      have hne : b ≠ [] := by intro e; rw [e] at hsz0; simp at hsz0
      have hdl := List.dropLast_concat_getLast hne
      obtain ⟨q, hq⟩ : ∃ q, b.dropLast = q := ⟨_, rfl⟩
      rw [hq] at hdl
      have hql : q.length = b.length - 1 := by rw [← hq]; simp
      have hm := getP_more m0 L0 [x] hr
      have hc := getP_cut m0 L0 q _ hr (by rw [hb]; exact hdl.symm)
      rw [hb, if_pos (by simp)] at hm
      unfold bad at hm hc
      have CM := Lib.hid (fun w => get_v (b ++ [x]) w _ (by rw [List.length_append, List.length_singleton]; omega) hm)
      have CC := Lib.hid (fun w => get_v q w _ (by omega) hc)
      have hex : (⟨b.toArray⟩ : ByteArray).extract 0 (b.length - 1) = ⟨q.toArray⟩ := by
        have := str_sub b 0 (b.length - 1)
        rw [← hq]
        simpa [List.dropLast_eq_take] using this
      have hjn := str_join b [x]
      have hfs := str_size b
      have hbI : ((b.length - 1 : Nat) : Int) = (b.length : Int) - 1 := by omega
      have hsm : ¬ 9223372036854775807 < b.length + 1 := by omega
      subst hx
      have hcv : (convert 36 9 (.slice (some ⟨w4.heap.size, 0, none⟩) 1 1)).run Try.prog (w4.alloc (.cells #[.int .u8 (x.toNat : Int)] 5)) = .ok (.string ⟨#[x]⟩) (w4.alloc (.cells #[.int .u8 (x.toNat : Int)] 5)) :=
        run_convert_bytes_back _ 36 9 5 ⟨w4.heap.size, 0, none⟩ 1 [x] Try.underlying36 Try.underlying5 Try.underlying9 (by
          intro j hj
          match j, hj with
          | 0, _ => have := cel (heap_new w4 #[.int .u8 (x.toNat : Int)] 5) 0; simp [Addr.add, this])
      clear hm hc hdl hq hlb hr hlen
      go_wp2_with fail
      refine (CM.out _).mono ?_
      rintro e w5 ⟨⟨v5, rfl, hv5⟩, hb5⟩
      obtain ⟨a5, c5, rfl, _⟩ := hv5.form
      have HB5 := Lib.hid (tr3 (tr3 HB.out HB4.out) (Below.trans (by go_grown) (hb5.mono (by go_grown))))
      clear hb5 hv5 hcv CM hp0 hp1
      go_wp2_with fail
      refine (CC.out _).mono ?_
      rintro e w6 ⟨⟨v6, rfl, hv6⟩, hb6⟩
      obtain ⟨a6, c6, rfl, _⟩ := hv6.form
      have HB6 := Lib.hid (tr3 HB5.out (Below.trans (by go_grown) (hb6.mono (by go_grown))))
      clear hb6 hv6 CC
      go_wp2_with fail
      go_ret
      exact ⟨by first | rfl | simp, tr3 HB6.out (by go_grown)⟩
    · have hs : prS m0 L0 = [] := by unfold prS; rw [if_neg (by rw [hr]; exact h0)]
      rw [hs, hr]
      have hcb : (r == 0) = false := by simpa using h0
      have hcn : (r != 0) = true := by simpa using h0
      clear hr
      go_wp2_with fail
      refine (CR.out _ (HM.out.below (tr3 HB.out HB4.out))).mono ?_
      rintro e w5 ⟨rfl, hb5⟩
      have HB5 := Lib.hid (tr3 HB4.out hb5)
      clear hb5 hp0 hp1
      go_wp2_with fail
      go_ret
      exact ⟨by simp, tr3 (tr3 HB.out HB5.out) (by go_grown)⟩
end Go.Proofs.Ythllikmnlnakkaa.progOnce
