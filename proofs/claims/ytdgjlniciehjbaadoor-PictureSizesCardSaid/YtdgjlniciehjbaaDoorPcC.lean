/- Rows in writing, by the document (layer 38). -/
import Derived.Test.YtdgjlniciehjbaaDoorPcA
namespace Go.Proofs.YtdgjlniciehjbaaDoor.pc
open Go.ChangeShapes Go.WideShapes Go.ChangeAt Go.RowKit
open Go.Proofs.YtdgjlniciehjbaaDoor.gr (C2 d2 chkE Rts Rt chkE_rts PM enC recC RV.two rcheck_v check_v cel2)
open Go.Proofs.YtdgjlniciehjbaaDoor.st Go.Proofs.YtdgjlniciehjbaaDoor.wd
open Go.Proofs.YtdgjlniciehjbaaDoor.sb
set_option linter.unusedVariables false
set_option linter.unusedSimpArgs false
set_option maxRecDepth 20000 in
set_option maxHeartbeats 8000000 in
theorem rtext_v (a : Option Addr) (n c : Nat) (L : List (List C2)) (r : Int) (w : World) (h : PM w (.slice a n c) L) (hr : chkE L = r) :
    Calls Tryd.prog 10 #[.slice a n c] w fun e w' => e = .returned (.tuple #[.string ⟨(if r = 0 then txtV L else []).toArray⟩, .int .i64 r]) ∧ Below w.heap.size w w' := by
  have HC := Lib.hid (rcheck_v a n c L r w h hr)
  by_cases hr0 : r = 0
  · subst hr0
    rw [if_pos rfl]
    have HL := Lib.hid (chkE_rts hr)
    obtain ⟨hnl, hnc, hcm⟩ := h.len
    unfold maxLen at hcm
    have HR0 := Lib.hid h
    have HNL := Lib.hid hnl
    have hn100 : n ≤ 100 := by have := HL.out.m; omega
    obtain ⟨T, hT⟩ : ∃ T, txtV L = T := ⟨_, rfl⟩
    have HT : Hid (txtN L n = T) := Lib.hid (by rw [← hT, hnl]; rfl)
    rw [hT]
    have h00 : Hid (([] : List UInt8) = txtN L 0) := Lib.hid rfl
    clear h hr hnl hT
    go_enter Tryd.func10, Tryd.ntmps10
    go_wp2_with fail
    refine HC.out.mono ?_
    rintro e w1 ⟨rfl, hb1⟩
    have HB1 := Lib.hid hb1
    clear hb1 HC
    go_wp2_with fail
    go_loopw [5, 6] (fun s i wr => ∃ (k : Nat) (S : List UInt8), i = .int .i64 (k : Int) ∧ s = .string ⟨S.toArray⟩ ∧ k ≤ n ∧ Hid (S = txtN L k) ∧ Hid (Below w.heap.size w wr)) (fun s i _ => n - (intOf i).toNat)
    case atStart => exact ⟨0, [], rfl, rfl, by omega, h00, HB1⟩
    case round =>
      clear h00 HB1
      obtain ⟨k, S, rfl, rfl, hk, HS, HB⟩ := hrel
      by_cases hlt : k < n
      · obtain ⟨b, o, ai, ci, rfl, hbl, c0, hrow⟩ := HR0.out.row k hlt
        have hrt := HL.out.r k (by rw [← HNL.out]; exact hlt)
        have hTK : txtN L (k + 1) = txtN L k ++ rowT (L.getD k []) ++ [10] := rfl
        have htl := txt_len HL.out k (by rw [← HNL.out]; omega)
        obtain ⟨l, hl⟩ : ∃ l, L.getD k [] = l := ⟨_, rfl⟩
        rw [hl] at c0 hrow hrt hTK
        obtain ⟨m, hm⟩ : ∃ m, l.length = m := ⟨_, rfl⟩
        have hm100 : m ≤ 100 := by rw [← hm]; exact hrt.m
        rw [hm] at c0 hrow
        have hrj : rowT l = parN l m := by unfold rowT; rw [par_join, hm]
        rw [hrj, ← HS.out] at hTK
        rw [← HS.out] at htl
        have HM := Lib.hid hm
        have HRT := Lib.hid hrt
        have HTK := Lib.hid hTK
        have HTL := Lib.hid htl
        have HC0 := Lib.hid c0
        have HBL := Lib.hid hbl
        have HROW := Lib.hid hrow
        have hkI : (k : Int) < (n : Int) := by omega
        have hS0 : Hid (S = S ++ parN l 0) := Lib.hid (by simp [parN])
        have HB2 := Lib.hid HB.out
        obtain ⟨S0, hS0e⟩ : ∃ x, x = S := ⟨_, rfl⟩
        rw [← hS0e] at hS0 HTK HTL HS
        have hS1 : Hid (S0 = S0 ++ parN l 0) := by rw [← hS0e] at *; exact hS0
        clear hl hm hrow hrt hTK htl hrj c0 hbl hS0 HB
        subst hS0e
        go_wp2_with fail
        go_loopw [5, 7] (fun s i wr => ∃ (j : Nat) (A : List UInt8), i = .int .i64 (j : Int) ∧ s = .string ⟨A.toArray⟩ ∧ j ≤ m ∧ Hid (A = S0 ++ parN l j) ∧ Hid (Below w.heap.size w wr)) (fun s i _ => m - (intOf i).toNat)
        case atStart => exact ⟨0, S0, rfl, rfl, by omega, hS1, HB2⟩
        case round =>
          clear hS1 HB2
          obtain ⟨j, A, rfl, rfl, hj, HA, HB⟩ := hrel
          have c0 := (HB.out.cell (p := ⟨b, o + k, none⟩) HBL.out).trans HC0.out
          by_cases hjt : j < m
          · obtain ⟨b2, o2, rfl, hbl2, d0, d1⟩ := RV.two (HROW.out.below HB.out) j hjt
            obtain ⟨⟨s1, x1⟩, hx1⟩ : ∃ x, l.getD j d2 = x := ⟨_, rfl⟩
            have hI : I64 s1 := by have := I64c HRT.out (n := j) (by rw [HM.out]; exact hjt); rw [hx1] at this; exact this
            have hPJ : parN l (j + 1) = (if 0 < j then parN l j ++ [32] else parN l j) ++ cellS (s1, x1) (j == 0) := by rw [parN, hx1]
            have hpl := par_len HRT.out j (by rw [HM.out]; omega)
            have hal : A.length ≤ 100000 := by
              have h1 := HTL.out
              have h2 := HA.out
              rw [h2, List.length_append]
              omega
            rw [hx1] at d0 d1
            simp only at d0 d1
            have hjI : (j : Int) < (m : Int) := by omega
            obtain ⟨E, hE⟩ : ∃ E, Lib.itoa s1 = E := ⟨_, rfl⟩
            have hEl : E.length ≤ 20 := by rw [← hE]; exact itoa_len hI
            have HPJ := Lib.hid hPJ
            have HE := Lib.hid hE
            obtain ⟨W2, hW2⟩ : ∃ W2, wr.alloc (.cells #[.int .i64 s1, .bool x1] 38) = W2 := ⟨_, rfl⟩
            have hb2 : Below wr.heap.size wr W2 := by rw [← hW2]; exact (Below.refl _ _).alloc (Nat.le_refl _) _
            have hX2 : W2.heap[wr.heap.size]? = some (.cells #[.int .i64 s1, .bool x1] 38 (0, 0)) := by rw [← hW2]; exact heap_new _ _ _
            obtain ⟨g8, hg8⟩ : ∃ g, wr.heap.size = g := ⟨_, rfl⟩
            rw [hg8] at hX2
            obtain ⟨z0, z1⟩ := cel2 hX2
            have HB3 := Lib.hid (tr3 HB.out hb2)
            have CO := rof_v s1 W2 hI
            rw [hE] at CO
            have CO := Lib.hid CO
            clear hx1 hI hPJ hE hb2 hX2 hbl2 hpl
            by_cases hj0 : j = 0
            · have hjN : ¬ 0 < j := by omega
              have hjb : (j == 0) = true := by simpa using hj0
              have hjI0 : ¬ (0 : Int) < (j : Int) := by omega
              have hjd : decide ((0 : Int) < (j : Int)) = false := by simpa using hjI0
              have hjn : decide (0 < j) = false := by simpa using hj0
              clear hj0
              go_upto_region 12 with (fail)
              cases x1 with
              | true =>
                have j1 := str_join A [62]
                have q1 : ¬ 9223372036854775807 < A.length + 1 := by omega
                obtain ⟨A1, hA1⟩ : ∃ x, A ++ [62] = x := ⟨_, rfl⟩
                have l1 : A1.length = A.length + 1 := by rw [← hA1]; simp
                rw [hA1] at j1
                have j2 := str_join A1 E
                have q2 : ¬ 9223372036854775807 < A1.length + E.length := by omega
                obtain ⟨A2, hA2⟩ : ∃ x, A1 ++ E = x := ⟨_, rfl⟩
                have l2 : A2.length = A1.length + E.length := by rw [← hA2]; simp
                rw [hA2] at j2
                have HA1 : Hid (A2 = S0 ++ parN l (j + 1)) := Lib.hid (by
                  rw [HPJ.out, ← hA2, ← hA1, HA.out]
                  unfold cellS
                  rw [if_neg hjN, hjb, HE.out]
                  simp)
                clear hA1 hA2 HA HPJ
                go_wp2_with fail
                refine CO.out.mono ?_
                rintro e w3 ⟨rfl, hb3⟩
                have HB4 := Lib.hid (tr3 HB3.out hb3)
                clear hb3
                go_wp2_with fail
                go_roundw
                case rel => exact ⟨j + 1, A2, by go_num, rfl, by omega, HA1, HB4⟩
                case measure => first | (simp [intOf]; done) | (simp [intOf]; omega)
              | false =>
                have j1 := str_join A E
                have q1 : ¬ 9223372036854775807 < A.length + E.length := by omega
                obtain ⟨A1, hA1⟩ : ∃ x, A ++ E = x := ⟨_, rfl⟩
                have l1 : A1.length = A.length + E.length := by rw [← hA1]; simp
                rw [hA1] at j1
                have HA1 : Hid (A1 = S0 ++ parN l (j + 1)) := Lib.hid (by
                  rw [HPJ.out, ← hA1, HA.out]
                  unfold cellS
                  rw [if_neg hjN, hjb, HE.out]
                  simp)
                clear hA1 HA HPJ
                go_wp2_with fail
                refine CO.out.mono ?_
                rintro e w3 ⟨rfl, hb3⟩
                have HB4 := Lib.hid (tr3 HB3.out hb3)
                clear hb3
                go_wp2_with fail
                go_roundw
                case rel => exact ⟨j + 1, A1, by go_num, rfl, by omega, HA1, HB4⟩
                case measure => first | (simp [intOf]; done) | (simp [intOf]; omega)
            · have hjN : 0 < j := by omega
              have hjb : (j == 0) = false := by simpa using hj0
              have hjI0 : (0 : Int) < (j : Int) := by omega
              have hjd : decide ((0 : Int) < (j : Int)) = true := by simpa using hjI0
              have hjn : decide (0 < j) = true := by simpa using hjN
              go_upto_region 12 with (fail)
              cases x1 with
              | true =>
                have j1 := str_join A [32]
                have q1 : ¬ 9223372036854775807 < A.length + 1 := by omega
                obtain ⟨A1, hA1⟩ : ∃ x, A ++ [32] = x := ⟨_, rfl⟩
                have l1 : A1.length = A.length + 1 := by rw [← hA1]; simp
                rw [hA1] at j1
                have j2 := str_join A1 [62]
                have q2 : ¬ 9223372036854775807 < A1.length + 1 := by omega
                obtain ⟨A2, hA2⟩ : ∃ x, A1 ++ [62] = x := ⟨_, rfl⟩
                have l2 : A2.length = A1.length + 1 := by rw [← hA2]; simp
                rw [hA2] at j2
                have j3 := str_join A2 E
                have q3 : ¬ 9223372036854775807 < A2.length + E.length := by omega
                obtain ⟨A3, hA3⟩ : ∃ x, A2 ++ E = x := ⟨_, rfl⟩
                have l3 : A3.length = A2.length + E.length := by rw [← hA3]; simp
                rw [hA3] at j3
                have HA1 : Hid (A3 = S0 ++ parN l (j + 1)) := Lib.hid (by
                  rw [HPJ.out, ← hA3, ← hA2, ← hA1, HA.out]
                  unfold cellS
                  rw [if_pos hjN, hjb, HE.out]
                  simp)
                clear hA1 hA2 hA3 HA HPJ
                go_wp2_with fail
                refine CO.out.mono ?_
                rintro e w3 ⟨rfl, hb3⟩
                have HB4 := Lib.hid (tr3 HB3.out hb3)
                clear hb3
                go_wp2_with fail
                go_roundw
                case rel => exact ⟨j + 1, A3, by go_num, rfl, by omega, HA1, HB4⟩
                case measure => first | (simp [intOf]; done) | (simp [intOf]; omega)
              | false =>
                have j1 := str_join A [32]
                have q1 : ¬ 9223372036854775807 < A.length + 1 := by omega
                obtain ⟨A1, hA1⟩ : ∃ x, A ++ [32] = x := ⟨_, rfl⟩
                have l1 : A1.length = A.length + 1 := by rw [← hA1]; simp
                rw [hA1] at j1
                have j2 := str_join A1 [45]
                have q2 : ¬ 9223372036854775807 < A1.length + 1 := by omega
                obtain ⟨A2, hA2⟩ : ∃ x, A1 ++ [45] = x := ⟨_, rfl⟩
                have l2 : A2.length = A1.length + 1 := by rw [← hA2]; simp
                rw [hA2] at j2
                have j3 := str_join A2 E
                have q3 : ¬ 9223372036854775807 < A2.length + E.length := by omega
                obtain ⟨A3, hA3⟩ : ∃ x, A2 ++ E = x := ⟨_, rfl⟩
                have l3 : A3.length = A2.length + E.length := by rw [← hA3]; simp
                rw [hA3] at j3
                have HA1 : Hid (A3 = S0 ++ parN l (j + 1)) := Lib.hid (by
                  rw [HPJ.out, ← hA3, ← hA2, ← hA1, HA.out]
                  unfold cellS
                  rw [if_pos hjN, hjb, HE.out]
                  simp)
                clear hA1 hA2 hA3 HA HPJ
                go_wp2_with fail
                refine CO.out.mono ?_
                rintro e w3 ⟨rfl, hb3⟩
                have HB4 := Lib.hid (tr3 HB3.out hb3)
                clear hb3
                go_wp2_with fail
                go_roundw
                case rel => exact ⟨j + 1, A3, by go_num, rfl, by omega, HA1, HB4⟩
                case measure => first | (simp [intOf]; done) | (simp [intOf]; omega)
          · obtain rfl : j = m := by omega
            have htl := HTL.out
            have hal : A.length ≤ 100000 := by
              have h2 := HA.out
              have h3 := par_len HRT.out j (by rw [HM.out]; omega)
              rw [h2, List.length_append]
              omega
            have j1 := str_join A [10]
            have hs1 : ¬ 9223372036854775807 < A.length + 1 := by omega
            have HS2 : Hid (A ++ [10] = txtN L (k + 1)) := Lib.hid (by rw [HTK.out, HA.out])
            obtain ⟨A1, hA1⟩ : ∃ A1, A ++ [10] = A1 := ⟨_, rfl⟩
            rw [hA1] at j1 HS2
            clear hA1 htl HA
            go_wp2_with fail
            go_roundw
            case rel => exact ⟨k + 1, A1, by go_num, rfl, by omega, HS2, HB⟩
            case measure => first | (simp [intOf]; done) | (simp [intOf]; omega)
      · obtain rfl : k = n := by omega
        have hkT : S = T := by rw [HS.out, HT.out]
        subst hkT
        clear HS HT
        go_wp2_with fail
        go_ret2
        exact ⟨rfl, HB.out⟩
  · rw [if_neg hr0]
    have h1 : (r != 0) = true := by simpa using hr0
    have h2 : (r == 0) = false := by simpa using hr0
    clear h hr
    go_enter Tryd.func10, Tryd.ntmps10
    go_wp2_with fail
    refine HC.out.mono ?_
    rintro e w1 ⟨rfl, hb1⟩
    go_wp2_with fail
    go_ret2
    exact ⟨rfl, hb1⟩
end Go.Proofs.YtdgjlniciehjbaaDoor.pc
