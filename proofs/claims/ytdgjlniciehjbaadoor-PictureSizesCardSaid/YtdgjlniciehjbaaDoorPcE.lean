/- Rows as a picture (layer 38): the program. -/
import Derived.Test.YtdgjlniciehjbaaDoorPcD
namespace Go.Proofs.YtdgjlniciehjbaaDoor.pc
open Go.ChangeShapes Go.WideShapes Go.ChangeAt Go.RowKit
open Go.Proofs.YtdgjlniciehjbaaDoor.gr (C2 d2 chkE Rts Rt chkE_rts PM enC recC RV.two rcheck_v check_v cel2)
open Go.Proofs.YtdgjlniciehjbaaDoor.st Go.Proofs.YtdgjlniciehjbaaDoor.wd
set_option linter.unusedVariables false
set_option linter.unusedSimpArgs false
theorem mark_v (c1 : Int) (c2 : Bool) (w : World) : Calls Tryd.prog 26 #[.agg #[.int .i64 c1, .bool c2]] w fun e w' => e = .returned (.int .u8 ((sgn c2).toNat : Int)) ∧ Below w.heap.size w w' := by
  obtain ⟨W, hW⟩ : ∃ W, w.alloc (.cells #[.int .i64 c1, .bool c2] 38) = W := ⟨_, rfl⟩
  have hb : Below w.heap.size w W := by rw [← hW]; exact (Below.refl _ _).alloc (Nat.le_refl _) _
  have hx : W.heap[w.heap.size]? = some (.cells #[.int .i64 c1, .bool c2] 38 (0, 0)) := by rw [← hW]; exact heap_new _ _ _
  obtain ⟨z0, z1⟩ := cel2 hx
  have HB := Lib.hid hb
  clear hb hx
  cases c2 with
  | true =>
    go_enter Tryd.func26, Tryd.ntmps26
    go_wp2_with fail
    go_ret
    exact ⟨rfl, HB.out⟩
  | false =>
    go_enter Tryd.func26, Tryd.ntmps26
    go_wp2_with fail
    go_ret
    exact ⟨rfl, HB.out⟩
set_option maxRecDepth 20000 in
set_option maxHeartbeats 8000000 in
theorem chart_v (a : Option Addr) (n c : Nat) (L : List (List C2)) (w : World) (h : PM w (.slice a n c) L) :
    Calls Tryd.prog 11 #[.slice a n c] w fun e w' => e = .returned (.tuple #[.string ⟨(chT L).toArray⟩, .int .i64 (chE L)]) ∧ Below w.heap.size w w' := by
  obtain ⟨r, hr⟩ : ∃ r, chkE L = r := ⟨_, rfl⟩
  have HC := Lib.hid (check_v a n c L r w h hr)
  by_cases hr0 : r = 0
  · subst hr0
    have HL := Lib.hid (chkE_rts hr)
    obtain ⟨hnl, hnc, hcm⟩ := h.len
    unfold maxLen at hcm
    have HR0 := Lib.hid h
    have HNL := Lib.hid hnl
    have hn100 : n ≤ 100 := by have := HL.out.m; omega
    obtain ⟨R, hR⟩ : ∃ R, chT L = R := ⟨_, rfl⟩
    obtain ⟨E, hE⟩ : ∃ E, chE L = E := ⟨_, rfl⟩
    have HE1 : Hid (∀ k, k ≤ n → badRs L k = true → R = [] ∧ E = 3) := Lib.hid (fun k hk hb => by
      have h1 : badRs L L.length = true := badRs_stay L k _ (by omega) hb
      have h2 : chE L = 3 := by unfold chE; rw [if_pos hr, if_pos h1]
      refine ⟨?_, by rw [← hE, h2]⟩
      rw [← hR]
      unfold chT
      rw [h2, if_neg (by decide)])
    have HE0 : Hid (badRs L n = false → R = chN L n ∧ E = 0) := Lib.hid (fun hb => by
      have h2 : chE L = 0 := by unfold chE; rw [if_pos hr, if_neg (by rw [← hnl, hb]; decide)]
      refine ⟨?_, by rw [← hE, h2]⟩
      rw [← hR]
      unfold chT
      rw [h2, if_pos rfl, hnl])
    rw [hR, hE]
    have h00 : Hid (badRs L 0 = false) := Lib.hid rfl
    clear h hr hnl hR hE
    go_enter Tryd.func11, Tryd.ntmps11
    go_wp2_with fail
    refine HC.out.mono ?_
    rintro e w1 ⟨rfl, hb1⟩
    have HB1 := Lib.hid hb1
    have HO1 : Hid (OR 1 enB w1 w.heap.size 5 (.slice none 0 0) (chN L 0)) := Lib.hid (OR.nil _ _ _)
    clear hb1 HC
    go_wp2_with fail
    go_loopw [5, 18] (fun s i wr => ∃ (k : Nat) (a' : Option Addr) (m' c' : Nat), i = .int .i64 (k : Int) ∧ s = .slice a' m' c' ∧ k ≤ n ∧ Hid (badRs L k = false) ∧ Hid (OR 1 enB wr w.heap.size 5 (.slice a' m' c') (chN L k)) ∧ Hid (Below w.heap.size w wr)) (fun s i _ => n - (intOf i).toNat)
    case atStart => exact ⟨0, none, 0, 0, rfl, rfl, by omega, h00, HO1, HB1⟩
    case round =>
      clear h00 HO1 HB1
      obtain ⟨k, a', m', c', rfl, rfl, hk, HBD, HO, HB⟩ := hrel
      by_cases hlt : k < n
      · obtain ⟨b, o, ai, ci, rfl, hbl, c0, hrow⟩ := HR0.out.row k hlt
        have hrt := HL.out.r k (by rw [← HNL.out]; exact hlt)
        have hTK : chN L (k + 1) = chN L k ++ charR (L.getD k []) ++ [10] := rfl
        have hBK : badRs L (k + 1) = badR (L.getD k []) := by rw [badRs, HBD.out]; rfl
        have htl := ch_len HL.out k (by rw [← HNL.out]; omega) HBD.out
        have hm' : m' = (chN L k).length := (OR.rv recB HO.out).len.1
        obtain ⟨G, hG⟩ : ∃ G, chN L k = G := ⟨_, rfl⟩
        rw [hG] at hTK htl hm'
        obtain ⟨l, hl⟩ : ∃ l, L.getD k [] = l := ⟨_, rfl⟩
        rw [hl] at c0 hrow hrt hTK hBK
        obtain ⟨m, hm⟩ : ∃ m, l.length = m := ⟨_, rfl⟩
        have hm100 : m ≤ 100 := by rw [← hm]; exact hrt.m
        rw [hm] at c0 hrow
        have c0 := (HB.out.cell (p := ⟨b, o + k, none⟩) hbl).trans c0
        have HM := Lib.hid hm
        have HRT := Lib.hid hrt
        have HTK := Lib.hid hTK
        have HBK := Lib.hid hBK
        have hgl : m' ≤ 20100 := by omega
        have HMG := Lib.hid hm'
        have HROW := Lib.hid hrow
        have hkI : (k : Int) < (n : Int) := by omega
        have HO0 : Hid (OR 1 enB wr w.heap.size 5 (.slice a' m' c') (G ++ sgs l (wid l 0) 0)) := Lib.hid (by
          have h9 := HO.out
          rw [hG] at h9
          rw [show sgs l (wid l 0) 0 = [] from rfl, List.append_nil]
          exact h9)
        have h199 : Hid (∀ i, i < 0 → (l.getD i d2).1 ≤ 199) := Lib.hid (fun i hi => by omega)
        have HB2 := Lib.hid HB.out
        clear hl hm hrow hrt hTK htl hbl hm' hG hBK HO HB
        go_wp2_with fail
        go_loopw [5, 26] (fun s i wr => ∃ (j : Nat) (a2 : Option Addr) (m2 c2 : Nat), i = .int .i64 (j : Int) ∧ s = .slice a2 m2 c2 ∧ j ≤ m ∧ Hid (∀ i, i < j → (l.getD i d2).1 ≤ 199) ∧ Hid (OR 1 enB wr w.heap.size 5 (.slice a2 m2 c2) (G ++ sgs l (wid l j) j)) ∧ Hid (Below w.heap.size w wr)) (fun s i _ => m - (intOf i).toNat)
        case atStart => exact ⟨0, a', m', c', rfl, rfl, by omega, h199, HO0, HB2⟩
        case round =>
          clear h199 HO0 HB2
          obtain ⟨j, a2, m2, c2, rfl, rfl, hj, H199, HO, HB⟩ := hrel
          by_cases hjt : j < m
          · obtain ⟨b2, o2, rfl, hbl2, d0, d1⟩ := RV.two (HROW.out.below HB.out) j hjt
            have hnn := HRT.out.nn j (by rw [HM.out]; exact hjt)
            have hwl := wid_le HRT.out (n := j) (by rw [HM.out]; exact hjt)
            have hdot := sgn_dot HRT.out j (by rw [HM.out]; omega)
            have hsc := sgs_cell HRT.out (n := j) (by rw [HM.out]; exact hjt)
            have hbd := badR_of HRT.out (j := j) (by rw [HM.out]; exact hjt)
            have hm2 : m2 = m' + wid l j := by
              have h9 := (OR.rv recB HO.out).len.1
              rw [List.length_append, sgs_len, ← HMG.out] at h9
              exact h9
            obtain ⟨⟨s1, x1⟩, hx1⟩ : ∃ x, l.getD j d2 = x := ⟨_, rfl⟩
            rw [hx1] at d0 d1 hnn hwl hsc hbd
            simp only at d0 d1 hnn hwl hsc hbd
            have HX1 := Lib.hid hx1
            obtain ⟨sN, rfl⟩ : ∃ sN : Nat, s1 = (sN : Int) := ⟨s1.toNat, by omega⟩
            rw [Int.toNat_natCast] at hsc
            have hjI : (j : Int) < (m : Int) := by omega
            obtain ⟨W2, hW2⟩ : ∃ W2, wr.alloc (.cells #[.int .i64 (sN : Int), .bool x1] 38) = W2 := ⟨_, rfl⟩
            have hb2 : Below wr.heap.size wr W2 := by rw [← hW2]; exact (Below.refl _ _).alloc (Nat.le_refl _) _
            have hX2 : W2.heap[wr.heap.size]? = some (.cells #[.int .i64 (sN : Int), .bool x1] 38 (0, 0)) := by rw [← hW2]; exact heap_new _ _ _
            obtain ⟨g8, hg8⟩ : ∃ g, wr.heap.size = g := ⟨_, rfl⟩
            rw [hg8] at hX2
            obtain ⟨z0, z1⟩ := cel2 hX2
            have HB3 := Lib.hid (tr3 HB.out hb2)
            by_cases hbig : 199 < sN
            · have hbI : (199 : Int) < (sN : Int) := by omega
              have hbd2 : decide ((199 : Int) < (sN : Int)) = true := by simpa using hbI
              have hbn : decide (199 < sN) = true := by simpa using hbig
              obtain ⟨rfl, rfl⟩ := HE1.out (k + 1) (by omega) (by rw [HBK.out]; exact hbd hbI)
              clear hx1 hb2 hX2 hbd hsc hdot hm2
              go_wp2_with fail
              go_ret2
              exact ⟨rfl, HB3.out⟩
            · have hbI : ¬ (199 : Int) < (sN : Int) := by omega
              have hbd2 : decide ((199 : Int) < (sN : Int)) = false := by simpa using hbI
              have hbn : decide (199 < sN) = false := by simpa using hbig
              have HOW := Lib.hid (OR.below HO.out hb2)
              have HXW := Lib.hid hX2
              have HDOT := Lib.hid hdot
              have HSC := Lib.hid hsc
              obtain ⟨wj, hwj⟩ : ∃ x, wid l j = x := ⟨_, rfl⟩
              rw [hwj] at hwl hm2 HOW HDOT
              have hwjs : wj ≤ sN := by omega
              have HO3 : Hid (OR 1 enB W2 w.heap.size 5 (.slice a2 (m' + wj) c2) (G ++ sgs l wj j)) := Lib.hid (by have h9 := HOW.out; rw [hm2] at h9; exact h9)
              have hwg : IntKind.i64.wrap ((m' : Int) + (sN : Int)) = ((m' + sN : Nat) : Int) := by rw [IntKind.wrap_i64]; omega
              have HWJ := Lib.hid hwj
              rw [hm2]
              clear hx1 hb2 hX2 hbd hsc hdot hm2 HO HB HOW hwj hnn hwl
              go_wp2_with fail
              go_loopw [5] (fun s wr => ∃ (p : Nat) (a3 : Option Addr) (c3 : Nat), s = .slice a3 (m' + p) c3 ∧ wj ≤ p ∧ p ≤ sN ∧ Hid (OR 1 enB wr w.heap.size 5 (.slice a3 (m' + p) c3) (G ++ sgs l p j)) ∧ Hid (wr.heap[g8]? = some (.cells #[.int .i64 (sN : Int), .bool x1] 38 (0, 0))) ∧ Hid (Below w.heap.size w wr)) (fun s _ => m' + sN - slen s)
              case atStart => exact ⟨wj, a2, c2, rfl, by omega, by omega, HO3, HXW, HB3⟩
              case round =>
                clear HO3 HXW HB3
                obtain ⟨p, a3, c3, rfl, hp1, hp2, HO, HX, HB⟩ := hrel
                obtain ⟨z0, z1⟩ := cel2 HX.out
                by_cases hps : p < sN
                · have hpI : ((m' + p : Nat) : Int) < ((m' + sN : Nat) : Int) := by omega
                  have hpd : decide (((m' + p : Nat) : Int) < ((m' + sN : Nat) : Int)) = true := by simpa using hpI
                  have hpN : m' + p < m' + sN := by omega
                  have hpJ : (m' : Int) + (p : Int) < (m' : Int) + (sN : Int) := by omega
                  have hyl : (G ++ sgs l p j).length = m' + p := by rw [List.length_append, sgs_len, ← HMG.out]
                  have HSS : Hid (G ++ sgs l (p + 1) j = G ++ sgs l p j ++ [46]) := Lib.hid (by rw [sgs_succ, HDOT.out (p : Int) (by omega), List.append_assoc])
                  obtain ⟨YS, hYS⟩ : ∃ x, G ++ sgs l p j = x := ⟨_, rfl⟩
                  rw [hYS] at HO HSS hyl
                  have hlen : YS.length ≤ 1000000 := by omega
                  clear hYS
                  have HG9 : Hid (∀ w9, Below wr.heap.size wr w9 → OR 1 enB w9 w.heap.size 5 (.slice a3 (m' + p) c3) YS ∧ w.heap.size ≤ w9.heap.size) := Lib.hid (fun w9 hb => ⟨OR.below HO.out hb, Nat.le_trans HB.out.size hb.size⟩)
                  go_wp2_with ((at_builtin; refine wpList_appR (en := enB) rfl _ _ 40 5 _ 1 rfl Tryd.underlying40 infoU rfl (by decide) recB w.heap.size (.slice a3 (m' + p) c3) YS rfl ⟨wr.heap.size, 0, none⟩ 1 rfl 46 (HG9.out _ ((Below.refl _ _).alloc (Nat.le_refl _) _)).1 (one_byte wr 46) hlen (HG9.out _ ((Below.refl _ _).alloc (Nat.le_refl _) _)).2 ?_))
                  intro v4 w4 ho4 hg4 hor4
                  obtain ⟨va, vc, rfl⟩ := ho4.form
                  have hvl : (YS ++ [46]).length = m' + (p + 1) := by
                    rw [List.length_append, hyl]; simp; omega
                  rw [hvl] at ho4 ⊢
                  rw [← HSS.out] at ho4
                  have HO5 := Lib.hid ho4
                  have HX5 := Lib.hid (oapp (HG9.out _ ((Below.refl _ _).alloc (Nat.le_refl _) _)).1 (kb HX.out ((Below.refl _ _).alloc (Nat.le_refl _) _)) (by decide) hg4)
                  have HB5 := Lib.hid (obel rfl (tr3 HB.out ((Below.refl _ _).alloc (Nat.le_refl _) _)) (HG9.out _ ((Below.refl _ _).alloc (Nat.le_refl _) _)).1 hg4)
                  clear ho4 hg4 hor4 hvl HG9
                  go_wp2_with fail
                  go_roundw
                  case rel => exact ⟨p + 1, va, vc, rfl, by omega, by omega, HO5, HX5, HB5⟩
                  case measure => simp only [slen]; omega
                · obtain rfl : p = sN := by omega
                  have hpI : ¬ ((m' + p : Nat) : Int) < ((m' + p : Nat) : Int) := by omega
                  have hpd : decide (((m' + p : Nat) : Int) < ((m' + p : Nat) : Int)) = false := by simp
                  have hpJ : ¬ (m' : Int) + (p : Int) < (m' : Int) + (p : Int) := by omega
                  have CM := Lib.hid (mark_v (p : Int) x1 wr)
                  have hyl : (G ++ sgs l p j).length = m' + p := by rw [List.length_append, sgs_len, ← HMG.out]
                  have HSS : Hid (G ++ sgs l (wid l (j + 1)) (j + 1) = G ++ sgs l p j ++ [sgn x1]) := Lib.hid (by rw [HSC.out, List.append_assoc])
                  obtain ⟨YS, hYS⟩ : ∃ x, G ++ sgs l p j = x := ⟨_, rfl⟩
                  rw [hYS] at HO HSS hyl
                  have hlen : YS.length ≤ 1000000 := by omega
                  clear hYS
                  go_wp2_with fail
                  refine CM.out.mono ?_
                  rintro e w3 ⟨rfl, hb3⟩
                  have HG9 : Hid (∀ w9, Below w3.heap.size w3 w9 → OR 1 enB w9 w.heap.size 5 (.slice a3 (m' + p) c3) YS ∧ w.heap.size ≤ w9.heap.size) := Lib.hid (fun w9 hb => ⟨OR.below (OR.below HO.out hb3) hb, Nat.le_trans (Nat.le_trans HB.out.size hb3.size) hb.size⟩)
                  have HB3 := Lib.hid (tr3 HB.out hb3)
                  clear hb3 CM z0 z1
                  go_wp2_with ((at_builtin; refine wpList_appR (en := enB) rfl _ _ 40 5 _ 1 rfl Tryd.underlying40 infoU rfl (by decide) recB w.heap.size (.slice a3 (m' + p) c3) YS rfl ⟨w3.heap.size, 0, none⟩ 1 rfl (sgn x1) (HG9.out _ ((Below.refl _ _).alloc (Nat.le_refl _) _)).1 (one_byte w3 (sgn x1)) hlen (HG9.out _ ((Below.refl _ _).alloc (Nat.le_refl _) _)).2 ?_))
                  intro v4 w4 ho4 hg4 hor4
                  obtain ⟨va, vc, rfl⟩ := ho4.form
                  obtain ⟨vn, hvn⟩ : ∃ vn, (YS ++ [sgn x1]).length = vn := ⟨_, rfl⟩
                  rw [hvn] at ho4 ⊢
                  rw [← HSS.out] at ho4
                  have HO5 := Lib.hid ho4
                  have HB5 := Lib.hid (obel rfl (tr3 HB3.out ((Below.refl _ _).alloc (Nat.le_refl _) _)) (HG9.out _ ((Below.refl _ _).alloc (Nat.le_refl _) _)).1 hg4)
                  have H1991 : Hid (∀ i, i < j + 1 → (l.getD i d2).1 ≤ 199) := Lib.hid (fun i hi => by
                    rcases Nat.lt_or_ge i j with h9 | h9
                    · exact H199.out i h9
                    · obtain rfl : i = j := by omega
                      rw [HX1.out]
                      simp only
                      omega)
                  clear ho4 hg4 hor4 HG9
                  clear hvn
                  go_wp2_with fail
                  go_roundw
                  case rel => exact ⟨j + 1, va, vn, vc, by go_num, rfl, by omega, H1991, HO5, HB5⟩
                  case measure => first | (simp [intOf]; done) | (simp [intOf]; omega)
          · obtain rfl : j = m := by omega
            have HBK1 : Hid (badRs L (k + 1) = false) := Lib.hid (by
              rw [HBK.out]
              refine badR_no ?_
              have h9 := H199.out (l.length - 1) (by have := HRT.out.p; have := HM.out; omega)
              omega)
            have hm2 : m2 = m' + wid l j := by
              have h9 := (OR.rv recB HO.out).len.1
              rw [List.length_append, sgs_len, ← HMG.out] at h9
              exact h9
            have hlen : (G ++ sgs l (wid l j) j).length ≤ 1000000 := by
              have h9 := wid_last HRT.out
              rw [HM.out] at h9
              have h8 := H199.out (j - 1) (by have := HRT.out.p; have := HM.out; omega)
              rw [List.length_append, sgs_len, ← HMG.out]
              omega
            have HG9 : Hid (∀ w9, Below wr.heap.size wr w9 → OR 1 enB w9 w.heap.size 5 (.slice a2 m2 c2) (G ++ sgs l (wid l j) j) ∧ w.heap.size ≤ w9.heap.size) := Lib.hid (fun w9 hb => ⟨OR.below HO.out hb, Nat.le_trans HB.out.size hb.size⟩)
            have HSS : Hid (chN L (k + 1) = G ++ sgs l (wid l j) j ++ [10]) := Lib.hid (by rw [HTK.out]; unfold charR; rw [HM.out])
            obtain ⟨YS, hYS⟩ : ∃ x, G ++ sgs l (wid l j) j = x := ⟨_, rfl⟩
            rw [hYS] at HO HSS HG9 hlen
            clear hm2 hYS
            go_wp2_with ((at_builtin; refine wpList_appR (en := enB) rfl _ _ 40 5 _ 1 rfl Tryd.underlying40 infoU rfl (by decide) recB w.heap.size (.slice a2 m2 c2) YS rfl ⟨wr.heap.size, 0, none⟩ 1 rfl 10 (HG9.out _ ((Below.refl _ _).alloc (Nat.le_refl _) _)).1 (one_byte wr 10) hlen (HG9.out _ ((Below.refl _ _).alloc (Nat.le_refl _) _)).2 ?_))
            intro v4 w4 ho4 hg4 hor4
            obtain ⟨va, vc, rfl⟩ := ho4.form
            obtain ⟨vn, hvn⟩ : ∃ vn, (YS ++ [10]).length = vn := ⟨_, rfl⟩
            rw [hvn] at ho4 ⊢
            rw [← HSS.out] at ho4
            have HO5 := Lib.hid ho4
            have HB5 := Lib.hid (obel rfl (tr3 HB.out ((Below.refl _ _).alloc (Nat.le_refl _) _)) (HG9.out _ ((Below.refl _ _).alloc (Nat.le_refl _) _)).1 hg4)
            clear ho4 hg4 hor4 HG9 hvn
            go_wp2_with fail
            go_roundw
            case rel => exact ⟨k + 1, va, vn, vc, by go_num, rfl, by omega, HBK1, HO5, HB5⟩
            case measure => first | (simp [intOf]; done) | (simp [intOf]; omega)
      · obtain rfl : k = n := by omega
        obtain ⟨hRR, rfl⟩ := HE0.out HBD.out
        have hst := str_of HO.out
        rw [← hRR] at hst
        clear hRR
        go_wp2_with fail
        go_ret2
        exact ⟨rfl, HB.out⟩
  · have h1 : (r != 0) = true := by simpa using hr0
    have h2 : (r == 0) = false := by simpa using hr0
    have h3 : chE L = r := by unfold chE; rw [if_neg (by rw [hr]; exact hr0), hr]
    have h4 : chT L = [] := by unfold chT; rw [if_neg (by rw [h3]; exact hr0)]
    rw [h3, h4]
    clear h hr h3 h4
    go_enter Tryd.func11, Tryd.ntmps11
    go_wp2_with fail
    refine HC.out.mono ?_
    rintro e w1 ⟨rfl, hb1⟩
    go_wp2_with fail
    go_ret2
    exact ⟨rfl, hb1⟩
end Go.Proofs.YtdgjlniciehjbaaDoor.pc
