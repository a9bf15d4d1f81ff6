/- Rows in writing (layer 38): the program, and the document. -/
import Derived.Test.YtdgjlniciehjbaaDoorPcT
import Derived.Test.YtdgjlniciehjbaaDoorPcB
import Derived.Test.YtdgjlniciehjbaaDoorWdC
import Derived.Test.YtdgjlniciehjbaaDoorWdJ
namespace Go.Proofs.YtdgjlniciehjbaaDoor.pc
open Go.ChangeShapes Go.WideShapes Go.ChangeAt Go.RowKit
open Go.Proofs.YtdgjlniciehjbaaDoor.gr (C2 d2 chkE Rts Rt chkE_rts PM enC recC RV.two rcheck_v check_v cel2)
open Go.Proofs.YtdgjlniciehjbaaDoor.st Go.Proofs.YtdgjlniciehjbaaDoor.wd
open Go.Proofs.YtdgjlniciehjbaaDoor.sb
set_option linter.unusedVariables false
set_option linter.unusedSimpArgs false
set_option maxHeartbeats 4000000 in
theorem cell_v (c1 : Int) (c2 f : Bool) (w : World) (hI : I64 c1) (hN : NM w) :
    Calls Tryd.prog 20 #[.agg #[.int .i64 c1, .bool c2], .bool f] w fun e w' => e = .returned (.string ⟨(cellS (c1, c2) f).toArray⟩) ∧ Below w.heap.size w w' := by
  obtain ⟨W, hW⟩ : ∃ W, w.alloc (.cells #[.int .i64 c1, .bool c2] 38) = W := ⟨_, rfl⟩
  have hb : Below w.heap.size w W := by rw [← hW]; exact (Below.refl _ _).alloc (Nat.le_refl _) _
  have hx : W.heap[w.heap.size]? = some (.cells #[.int .i64 c1, .bool c2] 38 (0, 0)) := by rw [← hW]; exact heap_new _ _ _
  obtain ⟨z0, z1⟩ := cel2 hx
  have CO := Lib.hid (of_v c1 W hI (hN.below hb))
  have HB := Lib.hid hb
  have HX := Lib.hid hx
  obtain ⟨E, hE⟩ : ∃ E, Lib.itoa c1 = E := ⟨_, rfl⟩
  have hEl : E.length ≤ 20 := by rw [← hE]; exact itoa_len hI
  rw [hE] at CO
  have HS : Hid (cellS (c1, c2) f = if c2 then 62 :: E else if f then E else 45 :: E) := Lib.hid (by unfold cellS; rw [hE])
  have hsz := str_size E
  obtain ⟨R, hR⟩ : ∃ R, cellS (c1, c2) f = R := ⟨_, rfl⟩
  rw [hR] at HS ⊢
  have j1 := str_join [62] E
  have j2 := str_join [45] E
  have hov1 : ¬ 9223372036854775807 < 1 + E.length := by omega
  clear hI hN hb hx hE hR
  cases c2 with
  | true =>
    have hR := HS.out
    simp only [if_true] at hR
    subst hR
    go_enter Tryd.func20, Tryd.ntmps20
    go_wp2_with fail
    refine CO.out.mono ?_
    rintro e w1 ⟨rfl, hb1⟩
    obtain ⟨y0, y1⟩ := cel2 (kb HX.out hb1)
    have HB1 := Lib.hid (tr3 HB.out hb1)
    clear hb1 z0 z1
    go_wp2_with fail
    go_ret
    exact ⟨by first | rfl | (simp; rfl) | (rw [← List.singleton_append, ← j1]), HB1.out⟩
  | false =>
    cases f with
    | true =>
      have hR := HS.out
      simp only [if_true, Bool.false_eq_true, if_false] at hR
      subst hR
      go_enter Tryd.func20, Tryd.ntmps20
      go_wp2_with fail
      refine CO.out.mono ?_
      rintro e w1 ⟨rfl, hb1⟩
      obtain ⟨y0, y1⟩ := cel2 (kb HX.out hb1)
      have HB1 := Lib.hid (tr3 HB.out hb1)
      clear hb1 z0 z1
      go_wp2_with fail
      go_ret
      exact ⟨rfl, HB1.out⟩
    | false =>
      have hR := HS.out
      simp only [if_true, Bool.false_eq_true, if_false] at hR
      subst hR
      go_enter Tryd.func20, Tryd.ntmps20
      go_wp2_with fail
      refine CO.out.mono ?_
      rintro e w1 ⟨rfl, hb1⟩
      obtain ⟨y0, y1⟩ := cel2 (kb HX.out hb1)
      have HB1 := Lib.hid (tr3 HB.out hb1)
      clear hb1 z0 z1
      go_wp2_with fail
      go_ret
      exact ⟨by first | rfl | (simp; rfl) | (rw [← List.singleton_append, ← j2]), HB1.out⟩
set_option maxRecDepth 20000 in
set_option maxHeartbeats 8000000 in
theorem text_v (a : Option Addr) (n c : Nat) (L : List (List C2)) (r : Int) (w : World) (h : PM w (.slice a n c) L) (hr : chkE L = r) (hN : NM w) :
    Calls Tryd.prog 8 #[.slice a n c] w fun e w' => e = .returned (.tuple #[.string ⟨(if r = 0 then txtV L else []).toArray⟩, .int .i64 r]) ∧ Below w.heap.size w w' := by
  have HC := Lib.hid (check_v a n c L r w h hr)
  by_cases hr0 : r = 0
  · subst hr0
    rw [if_pos rfl]
    have HL := Lib.hid (chkE_rts hr)
    obtain ⟨hnl, hnc, hcm⟩ := h.len
    unfold maxLen at hcm
    have HR0 := Lib.hid h
    have HNL := Lib.hid hnl
    have HNM := Lib.hid hN
    have hn100 : n ≤ 100 := by have := HL.out.m; omega
    obtain ⟨T, hT⟩ : ∃ T, txtV L = T := ⟨_, rfl⟩
    have HT : Hid (txtN L n = T) := Lib.hid (by rw [← hT, hnl]; rfl)
    rw [hT]
    clear h hr hN hnl hT
    go_enter Tryd.func8, Tryd.ntmps8
    go_wp2_with fail
    refine HC.out.mono ?_
    rintro e w1 ⟨rfl, hb1⟩
    have HB1 := Lib.hid hb1
    obtain ⟨B, hB⟩ : ∃ B, w1.heap.size = B := ⟨_, rfl⟩
    have HBz := Lib.hid hB
    have HwB : Hid (w.heap.size ≤ B) := Lib.hid (by rw [← hB]; exact hb1.size)
    obtain ⟨W1, hW1⟩ : ∃ W1, w1.alloc (.cells #[.pointer none, .slice none 0 0] 42) = W1 := ⟨_, rfl⟩
    have ib1 : IB B B (txtN L 0) W1 := by rw [← hW1, ← hB]; exact Lib.fresh_isBuilder _ _ w1
    have hbW : Below B w1 W1 := by rw [← hW1, ← hB]; exact (Below.refl _ _).alloc (Nat.le_refl _) _
    have hsW : B ≤ W1.heap.size := by rw [← hW1, ← hB]; simp
    have HI1 := Lib.hid ib1
    have HBW := Lib.hid hbW
    have HSW := Lib.hid hsW
    clear hb1 ib1 hbW hsW HC
    go_wp2_with fail
    go_loopw [18] (fun i wr => ∃ k : Nat, i = .int .i64 (k : Int) ∧ k ≤ n ∧ Hid (IB B B (txtN L k) wr) ∧ Hid (Below B w1 wr) ∧ Hid (B ≤ wr.heap.size)) (fun i _ => n - (intOf i).toNat)
    case atStart => exact ⟨0, rfl, by omega, HI1, HBW, HSW⟩
    case round =>
      clear HI1 HBW HSW hW1 hB
      obtain ⟨k, rfl, hk, HI, HB, HS⟩ := hrel
      by_cases hlt : k < n
      · have hbw : Below w.heap.size w wr := HB1.out.trans (HB.out.mono HwB.out)
        have HBw := Lib.hid hbw
        obtain ⟨b, o, ai, ci, rfl, hbl, c0, hrow⟩ := (HR0.out.below hbw).row k hlt
        have hrt := HL.out.r k (by rw [← HNL.out]; exact hlt)
        have hTK : txtN L (k + 1) = txtN L k ++ rowT (L.getD k []) ++ [10] := rfl
        have htl := txt_len HL.out k (by rw [← HNL.out]; omega)
        obtain ⟨l, hl⟩ : ∃ l, L.getD k [] = l := ⟨_, rfl⟩
        rw [hl] at c0 hrow hrt hTK
        obtain ⟨m, hm⟩ : ∃ m, l.length = m := ⟨_, rfl⟩
        have hm100 : m ≤ 100 := by rw [← hm]; exact hrt.m
        rw [hm] at c0 hrow
        have HM := Lib.hid hm
        have HRT := Lib.hid hrt
        have HTK := Lib.hid hTK
        have HTL := Lib.hid htl
        have HROW : Hid (∀ w', Below wr.heap.size wr w' → RV 2 enC w' (.slice ai m ci) l) := Lib.hid (fun w' hb => hrow.below hb)
        have hkI : (k : Int) < (n : Int) := by omega
        have ho0 : Hid (OR 1 enS wr wr.heap.size 9 (.slice none 0 0) (wdsN l 0)) := Lib.hid (OR.nil _ _ _)
        have hb00 : Hid (Below wr.heap.size wr wr) := Lib.hid (Below.refl _ _)
        clear hl hm hrow hrt hTK htl hbw
        obtain ⟨wO, rfl⟩ : ∃ x, x = wr := ⟨_, rfl⟩
        go_wp2_with fail
        go_loopw [8, 24] (fun s i w2 => ∃ (j : Nat) (a' : Option Addr) (c' : Nat), i = .int .i64 (j : Int) ∧ s = .slice a' j c' ∧ j ≤ m ∧ Hid (OR 1 enS w2 wO.heap.size 9 (.slice a' j c') (wdsN l j)) ∧ Hid (Below wO.heap.size wO w2)) (fun s i _ => m - (intOf i).toNat)
        case atStart => exact ⟨0, none, 0, rfl, rfl, by omega, ho0, hb00⟩
        case round =>
          clear ho0 hb00
          obtain ⟨j, a', c', rfl, rfl, hj, HO, HB2⟩ := hrel
          by_cases hjt : j < m
          · obtain ⟨b2, o2, rfl, hbl2, d0, d1⟩ := RV.two (HROW.out _ HB2.out) j hjt
            obtain ⟨⟨s1, x1⟩, hx1⟩ : ∃ x, l.getD j d2 = x := ⟨_, rfl⟩
            have hI : I64 s1 := by have := I64c HRT.out (n := j) (by rw [HM.out]; exact hjt); rw [hx1] at this; exact this
            have hWJ : wdsN l (j + 1) = wdsN l j ++ [cellS (s1, x1) (j == 0)] := by rw [wdsN, hx1]
            rw [hx1] at d0 d1
            simp only at d0 d1
            have hjI : (j : Int) < (m : Int) := by omega
            obtain ⟨f, hf⟩ : ∃ f, (j == 0) = f := ⟨_, rfl⟩
            have hfI : ((j : Int) == 0) = f := by
              rw [← hf]
              by_cases h0 : j = 0
              · subst h0; rfl
              · have e1 : (j == 0) = false := by simpa using h0
                have e2 : ((j : Int) == 0) = false := by simp; omega
                rw [e1, e2]
            rw [hf] at hWJ
            obtain ⟨S, hS⟩ : ∃ S, cellS (s1, x1) f = S := ⟨_, rfl⟩
            rw [hS] at hWJ
            have HWJ := Lib.hid hWJ
            obtain ⟨W2, hW2⟩ : ∃ W2, wr.alloc (.cells #[.int .i64 s1, .bool x1] 38) = W2 := ⟨_, rfl⟩
            have hb2 : Below wr.heap.size wr W2 := by rw [← hW2]; exact (Below.refl _ _).alloc (Nat.le_refl _) _
            have hX2 : W2.heap[wr.heap.size]? = some (.cells #[.int .i64 s1, .bool x1] 38 (0, 0)) := by rw [← hW2]; exact heap_new _ _ _
            obtain ⟨g8, hg8⟩ : ∃ g, wr.heap.size = g := ⟨_, rfl⟩
            rw [hg8] at hX2
            obtain ⟨z0, z1⟩ := cel2 hX2
            have HB3 := Lib.hid (tr3 HB2.out hb2)
            have hNM : NM W2 := HNM.out.below (HBw.out.trans (HB3.out.mono HBw.out.size))
            have CC := cell_v s1 x1 f W2 hI hNM
            rw [hS] at CC
            have CC := Lib.hid CC
            have HO3 := Lib.hid (OR.below HO.out hb2)
            have hlen : (wdsN l j).length ≤ 1000000 := by rw [wds_len]; omega
            have hsO : wO.heap.size ≤ W2.heap.size := HB3.out.size
            have HSO := Lib.hid hsO
            clear hx1 hI hWJ hf hS hb2 hX2 hNM HO hbl2
            go_wp2_with fail
            refine CC.out.mono ?_
            rintro e w3 ⟨rfl, hb3⟩
            have HB4 := Lib.hid (tr3 HB3.out hb3)
            have HO4 := Lib.hid (OR.below HO3.out hb3)
            have hs4 : wO.heap.size ≤ w3.heap.size := Nat.le_trans HSO.out hb3.size
            have HAW : Hid (∀ w9, Below w3.heap.size w3 w9 → OR 1 enS w9 wO.heap.size 9 (.slice a' j c') (wdsN l j) ∧ wO.heap.size ≤ w9.heap.size) := Lib.hid (fun w9 hb9 => ⟨OR.below HO4.out hb9, Nat.le_trans hs4 hb9.size⟩)
            clear hb3 CC HO3 hsO
            go_wp2_with ((at_builtin; refine wpList_appR rfl _ _ 34 9 _ 16 rfl Tryd.underlying34 infoS rfl (by decide) recS wO.heap.size (.slice a' j c') (wdsN l j) rfl ⟨w3.heap.size, 0, none⟩ 1 rfl S (HAW.out _ ((Below.refl _ _).alloc (Nat.le_refl _) _)).1 (one_str w3 S) hlen (HAW.out _ ((Below.refl _ _).alloc (Nat.le_refl _) _)).2 ?_))
            intro v4 w4 ho4 hg4 hor4
            rw [← HWJ.out] at ho4
            obtain ⟨va, vc, rfl⟩ := ho4.form
            rw [wds_len] at ho4 ⊢
            have HO5 := Lib.hid ho4
            have HB5 : Hid (Below wO.heap.size wO w4) := Lib.hid ((tr3 HB4.out ((Below.refl _ _).alloc (Nat.le_refl _) _)).trans ⟨hg4.os, hg4.tape, hg4.output, hg4.size, fun p hp => hg4.block p (Nat.lt_of_lt_of_le hp (Nat.le_trans hs4 (by simp))) (fun e => by have := (HO4.out.lt p e.symm).1; omega)⟩)
            clear ho4 hg4 hor4 HAW HO4
            go_wp2_with fail
            go_roundw
            case rel => exact ⟨j + 1, va, vc, by go_num, rfl, by omega, HO5, HB5⟩
            case measure => first | (simp [intOf]; done) | (simp [intOf]; omega)
          · obtain rfl : j = m := by omega
            have hsv := OR.rv recS HO.out
            have hwl : wdsN l j = wdsN l l.length := by rw [HM.out]
            have hrl : (rowT l).length ≤ 900 := row_len HRT.out
            have CJ := Lib.hid (wjoin_v _ (wdsN l j) wr hsv (by rw [wds_len]; omega) (by rw [hwl]; unfold rowT at hrl; omega))
            have hjr : Lib.join (wdsN l j) [32] = rowT l := by rw [hwl]; rfl
            rw [hjr] at CJ
            obtain ⟨RT, hRT⟩ : ∃ RT, rowT l = RT := ⟨_, rfl⟩
            rw [hRT] at CJ hrl
            have HRT2 := Lib.hid hRT
            have HI2 := Lib.hid (ib_below HI.out HB2.out)
            have HB3 : Hid (Below B w1 wr) := Lib.hid (HB.out.trans (HB2.out.mono HS.out))
            have HS3 : Hid (B ≤ wr.heap.size) := Lib.hid (Nat.le_trans HS.out HB2.out.size)
            obtain ⟨A, hA⟩ : ∃ A, txtN L k = A := ⟨_, rfl⟩
            have HA := Lib.hid hA
            rw [hA] at HI2
            have hal : A.length ≤ 90100 := by rw [← hA]; have := HTL.out; omega
            clear hsv hwl hjr hRT hA HO
            go_wp2_with fail
            refine CJ.out.mono ?_
            rintro e w3 ⟨rfl, hb3⟩
            have HI3 := Lib.hid (ib_below HI2.out hb3)
            have HB4 : Hid (Below B w1 w3) := Lib.hid (HB3.out.trans (hb3.mono HS3.out))
            have HS4 : Hid (B ≤ w3.heap.size) := Lib.hid (Nat.le_trans HS3.out hb3.size)
            have hs := str_size RT
            have C1 := ws_v B B (Lib.byteCells A) ⟨RT.toArray⟩ w3 HI3.out (by rw [Lib.byteCells_length, hs]; omega) HS4.out
            rw [str_bytes, bytes_app] at C1
            replace C1 := Lib.hid C1
            clear hb3 CJ HI2 HB3 HS3 hs
            go_wp2_with fail
            refine C1.out.mono ?_
            rintro e w4 ⟨rfl, h4, hb4⟩
            have HB5 : Hid (Below B w1 w4) := Lib.hid (HB4.out.trans hb4)
            have hs4 : B ≤ w4.heap.size := Nat.le_trans HS4.out hb4.size
            have HS5 := Lib.hid hs4
            have C2 := Lib.hid (wb_v B B (Lib.byteCells (A ++ RT)) 10 w4 (.inr h4) (by rw [Lib.byteCells_length, List.length_append]; omega) hs4)
            clear h4 hb4 C1 HI3 HB4 HS4 hs4
            go_wp2_with fail
            refine C2.out.mono ?_
            rintro e w5 ⟨rfl, h5, hb5⟩
            have HI6 : Hid (IB B B (txtN L (k + 1)) w5) := Lib.hid (.inr (by
              have e5 : Lib.byteCells (A ++ RT) ++ [Value.int .u8 10] = Lib.byteCells (A ++ RT ++ [10]) := by simp [Lib.byteCells]
              have e6 : txtN L (k + 1) = A ++ RT ++ [10] := by rw [HTK.out, HA.out, HRT2.out]
              rw [e6, ← e5]
              exact h5))
            have HB6 : Hid (Below B w1 w5) := Lib.hid (HB5.out.trans hb5)
            have HS6 : Hid (B ≤ w5.heap.size) := Lib.hid (Nat.le_trans HS5.out hb5.size)
            clear h5 hb5 C2 HB5 HS5
            go_wp2_with fail
            go_roundw
            case rel => exact ⟨k + 1, by go_num, by omega, HI6, HB6, HS6⟩
            case measure => first | (simp [intOf]; done) | (simp [intOf]; omega)
      · obtain rfl : k = n := by omega
        have hkT : txtN L k = T := HT.out
        have CS := Lib.hid (Tryd.Builder_String_any B B (txtN L k) wr HI.out HS.out)
        rw [hkT] at CS
        clear hkT
        go_wp2_with fail
        refine CS.out.mono ?_
        rintro e w5 ⟨rfl, hb5⟩
        have HB5 := Lib.hid (HB1.out.trans ((HB.out.trans hb5).mono HwB.out))
        clear hb5 CS
        go_wp2_with fail
        go_ret2
        exact ⟨rfl, HB5.out⟩
  · rw [if_neg hr0]
    have h1 : (r != 0) = true := by simpa using hr0
    have h2 : (r == 0) = false := by simpa using hr0
    clear h hr hN
    go_enter Tryd.func8, Tryd.ntmps8
    go_wp2_with fail
    refine HC.out.mono ?_
    rintro e w1 ⟨rfl, hb1⟩
    go_wp2_with fail
    go_ret2
    exact ⟨rfl, hb1⟩
end Go.Proofs.YtdgjlniciehjbaaDoor.pc
