/- PictureSizes: as many signs as cells (layer 38). -/
import Derived.Test.YtdgjlniciehjbaaDoorPcN
import Derived.Test.YtdgjlniciehjbaaDoorGrO
namespace Go.Proofs.YtdgjlniciehjbaaDoor.pictureSizes
open Go.ChangeShapes Go.WideShapes Go.ChangeAt Go.RowKit
open Go.Proofs.YtdgjlniciehjbaaDoor.gr (C2 d2 chkE Rts Rt chkE_rts PM enC great_v own_v Fw RV.two rcheck_v)
open Go.Proofs.YtdgjlniciehjbaaDoor.st Go.Proofs.YtdgjlniciehjbaaDoor.wd Go.Proofs.YtdgjlniciehjbaaDoor.pc
set_option linter.unusedVariables false
set_option linter.unusedSimpArgs false
set_option maxRecDepth 20000 in
set_option maxHeartbeats 2000000 in
theorem walk (a0 : Option Addr) (n0 c0 : Nat) (L0 : List (List gr.C2)) (w : World) (w0 : gr.PM w (.slice a0 n0 c0) L0) (hN : NM w) :
    Calls Tryd.prog 5 #[.slice a0 n0 c0] w fun e w' => e = .returned (.bool true) ∧ Below w.heap.size w w' := by
  have HR := Lib.hid w0
  have HN := Lib.hid hN
  have HNL := Lib.hid w0.len.1
  have CW := Lib.hid (works_v w hN)
  clear w0 hN
  obtain ⟨P, hP⟩ : ∃ P : Ending → World → Prop, (fun (e : Ending) (w' : World) => e = .returned (.bool true) ∧ Below w.heap.size w w') = P := ⟨_, rfl⟩
  have HF : Hid (∀ w', Below w.heap.size w w' → P (.returned (.bool true)) w') := Lib.hid (by rintro w' hb; rw [← hP]; exact ⟨rfl, hb⟩)
  rw [hP]
  clear hP
  obtain ⟨r, hr⟩ : ∃ r, chkE L0 = r := ⟨_, rfl⟩
  have HRR := Lib.hid hr
  clear hr
  go_enter Tryd.func5, Tryd.ntmps5
  go_wp2_with fail
  refine CW.out.mono ?_
  rintro e w1 ⟨rfl, hb1⟩
  have HB1 := Lib.hid hb1
  have CG := Lib.hid (great_v a0 n0 c0 L0 w1 (HR.out.below hb1))
  clear hb1 CW
  go_wp2_with fail
  refine CG.out.mono ?_
  rintro e w2 ⟨g, rfl, hg, rfl⟩
  have HG := Lib.hid hg
  clear hg CG
  cases g with
  | true =>
    go_wp2_with fail
    first | exact HF.out _ HB1.out | (go_ret; exact HF.out _ HB1.out)
  | false =>
    have HFW := Lib.hid (HG.out (by first | rfl | trivial))
    have CK := Lib.hid (rcheck_v a0 n0 c0 L0 r w1 (HR.out.below HB1.out) HRR.out)
    go_wp2_with fail
    refine CK.out.mono ?_
    rintro e w2 ⟨rfl, hb2⟩
    have HB2 := Lib.hid (tr3 HB1.out hb2)
    clear hb2 CK
    by_cases hr0 : r = 0
    · subst hr0
      have HL := Lib.hid (chkE_rts HRR.out)
      have hn100 : n0 ≤ 100 := by have := HL.out.m; have := HNL.out; omega
      obtain ⟨K, hK⟩ : ∃ K, chT L0 = K := ⟨_, rfl⟩
      obtain ⟨E, hE⟩ : ∃ E, chE L0 = E := ⟨_, rfl⟩
      obtain ⟨T, hT⟩ : ∃ T, txtV L0 = T := ⟨_, rfl⟩
      obtain ⟨Q, hQ⟩ : ∃ Q, linV K = Q := ⟨_, rfl⟩
      have HTL : Hid (T.length ≤ 99000) := Lib.hid (by
        rw [← hT]
        have := txt_len HL.out L0.length (Nat.le_refl _)
        have := HL.out.m
        unfold txtV
        omega)
      have HE : Hid ((E = 0 ∧ Q = L0.map charR) ∨ (E = 3 ∧ K = [] ∧ Q = [])) := Lib.hid (by
        have h0 := HRR.out
        cases hb : badRs L0 L0.length with
        | true =>
          have e1 : chE L0 = 3 := by unfold chE; rw [if_pos h0, if_pos hb]
          have e2 : chT L0 = [] := by unfold chT; rw [if_neg (by rw [e1]; decide)]
          refine .inr ⟨hE.symm.trans e1, hK.symm.trans e2, ?_⟩
          rw [← hQ, ← hK, e2]
          rfl
        | false =>
          have e1 : chE L0 = 0 := by unfold chE; rw [if_pos h0, if_neg (by rw [hb]; decide)]
          have e2 : chT L0 = chN L0 L0.length := by unfold chT; rw [if_pos e1]
          refine .inl ⟨hE.symm.trans e1, ?_⟩
          rw [← hQ, ← hK, e2, lin_ch])
      have HKL : Hid (K.length ≤ 100000) := Lib.hid (by
        rw [← hK]
        unfold chT
        split
        · rename_i h0
          have hb : badRs L0 L0.length = false := by
            cases hb : badRs L0 L0.length with
            | false => rfl
            | true =>
              unfold chE at h0
              rw [if_pos HRR.out, if_pos hb] at h0
              simp at h0
          have := ch_len HL.out L0.length (Nat.le_refl _) hb
          have := HL.out.m
          omega
        · simp)
      have CO : Hid (∀ w3, Below w.heap.size w w3 → Calls Tryd.prog 9 #[.slice a0 n0 c0] w3 fun e w' => ∃ a' c', e = .returned (.slice a' n0 c') ∧ PM w' (.slice a' n0 c') L0 ∧ Below w3.heap.size w3 w') := Lib.hid (fun w3 hb => own_v a0 n0 c0 L0 w3 (HR.out.below hb) HFW.out)
      have C1 : Hid (∀ ad cd w3, Below w.heap.size w w3 → PM w3 (.slice ad n0 cd) L0 → Calls Tryd.prog 8 #[.slice ad n0 cd] w3 fun e w' => e = .returned (.tuple #[.string ⟨T.toArray⟩, .int .i64 0]) ∧ Below w3.heap.size w3 w') := Lib.hid (fun ad cd w3 hb h => by
        have := text_v ad n0 cd L0 0 w3 h HRR.out (HN.out.below hb)
        rw [if_pos rfl, hT] at this
        exact this)
      have C3 : Hid (∀ ad cd w3, PM w3 (.slice ad n0 cd) L0 → Calls Tryd.prog 11 #[.slice ad n0 cd] w3 fun e w' => e = .returned (.tuple #[.string ⟨K.toArray⟩, .int .i64 E]) ∧ Below w3.heap.size w3 w') := Lib.hid (fun ad cd w3 h => by
        have := chart_v ad n0 cd L0 w3 h
        rw [hK, hE] at this
        exact this)
      have C5 : Hid (∀ w3, Calls Tryd.prog 17 #[.string ⟨K.toArray⟩] w3 fun e w' => ∃ v, e = .returned v ∧ SV w' v Q ∧ Below w3.heap.size w3 w') := Lib.hid (fun w3 => by
        have := rlines_v K w3 HKL.out
        rw [hQ] at this
        exact this)
      have C6 : Hid (∀ w3, Calls Tryd.prog 17 #[.string ⟨T.toArray⟩] w3 fun e w' => ∃ v, e = .returned v ∧ SV w' v (L0.map rowT) ∧ Below w3.heap.size w3 w') := Lib.hid (fun w3 => by
        have := rlines_v T w3 (by have := HTL.out; omega)
        rw [← hT, lin_txtV HL.out, hT] at this
        exact this)
      clear hK hE hT hQ
      have D1 := Lib.hid (CO.out w2 HB2.out)
      go_wp2_with fail
      refine D1.out.mono ?_
      rintro e w3 ⟨a3, c3, rfl, hp3, hb3⟩
      have HB3 := Lib.hid (tr3 HB2.out hb3)
      have D2 := Lib.hid (C3.out a3 c3 w3 hp3)
      clear hp3 hb3 D1
      go_wp2_with fail
      refine D2.out.mono ?_
      rintro e w4 ⟨rfl, hb4⟩
      have HB4 := Lib.hid (tr3 HB3.out hb4)
      have D3 := Lib.hid (CO.out w4 HB4.out)
      clear hb4 D2
      go_wp2_with fail
      refine D3.out.mono ?_
      rintro e w5 ⟨a5, c5, rfl, hp5, hb5⟩
      have HB5 := Lib.hid (tr3 HB4.out hb5)
      have D4 := Lib.hid (C1.out a5 c5 w5 HB5.out hp5)
      clear hp5 hb5 D3
      go_wp2_with fail
      refine D4.out.mono ?_
      rintro e w6 ⟨rfl, hb6⟩
      have HB6 := Lib.hid (tr3 HB5.out hb6)
      clear hb6 D4
      go_wp2_with fail
      refine (C5.out _).mono ?_
      rintro e w7 ⟨v7, rfl, hv7, hb7⟩
      have HB7 := Lib.hid (tr3 HB6.out hb7)
      have HV7 := Lib.hid hv7
      obtain ⟨al, cl, rfl, _⟩ := hv7.form
      clear hv7 hb7
      go_wp2_with fail
      refine (C6.out _).mono ?_
      rintro e w8 ⟨v8, rfl, hv8, hb8⟩
      have HB8 := Lib.hid (tr3 HB7.out hb8)
      obtain ⟨at_, ct, rfl, _⟩ := hv8.form
      have hl8 : (L0.map rowT).length = n0 := by rw [List.length_map]; exact HNL.out.symm
      rw [hl8] at hv8 ⊢
      have HV8 := Lib.hid hv8
      have HV78 := Lib.hid (HV7.out.below hb8)
      clear hv8 hb8 hl8 HV7 C1 C3 C5 C6 CO
      have h00 : Hid (Below w8.heap.size w8 w8) := Lib.hid (Below.refl _ _)
      have hnn : ((n0 : Int) == (n0 : Int)) = true := by simp
      rcases HE.out with ⟨rfl, rfl⟩ | ⟨rfl, rfl, rfl⟩
      · have hl7 : (L0.map charR).length = n0 := by rw [List.length_map]; exact HNL.out.symm
        rw [hl7] at HV78 ⊢
        clear HE hl7
        go_wp2_with fail
        go_loopw [9] (fun i wr => ∃ k : Nat, i = .int .i64 (k : Int) ∧ k ≤ n0 ∧ Hid (Below w8.heap.size w8 wr)) (fun i _ => n0 - (intOf i).toNat)
        case atStart => exact ⟨0, rfl, by omega, h00⟩
        case round =>
          clear h00
          obtain ⟨k, rfl, hk, HB⟩ := hrel
          by_cases hlt : k < n0
          · obtain ⟨b, o, ai, ci, rfl, hbl, c0, hrow⟩ := (HR.out.below (tr3 HB8.out HB.out)).row k hlt
            have hrt := HL.out.r k (by rw [← HNL.out]; exact hlt)
            obtain ⟨b2, o2, rfl, hbl2, d0⟩ := SV.at (HV8.out.below HB.out) k hlt
            have hgT : (L0.map rowT).getD k [] = rowT (L0.getD k []) := by
              rw [List.getD_eq_getElem?_getD, List.getElem?_map, List.getD_eq_getElem?_getD, List.getElem?_eq_getElem (by rw [← HNL.out]; exact hlt)]
              rfl
            rw [hgT] at d0
            obtain ⟨b4, o4, rfl, hbl4, f0⟩ := SV.at (HV78.out.below HB.out) k hlt
            have hgC : (L0.map charR).getD k [] = charR (L0.getD k []) := by
              rw [List.getD_eq_getElem?_getD, List.getElem?_map, List.getD_eq_getElem?_getD, List.getElem?_eq_getElem (by rw [← HNL.out]; exact hlt)]
              rfl
            rw [hgC] at f0
            obtain ⟨l, hl⟩ : ∃ l, L0.getD k [] = l := ⟨_, rfl⟩
            rw [hl] at c0 hrow hrt d0 f0
            obtain ⟨m, hm⟩ : ∃ m, l.length = m := ⟨_, rfl⟩
            have hm100 : m ≤ 100 := by rw [← hm]; exact hrt.m
            have hm0 : 0 < m := by rw [← hm]; exact hrt.p
            rw [hm] at c0 hrow
            have hrl := row_len hrt
            have CF : Hid (∀ w3, Calls Tryd.prog 18 #[.string ⟨(rowT l).toArray⟩] w3 fun e w' => ∃ af cf, e = .returned (.slice af m cf) ∧ Below w3.heap.size w3 w') := Lib.hid (fun w3 => (rfields_v (rowT l) w3 (by omega)).mono (by
              rintro e w' ⟨v, rfl, hv, hb⟩
              rw [row_fld hrt] at hv
              obtain ⟨af, cf, rfl, _⟩ := hv.form
              exact ⟨af, cf, by rw [wds_len, hm], hb⟩))
            have hcc := char_cnt hrt
            have hcl : (charR l).length = wid l l.length := by unfold charR; rw [sgs_len]
            rw [wid_last hrt, hm] at hcl
            rw [hm] at hcc
            obtain ⟨A, hA⟩ : ∃ A, charR l = A := ⟨_, rfl⟩
            rw [hA] at f0 hcc hcl
            obtain ⟨m1, hm1⟩ : ∃ m1, m - 1 = m1 := ⟨_, rfl⟩
            rw [hm1] at hcl
            have hm1c : (m : Int) - 1 = (m1 : Int) := by omega
            have hm1w : IntKind.i64.wrap (m1 : Int) = (m1 : Int) := by rw [IntKind.wrap_i64]; omega
            have hm1m : (m1 : Int) < (m : Int) := by omega
            have hm1n : m1 < m := by omega
            have hnn1 := hrt.nn m1 (by omega)
            have ht1 := hrt.t m1 (by omega)
            obtain ⟨sN, hsN⟩ : ∃ sN : Nat, (l.getD m1 d2).1 = (sN : Int) := ⟨(l.getD m1 d2).1.toNat, by omega⟩
            rw [hsN, Int.toNat_natCast] at hcl
            have hsz : sN ≤ 1048575 := by omega
            have hfs := str_size A
            have hAe : ((A.length : Int) != (sN : Int) + 1) = false := by simp; omega
            have hAe2 : ((sN : Int) + 1 != (sN : Int) + 1) = false := by simp
            have HCL := Lib.hid hcl
            have HSN := Lib.hid hsN
            have HCC := Lib.hid hcc
            have HA0 := Lib.hid f0
            obtain ⟨X, hX⟩ : ∃ X, rowT l = X := ⟨_, rfl⟩
            rw [hX] at d0 CF
            have hkI : (k : Int) < (n0 : Int) := by omega
            have hkn : ¬ (n0 : Int) ≤ (k : Int) := by omega
            have hknN : ¬ n0 ≤ k := by omega
            have hknd : decide ((n0 : Int) ≤ (k : Int)) = false := by simpa using hkn
            have hknD : decide (n0 ≤ k) = false := by simpa using hknN
            have mm : ((m : Int) != (m : Int)) = false := by simp
            have HS13 : Hid (∀ w', Below wr.heap.size wr w' → w'.cell? ⟨b2, o2 + k, none⟩ = some (.string ⟨X.toArray⟩) ∧ w'.cell? ⟨b, o + k, none⟩ = some (.slice ai m ci)) := Lib.hid (fun w' hb => ⟨(hb.cell (p := ⟨b2, o2 + k, none⟩) hbl2).trans d0, (hb.cell (p := ⟨b, o + k, none⟩) hbl).trans c0⟩)
            have hs0 := HS13.out wr (Below.refl _ _)
            have HROW : Hid (∀ w', Below wr.heap.size wr w' → RV 2 enC w' (.slice ai m ci) l) := Lib.hid (fun w' hb => hrow.below hb)
            have HRT := Lib.hid hrt
            have HM := Lib.hid hm
            have HB3 := Lib.hid HB.out
            obtain ⟨wO, rfl⟩ : ∃ x, x = wr := ⟨_, rfl⟩
            clear hA hm1 hcl hsN hnn1 ht1 hcc hgT hgC hl hm hX hrow hrt hrl HB d0 c0
            go_wp2_with fail
            go_region_held3 (fun w' => w'.cell? ⟨b2, o2 + k, none⟩ = some (.string ⟨X.toArray⟩) ∧ w'.cell? ⟨b, o + k, none⟩ = some (.slice ai m ci)) (first | (with_reducible assumption) | exact HS13.out _ hbb5 | (refine HS13.out _ ?_; go_grown; done))
              (first
                | ((go_at_call 18; (with_reducible refine (CF.out _).mono ?_); rintro e w5 ⟨af, cf, rfl, hb5⟩; have hbb5 : Below wO.heap.size wO w5 := tr3 (by go_grown) hb5)))
            all_goals
              have HB6 := Lib.hid (tr3 HB3.out hbb5)
              have f0 := (hbb5.cell (p := ⟨b4, o4 + k, none⟩) hbl4).trans HA0.out
              obtain ⟨hs1, hs2⟩ := HS13.out _ hbb5
              obtain ⟨b3, o3, rfl, hbl3, g0, g1⟩ := RV.two (HROW.out _ hbb5) m1 hm1n
              rw [HSN.out] at g0
              have hwN : IntKind.i64.wrap ((sN : Int) + 1) = (sN : Int) + 1 := by rw [IntKind.wrap_i64]; omega
              have HB6q : Hid (∀ q, Below w8.heap.size w8 (w5.drewN q)) := Lib.hid (fun q => below_drewN HB6.out q)
              have HB5q : Hid (∀ q, Below wO.heap.size wO (w5.drewN q)) := Lib.hid (fun q => below_drewN hbb5 q)
              have u0 : Hid ((A.take 0).countP isS = 0) := Lib.hid rfl
              have u1 : Hid ((A.take 0).countP isW = 0) := Lib.hid rfl
              clear hb5
              go_wp2_with fail
              go_quiet (fail)
              obtain ⟨wq, hwq⟩ : ∃ x, w5.drewN nq = x := ⟨_, rfl⟩
              have HBq := Lib.hid (HB6q.out nq)
              have HBo := Lib.hid (HB5q.out nq)
              rw [hwq] at HBq HBo ⊢
              have hq0 : Hid (wq = wq) := Lib.hid rfl
              clear hwq HB6q HB5q hs1 hs2 f0 g0 g1
              go_wp2_with fail
              go_loopw [10, 11, 13] (fun s t i wr => ∃ (p u v : Nat), i = .int .i64 (p : Int) ∧ s = .int .i64 (u : Int) ∧ t = .int .i64 (v : Int) ∧ p ≤ A.length ∧ u ≤ p ∧ v ≤ p ∧ Hid ((A.take p).countP isS = u) ∧ Hid ((A.take p).countP isW = v) ∧ wq = wr) (fun _ _ i _ => A.length - (intOf i).toNat)
              case atStart => exact ⟨0, 0, 0, rfl, rfl, rfl, by omega, by omega, by omega, u0, u1, rfl⟩
              case round =>
                clear u0 u1
                obtain ⟨p, u, v, rfl, rfl, rfl, hp, hu, hv, HU, HV, rfl⟩ := hrel
                have hAb : A.length ≤ 1048576 := by have := HCL.out; omega
                have f0 := (HBo.out.cell (p := ⟨b4, o4 + k, none⟩) hbl4).trans HA0.out
                by_cases hpt : p < A.length
                · have hpI : (p : Int) < (A.length : Int) := by omega
                  have hat : ∀ h : p < (⟨A.toArray⟩ : ByteArray).size, (⟨A.toArray⟩ : ByteArray)[p]'h = A.getD p 0 := fun h => str_at A p h
                  have hc1 := take_cnt isS A 0 p hpt
                  have hc2 := take_cnt isW A 0 p hpt
                  rw [HU.out] at hc1
                  rw [HV.out] at hc2
                  obtain ⟨x, hx⟩ : ∃ x, A.getD p 0 = x := ⟨_, rfl⟩
                  simp only [hx] at hat
                  rw [hx] at hc1 hc2
                  have hw1 : IntKind.i64.wrap ((u : Int) + 1) = ((u + 1 : Nat) : Int) := by rw [IntKind.wrap_i64]; omega
                  have hw2 : IntKind.i64.wrap ((v : Int) + 1) = ((v + 1 : Nat) : Int) := by rw [IntKind.wrap_i64]; omega
                  obtain ⟨xn, hxn⟩ : ∃ n, x.toNat = n := ⟨_, rfl⟩
                  have hxb : xn < 256 := by rw [← hxn]; exact x.toNat_lt
                  by_cases h46 : xn = 46
                  · have hxe : x = 46 := UInt8.toNat_inj.1 (by rw [hxn, h46]; rfl)
                    have H1 : Hid ((A.take (p + 1)).countP isS = u) := Lib.hid (by rw [hc1, hxe]; rfl)
                    have H2 : Hid ((A.take (p + 1)).countP isW = v) := Lib.hid (by rw [hc2, hxe]; rfl)
                    have k1 : ((xn : Int) != 46) = false := by simp; omega
                    have k2 : ((xn : Int) == 60) = false := by simp; omega
                    have k3 : ((xn : Int) == 46) = true := by simp; omega
                    clear hx hc1 hc2 HU HV h46 hxe
                    go_wp2_with fail
                    go_roundw
                    case rel => exact ⟨p + 1, u, v, by go_num, rfl, rfl, by omega, by omega, by omega, H1, H2, by first | rfl | trivial⟩
                    case measure => first | (simp [intOf]; done) | (simp [intOf]; omega)
                  · have hne : isS x = true := by
                      unfold isS
                      simp
                      rintro rfl
                      exact h46 (by rw [← hxn]; rfl)
                    have H1 : Hid ((A.take (p + 1)).countP isS = u + 1) := Lib.hid (by rw [hc1, hne]; rfl)
                    have k1 : ((xn : Int) != 46) = true := by simp; omega
                    have k3 : ((xn : Int) == 46) = false := by simp; omega
                    by_cases h60 : xn = 60
                    · have hxe : x = 60 := UInt8.toNat_inj.1 (by rw [hxn, h60]; rfl)
                      have H2 : Hid ((A.take (p + 1)).countP isW = v + 1) := Lib.hid (by rw [hc2, hxe]; rfl)
                      have k2 : ((xn : Int) == 60) = true := by simp; omega
                      clear hx hc1 hc2 HU HV h46 h60 hxe hne
                      go_wp2_with fail
                      go_roundw
                      case rel => exact ⟨p + 1, u + 1, v + 1, by go_num, by first | rfl | go_num, by first | rfl | go_num, by omega, by omega, by omega, H1, H2, by first | rfl | trivial⟩
                      case measure => first | (simp [intOf]; done) | (simp [intOf]; omega)
                    · have hne2 : isW x = false := by
                        unfold isW
                        simp
                        rintro rfl
                        exact h60 (by rw [← hxn]; rfl)
                      have H2 : Hid ((A.take (p + 1)).countP isW = v) := Lib.hid (by rw [hc2, hne2]; rfl)
                      have k2 : ((xn : Int) == 60) = false := by simp; omega
                      clear hx hc1 hc2 HU HV h46 h60 hne hne2
                      go_wp2_with fail
                      go_roundw
                      case rel => exact ⟨p + 1, u + 1, v, by go_num, by first | rfl | go_num, rfl, by omega, by omega, by omega, H1, H2, by first | rfl | trivial⟩
                      case measure => first | (simp [intOf]; done) | (simp [intOf]; omega)
                · obtain rfl : p = A.length := by omega
                  have hum : u = m := by rw [← HU.out, List.take_length]; exact HCC.out.1
                  have hvm : Hid (v = l.countP (·.2)) := Lib.hid (by rw [← HV.out, List.take_length]; exact HCC.out.2)
                  subst hum
                  have t0 : Hid ((l.take 0).countP (·.2) = 0) := Lib.hid rfl
                  clear HU HV
                  go_wp2_with fail
                  go_loopw [12, 14] (fun s i wr => ∃ (j y : Nat), i = .int .i64 (j : Int) ∧ s = .int .i64 (y : Int) ∧ j ≤ u ∧ y ≤ j ∧ Hid ((l.take j).countP (·.2) = y) ∧ wq = wr) (fun _ i _ => u - (intOf i).toNat)
                  case atStart => exact ⟨0, 0, rfl, rfl, by omega, by omega, t0, rfl⟩
                  case round =>
                    clear t0
                    obtain ⟨j, y, rfl, rfl, hj, hy, HY, rfl⟩ := hrel
                    have c0 := (HS13.out wq HBo.out).2
                    by_cases hjt : j < u
                    · have hjI : (j : Int) < (u : Int) := by omega
                      obtain ⟨b3', o3', e3, _, g0, g1⟩ := RV.two (HROW.out _ HBo.out) j hjt
                      cases e3
                      have hc1 := take_cnt (fun c : C2 => c.2) l d2 j (by rw [HM.out]; exact hjt)
                      rw [HY.out] at hc1
                      obtain ⟨⟨sx, bx⟩, hx1⟩ : ∃ x, l.getD j d2 = x := ⟨_, rfl⟩
                      rw [hx1] at g1 hc1
                      simp only at g1 hc1
                      have hw1 : IntKind.i64.wrap ((y : Int) + 1) = ((y + 1 : Nat) : Int) := by rw [IntKind.wrap_i64]; omega
                      cases bx with
                      | true =>
                        have H1 : Hid ((l.take (j + 1)).countP (·.2) = y + 1) := Lib.hid (by rw [hc1]; rfl)
                        clear hc1 hx1 HY g0
                        go_wp2_with fail
                        go_roundw
                        case rel => exact ⟨j + 1, y + 1, by go_num, by first | rfl | go_num, by omega, by omega, H1, by first | rfl | trivial⟩
                        case measure => first | (simp [intOf]; done) | (simp [intOf]; omega)
                      | false =>
                        have H1 : Hid ((l.take (j + 1)).countP (·.2) = y) := Lib.hid (by rw [hc1]; rfl)
                        clear hc1 hx1 HY g0
                        go_wp2_with fail
                        go_roundw
                        case rel => exact ⟨j + 1, y, by go_num, rfl, by omega, by omega, H1, by first | rfl | trivial⟩
                        case measure => first | (simp [intOf]; done) | (simp [intOf]; omega)
                    · obtain rfl : j = u := by omega
                      have hyv : y = v := by
                        rw [hvm.out, ← HY.out, List.take_of_length_le (by rw [HM.out]; exact Nat.le_refl _)]
                      subst hyv
                      have yy : ((y : Int) != (y : Int)) = false := by simp
                      go_wp2_with fail
                      go_roundw
                      case rel => exact ⟨k + 1, by go_num, by omega, HBq⟩
                      case measure => first | (simp [intOf]; done) | (simp [intOf]; omega)
          · obtain rfl : k = n0 := by omega
            have HB9 := Lib.hid (tr3 HB8.out HB.out)
            go_wp2_with fail
            first | exact HF.out _ HB9.out | (go_ret; exact HF.out _ HB9.out)
      · clear HE
        go_wp2_with fail
        go_loopw [9] (fun i wr => ∃ k : Nat, i = .int .i64 (k : Int) ∧ k ≤ n0 ∧ Hid (Below w8.heap.size w8 wr)) (fun i _ => n0 - (intOf i).toNat)
        case atStart => exact ⟨0, rfl, by omega, h00⟩
        case round =>
          clear h00
          obtain ⟨k, rfl, hk, HB⟩ := hrel
          by_cases hlt : k < n0
          · obtain ⟨b, o, ai, ci, rfl, hbl, c0, hrow⟩ := (HR.out.below (tr3 HB8.out HB.out)).row k hlt
            have hrt := HL.out.r k (by rw [← HNL.out]; exact hlt)
            obtain ⟨b2, o2, rfl, hbl2, d0⟩ := SV.at (HV8.out.below HB.out) k hlt
            have hgT : (L0.map rowT).getD k [] = rowT (L0.getD k []) := by
              rw [List.getD_eq_getElem?_getD, List.getElem?_map, List.getD_eq_getElem?_getD, List.getElem?_eq_getElem (by rw [← HNL.out]; exact hlt)]
              rfl
            rw [hgT] at d0
            obtain ⟨l, hl⟩ : ∃ l, L0.getD k [] = l := ⟨_, rfl⟩
            rw [hl] at c0 hrow hrt d0
            obtain ⟨m, hm⟩ : ∃ m, l.length = m := ⟨_, rfl⟩
            have hm100 : m ≤ 100 := by rw [← hm]; exact hrt.m
            have hm0 : 0 < m := by rw [← hm]; exact hrt.p
            rw [hm] at c0 hrow
            have hrl := row_len hrt
            have CF : Hid (∀ w3, Calls Tryd.prog 18 #[.string ⟨(rowT l).toArray⟩] w3 fun e w' => ∃ af cf, e = .returned (.slice af m cf) ∧ Below w3.heap.size w3 w') := Lib.hid (fun w3 => (rfields_v (rowT l) w3 (by omega)).mono (by
              rintro e w' ⟨v, rfl, hv, hb⟩
              rw [row_fld hrt] at hv
              obtain ⟨af, cf, rfl, _⟩ := hv.form
              exact ⟨af, cf, by rw [wds_len, hm], hb⟩))
            obtain ⟨X, hX⟩ : ∃ X, rowT l = X := ⟨_, rfl⟩
            rw [hX] at d0 CF
            have hkI : (k : Int) < (n0 : Int) := by omega
            have hkn : ¬ (n0 : Int) ≤ (k : Int) := by omega
            have hknN : ¬ n0 ≤ k := by omega
            have hknd : decide ((n0 : Int) ≤ (k : Int)) = false := by simpa using hkn
            have hknD : decide (n0 ≤ k) = false := by simpa using hknN
            have mm : ((m : Int) != (m : Int)) = false := by simp
            have HS13 : Hid (∀ w', Below wr.heap.size wr w' → w'.cell? ⟨b2, o2 + k, none⟩ = some (.string ⟨X.toArray⟩) ∧ w'.cell? ⟨b, o + k, none⟩ = some (.slice ai m ci)) := Lib.hid (fun w' hb => ⟨(hb.cell (p := ⟨b2, o2 + k, none⟩) hbl2).trans d0, (hb.cell (p := ⟨b, o + k, none⟩) hbl).trans c0⟩)
            have hs0 := HS13.out wr (Below.refl _ _)
            have HROW : Hid (∀ w', Below wr.heap.size wr w' → RV 2 enC w' (.slice ai m ci) l) := Lib.hid (fun w' hb => hrow.below hb)
            have HRT := Lib.hid hrt
            have HM := Lib.hid hm
            have HB3 := Lib.hid HB.out
            obtain ⟨wO, rfl⟩ : ∃ x, x = wr := ⟨_, rfl⟩
            clear hgT hl hm hX hrow hrt hrl HB d0 c0
            go_wp2_with fail
            go_region_held3 (fun w' => w'.cell? ⟨b2, o2 + k, none⟩ = some (.string ⟨X.toArray⟩) ∧ w'.cell? ⟨b, o + k, none⟩ = some (.slice ai m ci)) (first | (with_reducible assumption) | exact HS13.out _ hbb5 | (refine HS13.out _ ?_; go_grown; done))
              (first
                | ((go_at_call 18; (with_reducible refine (CF.out _).mono ?_); rintro e w5 ⟨af, cf, rfl, hb5⟩; have hbb5 : Below wO.heap.size wO w5 := tr3 (by go_grown) hb5)))
            all_goals
              have HB6 := Lib.hid (tr3 HB3.out hbb5)
              clear hb5
              go_wp2_with fail
              go_roundw
              case rel => exact ⟨k + 1, by go_num, by omega, HB6⟩
              case measure => first | (simp [intOf]; done) | (simp [intOf]; omega)
          · obtain rfl : k = n0 := by omega
            have HB9 := Lib.hid (tr3 HB8.out HB.out)
            go_wp2_with fail
            first | exact HF.out _ HB9.out | (go_ret; exact HF.out _ HB9.out)
    · have h1 : (r != 0) = true := by simpa using hr0
      have h2 : (r == 0) = false := by simpa using hr0
      go_wp2_with fail
      first | exact HF.out _ HB2.out | (go_ret; exact HF.out _ HB2.out)
end Go.Proofs.YtdgjlniciehjbaaDoor.pictureSizes
