/- Rows as a picture, by the document (layer 38). -/
import Derived.Test.YtdgjlniciehjbaaDoorPcE
namespace Go.Proofs.YtdgjlniciehjbaaDoor.pc
open Go.ChangeShapes Go.WideShapes Go.ChangeAt Go.RowKit
open Go.Proofs.YtdgjlniciehjbaaDoor.gr (C2 d2 chkE Rts Rt chkE_rts PM enC recC RV.two rcheck_v check_v cel2)
open Go.Proofs.YtdgjlniciehjbaaDoor.st Go.Proofs.YtdgjlniciehjbaaDoor.wd
set_option linter.unusedVariables false
set_option linter.unusedSimpArgs false
set_option maxRecDepth 20000 in
set_option maxHeartbeats 8000000 in
theorem rchart_v (a : Option Addr) (n c : Nat) (L : List (List C2)) (w : World) (h : PM w (.slice a n c) L) :
    Calls Tryd.prog 12 #[.slice a n c] w fun e w' => e = .returned (.tuple #[.string ⟨(chT L).toArray⟩, .int .i64 (chE L)]) ∧ Below w.heap.size w w' := by
  obtain ⟨r, hr⟩ : ∃ r, chkE L = r := ⟨_, rfl⟩
  have HC := Lib.hid (rcheck_v a n c L r w h hr)
  by_cases hr0 : r = 0
  · subst hr0
    have HL := Lib.hid (chkE_rts hr)
    obtain ⟨hnl, hnc, hcm⟩ := h.len
    unfold maxLen at hcm
    have HR0 := Lib.hid h
    have HNL := Lib.hid hnl
    have hn100 : n ≤ 100 := by have := HL.out.m; omega
    obtain ⟨R, hR⟩ : ∃ R, chT L = R := ⟨_, rfl⟩
    obtain ⟨E, hE⟩ : ∃ E, chE L = E := ⟨_, rfl⟩
    have HE1 : Hid (∀ k, k ≤ n → badRs L k = true → R = [] ∧ E = 3) := Lib.hid (fun k hk hb => by
      have h1 : badRs L L.length = true := badRs_stay L k _ (by omega) hb
      have h2 : chE L = 3 := by unfold chE; rw [if_pos hr, if_pos h1]
      refine ⟨?_, by rw [← hE, h2]⟩
      rw [← hR]
      unfold chT
      rw [h2, if_neg (by decide)])
    have HE0 : Hid (badRs L n = false → R = chN L n ∧ E = 0) := Lib.hid (fun hb => by
      have h2 : chE L = 0 := by unfold chE; rw [if_pos hr, if_neg (by rw [← hnl, hb]; decide)]
      refine ⟨?_, by rw [← hE, h2]⟩
      rw [← hR]
      unfold chT
      rw [h2, if_pos rfl, hnl])
    rw [hR, hE]
    have h00 : Hid (badRs L 0 = false) := Lib.hid rfl
    have h01 : Hid (([] : List UInt8) = chN L 0) := Lib.hid rfl
    clear h hr hnl hR hE
    go_enter Tryd.func12, Tryd.ntmps12
    go_wp2_with fail
    refine HC.out.mono ?_
    rintro e w1 ⟨rfl, hb1⟩
    have HB1 := Lib.hid hb1
    clear hb1 HC
    go_wp2_with fail
    go_loopw [5, 6] (fun s i wr => ∃ (k : Nat) (G : List UInt8), i = .int .i64 (k : Int) ∧ s = .string ⟨G.toArray⟩ ∧ k ≤ n ∧ Hid (badRs L k = false) ∧ Hid (G = chN L k) ∧ Hid (Below w.heap.size w wr)) (fun s i _ => n - (intOf i).toNat)
    case atStart => exact ⟨0, [], rfl, rfl, by omega, h00, h01, HB1⟩
    case round =>
      clear h00 h01 HB1
      obtain ⟨k, G, rfl, rfl, hk, HBD, HG, HB⟩ := hrel
      by_cases hlt : k < n
      · obtain ⟨b, o, ai, ci, rfl, hbl, c0, hrow⟩ := HR0.out.row k hlt
        have hrt := HL.out.r k (by rw [← HNL.out]; exact hlt)
        have hTK : chN L (k + 1) = chN L k ++ charR (L.getD k []) ++ [10] := rfl
        have hBK : badRs L (k + 1) = badR (L.getD k []) := by rw [badRs, HBD.out]; rfl
        have htl := ch_len HL.out k (by rw [← HNL.out]; omega) HBD.out
        rw [← HG.out] at hTK htl
        obtain ⟨l, hl⟩ : ∃ l, L.getD k [] = l := ⟨_, rfl⟩
        rw [hl] at c0 hrow hrt hTK hBK
        obtain ⟨m, hm⟩ : ∃ m, l.length = m := ⟨_, rfl⟩
        have hm100 : m ≤ 100 := by rw [← hm]; exact hrt.m
        have hm0 : 0 < m := by rw [← hm]; exact hrt.p
        rw [hm] at c0 hrow
        have HC0 := Lib.hid c0
        have HBL := Lib.hid hbl
        have c0 := (HB.out.cell (p := ⟨b, o + k, none⟩) hbl).trans c0
        have HM := Lib.hid hm
        have HRT := Lib.hid hrt
        have HTK := Lib.hid hTK
        have HBK := Lib.hid hBK
        have HROW := Lib.hid hrow
        have hkI : (k : Int) < (n : Int) := by omega
        obtain ⟨m1, hm1⟩ : ∃ m1, m - 1 = m1 := ⟨_, rfl⟩
        have hm1c : (m : Int) - 1 = (m1 : Int) := by omega
        have hm1w : IntKind.i64.wrap (m1 : Int) = (m1 : Int) := by rw [IntKind.wrap_i64]; omega
        have hm1m : (m1 : Int) < (m : Int) := by omega
        have hm1n : m1 < m := by omega
        have hnn := hrt.nn m1 (by omega)
        have hwid := wid_last hrt
        have hbdt := badR_of hrt (j := m1) (by omega)
        have hbdf := @badR_no l
        rw [hm, hm1] at hwid hbdf
        obtain ⟨b2, o2, rfl, hbl2, d0, d1⟩ := RV.two (hrow.below HB.out) m1 hm1n
        obtain ⟨⟨s1, x1⟩, hx1⟩ : ∃ x, l.getD m1 d2 = x := ⟨_, rfl⟩
        rw [hx1] at d0 hnn hwid hbdt hbdf
        simp only at d0 hnn hwid hbdt hbdf
        obtain ⟨sN, rfl⟩ : ∃ sN : Nat, s1 = (sN : Int) := ⟨s1.toNat, by omega⟩
        rw [Int.toNat_natCast] at hwid
        have HWID := Lib.hid hwid
        have HBDF := Lib.hid hbdf
        have HB2 : Hid (∀ q, Below w.heap.size w (wr.drewN q)) := Lib.hid (fun q => below_drewN HB.out q)
        by_cases hbig : 199 < sN
        · have hbI : (199 : Int) < (sN : Int) := by omega
          have hbd2 : decide ((199 : Int) < (sN : Int)) = true := by simpa using hbI
          have hbn : decide (199 < sN) = true := by simpa using hbig
          obtain ⟨rfl, rfl⟩ := HE1.out (k + 1) (by omega) (by rw [HBK.out]; exact hbdt hbI)
          clear hl hm hrow hrt hTK htl hBK hbdt hbdf hwid hx1 hbl2 d1
          go_wp2_with fail
          go_quiet (fail)
          go_wp2_with fail
          go_ret2
          exact ⟨rfl, HB2.out _⟩
        · have hbI : ¬ (199 : Int) < (sN : Int) := by omega
          have hbd2 : decide ((199 : Int) < (sN : Int)) = false := by simpa using hbI
          have hbn : decide (199 < sN) = false := by simpa using hbig
          have HBK1 : Hid (badRs L (k + 1) = false) := Lib.hid (by rw [HBK.out]; exact hbdf hbI)
          have HTL : Hid (G.length ≤ 20100) := Lib.hid (by omega)
          have HS0 : Hid (G = G ++ sgs l 0 m) := Lib.hid (by rw [show sgs l 0 m = [] from rfl, List.append_nil])
          obtain ⟨G0, hG0⟩ : ∃ x, x = G := ⟨_, rfl⟩
          have HS1 : Hid (G = G0 ++ sgs l 0 m) := Lib.hid (by rw [hG0]; exact HS0.out)
          rw [← hG0] at HTK HTL
          clear hl hm hrow hrt hTK htl hBK hbdt hbdf hwid hx1 hbl2 d1 HBD HG HS0 hG0
          go_wp2_with fail
          go_quiet (fail)
          have HB3 := Lib.hid (HB2.out nq)
          clear HB HB2
          go_wp2_with fail
          go_loopw [5, 8] (fun s i wr => ∃ (q : Nat) (A : List UInt8), i = .int .i64 (q : Int) ∧ s = .string ⟨A.toArray⟩ ∧ q ≤ sN + 1 ∧ Hid (A = G0 ++ sgs l q m) ∧ Hid (Below w.heap.size w wr)) (fun s i _ => sN + 1 - (intOf i).toNat)
          case atStart => exact ⟨0, G, rfl, rfl, by omega, HS1, HB3⟩
          case round =>
            clear HS1 HB3
            obtain ⟨q, A, rfl, rfl, hq, HA, HB⟩ := hrel
            have hal : A.length ≤ 21000 := by
              have h2 := HA.out
              have h3 := HTL.out
              rw [h2, List.length_append, sgs_len]
              omega
            by_cases hqs : q ≤ sN
            · have hqI : (q : Int) ≤ (sN : Int) := by omega
              have hx0 : Hid ((46 : UInt8) = sgnN l (q : Int) 0) := Lib.hid rfl
              have HB4 := Lib.hid HB.out
              have HSS : Hid (sgs l (q + 1) m = sgs l q m ++ [sgnN l (q : Int) m]) := Lib.hid (sgs_succ l q m)
              clear HB
              go_wp2_with fail
              go_loopw [9, 10] (fun t i wr => ∃ (j : Nat) (x : UInt8), i = .int .i64 (j : Int) ∧ t = .string ⟨#[x]⟩ ∧ j ≤ m ∧ Hid (x = sgnN l (q : Int) j) ∧ Hid (Below w.heap.size w wr)) (fun t i _ => m - (intOf i).toNat)
              case atStart => exact ⟨0, 46, rfl, rfl, by omega, hx0, HB4⟩
              case round =>
                clear hx0 HB4
                obtain ⟨j, x, rfl, rfl, hj, HX, HB⟩ := hrel
                have c0 := (HB.out.cell (p := ⟨b, o + k, none⟩) HBL.out).trans HC0.out
                by_cases hjt : j < m
                · have hjI : (j : Int) < (m : Int) := by omega
                  obtain ⟨b2', o2', e2, hbl2, d0, d1⟩ := RV.two (HROW.out.below HB.out) j hjt
                  cases e2
                  obtain ⟨⟨s1, x1⟩, hx1⟩ : ∃ x, l.getD j d2 = x := ⟨_, rfl⟩
                  rw [hx1] at d0 d1
                  simp only at d0 d1
                  have hsn : sgnN l (q : Int) (j + 1) = if s1 = (q : Int) then sgn x1 else sgnN l (q : Int) j := by rw [sgnN, hx1]
                  by_cases he : s1 = (q : Int)
                  · subst he
                    rw [if_pos rfl] at hsn
                    have heb : ((q : Int) == (q : Int)) = true := by simp
                    cases x1 with
                    | true =>
                      have HX1 : Hid ((60 : UInt8) = sgnN l (q : Int) (j + 1)) := Lib.hid hsn.symm
                      clear hx1 hsn HX
                      go_wp2_with fail
                      go_roundw
                      case rel => exact ⟨j + 1, 60, by go_num, rfl, by omega, HX1, HB⟩
                      case measure => first | (simp [intOf]; done) | (simp [intOf]; omega)
                    | false =>
                      have HX1 : Hid ((111 : UInt8) = sgnN l (q : Int) (j + 1)) := Lib.hid hsn.symm
                      clear hx1 hsn HX
                      go_wp2_with fail
                      go_roundw
                      case rel => exact ⟨j + 1, 111, by go_num, rfl, by omega, HX1, HB⟩
                      case measure => first | (simp [intOf]; done) | (simp [intOf]; omega)
                  · rw [if_neg he] at hsn
                    have heb : (s1 == (q : Int)) = false := by simpa using he
                    have HX1 : Hid (x = sgnN l (q : Int) (j + 1)) := Lib.hid (by rw [hsn]; exact HX.out)
                    clear hx1 hsn HX
                    go_wp2_with fail
                    go_roundw
                    case rel => exact ⟨j + 1, x, by go_num, rfl, by omega, HX1, HB⟩
                    case measure => first | (simp [intOf]; done) | (simp [intOf]; omega)
                · obtain rfl : j = m := by omega
                  have j1 := str_join A [x]
                  have hs1 : ¬ 9223372036854775807 < A.length + 1 := by omega
                  have HS2 : Hid (A ++ [x] = G0 ++ sgs l (q + 1) j) := Lib.hid (by rw [HSS.out, HA.out, HX.out, List.append_assoc])
                  obtain ⟨A1, hA1⟩ : ∃ A1, A ++ [x] = A1 := ⟨_, rfl⟩
                  rw [hA1] at j1 HS2
                  clear hA1 HA HX HSS
                  go_wp2_with fail
                  go_roundw
                  case rel => exact ⟨q + 1, A1, by go_num, rfl, by omega, HS2, HB⟩
                  case measure => first | (simp [intOf]; done) | (simp [intOf]; omega)
            · obtain rfl : q = sN + 1 := by omega
              have hqI : ¬ ((sN + 1 : Nat) : Int) ≤ (sN : Int) := by omega
              have j1 := str_join A [10]
              have hs1 : ¬ 9223372036854775807 < A.length + 1 := by omega
              have HS2 : Hid (A ++ [10] = chN L (k + 1)) := Lib.hid (by
                rw [HTK.out, HA.out]
                unfold charR
                rw [HM.out, HWID.out])
              obtain ⟨A1, hA1⟩ : ∃ A1, A ++ [10] = A1 := ⟨_, rfl⟩
              rw [hA1] at j1 HS2
              clear hA1 HA
              go_wp2_with fail
              go_roundw
              case rel => exact ⟨k + 1, A1, by go_num, rfl, by omega, HBK1, HS2, HB⟩
              case measure => first | (simp [intOf]; done) | (simp [intOf]; omega)
      · obtain rfl : k = n := by omega
        obtain ⟨hRR, rfl⟩ := HE0.out HBD.out
        have hGR : G = R := by rw [HG.out, hRR]
        subst hGR
        clear hRR HG
        go_wp2_with fail
        go_ret2
        exact ⟨rfl, HB.out⟩
  · have h1 : (r != 0) = true := by simpa using hr0
    have h2 : (r == 0) = false := by simpa using hr0
    have h3 : chE L = r := by unfold chE; rw [if_neg (by rw [hr]; exact hr0), hr]
    have h4 : chT L = [] := by unfold chT; rw [if_neg (by rw [h3]; exact hr0)]
    rw [h3, h4]
    clear h hr h3 h4
    go_enter Tryd.func12, Tryd.ntmps12
    go_wp2_with fail
    refine HC.out.mono ?_
    rintro e w1 ⟨rfl, hb1⟩
    go_wp2_with fail
    go_ret2
    exact ⟨rfl, hb1⟩
end Go.Proofs.YtdgjlniciehjbaaDoor.pc
