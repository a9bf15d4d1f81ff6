/- The grammar, by itself, as the document says it (layer 4). -/
import Derived.Test.YthllikmnlnakkaaPrAG
import Derived.Test.YthllikmnlnakkaaPrAC
import Derived.BigQuiet
namespace Go.Proofs.Ythllikmnlnakkaa.pr
open Go.ChangeShapes Go.WideShapes Go.ChangeAt Go.RowKit
open Go.Proofs.Ythllikmnlnakkaa.bin Go.Proofs.Ythllikmnlnakkaa.bits Go.Proofs.Ythllikmnlnakkaa.ins
set_option linter.unusedVariables false
set_option linter.unusedSimpArgs false
theorem drop_cons6 {s : List UInt8} (h : 6 ≤ s.length) : ∃ a0 a1 a2 a3 a4 a5 t, s = a0 :: a1 :: a2 :: a3 :: a4 :: a5 :: t := by
  match s, h with
  | a0 :: a1 :: a2 :: a3 :: a4 :: a5 :: t, _ => exact ⟨a0, a1, a2, a3, a4, a5, t, rfl⟩
theorem take2_of {s : List UInt8} {a : Nat} (h : a + 2 ≤ s.length) : (ofB ((s.drop a).take 2) : Int) = 256 * ((s.getD a 0).toNat : Int) + ((s.getD (a + 1) 0).toNat : Int) := by
  rw [List.drop_eq_getElem_cons (by omega), List.drop_eq_getElem_cons (by omega)]
  simp only [List.take_succ_cons, List.take_zero]
  rw [ofB2, List.getD_eq_getElem?_getD, List.getD_eq_getElem?_getD, List.getElem?_eq_getElem (by omega), List.getElem?_eq_getElem (by omega)]
  simp only [Option.getD_some]
  omega

set_option maxRecDepth 20000 in
set_option maxHeartbeats 8000000 in
theorem right_v (s : List UInt8) (w : World) (R : Bool) (hs : s.length ≤ 1000000) (hr : rightB s = R) :
    Calls Try.prog 17 #[.string ⟨s.toArray⟩] w fun e w' => e = .returned (.bool R) ∧ Below w.heap.size w w' := by
  have hfs := str_size s
  unfold rightB at hr
  by_cases h6 : s.length < 6
  · rw [if_pos h6] at hr
    subst hr
    have h6i : decide ((s.length : Int) < 6) = true := decide_eq_true (by omega)
    go_enter Try.func17, Try.ntmps17
    go_wp2_with fail
    go_quiet (fail)
    obtain ⟨wn, hwn⟩ : ∃ wn, w.drewN nq = wn := ⟨_, rfl⟩
    rw [hwn]
    have hbn : Below w.heap.size w wn := by rw [← hwn]; exact below_drewN (Below.refl _ _) _
    clear hwn
    go_wp2_with fail
    go_ret
    exact ⟨rfl, hbn⟩
  · rw [if_neg h6] at hr
    have h6i : decide ((s.length : Int) < 6) = false := decide_eq_false (by omega)
    have h6j : ¬ (s.length : Int) < 6 := by omega
    have hgn := gN_at s (by omega)
    have hgm : (gM s : Int) = _ := take2_of (s := s) (a := 4) (by omega)
    obtain ⟨a0, a1, a2, a3, a4, a5, t, hse⟩ := drop_cons6 (s := s) (by omega)
    have h3 : s.take 3 = [a0, a1, a2] := by rw [hse]; rfl
    rw [show s.getD 3 0 = a3 by rw [hse]; rfl] at hgn
    rw [show s.getD 4 0 = a4 by rw [hse]; rfl, show s.getD (4 + 1) 0 = a5 by rw [hse]; rfl] at hgm
    have hat0 : (⟨s.toArray⟩ : ByteArray)[0]'(by rw [hfs]; omega) = a0 := by rw [str_at, hse]; rfl
    have hat1 : (⟨s.toArray⟩ : ByteArray)[1]'(by rw [hfs]; omega) = a1 := by rw [str_at, hse]; rfl
    have hat2 : (⟨s.toArray⟩ : ByteArray)[2]'(by rw [hfs]; omega) = a2 := by rw [str_at, hse]; rfl
    have hat3 : (⟨s.toArray⟩ : ByteArray)[3]'(by rw [hfs]; omega) = a3 := by rw [str_at, hse]; rfl
    have hat4 : (⟨s.toArray⟩ : ByteArray)[4]'(by rw [hfs]; omega) = a4 := by rw [str_at, hse]; rfl
    have hat5 : (⟨s.toArray⟩ : ByteArray)[5]'(by rw [hfs]; omega) = a5 := by rw [str_at, hse]; rfl
    have hl0 : (0 : Int) < s.length := by omega
    have hl1 : (1 : Int) < s.length := by omega
    have hl2 : (2 : Int) < s.length := by omega
    have hl3 : (3 : Int) < s.length := by omega
    have hl4 : (4 : Int) < s.length := by omega
    have hl5 : (5 : Int) < s.length := by omega
    rw [h3, hgn] at hr
    obtain ⟨m, hm⟩ : ∃ m, gM s = m := ⟨_, rfl⟩
    rw [hm] at hr hgm
    have hb3 := a3.toNat_lt
    have hb4 := a4.toNat_lt
    have hb5 := a5.toNat_lt
    have e72 : ∀ (a : UInt8) (n : Nat), n < 256 → (a = UInt8.ofNat n ↔ a.toNat = n) := fun a n hn => ⟨fun h => by rw [h]; simp; omega, fun h => by rw [← h]; simp⟩
    have k0 := e72 a0 72 (by omega)
    have k1 := e72 a1 82 (by omega)
    have k2 := e72 a2 1 (by omega)
    clear hse h3 hgn e72
    obtain ⟨n0, hn0⟩ : ∃ n, a0.toNat = n := ⟨_, rfl⟩
    obtain ⟨n1, hn1⟩ : ∃ n, a1.toNat = n := ⟨_, rfl⟩
    obtain ⟨n2, hn2⟩ : ∃ n, a2.toNat = n := ⟨_, rfl⟩
    obtain ⟨n3, hn3⟩ : ∃ n, a3.toNat = n := ⟨_, rfl⟩
    obtain ⟨n4, hn4⟩ : ∃ n, a4.toNat = n := ⟨_, rfl⟩
    obtain ⟨n5, hn5⟩ : ∃ n, a5.toNat = n := ⟨_, rfl⟩
    rw [hn0] at k0
    rw [hn1] at k1
    rw [hn2] at k2
    rw [hn3] at hr hb3
    rw [hn4] at hgm hb4
    rw [hn5] at hgm hb5
    have hok : (¬ [a0, a1, a2] ≠ [72, 82, 1]) ↔ n0 = 72 ∧ n1 = 82 ∧ n2 = 1 := by
      rw [← k0, ← k1, ← k2]
      simp
    clear k0 k1 k2 hm
    have HM := Lib.hid hgm
    by_cases c0 : n0 = 72
    · have d0 : ((n0 : Int) == 72) = true := beq_iff_eq.2 (by omega)
      have f0 : ((n0 : Int) != 72) = false := by rw [bne, d0]; rfl
      by_cases c1 : n1 = 82
      · have d1 : ((n1 : Int) == 82) = true := beq_iff_eq.2 (by omega)
        have f1 : ((n1 : Int) != 82) = false := by rw [bne, d1]; rfl
        by_cases c2 : n2 = 1
        · have d2 : ((n2 : Int) == 1) = true := beq_iff_eq.2 (by omega)
          have f2 : ((n2 : Int) != 1) = false := by rw [bne, d2]; rfl
          rw [if_neg (hok.2 ⟨c0, c1, c2⟩)] at hr
          by_cases c3 : n3 < 1
          · rw [if_pos (Or.inl c3)] at hr
            have f3 : decide ((n3 : Int) < 1) = true := decide_eq_true (by omega)
            clear hok c0 c1 c2 c3 hgm
            subst hr
            go_enter Try.func17, Try.ntmps17
            go_wp2_with fail
            go_quiet (fail)
            obtain ⟨wn, hwn⟩ : ∃ wn, w.drewN nq = wn := ⟨_, rfl⟩
            rw [hwn]
            have hbn : Below w.heap.size w wn := by rw [← hwn]; exact below_drewN (Below.refl _ _) _
            clear hwn
            go_wp2_with fail
            go_ret
            exact ⟨rfl, hbn⟩
          · have f3 : decide ((n3 : Int) < 1) = false := decide_eq_false (by omega)
            by_cases c4 : 16 < n3
            · rw [if_pos (Or.inr (Or.inl c4))] at hr
              have f4 : decide (16 < (n3 : Int)) = true := decide_eq_true (by omega)
              clear hok c0 c1 c2 c3 c4 hgm
              subst hr
              go_enter Try.func17, Try.ntmps17
              go_wp2_with fail
              go_quiet (fail)
              obtain ⟨wn, hwn⟩ : ∃ wn, w.drewN nq = wn := ⟨_, rfl⟩
              rw [hwn]
              have hbn : Below w.heap.size w wn := by rw [← hwn]; exact below_drewN (Below.refl _ _) _
              clear hwn
              go_wp2_with fail
              go_ret
              exact ⟨rfl, hbn⟩
            · have f4 : decide (16 < (n3 : Int)) = false := decide_eq_false (by omega)
              by_cases c5 : 256 < m
              · rw [if_pos (Or.inr (Or.inr c5))] at hr
                have f5 : decide (256 < 256 * (n4 : Int) + (n5 : Int)) = true := decide_eq_true (by omega)
                clear hok c0 c1 c2 c3 c4 c5 hgm
                subst hr
                go_enter Try.func17, Try.ntmps17
                go_wp2_with fail
                go_quiet (fail)
                obtain ⟨wn, hwn⟩ : ∃ wn, w.drewN nq = wn := ⟨_, rfl⟩
                rw [hwn]
                have hbn : Below w.heap.size w wn := by rw [← hwn]; exact below_drewN (Below.refl _ _) _
                clear hwn
                go_wp2_with fail
                go_ret
                exact ⟨rfl, hbn⟩
              · rw [if_neg (by omega)] at hr
                have f5 : decide (256 < 256 * (n4 : Int) + (n5 : Int)) = false := decide_eq_false (by omega)
                have hN1 : 1 ≤ n3 := by omega
                have hN2 : n3 ≤ 16 := by omega
                clear hok c0 c1 c2 c3 c4 c5 hgm
                go_enter Try.func17, Try.ntmps17
                go_wp2_with fail
                go_quiet (fail)
                obtain ⟨wn, hwn⟩ : ∃ wn, w.drewN nq = wn := ⟨_, rfl⟩
                rw [hwn]
                have hbn : Below w.heap.size w wn := by rw [← hwn]; exact below_drewN (Below.refl _ _) _
                have HBN := Lib.hid hbn
                clear hwn hbn
                clear f0 f1 f2 f3 f4 f5 d0 d1 d2 hat0 hat1 hat2 hat4 hat5 hl0 hl1 hl2 hl4 hl5 hn0 hn1 hn2 hn4 hn5 hb4 hb5 HM h6i
                have HR0 : Hid (rF n3 (n3 - 0) (s.drop 6) = R) := Lib.hid hr
                have h6l : 6 ≤ s.length := by omega
                clear hr
                go_wp2_with fail
                go_loopw [3, 4] (fun a i wr => ∃ (k at' : Nat), a = .int .i64 (at' : Int) ∧ i = .int .i64 (k : Int) ∧ k ≤ n3 ∧ at' ≤ s.length ∧ Hid (rF n3 (n3 - k) (s.drop at') = R) ∧ Hid (Below w.heap.size w wr)) (fun _ i _ => n3 - (intOf i).toNat)
                case atStart => exact ⟨0, 6, rfl, rfl, by omega, h6l, HR0, HBN⟩
                case round =>
                  clear HR0 HBN h6l
                  obtain ⟨k, at', rfl, rfl, hk, hal, HR, HB⟩ := hrel
                  by_cases hlt : k < n3
                  · obtain ⟨q, hq⟩ : ∃ q, n3 - k = q + 1 := ⟨n3 - k - 1, by omega⟩
                    have hr := HR.out
                    rw [hq, rF, List.length_drop, List.drop_drop, List.drop_drop] at hr
                    clear HR
                    have hplI : (k : Int) < (n3 : Int) := by omega
                    by_cases h2 : at' + 2 ≤ s.length
                    · rw [if_neg (by omega)] at hr
                      have h2i : ¬ (s.length : Int) < (at' : Int) + 2 := by omega
                      have hcv := take2_of h2
                      obtain ⟨c, hc⟩ : ∃ c, ofB ((s.drop at').take 2) = c := ⟨_, rfl⟩
                      rw [hc] at hr hcv
                      have hi0 : (at' : Int) < s.length := by omega
                      have hi1 : (at' : Int) + 1 < s.length := by omega
                      have hatA : (⟨s.toArray⟩ : ByteArray)[at']'(by rw [hfs]; omega) = s.getD at' 0 := str_at s at' _
                      have hatB : (⟨s.toArray⟩ : ByteArray)[at' + 1]'(by rw [hfs]; omega) = s.getD (at' + 1) 0 := str_at s (at' + 1) _
                      have hx0 := (s.getD at' 0).toNat_lt
                      have hx1 := (s.getD (at' + 1) 0).toNat_lt
                      obtain ⟨y0, hy0⟩ : ∃ y, s.getD at' 0 = y := ⟨_, rfl⟩
                      obtain ⟨y1, hy1⟩ : ∃ y, s.getD (at' + 1) 0 = y := ⟨_, rfl⟩
                      rw [hy0] at hcv hatA hx0
                      rw [hy1] at hcv hatB hx1
                      obtain ⟨x0, hx0e⟩ : ∃ x, y0.toNat = x := ⟨_, rfl⟩
                      obtain ⟨x1, hx1e⟩ : ∃ x, y1.toNat = x := ⟨_, rfl⟩
                      rw [hx0e] at hcv hx0
                      rw [hx1e] at hcv hx1
                      have hnn : ((at' : Int) + 1).toNat = at' + 1 := by omega
                      clear hy0 hy1 hc
                      have hcv' : 256 * (x0 : Int) + (x1 : Int) = (c : Int) := hcv.symm
                      have hcb : c < 65536 := by omega
                      clear hcv
                      have HQ := Lib.hid hq
                      have HCC := Lib.hid hcb
                      go_wp2_with fail
                      go_quiet (fail)
                      obtain ⟨w1, hw1⟩ : ∃ w1, wr.drewN nq = w1 := ⟨_, rfl⟩
                      rw [hw1]
                      have hb1 : Below wr.heap.size wr w1 := by rw [← hw1]; exact below_drewN (Below.refl _ _) _
                      have HB1 := Lib.hid (tr3 HB.out hb1)
                      clear hw1 hb1 HB hatA hatB hi0 hi1 hx0 hx1 hx0e hx1e hnn hcv'
                      rw [List.length_drop] at hr
                      by_cases hc1 : c < 1
                      · rw [if_pos (Or.inl hc1)] at hr
                        subst hr
                        have g1 : decide ((c : Int) < 1) = true := decide_eq_true (by omega)
                        have g1i : (c : Int) < 1 := by omega
                        go_wp2_with fail
                        go_ret
                        exact ⟨rfl, HB1.out⟩
                      · have g1 : decide ((c : Int) < 1) = false := decide_eq_false (by omega)
                        have g1i : ¬ (c : Int) < 1 := by omega
                        by_cases hc2 : 200 < c
                        · rw [if_pos (Or.inr (Or.inl hc2))] at hr
                          subst hr
                          have g2 : decide (200 < (c : Int)) = true := decide_eq_true (by omega)
                          have g2i : 200 < (c : Int) := by omega
                          go_wp2_with fail
                          go_ret
                          exact ⟨rfl, HB1.out⟩
                        · have g2 : decide (200 < (c : Int)) = false := decide_eq_false (by omega)
                          have g2i : ¬ 200 < (c : Int) := by omega
                          by_cases hc3 : s.length - (at' + 2) < 4 * c
                          · rw [if_pos (Or.inr (Or.inr hc3))] at hr
                            subst hr
                            have g3 : decide ((s.length : Int) < (at' : Int) + 2 + 4 * (c : Int)) = true := decide_eq_true (by omega)
                            have g3i : (s.length : Int) < (at' : Int) + 2 + 4 * (c : Int) := by omega
                            go_wp2_with fail
                            go_ret
                            exact ⟨rfl, HB1.out⟩
                          · rw [if_neg (by omega)] at hr
                            have g3 : decide ((s.length : Int) < (at' : Int) + 2 + 4 * (c : Int)) = false := decide_eq_false (by omega)
                            have g3i : ¬ (s.length : Int) < (at' : Int) + 2 + 4 * (c : Int) := by omega
                            obtain ⟨E, hE⟩ : ∃ E, at' + 2 + 4 * c = E := ⟨_, rfl⟩
                            rw [hE] at hr
                            have hEl : E ≤ s.length := by omega
                            have HS0 : Hid ((rI c n3 (c - 0) (s.drop (at' + 2)) && rF n3 q (s.drop E)) = R) := Lib.hid hr
                            have HE0 : Hid (at' + 2 + 4 * (c - 0) = E) := Lib.hid (by omega)
                            have hA2 : ((at' + 2 : Nat) : Int) = (at' : Int) + 2 := by omega
                            have hcp : 1 ≤ c := by omega
                            have hcq : c ≤ 200 := by omega
                            clear hr hc1 hc2 hc3 h2
                            go_wp2_with fail
                            go_loopw [3, 6] (fun a i wq => ∃ (j av : Nat), a = .int .i64 (av : Int) ∧ i = .int .i64 (j : Int) ∧ j ≤ c ∧ Hid (av + 4 * (c - j) = E) ∧ Hid ((rI c n3 (c - j) (s.drop av) && rF n3 q (s.drop E)) = R) ∧ Hid (Below w.heap.size w wq)) (fun _ i _ => c - (intOf i).toNat)
                            case atStart => exact ⟨0, at' + 2, by rw [hA2], rfl, by omega, HE0, HS0, HB1⟩
                            case round =>
                              clear HS0 HB1 HE0 g1 g1i g2 g2i g3 g3i h2i hplI hA2
                              obtain ⟨j, av, rfl, rfl, hj, HEA, HR, HB⟩ := hrel
                              by_cases hltj : j < c
                              · obtain ⟨p, hp⟩ : ∃ p, c - j = p + 1 := ⟨c - j - 1, by omega⟩
                                have hea := HEA.out
                                have hr := HR.out
                                rw [hp] at hea hr
                                rw [rI, List.drop_drop] at hr
                                clear HR HEA
                                have hpl : (j : Int) < (c : Int) := by omega
                                have hex : (⟨s.toArray⟩ : ByteArray).extract av (av + 4) = ⟨((s.drop av).take 4).toArray⟩ := str_sub s av 4
                                have hi4 : (av : Int) + 4 ≤ s.length := by omega
                                have hi5 : (av : Int) ≤ (av : Int) + 4 := by omega
                                have hnn : ((av : Int) + 4).toNat = av + 4 := by omega
                                have hwl : ((s.drop av).take 4).length = 4 := by rw [List.length_take, List.length_drop]; omega
                                obtain ⟨w4, hw4⟩ : ∃ t, (s.drop av).take 4 = t := ⟨_, rfl⟩
                                rw [hw4] at hr hex hwl
                                have hfw := str_size w4
                                rw [hwl] at hfw
                                have hat0 : (⟨w4.toArray⟩ : ByteArray)[0]'(by rw [hfw]; omega) = w4.getD 0 0 := str_at w4 0 _
                                obtain ⟨b, hb⟩ : ∃ b, w4.getD 0 0 = b := ⟨_, rfl⟩
                                have hins : insB w4 c n3 (p == 0) = if 25 < b.toNat then false else match frR (frm b.toNat) (w4.drop 1) c n3 with | none => false | some z => zs z && (!(p == 0) || endB b) := by unfold insB; rw [hb]; rfl
                                rw [hb] at hat0
                                obtain ⟨INS, hI⟩ : ∃ v, insB w4 c n3 (p == 0) = v := ⟨_, rfl⟩
                                rw [hI] at hr hins
                                clear hw4 hI
                                obtain ⟨bn, hbn⟩ : ∃ n, b.toNat = n := ⟨_, rfl⟩
                                rw [hbn] at hins
                                have hbl : bn < 256 := by rw [← hbn]; exact b.toNat_lt
                                by_cases h25 : 25 < bn
                                · rw [if_pos h25] at hins
                                  subst hins
                                  obtain rfl : false = R := hr
                                  have h25i : (25 : Int) < (bn : Int) := by omega
                                  go_wp2_with fail
                                  go_ret
                                  exact ⟨rfl, HB.out⟩
                                · rw [if_neg h25] at hins
                                  have h25i : ¬ (25 : Int) < (bn : Int) := by omega
                                  have hfo := frm_ok bn
                                  have hsw := ins.sumW_frm bn
                                  have CF := rf_of (bn : Int)
                                  rw [frm_nat] at CF
                                  obtain ⟨f, hf⟩ : ∃ f, frm bn = f := ⟨_, rfl⟩
                                  rw [hf] at hfo hsw CF hins
                                  obtain ⟨hf3, hfL⟩ := hfo
                                  have CFH := Lib.hid CF
                                  have HFL := Lib.hid hfL
                                  have HINS := Lib.hid hins
                                  have HRR := Lib.hid hr
                                  have HEA := Lib.hid hea
                                  have HP := Lib.hid hp
                                  have hff := str_size f
                                  clear CF hfL hins hr hea hp hf h25
                                  go_wp2_with fail
                                  refine (CFH.out _).mono ?_
                                  rintro e w5 ⟨rfl, hb5⟩
                                  have HB5 := Lib.hid (tr3 HB.out hb5)
                                  clear hb5 HB CFH
                                  go_wp2_with fail
                                  obtain ⟨V, hV⟩ : ∃ V, frR f (w4.drop 1) c n3 = V := ⟨_, rfl⟩
                                  have hins := HINS.out
                                  rw [hV] at hins
                                  have HI2 := Lib.hid hins
                                  have HV0 : Hid (frR (f.drop 0) (w4.drop 1) c n3 = V) := Lib.hid (by simpa using hV)
                                  have HS0 : Hid (1 + ins.sumW (f.drop 0) ≤ 4) := Lib.hid (by simp; omega)
                                  have h1p : 1 ≤ 1 := Nat.le_refl _
                                  clear hV hins hsw HINS
                                  go_loopw [9, 10] (fun pl i wq => ∃ (qq pp : Nat), pl = .int .i64 (pp : Int) ∧ i = .int .i64 (qq : Int) ∧ qq ≤ f.length ∧ 1 ≤ pp ∧ Hid (pp + ins.sumW (f.drop qq) ≤ 4) ∧ Hid (frR (f.drop qq) (w4.drop pp) c n3 = V) ∧ Hid (Below w.heap.size w wq)) (fun _ i _ => f.length - (intOf i).toNat)
                                  case atStart => exact ⟨0, 1, rfl, rfl, by omega, h1p, HS0, HV0, HB5⟩
                                  case round =>
                                    clear HS0 HV0 HB5 h1p
                                    obtain ⟨qq, pp, rfl, rfl, hql, hpp, HSM, HVV, HB⟩ := hrel
                                    by_cases hlq : qq < f.length
                                    · have hd : f.drop qq = f.getD qq 0 :: f.drop (qq + 1) := drop_at f 0 qq hlq
                                      have hxL : Lt (f.getD qq 0) := getD_Lt HFL.out hlq
                                      have hatq : (⟨f.toArray⟩ : ByteArray)[qq]'(by rw [hff]; exact hlq) = f.getD qq 0 := str_at f qq _
                                      have hcut := str_cut f qq hlq
                                      obtain ⟨x, hx⟩ : ∃ x, f.getD qq 0 = x := ⟨_, rfl⟩
                                      rw [hx] at hd hxL hatq hcut
                                      have hV2 := HVV.out
                                      have hsm := HSM.out
                                      rw [hd] at hV2 hsm
                                      rw [frR] at hV2
                                      have hsm2 : pp + (wd x + ins.sumW (f.drop (qq + 1))) ≤ 4 := hsm
                                      have hqi : (qq : Int) < f.length := by omega
                                      have hqi1 : (qq : Int) + 1 ≤ f.length := by omega
                                      have hqi2 : (qq : Int) ≤ (qq : Int) + 1 := by omega
                                      have hqn : ((qq : Int) + 1).toNat = qq + 1 := by omega
                                      obtain ⟨xn, hxn⟩ : ∃ n, x.toNat = n := ⟨_, rfl⟩
                                      have hwp : 1 ≤ wd x := (wd_pos x).1
                                      have hi0 : (pp : Int) < 4 := by omega
                                      have hatp : (⟨w4.toArray⟩ : ByteArray)[pp]'(by rw [hfw]; omega) = w4.getD pp 0 := str_at w4 pp _
                                      have hg0 : (w4.drop pp).getD 0 0 = w4.getD pp 0 := by rw [List.getD_eq_getElem?_getD, List.getElem?_drop, Nat.add_zero, ← List.getD_eq_getElem?_getD]
                                      have hg1 : (w4.drop pp).getD 1 0 = w4.getD (pp + 1) 0 := by rw [List.getD_eq_getElem?_getD, List.getElem?_drop, ← List.getD_eq_getElem?_getD]
                                      rw [hg0, hg1] at hV2
                                      obtain ⟨v0, hv0⟩ : ∃ v, w4.getD pp 0 = v := ⟨_, rfl⟩
                                      rw [hv0] at hV2 hatp
                                      obtain ⟨u0, hu0e⟩ : ∃ n, v0.toNat = n := ⟨_, rfl⟩
                                      have hu0 : u0 < 256 := by rw [← hu0e]; exact v0.toNat_lt
                                      rw [hu0e] at hV2
                                      clear hg0 hg1 hv0 hd hx hsm HVV HSM
                                      by_cases hw2 : wd x = 2
                                      · have HSS : Hid (pp + 2 + ins.sumW (f.drop (qq + 1)) ≤ 4) := Lib.hid (by omega)
                                        have hi1 : (pp : Int) + 1 < 4 := by omega
                                        have hatp1 : (⟨w4.toArray⟩ : ByteArray)[pp + 1]'(by rw [hfw]; omega) = w4.getD (pp + 1) 0 := str_at w4 (pp + 1) _
                                        have hpn : ((pp : Int) + 1).toNat = pp + 1 := by omega
                                        obtain ⟨v1, hv1⟩ : ∃ v, w4.getD (pp + 1) 0 = v := ⟨_, rfl⟩
                                        rw [hv1] at hV2 hatp1
                                        obtain ⟨u1, hu1e⟩ : ∃ n, v1.toNat = n := ⟨_, rfl⟩
                                        have hu1 : u1 < 256 := by rw [← hu1e]; exact v1.toNat_lt
                                        rw [hu1e, if_pos hw2] at hV2
                                        by_cases hn : xn = 110
                                        · have hxe : ((xn : Int) == 110) = true := beq_iff_eq.2 (by omega)
                                          clear hv1 hsm2 hwp hw2
                                          cases hv : digB x u0 u1 c n3 with
                                          | false =>
                                            have CD := Lib.hid (fun w => digit_v x u0 u1 c n3 w false hxL hu0 hu1 hv)
                                            rw [hv, if_neg (by decide)] at hV2
                                            subst hV2
                                            obtain rfl : INS = false := HI2.out
                                            obtain rfl : false = R := HRR.out
                                            clear hv
                                            go_wp2_with fail
                                            go_quiet ((go_at_call 32; exact quiet_eq (CD.out _)))
                                            obtain ⟨w7, hw7⟩ : ∃ w7, wr.drewN nq = w7 := ⟨_, rfl⟩
                                            rw [hw7]
                                            have HB7 := Lib.hid (tr3 HB.out (show Below wr.heap.size wr w7 by rw [← hw7]; exact below_drewN (Below.refl _ _) _))
                                            clear hw7
                                            go_wp2_with fail
                                            go_ret
                                            exact ⟨rfl, HB7.out⟩
                                          | true =>
                                            have CD := Lib.hid (fun w => digit_v x u0 u1 c n3 w true hxL hu0 hu1 hv)
                                            rw [hv, if_pos rfl] at hV2
                                            have HVN : Hid (frR (f.drop (qq + 1)) (w4.drop (pp + 2)) c n3 = V) := Lib.hid (by rw [← hV2, List.drop_drop])
                                            clear hv hV2
                                            go_wp2_with fail
                                            go_quiet ((go_at_call 32; exact quiet_eq (CD.out _)))
                                            obtain ⟨w7, hw7⟩ : ∃ w7, wr.drewN nq = w7 := ⟨_, rfl⟩
                                            rw [hw7]
                                            have HB7 := Lib.hid (tr3 HB.out (show Below wr.heap.size wr w7 by rw [← hw7]; exact below_drewN (Below.refl _ _) _))
                                            clear hw7
                                            go_wp2_with fail
                                            go_roundw
                                            case rel => exact ⟨qq + 1, pp + 2, by go_num, by go_num, by omega, by omega, HSS, HVN, HB7⟩
                                            case measure => simp [intOf]; omega
                                        · have hxe : ((xn : Int) == 110) = false := beq_eq_false_iff_ne.2 (by omega)
                                          have hx116 : xn = 116 := by
                                            rcases hxL with rfl | rfl | rfl | rfl
                                            · exact absurd hw2 (by decide)
                                            · exact absurd hxn.symm hn
                                            · exact hxn.symm
                                            · exact absurd hw2 (by decide)
                                          have hxf : ((xn : Int) == 116) = true := beq_iff_eq.2 (by omega)
                                          clear hv1 hsm2 hwp hw2 hn hx116
                                          cases hv : digB x u0 u1 c n3 with
                                          | false =>
                                            have CD := Lib.hid (fun w => digit_v x u0 u1 c n3 w false hxL hu0 hu1 hv)
                                            rw [hv, if_neg (by decide)] at hV2
                                            subst hV2
                                            obtain rfl : INS = false := HI2.out
                                            obtain rfl : false = R := HRR.out
                                            clear hv
                                            go_wp2_with fail
                                            go_quiet ((go_at_call 32; exact quiet_eq (CD.out _)))
                                            obtain ⟨w7, hw7⟩ : ∃ w7, wr.drewN nq = w7 := ⟨_, rfl⟩
                                            rw [hw7]
                                            have HB7 := Lib.hid (tr3 HB.out (show Below wr.heap.size wr w7 by rw [← hw7]; exact below_drewN (Below.refl _ _) _))
                                            clear hw7
                                            go_wp2_with fail
                                            go_ret
                                            exact ⟨rfl, HB7.out⟩
                                          | true =>
                                            have CD := Lib.hid (fun w => digit_v x u0 u1 c n3 w true hxL hu0 hu1 hv)
                                            rw [hv, if_pos rfl] at hV2
                                            have HVN : Hid (frR (f.drop (qq + 1)) (w4.drop (pp + 2)) c n3 = V) := Lib.hid (by rw [← hV2, List.drop_drop])
                                            clear hv hV2
                                            go_wp2_with fail
                                            go_quiet ((go_at_call 32; exact quiet_eq (CD.out _)))
                                            obtain ⟨w7, hw7⟩ : ∃ w7, wr.drewN nq = w7 := ⟨_, rfl⟩
                                            rw [hw7]
                                            have HB7 := Lib.hid (tr3 HB.out (show Below wr.heap.size wr w7 by rw [← hw7]; exact below_drewN (Below.refl _ _) _))
                                            clear hw7
                                            go_wp2_with fail
                                            go_roundw
                                            case rel => exact ⟨qq + 1, pp + 2, by go_num, by go_num, by omega, by omega, HSS, HVN, HB7⟩
                                            case measure => simp [intOf]; omega
                                      · have hw1 : wd x = 1 := by have := (wd_pos x).2; omega
                                        have HSS : Hid (pp + 1 + ins.sumW (f.drop (qq + 1)) ≤ 4) := Lib.hid (by omega)
                                        rw [if_neg hw2] at hV2
                                        have hno : xn ≠ 110 ∧ xn ≠ 116 := by
                                          rcases hxL with rfl | rfl | rfl | rfl
                                          · rw [← hxn]; decide
                                          · exact absurd rfl hw2
                                          · exact absurd rfl hw2
                                          · rw [← hxn]; decide
                                        have hxe : ((xn : Int) == 110) = false := beq_eq_false_iff_ne.2 (by omega)
                                        have hxf : ((xn : Int) == 116) = false := beq_eq_false_iff_ne.2 (by omega)
                                        clear hsm2 hwp hw2 hw1 hno
                                        cases hv : digB x 0 u0 c n3 with
                                        | false =>
                                          have CD := Lib.hid (fun w => digit_v x 0 u0 c n3 w false hxL (by decide) hu0 hv)
                                          rw [hv, if_neg (by decide)] at hV2
                                          subst hV2
                                          obtain rfl : INS = false := HI2.out
                                          obtain rfl : false = R := HRR.out
                                          clear hv
                                          go_wp2_with fail
                                          go_quiet ((go_at_call 32; exact quiet_eq (CD.out _)))
                                          obtain ⟨w7, hw7⟩ : ∃ w7, wr.drewN nq = w7 := ⟨_, rfl⟩
                                          rw [hw7]
                                          have HB7 := Lib.hid (tr3 HB.out (show Below wr.heap.size wr w7 by rw [← hw7]; exact below_drewN (Below.refl _ _) _))
                                          clear hw7
                                          go_wp2_with fail
                                          go_ret
                                          exact ⟨rfl, HB7.out⟩
                                        | true =>
                                          have CD := Lib.hid (fun w => digit_v x 0 u0 c n3 w true hxL (by decide) hu0 hv)
                                          rw [hv, if_pos rfl] at hV2
                                          have HVN : Hid (frR (f.drop (qq + 1)) (w4.drop (pp + 1)) c n3 = V) := Lib.hid (by rw [← hV2, List.drop_drop])
                                          clear hv hV2
                                          go_wp2_with fail
                                          go_quiet ((go_at_call 32; exact quiet_eq (CD.out _)))
                                          obtain ⟨w7, hw7⟩ : ∃ w7, wr.drewN nq = w7 := ⟨_, rfl⟩
                                          rw [hw7]
                                          have HB7 := Lib.hid (tr3 HB.out (show Below wr.heap.size wr w7 by rw [← hw7]; exact below_drewN (Below.refl _ _) _))
                                          clear hw7
                                          go_wp2_with fail
                                          go_roundw
                                          case rel => exact ⟨qq + 1, pp + 1, by go_num, by go_num, by omega, by omega, HSS, HVN, HB7⟩
                                          case measure => simp [intOf]; omega
                                    · obtain rfl : qq = f.length := by omega
                                      have hV2 := HVV.out
                                      rw [List.drop_length, frR] at hV2
                                      subst hV2
                                      have hsm := HSM.out
                                      have hp4 : pp ≤ 4 := by omega
                                      have hins := HI2.out
                                      clear HVV HSM hsm HI2
                                      go_wp2_with fail
                                      have hins2 : INS = (zs (w4.drop pp) && (!(p == 0) || endB b)) := hins
                                      have HI3 := Lib.hid hins2
                                      have hz0 : Hid (zs (w4.drop pp) = zs (w4.drop pp)) := Lib.hid rfl
                                      clear hins hins2
                                      go_loopw [9] (fun pl wq => ∃ p' : Nat, pl = .int .i64 (p' : Int) ∧ p' ≤ 4 ∧ Hid (zs (w4.drop pp) = zs (w4.drop p')) ∧ Hid (Below w.heap.size w wq)) (fun pl _ => 4 - (intOf pl).toNat)
                                      case atStart => exact ⟨pp, rfl, hp4, hz0, HB⟩
                                      case round =>
                                        clear hz0 HB
                                        obtain ⟨p', rfl, hp', HZ, HB⟩ := hrel
                                        by_cases hl4 : p' < 4
                                        · have hd : w4.drop p' = w4.getD p' 0 :: w4.drop (p' + 1) := drop_at w4 0 p' (by omega)
                                          have hatp : (⟨w4.toArray⟩ : ByteArray)[p']'(by rw [hfw]; omega) = w4.getD p' 0 := str_at w4 p' _
                                          have hi0 : (p' : Int) < 4 := by omega
                                          obtain ⟨v0, hv0⟩ : ∃ v, w4.getD p' 0 = v := ⟨_, rfl⟩
                                          rw [hv0] at hd hatp
                                          have hz := HZ.out
                                          rw [hd] at hz
                                          obtain ⟨u0, hu0e⟩ : ∃ n, v0.toNat = n := ⟨_, rfl⟩
                                          clear hd hv0 HZ
                                          by_cases hu : u0 = 0
                                          · have hu1 : ((u0 : Int) == 0) = true := beq_iff_eq.2 (by omega)
                                            have hu2 : ((u0 : Int) != 0) = false := by rw [bne, hu1]; rfl
                                            have hzn : Hid (zs (w4.drop pp) = zs (w4.drop (p' + 1))) := Lib.hid (by
                                              rw [hz]
                                              have : v0 = 0 := UInt8.toNat_inj.1 (by rw [hu0e, hu]; rfl)
                                              subst this
                                              simp [zs])
                                            clear hz hu
                                            go_wp2_with fail
                                            go_roundw
                                            case rel => exact ⟨p' + 1, by go_num, by omega, hzn, HB⟩
                                            case measure => simp [intOf]; omega
                                          · have hu1 : ((u0 : Int) == 0) = false := beq_eq_false_iff_ne.2 (by omega)
                                            have hu2 : ((u0 : Int) != 0) = true := by rw [bne, hu1]; rfl
                                            have hzf : zs (w4.drop pp) = false := by
                                              rw [hz]
                                              have : (v0 == 0) = false := by
                                                rw [beq_eq_false_iff_ne]
                                                intro h
                                                exact hu (by rw [← hu0e, h]; rfl)
                                              simp only [zs, List.all_cons, this, Bool.false_and]
                                            have hif : INS = false := by rw [HI3.out, hzf, Bool.false_and]
                                            subst hif
                                            obtain rfl : false = R := HRR.out
                                            clear hz hu hzf
                                            go_wp2_with fail
                                            go_ret
                                            exact ⟨rfl, HB.out⟩
                                        · obtain rfl : p' = 4 := by omega
                                          have hzt : zs (w4.drop 4) = true := by rw [List.drop_eq_nil_of_le (by omega)]; rfl
                                          have hi := HI3.out
                                          rw [HZ.out, hzt, Bool.true_and] at hi
                                          clear HZ hzt HI3
                                          by_cases hp0 : p = 0
                                          · have hpb : (p == 0) = true := by simpa using hp0
                                            have hje : ((j : Int) == (c : Int) - 1) = true := beq_iff_eq.2 (by have := HP.out; omega)
                                            rw [hpb, Bool.not_true, Bool.false_or] at hi
                                            have hbe : ∀ n : Nat, n < 256 → ((b == UInt8.ofNat n) = true ↔ bn = n) := fun n hn => by
                                              rw [beq_iff_eq, ← hbn]
                                              exact ⟨fun h => by rw [h]; simp; omega, fun h => by rw [← h]; simp⟩
                                            by_cases b0 : bn = 0
                                            · have q0 : ((bn : Int) == 0) = true := beq_iff_eq.2 (by omega)
                                              have q0n : ((bn : Int) != 0) = false := by rw [bne, q0]; rfl
                                              have hit : INS = true := by
                                                rw [hi]; unfold endB
                                                have : (b == 0) = true := (hbe 0 (by omega)).2 b0
                                                rw [this]; rfl
                                              subst hit
                                              have hrn := HRR.out
                                              rw [Bool.true_and] at hrn
                                              have HRN := Lib.hid hrn
                                              have hcj : c - (j + 1) = p := by have := HP.out; omega
                                              have HEN : Hid (av + 4 + 4 * (c - (j + 1)) = E) := Lib.hid (by have := HEA.out; omega)
                                              clear hi hrn
                                              go_wp2_with fail
                                              go_roundw
                                              case rel => exact ⟨j + 1, av + 4, by go_num, by go_num, by omega, HEN, by rw [hcj]; exact HRN, HB⟩
                                              case measure => simp [intOf]; omega
                                            · have q0 : ((bn : Int) == 0) = false := beq_eq_false_iff_ne.2 (by omega)
                                              have q0n : ((bn : Int) != 0) = true := by rw [bne, q0]; rfl
                                              by_cases b1 : bn = 18
                                              · have q1 : ((bn : Int) == 18) = true := beq_iff_eq.2 (by omega)
                                                have q1n : ((bn : Int) != 18) = false := by rw [bne, q1]; rfl
                                                have hit : INS = true := by
                                                  rw [hi]; unfold endB
                                                  have : (b == 18) = true := (hbe 18 (by omega)).2 b1
                                                  rw [this]; simp
                                                subst hit
                                                have hrn := HRR.out
                                                rw [Bool.true_and] at hrn
                                                have HRN := Lib.hid hrn
                                                have hcj : c - (j + 1) = p := by have := HP.out; omega
                                                have HEN : Hid (av + 4 + 4 * (c - (j + 1)) = E) := Lib.hid (by have := HEA.out; omega)
                                                clear hi hrn
                                                go_wp2_with fail
                                                go_roundw
                                                case rel => exact ⟨j + 1, av + 4, by go_num, by go_num, by omega, HEN, by rw [hcj]; exact HRN, HB⟩
                                                case measure => simp [intOf]; omega
                                              · have q1 : ((bn : Int) == 18) = false := beq_eq_false_iff_ne.2 (by omega)
                                                have q1n : ((bn : Int) != 18) = true := by rw [bne, q1]; rfl
                                                by_cases b2 : bn = 25
                                                · have q2 : ((bn : Int) == 25) = true := beq_iff_eq.2 (by omega)
                                                  have q2n : ((bn : Int) != 25) = false := by rw [bne, q2]; rfl
                                                  have hit : INS = true := by
                                                    rw [hi]; unfold endB
                                                    have : (b == 25) = true := (hbe 25 (by omega)).2 b2
                                                    rw [this]; simp
                                                  subst hit
                                                  have hrn := HRR.out
                                                  rw [Bool.true_and] at hrn
                                                  have HRN := Lib.hid hrn
                                                  have hcj : c - (j + 1) = p := by have := HP.out; omega
                                                  have HEN : Hid (av + 4 + 4 * (c - (j + 1)) = E) := Lib.hid (by have := HEA.out; omega)
                                                  clear hi hrn
                                                  go_wp2_with fail
                                                  go_roundw
                                                  case rel => exact ⟨j + 1, av + 4, by go_num, by go_num, by omega, HEN, by rw [hcj]; exact HRN, HB⟩
                                                  case measure => simp [intOf]; omega
                                                · have q2 : ((bn : Int) == 25) = false := beq_eq_false_iff_ne.2 (by omega)
                                                  have q2n : ((bn : Int) != 25) = true := by rw [bne, q2]; rfl
                                                  have hif : INS = false := by
                                                    rw [hi]; unfold endB
                                                    have z0 : (b == 0) = false := by rw [← Bool.not_eq_true]; exact fun h => b0 ((hbe 0 (by omega)).1 h)
                                                    have z1 : (b == 18) = false := by rw [← Bool.not_eq_true]; exact fun h => b1 ((hbe 18 (by omega)).1 h)
                                                    have z2 : (b == 25) = false := by rw [← Bool.not_eq_true]; exact fun h => b2 ((hbe 25 (by omega)).1 h)
                                                    rw [z0, z1, z2]; rfl
                                                  subst hif
                                                  obtain rfl : false = R := HRR.out
                                                  clear hi b0 b1 b2 hbe hpb hp0
                                                  go_wp2_with fail
                                                  go_ret
                                                  exact ⟨rfl, HB.out⟩
                                          · have hpb : (p == 0) = false := by simpa using hp0
                                            have hje : ((j : Int) == (c : Int) - 1) = false := beq_eq_false_iff_ne.2 (by have := HP.out; omega)
                                            have hit : INS = true := by rw [hi, hpb]; rfl
                                            subst hit
                                            have hrn := HRR.out
                                            rw [Bool.true_and] at hrn
                                            have HRN := Lib.hid hrn
                                            have hcj : c - (j + 1) = p := by have := HP.out; omega
                                            have HEN : Hid (av + 4 + 4 * (c - (j + 1)) = E) := Lib.hid (by have := HEA.out; omega)
                                            clear hi hrn
                                            go_wp2_with fail
                                            go_roundw
                                            case rel => exact ⟨j + 1, av + 4, by go_num, by go_num, by omega, HEN, by rw [hcj]; exact HRN, HB⟩
                                            case measure => simp [intOf]; omega
                              · obtain rfl : j = c := by omega
                                have hea := HEA.out
                                have hr := HR.out
                                rw [Nat.sub_self] at hea hr
                                rw [rI, Bool.true_and] at hr
                                have hae : av = E := by omega
                                subst hae
                                clear HR HEA
                                go_wp2_with fail
                                go_roundw
                                case rel => exact ⟨k + 1, av, rfl, by go_num, by omega, by omega, Lib.hid (by have := HQ.out; rw [show n3 - (k + 1) = q by omega]; exact hr), HB⟩
                                case measure => simp [intOf]; omega
                    · rw [if_pos (by omega)] at hr
                      subst hr
                      have h2i : (s.length : Int) < (at' : Int) + 2 := by omega
                      go_wp2_with fail
                      go_ret
                      exact ⟨rfl, HB.out⟩
                  · obtain rfl : k = n3 := by omega
                    have hr := HR.out
                    rw [Nat.sub_self, rF] at hr
                    clear HR
                    have hem : (s.drop at').isEmpty = decide ((at' : Int) = (s.length : Int)) := by
                      by_cases e : at' = s.length
                      · rw [decide_eq_true (by omega), e, List.drop_length]; rfl
                      · rw [decide_eq_false (by omega)]
                        rw [List.isEmpty_eq_false_iff]
                        intro h0
                        have := congrArg List.length h0
                        rw [List.length_drop] at this
                        simp at this
                        omega
                    rw [hem] at hr
                    clear hem
                    go_wp2_with fail
                    go_ret
                    exact ⟨by rw [← hr]; first | rfl | simp, HB.out⟩
        · have d2 : ((n2 : Int) == 1) = false := beq_eq_false_iff_ne.2 (by omega)
          have f2 : ((n2 : Int) != 1) = true := by rw [bne, d2]; rfl
          rw [if_pos (by rw [← Classical.not_not (a := [a0, a1, a2] ≠ [72, 82, 1]), hok]; exact fun h => c2 h.2.2)] at hr
          clear hok c0 c1 c2 hgm
          subst hr
          go_enter Try.func17, Try.ntmps17
          go_wp2_with fail
          go_quiet (fail)
          obtain ⟨wn, hwn⟩ : ∃ wn, w.drewN nq = wn := ⟨_, rfl⟩
          rw [hwn]
          have hbn : Below w.heap.size w wn := by rw [← hwn]; exact below_drewN (Below.refl _ _) _
          clear hwn
          go_wp2_with fail
          go_ret
          exact ⟨rfl, hbn⟩
      · have d1 : ((n1 : Int) == 82) = false := beq_eq_false_iff_ne.2 (by omega)
        have f1 : ((n1 : Int) != 82) = true := by rw [bne, d1]; rfl
        rw [if_pos (by rw [← Classical.not_not (a := [a0, a1, a2] ≠ [72, 82, 1]), hok]; exact fun h => c1 h.2.1)] at hr
        clear hok c0 c1 hgm
        subst hr
        go_enter Try.func17, Try.ntmps17
        go_wp2_with fail
        go_quiet (fail)
        obtain ⟨wn, hwn⟩ : ∃ wn, w.drewN nq = wn := ⟨_, rfl⟩
        rw [hwn]
        have hbn : Below w.heap.size w wn := by rw [← hwn]; exact below_drewN (Below.refl _ _) _
        clear hwn
        go_wp2_with fail
        go_ret
        exact ⟨rfl, hbn⟩
    · have d0 : ((n0 : Int) == 72) = false := beq_eq_false_iff_ne.2 (by omega)
      have f0 : ((n0 : Int) != 72) = true := by rw [bne, d0]; rfl
      rw [if_pos (by rw [← Classical.not_not (a := [a0, a1, a2] ≠ [72, 82, 1]), hok]; exact fun h => c0 h.1)] at hr
      clear hok c0 hgm
      subst hr
      go_enter Try.func17, Try.ntmps17
      go_wp2_with fail
      go_quiet (fail)
      obtain ⟨wn, hwn⟩ : ∃ wn, w.drewN nq = wn := ⟨_, rfl⟩
      rw [hwn]
      have hbn : Below w.heap.size w wn := by rw [← hwn]; exact below_drewN (Below.refl _ _) _
      clear hwn
      go_wp2_with fail
      go_ret
      exact ⟨rfl, hbn⟩
end Go.Proofs.Ythllikmnlnakkaa.pr
