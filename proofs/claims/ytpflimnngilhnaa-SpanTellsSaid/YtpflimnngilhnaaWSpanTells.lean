/- SpanTells, the walk (layer 41). -/
import Derived.Test.YtpflimnngilhnaaSpW
namespace Go.Proofs.Ytpflimnngilhnaa.spanTells
open Go.ChangeShapes Go.WideShapes Go.ChangeAt Go.RowKit
open Go.Proofs.Ytpflimnngilhnaa.rh
set_option linter.unusedVariables false
set_option linter.unusedSimpArgs false
theorem nn (v : Int) : (v != v) = false := by simp
set_option maxRecDepth 20000 in
set_option maxHeartbeats 4000000 in
theorem walk (a0 : Option Addr) (len0 cap0 : Nat) (z0 : List (List Int)) (a1 : Option Addr) (len1 cap1 : Nat) (z1 : Nat → Nat → Int) (y1 : Nat → Nat → Bool) (w : World) (w0 : IsMat w a0 len0 cap0 z0) (w1 : IsMix [some .i64, some .i64, none] w a1 len1 cap1 z1 y1) :
    Calls Try.prog 4 #[.slice a0 len0 cap0, .slice a1 len1 cap1] w fun e w' => e = .returned (.bool true) ∧ Below w.heap.size w w' := by
  have HM := Lib.hid w0.1
  have HLN := Lib.hid w0.1.len.1
  obtain ⟨l, hl⟩ := rv_of_mix w1
  have HA := Lib.hid hl
  obtain rfl := hl.len.1
  clear w0 w1 hl
  have CW := Lib.hid (works41 w)
  cases hg : (grC z0 len0 || decide (300 < l.length)) with
  | true =>
    have CG := Lib.hid (fun w1 h => great41 a0 a1 len0 cap0 l.length cap1 z0 true w1 h hg)
    go_enter Try.func4, Try.ntmps4
    go_wp2_with (first | (go_at_call 12; (with_reducible refine CW.out.mono ?_); rintro e w1 ⟨rfl, HB1⟩))
    have HM1 := Lib.hid (HM.out.below HB1)
    have HBH := Lib.hid HB1
    have C := Lib.hid (CG.out w1 HM1.out)
    clear HB1 CW HM
    go_wp2_with (first | (go_at_call 13; (with_reducible refine C.out.mono ?_); rintro e w2 ⟨rfl, rfl⟩))
    go_ret
    exact ⟨rfl, HBH.out⟩
  | false =>
    have CG := Lib.hid (fun w1 h => great41 a0 a1 len0 cap0 l.length cap1 z0 false w1 h hg)
    simp only [Bool.or_eq_false_iff, decide_eq_false_iff_not] at hg
    obtain ⟨hgc, hl3⟩ := hg
    obtain ⟨hn, hrow⟩ := grC_false hgc
    have hll : l.length ≤ 300 := by omega
    have HRW := Lib.hid (row_all (by rw [← HLN.out]; exact hrow))
    clear hgc hrow hl3
    have CO := Lib.hid (fun w1 h => own_of a0 len0 cap0 z0 w1 h (by omega) (fun i hi => by have := HRW.out i; omega))
    unfold OwnPost at CO
    obtain ⟨c, hc⟩ : ∃ c, cw z0 l = c := ⟨_, rfl⟩
    have hcc : c = 9 ∨ c = 3 ∨ (c = 0 ∧ ck z0 = 0 ∧ inA l len0 l.length = true) := by
      rw [← hc]
      unfold cw
      by_cases hk : ck z0 = 0
      · rw [if_pos hk]
        cases hi : inA l z0.length l.length with
        | true => right; right; exact ⟨by simp, hk, by rw [HLN.out]; exact hi⟩
        | false => right; left; simp
      · rw [if_neg hk]
        rcases ck_cases z0 with h | h | h
        · exact .inl h
        · exact .inr (.inl h)
        · exact absurd h.1 hk
    by_cases h0 : c = 9 ∨ c = 3
    · have C1 := fun av a3 cv c3 w h hv => weights_err av a3 len0 cv l.length c3 z0 l c (.slice none 0 0) w h hv hc h0 (by omega)
      have C2 := fun av a3 cv c3 w h hv => work_err av a3 len0 cv l.length c3 z0 l c (.slice none 0 0) w h hv hc h0 (by omega)
      have C3 := fun av a3 cv c3 w h hv => span_err av a3 len0 cv l.length c3 z0 l c (.slice none 0 0) w h hv hc h0 (by omega)
      have C4 := fun w h hv => rweights_err a0 a1 len0 cap0 l.length cap1 z0 l c w h hv hc h0 (by omega)
      clear hc hcc
      rcases h0 with rfl | rfl
      all_goals
        replace C1 := Lib.hid C1
        replace C2 := Lib.hid C2
        replace C3 := Lib.hid C3
        replace C4 := Lib.hid C4
        go_enter Try.func4, Try.ntmps4
        go_wp2_with (first | (go_at_call 12; (with_reducible refine CW.out.mono ?_); rintro e w1 ⟨rfl, HB1⟩))
        have HM1 := Lib.hid (HM.out.below HB1)
        have HA1 := Lib.hid (HA.out.below HB1)
        have HBH := Lib.hid HB1
        have D1 := Lib.hid (CG.out w1 HM1.out)
        have D2 := Lib.hid (CO.out w1 HM1.out)
        clear HB1 CW HM CG HA
        go_wp2_with (first | (go_at_call 13; (with_reducible refine D1.out.mono ?_); rintro e w2 ⟨rfl, rfl⟩) | (go_at_call 14; (with_reducible refine D2.out.mono ?_); (rintro e w2 ⟨v2, rfl, HV2, HB2⟩); (obtain ⟨av, cv, rfl, _⟩ := HV2.form); (rw [← HLN.out] at HV2); (rw [← HLN.out])) | (at_builtin; refine wpList_copyR rfl _ _ 39 71 _ 24 rfl Try.underlying39 infoA rfl (by decide) recA w2.heap.size w2.heap.size rfl (heap_alloc_new _ _) (Nat.le_refl _) l (RV.below (RV.below HA1.out HB2) ((Below.refl _ _).alloc (Nat.le_refl _) _)) (by omega) ?_))
        intro v3 w3 hr3 hb3
        have hb3' : Below w2.heap.size w2 w3 := ((Below.refl _ _).alloc (Nat.le_refl _) _).trans hb3
        have hv3 := OR.rv recA hr3
        obtain ⟨a3, c3, rfl, _⟩ := hv3.form
        have HV3 := Lib.hid hv3
        have HMV := Lib.hid (HV2.below hb3')
        have HM3 := Lib.hid ((HM1.out.below HB2).below hb3')
        have HA3 := Lib.hid ((HA1.out.below HB2).below hb3')
        have HBH3 := Lib.hid (trans3 (trans3 HBH.out HB2) hb3')
        clear D1 D2 HV2 HB2 HBH HM1 HA1 CO hr3 hb3 hb3' hv3
        go_wp2_with fail
        obtain ⟨D, hD⟩ : ∃ D, w3.heap.size = D := ⟨_, rfl⟩
        have HD := Lib.hid hD
        have hnew : Below w3.heap.size w3 (w3.alloc (.cells #[.slice av len0 cv, .slice none 0 0, .slice a3 l.length c3] 44)) := (Below.refl _ _).alloc (Nat.le_refl _) _
        obtain ⟨W4, hW4⟩ : ∃ W4, w3.alloc (.cells #[.slice av len0 cv, .slice none 0 0, .slice a3 l.length c3] 44) = W4 := ⟨_, rfl⟩
        rw [hW4] at hnew
        have HW4 := Lib.hid hW4
        have hD4 : W4.heap[D]? = some (.cells #[.slice av len0 cv, .slice none 0 0, .slice a3 l.length c3] 44 (0, 0)) := by rw [← hW4, ← hD]; exact heap_box1 w3 _ _
        have HD4 := Lib.hid hD4
        have HMV4 := Lib.hid (HMV.out.below hnew)
        have HV4 := Lib.hid (HV3.out.below hnew)
        have HM4 := Lib.hid (HM3.out.below hnew)
        have HA4 := Lib.hid (HA3.out.below hnew)
        have HBH4 := Lib.hid (trans3 HBH3.out hnew)
        have dd0 : W4.cell? ⟨D, 0, none⟩ = some (.slice av len0 cv) := by simp [World.cell?, hD4]
        have dd1 : W4.cell? ⟨D, 1, none⟩ = some (.slice none 0 0) := by simp [World.cell?, hD4]
        have dd2 : W4.cell? ⟨D, 2, none⟩ = some (.slice a3 l.length c3) := by simp [World.cell?, hD4]
        clear hnew hD hW4 hD4 HMV HV3 HM3 HA3 HBH3
        rw [HW4.out, HD.out]
        have E1 := Lib.hid (C1.out av a3 cv c3 W4 HMV4.out HV4.out)
        go_wp2_with (first | (go_at_call 15; (with_reducible refine E1.out.mono ?_); (rintro e w5 ⟨rfl, HB5⟩); (have e0 : w5.cell? ⟨D, 0, none⟩ = some (.slice av len0 cv) := by simp [World.cell?, (HB5.block D (Array.getElem?_eq_some_iff.1 HD4.out).1).trans HD4.out]); (have e1 : w5.cell? ⟨D, 1, none⟩ = some (.slice none 0 0) := by simp [World.cell?, (HB5.block D (Array.getElem?_eq_some_iff.1 HD4.out).1).trans HD4.out]); (have e2 : w5.cell? ⟨D, 2, none⟩ = some (.slice a3 l.length c3) := by simp [World.cell?, (HB5.block D (Array.getElem?_eq_some_iff.1 HD4.out).1).trans HD4.out])))
        have HD5 := Lib.hid ((HB5.block D (Array.getElem?_eq_some_iff.1 HD4.out).1).trans HD4.out)
        have HMV5 := Lib.hid (HMV4.out.below HB5)
        have HV5 := Lib.hid (HV4.out.below HB5)
        have HM5 := Lib.hid (HM4.out.below HB5)
        have HA5 := Lib.hid (HA4.out.below HB5)
        have HBH5 := Lib.hid (trans3 HBH4.out HB5)
        clear E1 HB5 HMV4 HV4 HM4 HA4 HBH4 HD4
        clear dd0 dd1 dd2
        have E2 := Lib.hid (C2.out av a3 cv c3 w5 HMV5.out HV5.out)
        go_wp2_with (first | (go_at_call 16; (with_reducible refine E2.out.mono ?_); (rintro e w6 ⟨rfl, HB6⟩); (have e0 : w6.cell? ⟨D, 0, none⟩ = some (.slice av len0 cv) := by simp [World.cell?, (HB6.block D (Array.getElem?_eq_some_iff.1 HD5.out).1).trans HD5.out]); (have e1 : w6.cell? ⟨D, 1, none⟩ = some (.slice none 0 0) := by simp [World.cell?, (HB6.block D (Array.getElem?_eq_some_iff.1 HD5.out).1).trans HD5.out]); (have e2 : w6.cell? ⟨D, 2, none⟩ = some (.slice a3 l.length c3) := by simp [World.cell?, (HB6.block D (Array.getElem?_eq_some_iff.1 HD5.out).1).trans HD5.out])))
        have HD6 := Lib.hid ((HB6.block D (Array.getElem?_eq_some_iff.1 HD5.out).1).trans HD5.out)
        have HMV6 := Lib.hid (HMV5.out.below HB6)
        have HV6 := Lib.hid (HV5.out.below HB6)
        have HM6 := Lib.hid (HM5.out.below HB6)
        have HA6 := Lib.hid (HA5.out.below HB6)
        have HBH6 := Lib.hid (trans3 HBH5.out HB6)
        clear E2 HB6 HMV5 HV5 HM5 HA5 HBH5 HD5
        have E3 := Lib.hid (C3.out av a3 cv c3 w6 HMV6.out HV6.out)
        go_wp2_with (first | (go_at_call 17; (with_reducible refine E3.out.mono ?_); (rintro e w7 ⟨rfl, HB7⟩); (have e0 : w7.cell? ⟨D, 0, none⟩ = some (.slice av len0 cv) := by simp [World.cell?, (HB7.block D (Array.getElem?_eq_some_iff.1 HD6.out).1).trans HD6.out]); (have e1 : w7.cell? ⟨D, 1, none⟩ = some (.slice none 0 0) := by simp [World.cell?, (HB7.block D (Array.getElem?_eq_some_iff.1 HD6.out).1).trans HD6.out]); (have e2 : w7.cell? ⟨D, 2, none⟩ = some (.slice a3 l.length c3) := by simp [World.cell?, (HB7.block D (Array.getElem?_eq_some_iff.1 HD6.out).1).trans HD6.out])))
        have HD7 := Lib.hid ((HB7.block D (Array.getElem?_eq_some_iff.1 HD6.out).1).trans HD6.out)
        have HMV7 := Lib.hid (HMV6.out.below HB7)
        have HV7 := Lib.hid (HV6.out.below HB7)
        have HM7 := Lib.hid (HM6.out.below HB7)
        have HA7 := Lib.hid (HA6.out.below HB7)
        have HBH7 := Lib.hid (trans3 HBH6.out HB7)
        clear E3 HB7 HMV6 HV6 HM6 HA6 HBH6 HD6
        have E4 := Lib.hid (C4.out w7 HM7.out HA7.out)
        go_wp2_with (first | (go_at_call 18; (with_reducible refine E4.out.mono ?_); rintro e w8 ⟨rfl, HB8⟩))
        have E5 : Hid (Calls Try.prog 19 #[.slice none 0 0, .slice none 0 0] w8 fun e w' => e = .returned (.bool true) ∧ ∃ n, w' = w8.drewN n) := Lib.hid (ints_any _ _ [] [] w8 (View.nil _) (View.nil _))
        have HBH8 := Lib.hid (trans3 HBH7.out HB8)
        clear E4 HB8
        go_wp2_with (first | (go_at_call 19; (with_reducible refine E5.out.mono ?_); rintro e w9 ⟨rfl, nq, rfl⟩))
        go_ret
        exact ⟨rfl, below_drewN HBH8.out _⟩
    · obtain ⟨rfl, hk, hi⟩ : c = 0 ∧ ck z0 = 0 ∧ inA l len0 l.length = true := by
        rcases hcc with h | h | h
        · exact absurd (.inl h) h0
        · exact absurd (.inr h) h0
        · exact h
      have hV : Valid z0 := valid_of (by have := ck_cases z0; rcases this with h | h | h; omega; omega; exact h.2.2)
      have hsum : smW (wA l l.length) len0 = len0 + l.length := wA_sum l len0 l.length hi
      have hgl : gt (hg z0 (wA l l.length)) len0 ≤ len0 + l.length := gt_le _ _ _ fun i hi' => by
        have h1 := hg_le hV (wA l l.length) i
        have h2 := smW_mono (wA l l.length) (i + 1) len0 hi'
        omega
      have C1 := Lib.hid (fun av a3 cv c3 w h hv => weights_yes av a3 len0 cv l.length c3 z0 l (.slice none 0 0) w h hv hk (by omega) hi)
      have C2 := Lib.hid (fun av a3 cv c3 w h hv => work_yes av a3 len0 cv l.length c3 z0 l (.slice none 0 0) w h hv hk (by omega) hi)
      have C3 := Lib.hid (fun av a3 cv c3 w h hv => span_yes av a3 len0 cv l.length c3 z0 l (.slice none 0 0) w h hv hk (by omega) hi)
      have C4 := Lib.hid (fun w h hv => rweights_yes a0 a1 len0 cap0 l.length cap1 z0 l w h hv hk (by omega) hi)
      have C5 := Lib.hid (fun S w h hW => rspan_of a0 len0 cap0 S (wA l l.length) z0 w h hV (by omega) hW (wA_pos l l.length) (by rw [hsum]; omega))
      unfold YPost at C1 C4
      obtain ⟨gg, hgg⟩ : ∃ gg, gt (hg z0 (wA l l.length)) len0 = gg := ⟨_, rfl⟩
      rw [hgg] at C3 C5 hgl
      have hsp : ((len0 + l.length : Nat) : Int) = (len0 : Int) + (l.length : Int) := by omega
      rw [hsp] at C2
      have hglI : (gg : Int) ≤ (len0 : Int) + (l.length : Int) := by omega
      have hwr : IntKind.i64.wrap ((len0 : Int) + (l.length : Int)) = (len0 : Int) + (l.length : Int) := by rw [IntKind.wrap_i64]; omega
      clear hc hcc h0 hsum hgg hk hi hsp
      go_enter Try.func4, Try.ntmps4
      go_wp2_with (first | (go_at_call 12; (with_reducible refine CW.out.mono ?_); rintro e w1 ⟨rfl, HB1⟩))
      have HM1 := Lib.hid (HM.out.below HB1)
      have HA1 := Lib.hid (HA.out.below HB1)
      have HBH := Lib.hid HB1
      have D1 := Lib.hid (CG.out w1 HM1.out)
      have D2 := Lib.hid (CO.out w1 HM1.out)
      clear HB1 CW HM CG HA
      go_wp2_with (first | (go_at_call 13; (with_reducible refine D1.out.mono ?_); rintro e w2 ⟨rfl, rfl⟩) | (go_at_call 14; (with_reducible refine D2.out.mono ?_); (rintro e w2 ⟨v2, rfl, HV2, HB2⟩); (obtain ⟨av, cv, rfl, _⟩ := HV2.form); (rw [← HLN.out] at HV2); (rw [← HLN.out])) | (at_builtin; refine wpList_copyR rfl _ _ 39 71 _ 24 rfl Try.underlying39 infoA rfl (by decide) recA w2.heap.size w2.heap.size rfl (heap_alloc_new _ _) (Nat.le_refl _) l (RV.below (RV.below HA1.out HB2) ((Below.refl _ _).alloc (Nat.le_refl _) _)) (by omega) ?_))
      intro v3 w3 hr3 hb3
      have hb3' : Below w2.heap.size w2 w3 := ((Below.refl _ _).alloc (Nat.le_refl _) _).trans hb3
      have hv3 := OR.rv recA hr3
      obtain ⟨a3, c3, rfl, _⟩ := hv3.form
      have HV3 := Lib.hid hv3
      have HMV := Lib.hid (HV2.below hb3')
      have HM3 := Lib.hid ((HM1.out.below HB2).below hb3')
      have HA3 := Lib.hid ((HA1.out.below HB2).below hb3')
      have HBH3 := Lib.hid (trans3 (trans3 HBH.out HB2) hb3')
      clear D1 D2 HV2 HB2 HBH HM1 HA1 CO hr3 hb3 hb3' hv3
      go_wp2_with fail
      obtain ⟨D, hD⟩ : ∃ D, w3.heap.size = D := ⟨_, rfl⟩
      have HD := Lib.hid hD
      have hnew : Below w3.heap.size w3 (w3.alloc (.cells #[.slice av len0 cv, .slice none 0 0, .slice a3 l.length c3] 44)) := (Below.refl _ _).alloc (Nat.le_refl _) _
      obtain ⟨W4, hW4⟩ : ∃ W4, w3.alloc (.cells #[.slice av len0 cv, .slice none 0 0, .slice a3 l.length c3] 44) = W4 := ⟨_, rfl⟩
      rw [hW4] at hnew
      have HW4 := Lib.hid hW4
      have hD4 : W4.heap[D]? = some (.cells #[.slice av len0 cv, .slice none 0 0, .slice a3 l.length c3] 44 (0, 0)) := by rw [← hW4, ← hD]; exact heap_box1 w3 _ _
      have HD4 := Lib.hid hD4
      have HMV4 := Lib.hid (HMV.out.below hnew)
      have HV4 := Lib.hid (HV3.out.below hnew)
      have HM4 := Lib.hid (HM3.out.below hnew)
      have HA4 := Lib.hid (HA3.out.below hnew)
      have HBH4 := Lib.hid (trans3 HBH3.out hnew)
      have dd0 : W4.cell? ⟨D, 0, none⟩ = some (.slice av len0 cv) := by simp [World.cell?, hD4]
      have dd1 : W4.cell? ⟨D, 1, none⟩ = some (.slice none 0 0) := by simp [World.cell?, hD4]
      have dd2 : W4.cell? ⟨D, 2, none⟩ = some (.slice a3 l.length c3) := by simp [World.cell?, hD4]
      clear hnew hD hW4 hD4 HMV HV3 HM3 HA3 HBH3
      rw [HW4.out, HD.out]
      have E1 := Lib.hid (C1.out av a3 cv c3 W4 HMV4.out HV4.out)
      go_wp2_with (first | (go_at_call 15; (with_reducible refine E1.out.mono ?_); (rintro e w5 ⟨S1, rfl, HN1, HB5⟩); (have e0 : w5.cell? ⟨D, 0, none⟩ = some (.slice av len0 cv) := by simp [World.cell?, (HB5.block D (Array.getElem?_eq_some_iff.1 HD4.out).1).trans HD4.out]); (have e1 : w5.cell? ⟨D, 1, none⟩ = some (.slice none 0 0) := by simp [World.cell?, (HB5.block D (Array.getElem?_eq_some_iff.1 HD4.out).1).trans HD4.out]); (have e2 : w5.cell? ⟨D, 2, none⟩ = some (.slice a3 l.length c3) := by simp [World.cell?, (HB5.block D (Array.getElem?_eq_some_iff.1 HD4.out).1).trans HD4.out])))
      have HD5 := Lib.hid ((HB5.block D (Array.getElem?_eq_some_iff.1 HD4.out).1).trans HD4.out)
      have HMV5 := Lib.hid (HMV4.out.below HB5)
      have HV5 := Lib.hid (HV4.out.below HB5)
      have HM5 := Lib.hid (HM4.out.below HB5)
      have HA5 := Lib.hid (HA4.out.below HB5)
      have HBH5 := Lib.hid (trans3 HBH4.out HB5)
      have HN5 := Lib.hid HN1
      clear E1 HB5 HMV4 HV4 HM4 HA4 HBH4 HD4
      clear dd0 dd1 dd2
      have E2 := Lib.hid (C2.out av a3 cv c3 w5 HMV5.out HV5.out)
      go_wp2_with (first | (go_at_call 16; (with_reducible refine E2.out.mono ?_); (rintro e w6 ⟨rfl, HB6⟩); (have e0 : w6.cell? ⟨D, 0, none⟩ = some (.slice av len0 cv) := by simp [World.cell?, (HB6.block D (Array.getElem?_eq_some_iff.1 HD5.out).1).trans HD5.out]); (have e1 : w6.cell? ⟨D, 1, none⟩ = some (.slice none 0 0) := by simp [World.cell?, (HB6.block D (Array.getElem?_eq_some_iff.1 HD5.out).1).trans HD5.out]); (have e2 : w6.cell? ⟨D, 2, none⟩ = some (.slice a3 l.length c3) := by simp [World.cell?, (HB6.block D (Array.getElem?_eq_some_iff.1 HD5.out).1).trans HD5.out])))
      have HD6 := Lib.hid ((HB6.block D (Array.getElem?_eq_some_iff.1 HD5.out).1).trans HD5.out)
      have HMV6 := Lib.hid (HMV5.out.below HB6)
      have HV6 := Lib.hid (HV5.out.below HB6)
      have HM6 := Lib.hid (HM5.out.below HB6)
      have HA6 := Lib.hid (HA5.out.below HB6)
      have HBH6 := Lib.hid (trans3 HBH5.out HB6)
      have HN6 := Lib.hid (HN5.out.below HB6)
      clear E2 HB6 HMV5 HV5 HM5 HA5 HBH5 HD5
      have E3 := Lib.hid (C3.out av a3 cv c3 w6 HMV6.out HV6.out)
      go_wp2_with (first | (go_at_call 17; (with_reducible refine E3.out.mono ?_); (rintro e w7 ⟨rfl, HB7⟩); (have e0 : w7.cell? ⟨D, 0, none⟩ = some (.slice av len0 cv) := by simp [World.cell?, (HB7.block D (Array.getElem?_eq_some_iff.1 HD6.out).1).trans HD6.out]); (have e1 : w7.cell? ⟨D, 1, none⟩ = some (.slice none 0 0) := by simp [World.cell?, (HB7.block D (Array.getElem?_eq_some_iff.1 HD6.out).1).trans HD6.out]); (have e2 : w7.cell? ⟨D, 2, none⟩ = some (.slice a3 l.length c3) := by simp [World.cell?, (HB7.block D (Array.getElem?_eq_some_iff.1 HD6.out).1).trans HD6.out])))
      have HD7 := Lib.hid ((HB7.block D (Array.getElem?_eq_some_iff.1 HD6.out).1).trans HD6.out)
      have HMV7 := Lib.hid (HMV6.out.below HB7)
      have HV7 := Lib.hid (HV6.out.below HB7)
      have HM7 := Lib.hid (HM6.out.below HB7)
      have HA7 := Lib.hid (HA6.out.below HB7)
      have HBH7 := Lib.hid (trans3 HBH6.out HB7)
      have HN7 := Lib.hid (HN6.out.below HB7)
      clear E3 HB7 HMV6 HV6 HM6 HA6 HBH6 HD6
      have E4 := Lib.hid (C4.out w7 HM7.out HA7.out)
      go_wp2_with (first | (go_at_call 18; (with_reducible refine E4.out.mono ?_); rintro e w8 ⟨S2, rfl, HN2, HB8⟩))
      have hv1 := (HN7.out.below HB8).view (by unfold maxLen; omega)
      have hv2 := HN2.view (by unfold maxLen; omega)
      have E5 : Hid (Calls Try.prog 19 #[.slice (some ⟨S1, 0, none⟩) len0 len0, .slice (some ⟨S2, 0, none⟩) len0 len0] w8 fun e w' => e = .returned (.bool true) ∧ ∃ n, w' = w8.drewN n) := Lib.hid ((ints_any _ _ _ _ w8 hv1 hv2).mono fun e w' h => ⟨by rw [h.1]; simp, h.2⟩)
      have HBH8 := Lib.hid (trans3 HBH7.out HB8)
      have HM8 := Lib.hid (HM7.out.below HB8)
      have HN8 := Lib.hid HN2
      have C6 := Lib.hid (fun q => C5.out S2 (w8.drewN q) (HM8.out.below (below_drewN (Below.refl _ _) q)) (HN8.out.below (below_drewN (Below.refl _ _) q)))
      clear E4 HB8 hv1 hv2 HN2
      go_wp2_with (first | (go_at_call 19; (with_reducible refine E5.out.mono ?_); rintro e w9 ⟨rfl, nq, rfl⟩) | (go_at_call 20; (with_reducible refine (C6.out _).mono ?_); rintro e w10 ⟨rfl, HB10⟩))
      go_ret
      exact ⟨by first | rfl | (simp; omega), (below_drewN HBH8.out _).trans (HB10.mono (by have := (below_drewN HBH8.out nq).size; exact this))⟩
end Go.Proofs.Ytpflimnngilhnaa.spanTells
