/- Follows: whether what began follows: the walk (layer 34). -/
import Derived.Test.YtgbeghaojkhiaaaTrN
import Derived.Test.YtgbeghaojkhiaaaGrids
namespace Go.Proofs.Ytgbeghaojkhiaaa.tr
open Go.ChangeShapes Go.WideShapes Go.ChangeAt Go.RowKit Go.Maps
open Go.Proofs.Ytgbeghaojkhiaaa.ro
open Go.Proofs.Ytgbeghaojkhiaaa.gr (C2 enC recC d2 PM rec_new cx hd hd_le iter_v stage_v tr3 kb Q4 eds chkE edges_ok edges_no)
attribute [local go_sem ↓] Go.wp_at_zero Go.wp_at_succ
attribute [local go_sem] Oper.semAt_some
set_option linter.unusedVariables false
set_option linter.unusedSimpArgs false
theorem run_store_cx {P : Program} {w : World} {a : Addr} {m : Mode} {k x y} : (store a (.complex k x y) m).run P w = stored P w a (.complex k x y) m := run_store P w a _ m rfl
attribute [local go_sem] run_store_cx
theorem look_run {w : World} {b n : Nat} {D : Dm} (hown : w.ownsMap Try.prog 67 inE b n D) (x y : Nat) (hz : x ≤ 1048576 ∧ y ≤ 1048576) (f : Pt → Option Nat) (hL : Ls D f) (v : Int) (hv : (match f (x, y) with | some B => (B : Int) | none => 0) = v) :
    (Instr.lookup 65 (.map (some b)) (spV x y) false).run Try.prog w = .ok (.int .i64 v) w := by
  obtain ⟨u, ps, hrun, hu⟩ := hown.lookup spL Try.underlying65 (zeroI w) (show inE (.int .i64 0) = some (zi, []) from rfl) (keyS (nat_wf hz.1) (nat_wf hz.2))
  rw [hL.2 (x, y) hz] at hu
  have : u = .int .i64 v := by
    rw [← hv]
    cases e : f (x, y) with
    | none => rw [e] at hu; exact inE_inv hu
    | some B => rw [e] at hu; exact inE_inv hu
  subst this
  exact hrun
set_option maxRecDepth 20000 in
set_option maxHeartbeats 4000000 in
theorem follows_v (a : Option Addr) (n c : Nat) (es : List I4) (lp : Int) (w : World) (h : RV 4 enE w (.slice a n c) es) (hn : n ≤ 1000) (hwf : ∀ x ∈ es, (Lit.int .i64 x.2.2.1).wf = true) :
    Calls Try.prog 14 #[.slice a n c, .int .i64 lp] w fun e w' => e = .returned (.bool (flw lp es)) ∧ Below w.heap.size w w' := by
  have HRO := Lib.hid (rows_v a n c es lp w h hn hwf)
  have HR := Lib.hid h
  have hlen := h.len.1
  have HN := Lib.hid hlen
  have hmm := @run_makeMap Try.prog
  obtain ⟨P, hP⟩ : ∃ P : Ending → World → Prop, (fun (e : Ending) (w' : World) => e = .returned (.bool (flw lp es)) ∧ Below w.heap.size w w') = P := ⟨_, rfl⟩
  have HF : Hid (∀ r w', flw lp es = r → Below w.heap.size w w' → P (.returned (.bool r)) w') := Lib.hid (by rintro r w' rfl hb; rw [← hP]; exact ⟨rfl, hb⟩)
  rw [hP]
  clear h hP hwf hlen
  by_cases hch : ¬ chkE (rss lp es).1 = 0
  · have HE := Lib.hid (fun a n c w' hpm => edges_no a n c (rss lp es).1 _ w' hpm rfl hch)
    have hFl : flw lp es = false := by
      unfold flw
      rw [decide_eq_false hch]
      rfl
    have HFl := Lib.hid hFl
    obtain ⟨r, hr⟩ : ∃ r, chkE (rss lp es).1 = r := ⟨_, rfl⟩
    rw [hr] at hch HE
    have h0b : (r != 0) = true := by simpa using hch
    have h0d : decide (r = 0) = false := decide_eq_false hch
    clear hFl hr
    go_enter Try.func14, Try.ntmps14
    go_wp2_with (first | (go_at_call 10; (with_reducible refine HRO.out.mono ?_); rintro _ w2 ⟨ra, rn, rc, rfl, hpm2, hb2⟩; have HP2 := Lib.hid hpm2; have HB2 := Lib.hid hb2; clear hpm2 hb2) | (go_at_call 26; (with_reducible refine (HE.out _ _ _ _ HP2.out).mono ?_); rintro _ w3 ⟨rfl, hb3⟩; have HB3 := Lib.hid (tr3 HB2.out hb3); clear hb3))
    first | exact HF.out _ _ HFl.out HB3.out | (go_ret; exact HF.out _ _ HFl.out HB3.out)
  have hch : chkE (rss lp es).1 = 0 := Decidable.of_not_not hch
  have HE := Lib.hid (fun a n c w' hpm => edges_ok a n c (rss lp es).1 w' hpm hch)
  have HFl : Hid (flw lp es = (eds (rss lp es).1).all fun e => !badE (fp (pts (bgn lp es))) e) := Lib.hid (by
    unfold flw
    rw [decide_eq_true hch]
    rfl)
  obtain ⟨E, hE⟩ : ∃ E, eds (rss lp es).1 = E := ⟨_, rfl⟩
  obtain ⟨nd, hnd⟩ : ∃ nd, bgn lp es = nd := ⟨_, rfl⟩
  rw [hE] at HE
  rw [hE, hnd] at HFl
  have HBG : Hid (∀ w', Below w.heap.size w w' → Calls Try.prog 12 #[.slice a n c, .int .i64 lp] w' fun e w'' => ∃ a' m' c', e = .returned (.slice a' m' c') ∧ OR 1 enN w'' w'.heap.size 38 (.slice a' m' c') nd ∧ Below w'.heap.size w' w'') := Lib.hid (fun w' hb => by have := begun_v a n c es lp w' (HR.out.below hb) hn; rw [hnd] at this; exact this)
  have HNL : Hid (nd.length ≤ 1000) := Lib.hid (by have := bgn_len lp es; rw [hnd] at this; have := HN.out; omega)
  clear hch hE hnd
  go_enter Try.func14, Try.ntmps14
  go_upto_region 4 with (first | (go_at_call 10; (with_reducible refine HRO.out.mono ?_); rintro _ w2 ⟨ra, rn, rc, rfl, hpm2, hb2⟩; have HP2 := Lib.hid hpm2; have HB2 := Lib.hid hb2; clear hpm2 hb2) | (go_at_call 26; (with_reducible refine (HE.out _ _ _ _ HP2.out).mono ?_); rintro _ w3 ⟨ea, em, ec, rfl, he3, hb3⟩; have HE3 := Lib.hid he3; have HB3 := Lib.hid (tr3 HB2.out hb3); clear he3 hb3))
  have HM4 : Hid ((w3.alloc (.map #[] 0)).ownsMap Try.prog 67 inE w3.heap.size 0 (.map [])) := Lib.hid (World.ownsMap_made w3 Try.prog 67 inE)
  obtain ⟨w4, hw4⟩ : ∃ w4, w3.alloc (.map #[] 0) = w4 := ⟨_, rfl⟩
  obtain ⟨Mb, hMb⟩ : ∃ Mb, w3.heap.size = Mb := ⟨_, rfl⟩
  have HW4 := Lib.hid hw4
  have HMb := Lib.hid hMb
  have HB4 : Hid (Below w3.heap.size w3 w4) := Lib.hid (by rw [← hw4]; go_grown)
  have HS4 : Hid (w4.heap.size = Mb + 1) := Lib.hid (by rw [← hw4, ← hMb]; simp)
  rw [hw4, hMb] at HM4
  clear hw4 hMb
  go_upto_region 5 with (fail)
  rw [HW4.out, HMb.out]
  go_wp2_with (first | (go_at_call 12; (with_reducible refine (HBG.out _ (tr3 HB3.out HB4.out)).mono ?_); rintro _ w5 ⟨na, nn, nc, rfl, hn5, hb5⟩; have HN5 := Lib.hid hn5; have HB5 := Lib.hid hb5; clear hn5 hb5))
  have HI : Hid (FI w w5 Mb (.slice na nn nc) (.slice ea em ec) nd E 0) := Lib.hid (by
    have b4 := tr3 HB3.out HB4.out
    refine ⟨⟨.map [], 0, ownsMap_blkS HM4.out (HB5.out.block Mb (by have := HS4.out; omega)), Ls.empty, Nat.le_refl _⟩, OR.zero HN5.out, OR.zero (OR.below (OR.below HE3.out HB4.out) HB5.out), tr3 b4 HB5.out, ?_, fun g hg => ?_, fun g hg => ?_⟩
    · rw [← HMb.out]; exact HB3.out.size
    · have := (HN5.out.lt g hg).1
      have := HS4.out
      omega
    · have := (HE3.out.lt g hg).2
      have := HMb.out
      omega)
  obtain ⟨hnn, hnc, hncm⟩ := (OR.rv recN HN5.out).len
  obtain ⟨hem, hec, hecm⟩ := (OR.rv Go.Proofs.Ytgbeghaojkhiaaa.gr.recE HE3.out).len
  unfold maxLen at hecm
  have HNN := Lib.hid hnn
  have HEM := Lib.hid hem
  have hn1000 : nn ≤ 1000 := by have := HNL.out; omega
  clear hnn hnc hncm hem HM4 HB4 HS4 HN5 HB5 HE3 HB3 HB2 HP2 HW4 HMb
  go_loopw [28] (fun i wr => ∃ k : Nat, i = .int .i64 (k : Int) ∧ k ≤ nn ∧ Hid (FI w wr Mb (.slice na nn nc) (.slice ea em ec) nd E k)) (fun i _ => nn - (intOf i).toNat)
  case atStart => exact ⟨0, by go_num, by omega, HI⟩
  case round =>
    clear HI
    obtain ⟨k, rfl, hk, HK⟩ := hrel
    by_cases hlt : k < nn
    · obtain ⟨⟨p0, p1⟩, hx⟩ : ∃ x, nd[k]? = some x := ⟨nd[k]'(by rw [← HNN.out]; exact hlt), by simp⟩
      have HX := Lib.hid hx
      obtain ⟨b, rfl, c0⟩ := OR.node HK.out.n k hx
      have d1 : (k : Int) < (nn : Int) := by omega
      obtain ⟨x, y, hxy⟩ : ∃ x y, cx p0 p1 = .complex .f64 x y := ⟨_, _, rfl⟩
      rw [hxy] at c0
      have HSP : Hid (∀ w', Calls Try.prog 27 #[.complex .f64 x y] w' fun e w'' => e = .returned (spV (hd p0) (hd p1)) ∧ Below w'.heap.size w' w'') := Lib.hid (fun w' => by rw [← hxy]; exact spot_v w' p0 p1)
      have HZ : Hid (hd p0 ≤ 1048576 ∧ hd p1 ≤ 1048576) := Lib.hid ⟨hd_le _, hd_le _⟩
      cases hf : fp ((pts nd).take k) (hd p0, hd p1) with
      | some m =>
        have hm1 := fp_pos hf
        have HOLD : Hid (∀ w', Below wr.heap.size wr w' → FI w w' Mb (.slice (some ⟨b, 0, none⟩) nn nc) (.slice ea em ec) nd E (k + 1)) := Lib.hid (fun w' hb => (HK.out.below hb).old HX.out (by show fp _ (hd p0, hd p1) ≠ none; rw [hf]; simp))
        have HMM : Hid (∀ w', Below wr.heap.size wr w' → ∃ D n, w'.ownsMap Try.prog 67 inE Mb n D ∧ Ls D (fp ((pts nd).take k))) := Lib.hid (fun w' hb => by obtain ⟨D, n, h1, h2, _⟩ := (HK.out.below hb).m; exact ⟨D, n, h1, h2⟩)
        have HFF := Lib.hid hf
        have m0 : ¬ (m : Int) = 0 := by omega
        have m0d : decide ((m : Int) = 0) = false := decide_eq_false m0
        have m0b : ((m : Int) == 0) = false := by simpa using m0
        have m0n : (m == 0) = false := by simp; omega
        clear hx hxy hf hm1 HK
        go_wp2_with (first | (go_at_call 27; (with_reducible refine (HSP.out _).mono ?_); rintro _ w6 ⟨rfl, hb6⟩; have HB6 := Lib.hid hb6; obtain ⟨D, mn, hm, hL⟩ := HMM.out w6 hb6; have HM := Lib.hid hm; have HLL := Lib.hid hL; clear hb6 hm hL) | (at_lookup; refine wpList_look_sp _ rfl _ _ rfl Mb mn D rfl HM.out (hd p0, hd p1) rfl HZ.out _ HLL.out (m : Int) (by rw [HFF.out]) ?_))
        go_roundw
        case rel => exact ⟨k + 1, by go_num, by omega, Lib.hid (HOLD.out _ HB6.out)⟩
        case measure => simp [intOf]; omega
      | none =>
        have HFF := Lib.hid hf
        clear hx hxy hf
        go_upto_region 9 with (first
          | (go_at_call 27; (with_reducible refine (HSP.out _).mono ?_); rintro _ w6 ⟨rfl, hb6⟩; have HK6 := Lib.hid (HK.out.below hb6); obtain ⟨D, mn, hm, hL, hmn⟩ := HK6.out.m; have HM := Lib.hid hm; have HLL := Lib.hid hL; clear hb6 hm hL hmn)
          | (at_lookup; refine wpList_look_sp _ rfl _ _ rfl Mb mn D rfl HM.out (hd p0, hd p1) rfl HZ.out _ HLL.out 0 (by rw [HFF.out]) ?_))
        go_wp2_with (first
          | (go_at_call 27; (with_reducible refine (HSP.out _).mono ?_); rintro _ w7 ⟨rfl, hb7⟩; have HK7 := Lib.hid (HK6.out.below hb7); obtain ⟨D7, mn7, hm7, hL7, hmn7⟩ := HK7.out.m; have HM7 := Lib.hid hm7; have HL7 := Lib.hid hL7; have HMN := Lib.hid hmn7; clear hb7 hm7 hL7 hmn7)
          | (at_mapUpdate; refine wpList_mapUpdate_own _ rfl _ _ _ 65 rfl 67 3 spL Try.underlying65 inE Mb mn7 D7 rfl HM7.out (by have := HMN.out; unfold maxLen; omega) _ _ (kS (hd p0) (hd p1)) rfl rfl (keyS (nat_wf HZ.out.1) (nat_wf HZ.out.2)) _ [] (inE_some _) ?_; intro W4 hown4 hgr4; have HN2 := Lib.hid (HK7.out.new HX.out HFF.out HL7.out HMN.out (by simpa using hown4) hgr4); clear hown4 hgr4))
        go_roundw
        case rel => exact ⟨k + 1, by go_num, by omega, HN2⟩
        case measure => simp [intOf]; omega
    · obtain rfl : k = nn := by omega
      have HKN : Hid (∃ D n, wr.ownsMap Try.prog 67 inE Mb n D ∧ Ls D (fp (pts nd))) := Lib.hid (by
        obtain ⟨D, n, h1, h2, _⟩ := HK.out.m
        rw [List.take_of_length_le (by unfold pts; rw [List.length_map, ← HNN.out]; exact Nat.le_refl _)] at h2
        exact ⟨D, n, h1, h2⟩)
      have HBR := Lib.hid HK.out.b
      have HER := Lib.hid HK.out.e
      obtain ⟨f, hf⟩ : ∃ f, fp (pts nd) = f := ⟨_, rfl⟩
      have HPO : Hid (∀ p m, f p = some m → 1 ≤ m) := Lib.hid (by rw [← hf]; exact fun p m h => (fp_pos h).1)
      rw [hf] at HKN HFl
      obtain ⟨D, mn, hm, hL⟩ := HKN.out
      have HM := Lib.hid hm
      have HLL := Lib.hid hL
      clear hm hL hf HK HKN
      go_wp2_with fail
      obtain ⟨wO, rfl⟩ : ∃ x, x = wr := ⟨_, rfl⟩
      have HJ0 : Hid (Below wO.heap.size wO wO ∧ ∀ (j : Nat) (q : Q4), j < 0 → E[j]? = some q → badE f q = false) := Lib.hid ⟨Below.refl _ _, fun j q h => by omega⟩
      go_loopw [46] (fun i w2 => ∃ j : Nat, i = .int .i64 (j : Int) ∧ j ≤ em ∧ Hid (Below wO.heap.size wO w2 ∧ ∀ (i : Nat) (q : Q4), i < j → E[i]? = some q → badE f q = false)) (fun i _ => em - (intOf i).toNat)
      case atStart => exact ⟨0, by go_num, by omega, HJ0⟩
      case round =>
        clear HJ0
        obtain ⟨j, rfl, hj, HJ⟩ := hrel
        by_cases hjl : j < em
        · obtain ⟨⟨q0, q1, q2, q3⟩, hx⟩ : ∃ x, E[j]? = some x := ⟨E[j]'(by rw [← HEM.out]; exact hjl), by simp⟩
          obtain ⟨b, rfl, c0, c1⟩ := OR.edge (HER.out.below HJ.out.1) j hx
          have d1 : (j : Int) < (em : Int) := by omega
          obtain ⟨x0, y0, h0⟩ : ∃ x y, cx q0 q1 = .complex .f64 x y := ⟨_, _, rfl⟩
          obtain ⟨x1, y1, h1⟩ : ∃ x y, cx q2 q3 = .complex .f64 x y := ⟨_, _, rfl⟩
          have c0' : wr.cell? ⟨b, j * 2, none⟩ = some (.complex .f64 x0 y0) := by rw [← h0]; exact c0
          have c1' : wr.cell? ⟨b, j * 2 + 1, none⟩ = some (.complex .f64 x1 y1) := by rw [← h1]; exact c1
          obtain ⟨fa, hfa⟩ : ∃ m, hd q0 = m := ⟨_, rfl⟩
          obtain ⟨fb, hfb⟩ : ∃ m, hd q1 = m := ⟨_, rfl⟩
          obtain ⟨ta, hta⟩ : ∃ m, hd q2 = m := ⟨_, rfl⟩
          obtain ⟨tb, htb⟩ : ∃ m, hd q3 = m := ⟨_, rfl⟩
          have HS0 : Hid (∀ w', Calls Try.prog 27 #[.complex .f64 x0 y0] w' fun e w'' => e = .returned (spV fa fb) ∧ Below w'.heap.size w' w'') := Lib.hid (fun w' => by rw [← h0, ← hfa, ← hfb]; exact spot_v w' q0 q1)
          have HS1 : Hid (∀ w', Calls Try.prog 27 #[.complex .f64 x1 y1] w' fun e w'' => e = .returned (spV ta tb) ∧ Below w'.heap.size w' w'') := Lib.hid (fun w' => by rw [← h1, ← hta, ← htb]; exact spot_v w' q2 q3)
          have HZ0 : Hid (fa ≤ 1048576 ∧ fb ≤ 1048576) := Lib.hid ⟨by rw [← hfa]; exact hd_le _, by rw [← hfb]; exact hd_le _⟩
          have HZ1 : Hid (ta ≤ 1048576 ∧ tb ≤ 1048576) := Lib.hid ⟨by rw [← hta]; exact hd_le _, by rw [← htb]; exact hd_le _⟩
          obtain ⟨vf, hvf⟩ : ∃ v : Int, (match f (fa, fb) with | some B => (B : Int) | none => 0) = v := ⟨_, rfl⟩
          obtain ⟨vt, hvt⟩ : ∃ v : Int, (match f (ta, tb) with | some B => (B : Int) | none => 0) = v := ⟨_, rfl⟩
          have HBAD : Hid (badE f (q0, q1, q2, q3) = decide (vt ≠ 0 ∧ (vf = 0 ∨ vt < vf))) := Lib.hid (by
            unfold badE
            show (match f (hd q2, hd q3) with | none => false | some t => match f (hd q0, hd q1) with | none => true | some m => decide (t < m)) = _
            rw [hfa, hfb, hta, htb, ← hvf, ← hvt]
            cases e1 : f (ta, tb) with
            | none => simp
            | some t =>
              have := HPO.out _ _ e1
              cases e2 : f (fa, fb) with
              | none => simp; omega
              | some m =>
                have := HPO.out _ _ e2
                by_cases e3 : t < m
                · simp [e3]; omega
                · simp [e3]; omega)
          have HVF := Lib.hid hvf
          have HVT := Lib.hid hvt
          have HX := Lib.hid hx
          obtain ⟨W, hW⟩ : ∃ W, wr.alloc (.cells #[.complex .f64 x0 y0, .complex .f64 x1 y1] 69) = W := ⟨_, rfl⟩
          have hbW : Below wr.heap.size wr W := by rw [← hW]; go_grown
          have hXW : W.heap[wr.heap.size]? = some (.cells #[.complex .f64 x0 y0, .complex .f64 x1 y1] 69 (0, 0)) := by rw [← hW]; exact heap_new _ _
          have KC : Hid (∀ w', Below W.heap.size W w' → w'.cell? ⟨wr.heap.size, 0, none⟩ = some (.complex .f64 x0 y0) ∧ w'.cell? ⟨wr.heap.size, 1, none⟩ = some (.complex .f64 x1 y1)) := Lib.hid (fun w' hb => by
            have := (hb.block _ (lt_of hXW)).trans hXW
            exact ⟨cel this 0, cel this 1⟩)
          obtain ⟨e0, e1⟩ := KC.out W (Below.refl _ _)
          have HBW := Lib.hid (tr3 HJ.out.1 hbW)
          have HMX : Hid (∀ w', Below W.heap.size W w' → w'.ownsMap Try.prog 67 inE Mb mn D) := Lib.hid (fun w' hb => by
            have b1 := tr3 HBW.out hb
            exact ownsMap_blkS HM.out (b1.block Mb HM.out.lt))
          have HLK : Hid (∀ w', Below W.heap.size W w' → (Instr.lookup 65 (.map (some Mb)) (spV fa fb) false).run Try.prog w' = .ok (.int .i64 vf) w') := Lib.hid (fun w' hb => look_run (HMX.out w' hb) fa fb HZ0.out f HLL.out vf HVF.out)
          have HLT : Hid (∀ w', Below W.heap.size W w' → (Instr.lookup 65 (.map (some Mb)) (spV ta tb) false).run Try.prog w' = .ok (.int .i64 vt) w') := Lib.hid (fun w' hb => look_run (HMX.out w' hb) ta tb HZ1.out f HLL.out vt HVT.out)
          have HNX : Hid (badE f (q0, q1, q2, q3) = false → ∀ w', Below W.heap.size W w' → Below wO.heap.size wO w' ∧ ∀ (i : Nat) (q : Q4), i < j + 1 → E[i]? = some q → badE f q = false) := Lib.hid (fun hb0 w' hb => ⟨tr3 HBW.out hb, fun i q hi hq => by
            by_cases e : i = j
            · subst e
              rw [HX.out] at hq
              cases hq
              exact hb0
            · exact HJ.out.2 i q (by omega) hq⟩)
          have HRX : Hid (badE f (q0, q1, q2, q3) = true → flw lp es = false ∧ ∀ w', Below W.heap.size W w' → Below w.heap.size w w') := Lib.hid (fun hb0 => ⟨(by
            rw [HFl.out]
            cases e : E.all fun e => !badE f e with
            | false => rfl
            | true =>
              have := List.all_eq_true.1 e _ (List.mem_of_getElem? HX.out)
              rw [hb0] at this
              cases this), fun w' hb => tr3 HBR.out (tr3 HBW.out hb)⟩)
          clear hx c0 c1 h0 h1 hfa hfb hta htb hvf hvt hbW hXW HJ HBW
          go_upto_region 14 with (fail)
          go_region_law (first
            | ((go_simp; (with_reducible refine (HS0.out _).mono ?_); rintro _ w6 ⟨rfl, hb6⟩; have hbw6 : Below W.heap.size W w6 := tr3 (by first | (with_reducible assumption) | exact ghd (Below.refl _ _) | exact Below.refl _ _) hb6; obtain ⟨e06, e16⟩ := KC.out w6 hbw6; have l06 := HLK.out w6 hbw6; have l16 := HLT.out w6 hbw6))
            | ((go_simp; (with_reducible refine (HS1.out _).mono ?_); rintro _ w7 ⟨rfl, hb7⟩; have hbw7 : Below W.heap.size W w7 := tr3 (by first | (with_reducible assumption) | exact ghd (Below.refl _ _) | exact Below.refl _ _) hb7; obtain ⟨e07, e17⟩ := KC.out w7 hbw7; have l07 := HLK.out w7 hbw7; have l17 := HLT.out w7 hbw7)))
          all_goals
            by_cases k1 : vt = 0
            · have HB0 : Hid (badE f (q0, q1, q2, q3) = false) := Lib.hid (by rw [HBAD.out]; simp [k1])
              have k1n : (vt != 0) = false := by simpa using k1
              have k1d : decide (vt = 0) = true := decide_eq_true k1
              go_wp2_with fail
              go_roundw
              case rel => exact ⟨j + 1, by go_num, by omega, Lib.hid (HNX.out HB0.out _ (by first | (with_reducible assumption) | exact ghd (Below.refl _ _) | exact Below.refl _ _))⟩
              case measure => simp [intOf]; omega
            have k1n : (vt != 0) = true := by simpa using k1
            have k1d : decide (vt = 0) = false := decide_eq_false k1
            by_cases k2 : vf = 0
            · have HB0 : Hid (badE f (q0, q1, q2, q3) = true) := Lib.hid (by rw [HBAD.out]; simp [k1, k2])
              have k2n : (vf == 0) = true := by simpa using k2
              have k2d : decide (vf = 0) = true := decide_eq_true k2
              go_wp2_with fail
              first | exact HF.out _ _ (HRX.out HB0.out).1 ((HRX.out HB0.out).2 _ (by first | (with_reducible assumption) | exact ghd (Below.refl _ _) | exact Below.refl _ _)) | (go_ret; exact HF.out _ _ (HRX.out HB0.out).1 ((HRX.out HB0.out).2 _ (by first | (with_reducible assumption) | exact ghd (Below.refl _ _) | exact Below.refl _ _)))
            have k2n : (vf == 0) = false := by simpa using k2
            have k2d : decide (vf = 0) = false := decide_eq_false k2
            by_cases k3 : vt < vf
            · have HB0 : Hid (badE f (q0, q1, q2, q3) = true) := Lib.hid (by rw [HBAD.out]; simp [k1, k3])
              have k3d : decide (vt < vf) = true := decide_eq_true k3
              go_wp2_with fail
              first | exact HF.out _ _ (HRX.out HB0.out).1 ((HRX.out HB0.out).2 _ (by first | (with_reducible assumption) | exact ghd (Below.refl _ _) | exact Below.refl _ _)) | (go_ret; exact HF.out _ _ (HRX.out HB0.out).1 ((HRX.out HB0.out).2 _ (by first | (with_reducible assumption) | exact ghd (Below.refl _ _) | exact Below.refl _ _)))
            have HB0 : Hid (badE f (q0, q1, q2, q3) = false) := Lib.hid (by rw [HBAD.out]; simp [k2, k3])
            have k3d : decide (vt < vf) = false := decide_eq_false k3
            go_wp2_with fail
            go_roundw
            case rel => exact ⟨j + 1, by go_num, by omega, Lib.hid (HNX.out HB0.out _ (by first | (with_reducible assumption) | exact ghd (Below.refl _ _) | exact Below.refl _ _))⟩
            case measure => simp [intOf]; omega
        · obtain rfl : j = em := by omega
          have HFT : Hid (flw lp es = true) := Lib.hid (by
            rw [HFl.out, List.all_eq_true]
            intro q hq
            obtain ⟨i, hi⟩ := List.getElem?_of_mem hq
            have := HJ.out.2 i q (by rw [HEM.out]; exact (List.getElem?_eq_some_iff.1 hi).1) hi
            simpa using this)
          have HBB := Lib.hid (tr3 HBR.out HJ.out.1)
          clear HJ
          go_wp2_with fail
          first | exact HF.out _ _ HFT.out HBB.out | (go_ret; exact HF.out _ _ HFT.out HBB.out)
end Go.Proofs.Ytgbeghaojkhiaaa.tr
