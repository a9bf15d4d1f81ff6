/- Whether a way leads from node to node (layer 33): the walk of the program. -/
import Derived.Test.YtagcgffofddcnaaGrJ
namespace Go.Proofs.Ytagcgffofddcnaa.gr
open Go.ChangeShapes Go.WideShapes Go.ChangeAt Go.RowKit
open Go.Proofs.Ytagcgffofddcnaa.ro
open Go.Proofs.Ytagcgffofddcnaa
set_option linter.unusedVariables false
set_option linter.unusedSimpArgs false
set_option maxRecDepth 20000 in
set_option maxHeartbeats 16000000 in
theorem before_v (ad : Option Addr) (n c : Nat) (L : List (List C2)) (a1 b1 a2 b2 : Int) (w : World) (h : PM w (.slice ad n c) L) :
    Calls Try.prog 21 #[.slice ad n c, cx a1 b1, cx a2 b2] w fun e w' => ∃ v, e = .returned (.bool v) ∧ (v = true ↔ BefP L a1 b1 a2 b2) ∧ Below w.heap.size w w' := by
  obtain ⟨hnl, hnc, hcm⟩ := h.len
  unfold maxLen at hcm
  obtain ⟨r, hr⟩ : ∃ r, chkE L = r := ⟨_, rfl⟩
  have HC := Lib.hid (check_v ad n c L r w h hr)
  obtain ⟨P, hP⟩ : ∃ P : Ending → World → Prop, (fun (e : Ending) (w' : World) => ∃ v, e = .returned (.bool v) ∧ (v = true ↔ BefP L a1 b1 a2 b2) ∧ Below w.heap.size w w') = P := ⟨_, rfl⟩
  have HF0 : Hid (¬ BefP L a1 b1 a2 b2 → ∀ w', Below w.heap.size w w' → P (.returned (.bool false)) w') := Lib.hid (by rintro hn w' hb; rw [← hP]; exact ⟨false, rfl, by simp [hn], hb⟩)
  have HF1 : Hid (BefP L a1 b1 a2 b2 → ∀ w', Below w.heap.size w w' → P (.returned (.bool true)) w') := Lib.hid (by rintro hn w' hb; rw [← hP]; exact ⟨true, rfl, by simp [hn], hb⟩)
  rw [hP]
  clear hP
  have HR0 := Lib.hid h
  have HNL := Lib.hid hnl
  by_cases hr0 : r = 0
  · subst hr0
    have hL := chkE_rts hr
    have HL := Lib.hid hL
    have hn100 : n ≤ 100 := by have := hL.m; omega
    obtain ⟨E1, hE1⟩ : ∃ E, decide (hd a1 = hd a2) = E := ⟨_, rfl⟩
    obtain ⟨E2, hE2⟩ : ∃ E, decide (hd b1 = hd b2) = E := ⟨_, rfl⟩
    have o1 : (FloatKind.f64.format.order (fl.enc (hd a1)) (fl.enc (hd a2)) == some .eq) = E1 := by rw [eqo (hd_lt _) (hd_lt _), hE1]
    have o2 : (FloatKind.f64.format.order (fl.enc (hd b1)) (fl.enc (hd b2)) == some .eq) = E2 := by rw [eqo (hd_lt _) (hd_lt _), hE2]
    have HFA : Hid (∀ w9, PM w9 (.slice ad n c) L → Calls Try.prog 33 #[.slice ad n c, cx a1 b1] w9 fun e w' => e = .returned (plV (fndP L (hd a1) (hd b1))) ∧ Below w9.heap.size w9 w') := Lib.hid (fun w9 h9 => find_v ad n c L a1 b1 w9 h9 hL)
    have HFB : Hid (∀ w9, PM w9 (.slice ad n c) L → Calls Try.prog 33 #[.slice ad n c, cx a2 b2] w9 fun e w' => e = .returned (plV (fndP L (hd a2) (hd b2))) ∧ Below w9.heap.size w9 w') := Lib.hid (fun w9 h9 => find_v ad n c L a2 b2 w9 h9 hL)
    have HBP : Hid (BefP L a1 b1 a2 b2 ↔ (E1 && E2) = false ∧ ∃ f z, fndP L (hd a1) (hd b1) = some f ∧ fndP L (hd a2) (hd b2) = some z ∧ Way L f z) := Lib.hid (by
      unfold BefP
      rw [← hE1, ← hE2]
      simp only [hr, true_and, Bool.and_eq_false_imp, decide_eq_true_eq, decide_eq_false_iff_not, not_and])
    obtain ⟨FA, hFA⟩ : ∃ F, fndP L (hd a1) (hd b1) = F := ⟨_, rfl⟩
    obtain ⟨FB, hFB⟩ : ∃ F, fndP L (hd a2) (hd b2) = F := ⟨_, rfl⟩
    rw [hFA] at HFA HBP
    rw [hFB] at HFB HBP
    have HFA' := Lib.hid hFA
    have HFB' := Lib.hid hFB
    unfold cx at HFA HFB ⊢
    obtain ⟨X1, hX1⟩ : ∃ X, fl.enc (hd a1) = X := ⟨_, rfl⟩
    obtain ⟨Y1, hY1⟩ : ∃ X, fl.enc (hd b1) = X := ⟨_, rfl⟩
    obtain ⟨X2, hX2⟩ : ∃ X, fl.enc (hd a2) = X := ⟨_, rfl⟩
    obtain ⟨Y2, hY2⟩ : ∃ X, fl.enc (hd b2) = X := ⟨_, rfl⟩
    rw [hX1, hX2] at o1
    rw [hY1, hY2] at o2
    rw [hX1, hY1] at HFA
    rw [hX2, hY2] at HFB
    rw [hX1, hY1, hX2, hY2]
    clear hX1 hY1 hX2 hY2 hE1 hE2 hFA hFB h hr hL hnl
    obtain ⟨EE, hEE⟩ : ∃ E, (E1 && E2) = E := ⟨_, rfl⟩
    rw [hEE] at HBP
    cases EE with
    | true =>
      have hF := Lib.hid (HF0.out (by rw [HBP.out]; simp))
      obtain ⟨rfl, rfl⟩ : E1 = true ∧ E2 = true := by simpa using hEE
      go_enter Try.func21, Try.ntmps21
      go_wp2_with fail
      refine HC.out.mono ?_
      rintro e w5 ⟨rfl, hb5⟩
      have HB5 := Lib.hid hb5
      clear hb5
      go_wp2_with fail
      all_goals first | exact hF.out _ HB5.out | (go_ret; exact hF.out _ HB5.out)
    | false =>
      have o12 : ((FloatKind.f64.format.order X1 X2 == some .eq) && (FloatKind.f64.format.order Y1 Y2 == some .eq)) = false := by rw [o1, o2, hEE]
      clear hEE o1 o2
      have HV : Hid ((∃ p1 p2 u1 q1 q2 u2, plV FA = .tuple #[.agg #[.int .i64 p1, .int .i64 p2], .bool u1] ∧ plV FB = .tuple #[.agg #[.int .i64 q1, .int .i64 q2], .bool u2] ∧ (u1 = false ∨ (u1 = true ∧ u2 = false)) ∧ ¬ BefP L a1 b1 a2 b2) ∨ (∃ f z : Pl, FA = some f ∧ FB = some z ∧ (BefP L a1 b1 a2 b2 ↔ Way L f z))) := Lib.hid (by
        cases FA with
        | none => exact .inl ⟨_, _, _, (match FB with | some p => (p.1 : Int) | none => 0), (match FB with | some p => (p.2 : Int) | none => 0), (match FB with | some p => true | none => false), rfl, by cases FB <;> rfl, .inl rfl, by rw [HBP.out]; rintro ⟨_, f, z, h1, _⟩; cases h1⟩
        | some f =>
          cases FB with
          | none => exact .inl ⟨_, _, _, _, _, _, rfl, rfl, .inr ⟨rfl, rfl⟩, by rw [HBP.out]; rintro ⟨_, f, z, _, h1, _⟩; cases h1⟩
          | some z => exact .inr ⟨f, z, rfl, rfl, by
              rw [HBP.out]
              constructor
              · rintro ⟨_, f', z', h1, h2, h3⟩; cases h1; cases h2; exact h3
              · intro h; exact ⟨rfl, f, z, rfl, rfl, h⟩⟩)
      rcases HV.out with ⟨p1, p2, u1, z1, z2, u2, hv1, hv2, huu, hno⟩ | ⟨⟨f1, f2⟩, ⟨z1, z2⟩, rfl, rfl, hyes⟩
      · rw [hv1] at HFA
        rw [hv2] at HFB
        have hF := Lib.hid (HF0.out hno)
        clear hv1 hv2 hno HV HF0 HF1 HBP
        go_enter Try.func21, Try.ntmps21
        go_wp2_with fail
        refine HC.out.mono ?_
        rintro e w5 ⟨rfl, hb5⟩
        have HB5 := Lib.hid hb5
        clear hb5
        have HA1 := Lib.hid (HFA.out w5 (HR0.out.below HB5.out))
        go_wp2_with fail
        refine HA1.out.mono ?_
        rintro e w6 ⟨rfl, hb6⟩
        obtain ⟨W6, hW6⟩ : ∃ W, w6.alloc (.cells #[.int .i64 p1, .int .i64 p2] 71) = W := ⟨_, rfl⟩
        have hbW6 : Below w6.heap.size w6 W6 := by rw [← hW6]; go_grown
        have HB6 := Lib.hid (tr3 (tr3 HB5.out hb6) hbW6)
        have HA2 := Lib.hid (HFB.out W6 (HR0.out.below HB6.out))
        clear hb6 hbW6 HA1
        go_wp2_with fail
        refine HA2.out.mono ?_
        rintro e w7 ⟨rfl, hb7⟩
        have HB7 := Lib.hid (tr3 HB6.out hb7)
        have HB8 : Hid (Below w.heap.size w (w7.alloc (.cells #[.int .i64 z1, .int .i64 z2] 71))) := Lib.hid (tr3 HB7.out (by go_grown))
        clear hb7 HA2
        rcases huu with rfl | ⟨rfl, rfl⟩
        · go_wp2_with fail
          all_goals first | exact hF.out _ HB8.out | (go_ret; exact hF.out _ HB8.out)
        · go_wp2_with fail
          all_goals first | exact hF.out _ HB8.out | (go_ret; exact hF.out _ HB8.out)
      · have hpv : ∀ x y : Nat, plV (some (x, y)) = .tuple #[.agg #[.int .i64 (x : Int), .int .i64 (y : Int)], .bool true] := fun _ _ => rfl
        rw [hpv] at HFA HFB
        have hfin := fndP_some HFA'.out
        have hzin := fndP_some HFB'.out
        have hfl := hfin.1.1
        have hzl := hzin.1.1
        have HYES := Lib.hid hyes
        have HFin := Lib.hid hfin.1
        have HZin := Lib.hid hzin.1
        simp only at hfl hzl
        rw [← HNL.out] at hfl hzl
        clear hpv hfin hzin hyes HV HBP HFA' HFB'
        go_enter Try.func21, Try.ntmps21
        go_wp2_with fail
        refine HC.out.mono ?_
        rintro e w5 ⟨rfl, hb5⟩
        have HB5 := Lib.hid hb5
        clear hb5
        have HA1 := Lib.hid (HFA.out w5 (HR0.out.below HB5.out))
        go_wp2_with fail
        refine HA1.out.mono ?_
        rintro e w6 ⟨rfl, hb6⟩
        obtain ⟨W6, hW6⟩ : ∃ W, w6.alloc (.cells #[.int .i64 (f1 : Int), .int .i64 (f2 : Int)] 71) = W := ⟨_, rfl⟩
        have hbW6 : Below w6.heap.size w6 W6 := by rw [← hW6]; go_grown
        obtain ⟨g7, hg7⟩ : ∃ g, w6.heap.size = g := ⟨_, rfl⟩
        have HX7 : Hid (W6.heap[g7]? = some (.cells #[.int .i64 (f1 : Int), .int .i64 (f2 : Int)] 71 (0, 0))) := Lib.hid (by rw [← hg7, ← hW6]; exact heap_new _ _)
        have HB6 := Lib.hid (tr3 (tr3 HB5.out hb6) hbW6)
        have HA2 := Lib.hid (HFB.out W6 (HR0.out.below HB6.out))
        clear hb6 hbW6 HA1
        go_wp2_with fail
        refine HA2.out.mono ?_
        rintro e w7 ⟨rfl, hb7⟩
        obtain ⟨W8, hW8⟩ : ∃ W, w7.alloc (.cells #[.int .i64 (z1 : Int), .int .i64 (z2 : Int)] 71) = W := ⟨_, rfl⟩
        have hbW8 : Below w7.heap.size w7 W8 := by rw [← hW8]; go_grown
        obtain ⟨g9, hg9⟩ : ∃ g, w7.heap.size = g := ⟨_, rfl⟩
        have HX9 : Hid (W8.heap[g9]? = some (.cells #[.int .i64 (z1 : Int), .int .i64 (z2 : Int)] 71 (0, 0))) := Lib.hid (by rw [← hg9, ← hW8]; exact heap_new _ _)
        have HX7' := Lib.hid (kb HX7.out (tr3 hb7 hbW8))
        have HB8 := Lib.hid (tr3 (tr3 HB6.out hb7) hbW8)
        obtain ⟨W1, hW1⟩ : ∃ W, W8.alloc (.cells (madeCells #[.slice none 0 0] n) 79) = W := ⟨_, rfl⟩
        have hbW1 : Below W8.heap.size W8 W1 := by rw [← hW1]; go_grown
        obtain ⟨O, hO⟩ : ∃ g, W8.heap.size = g := ⟨_, rfl⟩
        have HXO : Hid (SE W1 L O (fun _ => 0) 0 (fun _ _ => false)) := Lib.hid (SE.zero (by rw [← HNL.out, ← hO, ← hW1]; exact heap_new _ _))
        have HXA := Lib.hid (kb HX7'.out hbW1)
        have HXB := Lib.hid (kb HX9.out hbW1)
        have HBA := Lib.hid (tr3 HB8.out hbW1)
        have hOB : w.heap.size ≤ O := by have := HB8.out.size; omega
        have hmk : ∀ w, (Instr.makeSlice 78 (.int .i64 (n : Int)) (.int .i64 (n : Int))).run Try.prog w = .ok (.slice (some ⟨w.heap.size, 0, none⟩) n n) (w.alloc (.cells (madeCells #[.slice none 0 0] n) 79)) := fun w => by
          have := run_make_cells Try.prog 78 79 (.slice none 0 0) 1 24 Try.underlying78 infoB2 .i64 .i64 n (by omega) (by omega) w
          rw [Nat.mul_one] at this
          exact this
        clear hb7 hbW8 hbW1 HA2 HX7 HX9 HX7'
        go_wp2_with fail
        go_loopw [49] (fun i wr => ∃ (k : Nat) (g : Nat → Nat), i = .int .i64 (k : Int) ∧ k ≤ n ∧ Hid (∀ r x, r < k → g r = x → w.heap.size ≤ x) ∧ Hid (SE wr L O g k (fun _ _ => false)) ∧ Hid (wr.heap[g7]? = some (.cells #[.int .i64 (f1 : Int), .int .i64 (f2 : Int)] 71 (0, 0))) ∧ Hid (wr.heap[g9]? = some (.cells #[.int .i64 (z1 : Int), .int .i64 (z2 : Int)] 71 (0, 0))) ∧ Hid (Below w.heap.size w wr)) (fun i _ => n - (intOf i).toNat)
        case atStart => exact ⟨0, _, rfl, by omega, Lib.hid (fun r x h => by omega), HXO, HXA, HXB, HBA⟩
        case round =>
          clear HXO HXA HXB HBA
          obtain ⟨k, g, rfl, hk, HGL, HS, HX7, HX9, HB⟩ := hrel
          by_cases hkn : k < n
          · obtain ⟨o1, o2, ai, ci, rfl, hbl, c0, hrow⟩ := (HR0.out.below HB.out).row k hkn
            obtain ⟨m, hm⟩ : ∃ m, (L.getD k []).length = m := ⟨_, rfl⟩
            have hm100 : m ≤ 100 := by have := (HL.out.r k (by rw [← HNL.out]; exact hkn)).m; omega
            rw [hm] at c0
            have hkI : (k : Int) < (n : Int) := by omega
            have hmk2 : ∀ w, (Instr.makeSlice 79 (.int .i64 (m : Int)) (.int .i64 (m : Int))).run Try.prog w = .ok (.slice (some ⟨w.heap.size, 0, none⟩) m m) (w.alloc (.cells (madeCells #[.bool false] m) 4)) := fun w => by
              have := run_make_cells Try.prog 79 4 (.bool false) 1 1 Try.underlying79 infoB1 .i64 .i64 m (by omega) (by omega) w
              rw [Nat.mul_one] at this
              exact this
            have HMR := Lib.hid (SE.more HS.out (by rw [← HNL.out]; exact hkn) m hm.symm)
            obtain ⟨cs, hcs, hcs2, _⟩ := HS.out.o
            have q0 : wr.cell? ⟨O, k, none⟩ = cs[k]? := cel hcs k
            obtain ⟨qv, hqv⟩ : ∃ v, cs[k]? = some v := ⟨_, Array.getElem?_eq_getElem (by rw [hcs2, ← HNL.out]; exact hkn)⟩
            rw [hqv] at q0
            have q1 := frz hcs k
            have HGM : Hid (∀ r x, r < k + 1 → (if r = k then wr.heap.size else g r) = x → w.heap.size ≤ x) := Lib.hid (fun r x h1 h2 => by
              by_cases e : r = k
              · rw [if_pos e] at h2; have := HB.out.size; omega
              · rw [if_neg e] at h2; exact HGL.out r x (by omega) h2)
            have hX7 : g7 ≠ O := by intro e; have := HX7.out; rw [e, hcs] at this; simp at this
            have hX9 : g9 ≠ O := by intro e; have := HX9.out; rw [e, hcs] at this; simp at this
            have HM7 := Lib.hid (more_oth (n := k) (m := m) (v := .slice (some ⟨wr.heap.size, 0, none⟩) m m) (ob := .cells (madeCells #[.bool false] m) 4) HX7.out hX7)
            have HM9 := Lib.hid (more_oth (n := k) (m := m) (v := .slice (some ⟨wr.heap.size, 0, none⟩) m m) (ob := .cells (madeCells #[.bool false] m) 4) HX9.out hX9)
            have HMB : Hid (Below w.heap.size w ((wr.setCell ⟨O, k, none⟩ (.slice (some ⟨wr.heap.size, 0, none⟩) m m)).alloc (.cells (madeCells #[.bool false] m) 4))) := Lib.hid (Below.trans (Below.setCell HB.out hOB _) ((show Below (wr.setCell ⟨O, k, none⟩ (.slice (some ⟨wr.heap.size, 0, none⟩) m m)).heap.size _ _ by go_grown).mono (by rw [set_size]; exact HB.out.size)))
            have hOl := lt_of hcs
            clear hcs hcs2 hqv hm hrow
            go_wp2_with fail
            go_roundw
            case rel => exact ⟨k + 1, _, by go_num, by omega, HGM, HMR, HM7, HM9, HMB⟩
            case measure => simp [intOf]; omega
          · obtain rfl : k = n := by omega
            clear hmk
            obtain ⟨v0, v1⟩ := cel2 HX9.out
            obtain ⟨W2, hW2⟩ : ∃ W, wr.alloc (.cells #[.int .i64 (z1 : Int), .int .i64 (z2 : Int)] 71) = W := ⟨_, rfl⟩
            have hbW2 : Below wr.heap.size wr W2 := by rw [← hW2]; go_grown
            have HS2 := Lib.hid (HS.out.below hbW2)
            have HX2 := Lib.hid (kb HX7.out hbW2)
            have hl7 := lt_of HX7.out
            have HL2 : Hid (LE w W2 (some ⟨wr.heap.size, 0, none⟩) 1 1 [(z1, z2)] (fun j => j = g7)) := Lib.hid ⟨by rw [← hW2]; exact or_one (z1, z2) HB.out.size, tr3 HB.out hbW2, fun j hj => by simp [Value.ownBlock] at hj; omega⟩
            have HV2 : Hid (VI L (f1, f2) (z1, z2) (fun _ _ => false) [(z1, z2)]) := Lib.hid (VI.start HZin.out)
            have HM2 : Hid (2 * unsN L (fun _ _ => false) k + [(z1, z2)].length ≤ 20001) := Lib.hid (by
              have := unsN_le HL.out (fun _ _ => false) k (by rw [← HNL.out]; exact Nat.le_refl _)
              simp only [List.length_singleton]
              omega)
            clear HS HX7 HX9 HB hbW2
            go_wp2_with fail
            go_loopw [14] (fun l wr => ∃ (lf : List Pl) (a' : Option Addr) (m' c' : Nat) (s : Sn), l = .slice a' m' c' ∧ Hid (LE w wr a' m' c' lf (fun j => j = g7)) ∧ Hid (SE wr L O g k s) ∧ Hid (VI L (f1, f2) (z1, z2) s lf) ∧ Hid (2 * unsN L s k + lf.length ≤ 20001) ∧ Hid (wr.heap[g7]? = some (.cells #[.int .i64 (f1 : Int), .int .i64 (f2 : Int)] 71 (0, 0)))) (fun l wr => 2 * mu g wr k + slen l)
            case atStart => exact ⟨_, _, _, _, _, rfl, HL2, HS2, HV2, HM2, HX2⟩
            case round =>
              clear HL2 HS2 HV2 HM2 HX2 v0 v1
              obtain ⟨lf, la, lm, lc, s, rfl, HLE, HSE, HVI, HMM, HX7⟩ := hrel
              have hlm : lm = lf.length := (OR.rv recP HLE.out.o).len.1
              rcases List.eq_nil_or_concat lf with rfl | ⟨lf', p, rfl⟩
              · obtain rfl : lm = 0 := hlm
                have hF := Lib.hid (HF0.out (by rw [HYES.out]; exact HVI.out.empty) wr HLE.out.b)
                go_wp2_with fail
                all_goals first | exact hF.out | (go_ret; exact hF.out)
              · have hlm2 : lm = lf'.length + 1 := by rw [hlm]; simp
                clear hlm
                subst hlm2
                obtain ⟨p1, p2⟩ := p
                rw [List.concat_eq_append] at HLE HVI HMM
                obtain ⟨q, hq⟩ : ∃ q, lf'.length = q := ⟨_, rfl⟩
                obtain ⟨bl, rfl, hbl, u0, u1⟩ := OR.place HLE.out.o lf'.length (p1, p2) (by simp)
                have HPP := Lib.hid (HLE.out.pop)
                simp only [hq] at u0 u1 HPP ⊢
                have hlc := (OR.rv recP HLE.out.o).len.2
                unfold maxLen at hlc
                rw [hq] at hlc
                obtain ⟨hlc1, hlc2⟩ := hlc
                have hlc3 : (q : Int) ≤ (lc : Int) := by omega
                have hlc4 : ¬ lc = 0 := by omega
                have hlc5 : q ≤ lc := by omega
                have hqI : (0 : Int) < (q : Int) + 1 := by omega
                have hq2 : q ≤ 20001 := by
                  have := HMM.out
                  rw [List.length_append, hq] at this
                  simp only [List.length_singleton] at this
                  omega
                have hqw : IntKind.i64.wrap (q : Int) = (q : Int) := by rw [IntKind.wrap_i64]; omega
                have hqw2 : wrap64 (q : Int) = (q : Int) := by unfold wrap64; omega
                have hqJ : (q : Int) < (q : Int) + 1 := by omega
                obtain ⟨W3, hW3⟩ : ∃ W, wr.alloc (.cells #[.int .i64 (p1 : Int), .int .i64 (p2 : Int)] 71) = W := ⟨_, rfl⟩
                have hbW3 : Below wr.heap.size wr W3 := by rw [← hW3]; go_grown
                obtain ⟨g5, hg5⟩ : ∃ g, wr.heap.size = g := ⟨_, rfl⟩
                have hX3 : W3.heap[g5]? = some (.cells #[.int .i64 (p1 : Int), .int .i64 (p2 : Int)] 71 (0, 0)) := by rw [← hg5, ← hW3]; exact heap_new _ _
                obtain ⟨x0, x1⟩ := cel2 hX3
                have HX7b := Lib.hid (kb HX7.out hbW3)
                obtain ⟨y0, y1⟩ := cel2 HX7b.out
                have HP3 := Lib.hid (HPP.out.below hbW3)
                have HS3 := Lib.hid (HSE.out.below hbW3)
                have HMU : Hid (mu g wr k = unsN L s k) := Lib.hid (HSE.out.mu k (Nat.le_refl _))
                clear hX3 hbW3
                by_cases hpf : (p1, p2) = (f1, f2)
                · cases hpf
                  have hF := Lib.hid (HF1.out (by rw [HYES.out]; exact HVI.out.found (by simp)) W3 HP3.out.b)
                  have hpe := pl_eq (f1 : Int) (f2 : Int) (f1 : Int) (f2 : Int) true (by simp)
                  go_wp2_with fail
                  all_goals first | exact hF.out | (go_ret; exact hF.out)
                · have hpe := pl_eq (p1 : Int) (p2 : Int) (f1 : Int) (f2 : Int) false (by
                    by_cases h1 : p1 = f1 <;> by_cases h2 : p2 = f2 <;> simp_all <;> omega)
                  have HVJ := Lib.hid (HVI.out.pop)
                  have HPIN := Lib.hid (HVJ.out.v3 _ HVJ.out.v2)
                  have HA := Lib.hid (ahead_of (.slice ad k c) L (p1, p2) W3 (HR0.out.below HP3.out.b) HPIN.out HL.out)
                  go_wp2_with fail
                  refine HA.out.mono ?_
                  rintro e w6 ⟨fa, fm, fc, rfl, hf6, hb6⟩
                  have hfm : fm = (ahd L (p1, p2)).length := (OR.rv recP hf6).len.1
                  have hf2 := ahd_len L (p1, p2)
                  rw [← hfm] at hf2
                  have HFM := Lib.hid hfm
                  obtain ⟨AA, hAA⟩ : ∃ A : Nat → Prop, (fun j => j = g7 ∨ (Value.slice fa fm fc).ownBlock = some j) = A := ⟨_, rfl⟩
                  have HAA : Hid (∀ j, AA j ↔ j = g7 ∨ (Value.slice fa fm fc).ownBlock = some j) := Lib.hid (fun j => by rw [← hAA])
                  have HL6 : Hid (LE w w6 (some ⟨bl, 0, none⟩) q lc lf' AA) := Lib.hid ((HP3.out.below hb6).mono (fun j hj ha => by
                    rcases (HAA.out j).1 ha with rfl | h2
                    · rfl
                    · have := (hf6.lt j h2).1
                      simp [Value.ownBlock] at hj
                      have h4 : wr.heap.size ≤ W3.heap.size := by rw [← hW3]; simp
                      omega))
                  have HR6 : Hid (∃ B, OR 2 enP w6 B 71 (.slice fa fm fc) (ahd L (p1, p2))) := Lib.hid ⟨_, hf6⟩
                  have HS6 := Lib.hid (HS3.out.below hb6)
                  have HX6 := Lib.hid (kb HX7b.out hb6)
                  have HJ6 : Hid (VJ L (f1, f2) (z1, z2) (p1, p2) ((ahd L (p1, p2)).take 0) s lf') := HVJ
                  have HM6 : Hid (2 * unsN L s k + lf'.length ≤ 2 * unsN L s k + q) := Lib.hid (by rw [hq]; exact Nat.le_refl _)
                  have HQ := Lib.hid hq
                  clear hfm hAA hf6 hb6 HA HP3 HS3 HVJ HX7b x0 x1 y0 y1 u0 u1 HPP HLE HSE HVI HX7 hpe hq hlc1 hlc3 hlc4 hlc5 hqI hqw hqw2 hqJ
                  go_wp2_with fail
                  go_loopw [14, 84] (fun l i wr => ∃ (j : Nat) (lf : List Pl) (a' : Option Addr) (m' c' : Nat) (s' : Sn), i = .int .i64 (j : Int) ∧ l = .slice a' m' c' ∧ j ≤ fm ∧ Hid (LE w wr a' m' c' lf AA) ∧ Hid (∃ B, OR 2 enP wr B 71 (.slice fa fm fc) (ahd L (p1, p2))) ∧ Hid (SE wr L O g k s') ∧ Hid (VJ L (f1, f2) (z1, z2) (p1, p2) ((ahd L (p1, p2)).take j) s' lf) ∧ Hid (2 * unsN L s' k + lf.length ≤ 2 * unsN L s k + q) ∧ Hid (wr.heap[g7]? = some (.cells #[.int .i64 (f1 : Int), .int .i64 (f2 : Int)] 71 (0, 0)))) (fun l i _ => fm - (intOf i).toNat)
                  case atStart => exact ⟨0, lf', _, q, lc, s, rfl, rfl, by omega, HL6, HR6, HS6, HJ6, HM6, HX6⟩
                  case round =>
                    clear HL6 HR6 HS6 HJ6 HM6 HX6
                    obtain ⟨j, lg, ga, gm, gc, s', rfl, rfl, hj, HL7, HR7, HS7, HJ7, HM7, HX7⟩ := hrel
                    by_cases hjf : j < fm
                    · have hjI : (j : Int) < (fm : Int) := by omega
                      obtain ⟨⟨r1, r2⟩, hr⟩ : ∃ q, (ahd L (p1, p2))[j]? = some q := ⟨_, List.getElem?_eq_getElem (by rw [← HFM.out]; exact hjf)⟩
                      have hrm := List.mem_of_getElem? hr
                      have HRin := Lib.hid (ahd_in HL.out (HJ7.out.v3 _ HJ7.out.v2) hrm)
                      have htk : (ahd L (p1, p2)).take (j + 1) = (ahd L (p1, p2)).take j ++ [(r1, r2)] := by rw [List.take_add_one, hr]; rfl
                      obtain ⟨BF, hR7⟩ := HR7.out
                      obtain ⟨bf, rfl, hbf, v0, v1⟩ := OR.place hR7 j (r1, r2) hr
                      obtain ⟨W5, hW5⟩ : ∃ W, wr.alloc (.cells #[.int .i64 (r1 : Int), .int .i64 (r2 : Int)] 71) = W := ⟨_, rfl⟩
                      have hbW5 : Below wr.heap.size wr W5 := by rw [← hW5]; go_grown
                      obtain ⟨g8, hg8⟩ : ∃ g, wr.heap.size = g := ⟨_, rfl⟩
                      have hX5 : W5.heap[g8]? = some (.cells #[.int .i64 (r1 : Int), .int .i64 (r2 : Int)] 71 (0, 0)) := by rw [← hg8, ← hW5]; exact heap_new _ _
                      obtain ⟨x0, x1⟩ := cel2 hX5
                      have hr1 : r1 < L.length := HRin.out.1
                      have hr2 : r2 < (L.getD r1 []).length := HRin.out.2
                      rw [← HNL.out] at hr1
                      obtain ⟨t0, t1, t2⟩ := (HS7.out.below hbW5).at (q := (r1, r2)) hr1 hr2
                      have hrm100 := (HL.out.r r1 (by rw [← HNL.out]; exact hr1)).m
                      obtain ⟨mr, hmr⟩ : ∃ m, (L.getD r1 []).length = m := ⟨_, rfl⟩
                      obtain ⟨gr1, hgr1⟩ : ∃ x, g r1 = x := ⟨_, rfl⟩
                      simp only [hmr, hgr1] at t0 t1 t2 hr2 hrm100
                      have hr1I : (r1 : Int) < (k : Int) := by omega
                      have hr2I : (r2 : Int) < (mr : Int) := by omega
                      have HTK := Lib.hid htk
                      have HRM := Lib.hid hrm
                      have HX8 := Lib.hid hX5
                      have HL8 := Lib.hid (HL7.out.below hbW5)
                      have HS8 := Lib.hid (HS7.out.below hbW5)
                      have HR8 : Hid (∃ B, OR 2 enP W5 B 71 (.slice (some ⟨bf, 0, none⟩) fm fc) (ahd L (p1, p2))) := Lib.hid ⟨BF, OR.below hR7 hbW5⟩
                      have HX78 := Lib.hid (kb HX7.out hbW5)
                      have HB58 := Lib.hid hbW5
                      obtain ⟨vs, hvs⟩ : ∃ v, s' r1 r2 = v := ⟨_, rfl⟩
                      rw [hvs] at t1
                      clear htk hrm hX5 hbW5 hR7 hr HL7 HR7 HS7 HX7
                      cases vs with
                      | true =>
                        have HJ8 := Lib.hid (HJ7.out.seen (q := (r1, r2)) hvs)
                        rw [← HTK.out] at HJ8
                        go_wp2_with fail
                        go_quiet (fail)
                        go_wp2_with fail
                        go_roundw
                        case rel => exact ⟨j + 1, lg, ga, gm, gc, s', by go_num, rfl, by omega, Lib.hid (HL8.out.below (fbd _ _)), Lib.hid (by obtain ⟨B, h⟩ := HR8.out; exact ⟨B, OR.below h (fbd _ _)⟩), Lib.hid (HS8.out.below (fbd _ _)), HJ8, HM7, Lib.hid (kb HX78.out (fbd _ _))⟩
                        case measure => simp [intOf]; omega
                      | false =>
                        have HVS := Lib.hid hvs
                        go_wp2_with fail
                        go_quiet (fail)
                        obtain ⟨W9, hW9⟩ : ∃ W9, W5.drewN nq = W9 := ⟨_, rfl⟩
                        have hb9 : Below W5.heap.size W5 W9 := by rw [← hW9]; exact fbd _ _
                        rw [hW9]
                        have HX9' := Lib.hid (kb HX8.out hb9)
                        obtain ⟨x0', x1'⟩ := cel2 HX9'.out
                        have HS9 := Lib.hid (HS8.out.below hb9)
                        obtain ⟨t0', t1', t2'⟩ := HS9.out.at (q := (r1, r2)) hr1 HRin.out.2
                        simp only [hgr1, hmr] at t0' t1' t2'
                        have HL9 := Lib.hid (HL8.out.below hb9)
                        have HX79 := Lib.hid (kb HX78.out hb9)
                        clear x0 x1 t0 t1 t2
                        go_wp2_with fail
                        go_region
                        obtain ⟨WS, hWS⟩ : ∃ W, W9.setCell ⟨gr1, r2, none⟩ (.bool true) = W := ⟨_, rfl⟩
                        have hgB : W9.heap[gr1]? = some (.cells (rowC s' r1 (L.getD r1 []).length) 4 (0, 0)) := by rw [← hgr1]; exact HS9.out.r r1 hr1
                        have hSE : SE WS L O g k (s'.put (r1, r2)) := by
                          have := HS9.out.put (q := (r1, r2)) hr1 HRin.out.2
                          simp only [hgr1] at this
                          rw [hWS] at this
                          exact this
                        have hothS : ∀ (j : Nat) (o : Array Value), W9.heap[j]? = some (.cells o 71 (0, 0)) → WS.heap[j]? = some (.cells o 71 (0, 0)) := fun j o hj => by
                          rw [← hWS, set_oth W9 gr1 r2 j _ (by rintro rfl; rw [hgB] at hj; simp at hj)]
                          exact hj
                        have hgrlo : w.heap.size ≤ gr1 := HGL.out r1 gr1 hr1 hgr1
                        have hLES : LE w WS ga gm gc lg AA := by rw [← hWS]; exact HL9.out.set hgrlo hgB (by decide)
                        have hRS : ∃ B, OR 2 enP WS B 71 (.slice (some ⟨bf, 0, none⟩) fm fc) (ahd L (p1, p2)) := by
                          obtain ⟨B, h⟩ := HR8.out
                          refine ⟨B, OR.blk (OR.below h hb9) (fun q hq => ?_)⟩
                          rw [← hWS]
                          refine set_oth W9 gr1 r2 q _ ?_
                          rintro rfl
                          obtain ⟨_, ⟨e1, _⟩ | ⟨g2, cap2, cur2, e1, _, hh2, _⟩⟩ := OR.below h hb9
                          · cases e1
                          · rw [e1] at hq
                            simp [Value.ownBlock] at hq
                            subst hq
                            rw [hgB] at hh2
                            simp at hh2
                        rw [hWS]
                        obtain ⟨WA, hWA⟩ : ∃ W, WS.drew = W := ⟨_, rfl⟩
                        have hbA : Below WS.heap.size WS WA := by rw [← hWA]; go_grown
                        rw [hWA]
                        obtain ⟨y0, y1⟩ := cel2 (kb (hothS _ _ HX9'.out) hbA)
                        obtain ⟨WB, hWB⟩ : ∃ W, WA.alloc (.cells #[.int .i64 (r1 : Int), .int .i64 (r2 : Int)] 71) = W := ⟨_, rfl⟩
                        have hbB : Below WA.heap.size WA WB := by rw [← hWB]; go_grown
                        have hbSB := tr3 hbA hbB
                        have HSEB := Lib.hid (hSE.below hbSB)
                        have HLEB := Lib.hid (hLES.below hbSB)
                        have HRB : Hid (∃ B, OR 2 enP WB B 71 (.slice (some ⟨bf, 0, none⟩) fm fc) (ahd L (p1, p2))) := Lib.hid (by obtain ⟨B, h⟩ := hRS; exact ⟨B, OR.below h hbSB⟩)
                        have HX7B := Lib.hid (kb (hothS _ _ HX79.out) hbSB)
                        have HNB : Hid (∀ j u, (enP (r1, r2))[j]? = some u → WB.cell? ((⟨WA.heap.size, 0, none⟩ : Addr).add j) = some u) := Lib.hid (by rw [← hWB]; exact rec_new rfl rfl)
                        have hlg : lg.length ≤ 1000000 := by
                          have h1 := HM7.out
                          have h2 := HMM.out
                          rw [List.length_append, HQ.out] at h2
                          simp only [List.length_singleton] at h2
                          omega
                        have hUN := unsN_put L s' (r1, r2) HVS.out HRin.out.2 k hr1
                        have HM8 : Hid (2 * unsN L (s'.put (r1, r2)) k + (lg ++ [(r1, r2)]).length ≤ 2 * unsN L s k + q) := Lib.hid (by
                          have h1 := HM7.out
                          rw [List.length_append]
                          simp only [List.length_singleton]
                          omega)
                        have HJ8 := Lib.hid (HJ7.out.put HL.out HRM.out)
                        rw [← HTK.out] at HJ8
                        have hwB : w.heap.size ≤ WB.heap.size := HLEB.out.b.size
                        clear hgB hSE hothS hLES hRS hbA hbB hbSB hUN HX9' HL9 HS9 HX79 t0' t1' t2' x0' x1' HL8 HS8 HR8 HX78 HX8 v0 v1
                        go_wp2_with ((at_builtin; refine wpList_appR rfl _ _ 72 71 _ 16 rfl Try.underlying72 infoPl rfl (by decide) recP w.heap.size (.slice ga gm gc) lg rfl ⟨WA.heap.size, 0, none⟩ 1 rfl (r1, r2) HLEB.out.o HNB.out hlg hwB ?_))
                        intro v' w2 ho2 hg2 hor2
                        obtain ⟨va, vc, rfl⟩ := OR.form ho2
                        obtain ⟨vm, hvm⟩ : ∃ m, (lg ++ [(r1, r2)]).length = m := ⟨_, rfl⟩
                        rw [hvm] at ho2 hor2 ⊢
                        have HLE2 := Lib.hid (HLEB.out.more (fun j hj => by
                          rcases (HAA.out j).1 hj with rfl | h2
                          · exact lt_of HX7B.out
                          · obtain ⟨B, h⟩ := HRB.out
                            exact (h.lt j h2).2) ho2 hg2 hor2)
                        have HX72 := Lib.hid (HLEB.out.oth hg2 HX7B.out ((HAA.out g7).2 (.inl rfl)))
                        have HS2 := Lib.hid (HSEB.out.grown HLEB.out.o hg2)
                        have HR2 : Hid (∃ B, OR 2 enP w2 B 71 (.slice (some ⟨bf, 0, none⟩) fm fc) (ahd L (p1, p2))) := Lib.hid (by
                          obtain ⟨B, h⟩ := HRB.out
                          refine ⟨B, OR.blk h (fun q hq => ?_)⟩
                          exact hg2.block q (h.lt q hq).2 (fun e => HLEB.out.d q e.symm ((HAA.out q).2 (.inr hq))))
                        clear ho2 hg2 hor2 hvm
                        go_wp2_with fail
                        go_roundw
                        case rel => exact ⟨j + 1, _, va, vm, vc, _, by go_num, rfl, by omega, HLE2, HR2, HS2, HJ8, HM8, HX72⟩
                        case measure => simp [intOf]; omega
                    · obtain rfl : j = fm := by omega
                      have hjl := HJ7.out
                      rw [List.take_of_length_le (by rw [← HFM.out]; exact Nat.le_refl _)] at hjl
                      have HV8 := Lib.hid (hjl.done hpf)
                      have HL8 := Lib.hid (HL7.out.mono (A' := fun j => j = g7) (fun j _ h => (HAA.out j).2 (.inl h)))
                      have HM8 : Hid (2 * unsN L s' k + lg.length ≤ 20001) := Lib.hid (by
                        have h1 := HM7.out
                        have h2 := HMM.out
                        rw [List.length_append, HQ.out] at h2
                        simp only [List.length_singleton] at h2
                        omega)
                      have hm9 := HS7.out.mu k (Nat.le_refl _)
                      have hgm : gm = lg.length := (OR.rv recP HL7.out.o).len.1
                      have HMF : Hid (2 * mu g wr k + gm < 2 * unsN L s k + (q + 1)) := Lib.hid (by
                        have h1 := HM7.out
                        rw [hm9, hgm]
                        omega)
                      clear hjl hm9 hgm
                      go_wp2_with fail
                      go_roundw
                      case rel => exact ⟨_, _, _, _, _, rfl, HL8, HS7, HV8, HM8, HX7⟩
                      case measure =>
                        have h1 := HMF.out
                        have h2 := HMU.out
                        show 2 * mu g _ k + gm < 2 * mu g _ k + (q + 1)
                        rw [h2]
                        exact h1
  · have hF := Lib.hid (HF0.out (fun hb => hr0 (by rw [← hr]; exact hb.1)))
    have h0' : (r != 0) = true := by simpa using hr0
    have h0'' : (r == 0) = false := by simpa using hr0
    clear h hr hnl
    unfold cx
    go_enter Try.func21, Try.ntmps21
    go_wp2_with fail
    refine HC.out.mono ?_
    rintro e w5 ⟨rfl, hb5⟩
    have HB5 := Lib.hid hb5
    clear hb5
    go_wp2_with fail
    all_goals first | exact hF.out _ HB5.out | (go_ret; exact hF.out _ HB5.out)
end Go.Proofs.Ytagcgffofddcnaa.gr
