/- AuditLooks, the walk (layer 37). -/
import Derived.Test.YtpflimnngilhnaaAuF
import Derived.Test.YtpflimnngilhnaaGrids
namespace Go.Proofs.Ytpflimnngilhnaa.auditLooks
open Go.ChangeShapes Go.WideShapes Go.ChangeAt Go.RowKit
open Go.Proofs.Ytpflimnngilhnaa.rh Go.Proofs.Ytpflimnngilhnaa.au
set_option linter.unusedVariables false
set_option linter.unusedSimpArgs false
set_option maxRecDepth 20000 in
set_option maxHeartbeats 8000000 in
theorem walk (a0 : Option Addr) (len0 cap0 : Nat) (z0 : Nat → Nat → Int) (a1 : Option Addr) (len1 cap1 : Nat) (z1 : List (List Int)) (a2 : Option Addr) (len2 cap2 : Nat) (z2 : List Int) (w : World) (w0 : IsGrid [.i64, .i64] w a0 len0 cap0 z0) (w1 : IsMat w a1 len1 cap1 z1) (w2 : IsRow .i64 w a2 len2 cap2 z2) :
    Calls Try.prog 3 #[.slice a0 len0 cap0, .slice a1 len1 cap1, .slice a2 len2 cap2] w fun e w' => e = .returned (.bool true) ∧ Below w.heap.size w w' := by
  have HZ : Hid (∀ i, i < len0 → ∃ b off, a0 = some ⟨b, off, none⟩ ∧ b < w.heap.size ∧ w.cell? ⟨b, off + i * 2, none⟩ = some (.int .i64 (z0 i 0)) ∧ w.cell? ⟨b, off + i * 2 + 1, none⟩ = some (.int .i64 (z0 i 1))) := Lib.hid fun i hi => by
    rcases w0.split (by simp) with h | ⟨b, off, rfl, hb, hle, hm, hc⟩
    · omega
    · exact ⟨b, off, rfl, hb, (hc i (by omega) 0 _ rfl).1, (hc i (by omega) 1 _ rfl).1⟩
  have HM := Lib.hid w1.1
  have HML := Lib.hid w1.1.len.1
  have HKV : Hid (∃ ks : List Int, ks.length = len2 ∧ View w (.slice a2 len2 cap2) ks) := Lib.hid ⟨_, (view_of_row w2).len.1.symm, view_of_row w2⟩
  clear w0 w1 w2
  obtain ⟨ks, hkl, hkv⟩ := HKV.out
  have HK := Lib.hid hkv
  have HKL := Lib.hid hkl
  clear HKV hkv hkl
  have CW := Lib.hid (works37 w)
  by_cases hg : 100 < len0 ∨ 100 < len1 ∨ 500 < len2
  · have key : ∀ g1 g2 g3 : Bool, decide ((100 : Int) < (len0 : Int)) = g1 → decide ((100 : Int) < (len1 : Int)) = g2 → decide ((500 : Int) < (len2 : Int)) = g3 → (g1 || g2 || g3) = true → Calls Try.prog 3 #[.slice a0 len0 cap0, .slice a1 len1 cap1, .slice a2 len2 cap2] w fun e w' => e = .returned (.bool true) ∧ Below w.heap.size w w' := by
      intro g1 g2 g3 h1 h2 h3 h
      cases g1 <;> cases g2 <;> cases g3 <;> simp at h
      all_goals
        simp only [decide_eq_true_eq, decide_eq_false_iff_not] at h1 h2 h3
        go_enter Try.func3, Try.ntmps3
        go_wp2_with (first | (go_at_call 7; (with_reducible refine CW.out.mono ?_); rintro e w1 ⟨rfl, HB1⟩))
        go_ret
        exact ⟨rfl, HB1⟩
    exact key _ _ _ rfl rfl rfl (by simp only [Bool.or_eq_true, decide_eq_true_eq]; omega)
  · have g1 : ¬ (100 : Int) < (len0 : Int) := by omega
    have g2 : ¬ (100 : Int) < (len1 : Int) := by omega
    have g3 : ¬ (500 : Int) < (len2 : Int) := by omega
    have hn0 : len0 ≤ 100 := by omega
    have hn1 : len1 ≤ 100 := by omega
    have hn2 : len2 ≤ 500 := by omega
    clear hg
    go_enter Try.func3, Try.ntmps3
    go_wp2_with (first | (go_at_call 7; (with_reducible refine CW.out.mono ?_); rintro e w1 ⟨rfl, HB1⟩))
    have hS : Hid (Sd w w1 (.slice none 0 0) (.slice none 0 0) (prV z0 0) (prV z0 0)) := Lib.hid ⟨OR.nil _ _ _, OR.nil _ _ _, HB1⟩
    clear HB1 CW g1 g2 g3
    go_loopw [7, 8, 10, 12] (fun l m n i wr => ∃ (k x : Nat), k ≤ len0 ∧ i = .int .i64 (k : Int) ∧ n = .int .i64 (x : Int) ∧ x ≤ k ∧ Hid (idN (prV z0 len0) k = x) ∧ Hid (Sd w wr l m (prV z0 k) (prV z0 k))) (fun _ _ _ i _ => len0 - (intOf i).toNat)
    case atStart => exact ⟨0, 0, by omega, rfl, rfl, by omega, Lib.hid rfl, hS⟩
    case round =>
      clear hS
      obtain ⟨k, x, hk, rfl, rfl, hxk, HX, HS⟩ := hrel
      by_cases hlt : k < len0
      · obtain ⟨b, off, rfl, hbl, z0', z1'⟩ := HZ.out k hlt
        have HPK := Lib.hid (prV_succ z0 k)
        have HID : Hid (idN (prV z0 len0) (k + 1) = x + if z0 k 0 = 0 ∨ z0 k 0 = 1 then 1 else 0) := Lib.hid (by rw [idN, HX.out, prV_at _ _ _ hlt])
        obtain ⟨s, hs⟩ : ∃ s, z0 k 0 = s := ⟨_, rfl⟩
        obtain ⟨id, hid⟩ : ∃ id, z0 k 1 = id := ⟨_, rfl⟩
        rw [hs] at z0' HPK HID
        rw [hid] at z1' HPK
        have HPL := Lib.hid (prV_len z0 k)
        obtain ⟨xs, hxs⟩ : ∃ xs, prV z0 k = xs := ⟨_, rfl⟩
        rw [hxs] at HPK HPL HS
        clear hs hid hxs
        obtain ⟨la, lc, rfl⟩ := HS.out.o1.form
        obtain ⟨ma, mc, rfl⟩ := HS.out.o2.form
        have HK0 : Hid (∀ w', Below w.heap.size w w' → Below w.heap.size w w' ∧ w'.cell? ⟨b, off + k * 2, none⟩ = some (.int .i64 s) ∧ w'.cell? ⟨b, off + k * 2 + 1, none⟩ = some (.int .i64 id)) := Lib.hid fun w' hb => ⟨hb, (hb.cell (p := ⟨b, off + k * 2, none⟩) hbl).trans z0', (hb.cell (p := ⟨b, off + k * 2 + 1, none⟩) hbl).trans z1'⟩
        clear z0' z1' HX
        go_wp2_with fail
        go_region_held3 (fun w' => Below w.heap.size w w' ∧ w'.cell? ⟨b, off + k * 2, none⟩ = some (.int .i64 s) ∧ w'.cell? ⟨b, off + k * 2 + 1, none⟩ = some (.int .i64 id)) (first | (with_reducible assumption) | exact HK0.out _ HS.out.b | exact HK0.out _ hS2.b | exact HK0.out _ (HS.out.go (by go_grown)).b)
          ((refine step_appR rfl _ _ 26 30 _ 32 (by rfl) Try.underlying26 infoV rfl (by decide) recV w.heap.size (.slice la xs.length lc) xs (s, id) ?hs wr.heap.size 1 ?hx ?hown ?hu ?hsm ?hB ?_; (case hs => rfl); (case hx => rfl); (case hown => exact Lib.hid (HS.out.go (by go_grown)).o1); (case hu => exact rec_new (by go_simp) rfl); (case hsm => rw [HPL.out]; omega); (case hB => exact (HS.out.go (by go_grown)).b.size); intro v' w2 ho2 hg2; have hS2 := (HS.out.go (by go_grown)).app1 ho2 hg2))
        have HS2 := Lib.hid hS2
        have HPL2 : Hid ((xs ++ [(s, id)]).length = k + 1) := Lib.hid (by rw [List.length_append, HPL.out]; rfl)
        clear hS2 ho2 hg2 HS
        obtain ⟨la2, lc2, rfl⟩ := HS2.out.o1.form
        go_wp2_with fail
        go_region_held3 (fun w' => Below w.heap.size w w' ∧ w'.cell? ⟨b, off + k * 2, none⟩ = some (.int .i64 s) ∧ w'.cell? ⟨b, off + k * 2 + 1, none⟩ = some (.int .i64 id)) (first | (with_reducible assumption) | exact HK0.out _ HS2.out.b | exact HK0.out _ hS3.b | exact HK0.out _ (HS2.out.go (by go_grown)).b)
          ((refine step_appR rfl _ _ 27 32 _ 16 (by rfl) Try.underlying27 infoW rfl (by decide) recR w.heap.size (.slice ma xs.length mc) xs (s, id) ?hs w2.heap.size 1 ?hx ?hown ?hu ?hsm ?hB ?_; (case hs => rfl); (case hx => rfl); (case hown => exact Lib.hid (HS2.out.go (by go_grown)).o2); (case hu => exact rec_new (by go_simp) rfl); (case hsm => rw [HPL.out]; omega); (case hB => exact (HS2.out.go (by go_grown)).b.size); intro v3 w3 ho3 hg3; have hS3 := (HS2.out.go (by go_grown)).app2 ho3 hg3))
        have HS3 : Hid (Sd w w3 (.slice la2 (xs.length + 1) lc2) v3 (prV z0 (k + 1)) (prV z0 (k + 1))) := Lib.hid (by rw [HPK.out]; simpa only [List.length_append, List.length_singleton] using hS3)
        have hc3 := HK0.out _ HS3.out.b
        have hq0 := hc3.2.1
        have hq1 := hc3.2.2
        have hbl3 : b < w3.heap.size := Nat.lt_of_lt_of_le hbl HS3.out.b.size
        clear hS3 ho3 hg3 HS2 hc3
        by_cases h0 : s = 0
        · subst h0
          have HN1 : Hid (idN (prV z0 len0) (k + 1) = x + 1) := Lib.hid (by rw [HID.out, if_pos (.inl rfl)])
          go_wp2_with fail
          go_roundw
          case rel => exact ⟨k + 1, x + 1, by omega, by go_num, by go_num, by omega, HN1, HS3⟩
          case measure => simp [intOf]; omega
        · have h0b : (s == 0) = false := by simpa using h0
          by_cases h1 : s = 1
          · subst h1
            have HN1 : Hid (idN (prV z0 len0) (k + 1) = x + 1) := Lib.hid (by rw [HID.out, if_pos (.inr rfl)])
            go_wp2_with fail
            go_roundw
            case rel => exact ⟨k + 1, x + 1, by omega, by go_num, by go_num, by omega, HN1, HS3⟩
            case measure => simp [intOf]; omega
          · have h1b : (s == 1) = false := by simpa using h1
            have HN1 : Hid (idN (prV z0 len0) (k + 1) = x) := Lib.hid (by rw [HID.out, if_neg (by omega)]; rfl)
            go_wp2_with fail
            go_roundw
            case rel => exact ⟨k + 1, x, by omega, by go_num, rfl, by omega, HN1, HS3⟩
            case measure => simp [intOf]; omega
      · obtain rfl : k = len0 := by omega
        have HPL := Lib.hid (prV_len z0 k)
        obtain ⟨vs, hvs⟩ : ∃ vs, prV z0 k = vs := ⟨_, rfl⟩
        rw [hvs] at HX HS HPL
        clear hvs HZ
        obtain ⟨la, lc, rfl⟩ := HS.out.o1.form
        obtain ⟨ma, mc, rfl⟩ := HS.out.o2.form
        have HV1 := Lib.hid (OR.rv recV HS.out.o1)
        have HV2 := Lib.hid (OR.rv recR HS.out.o2)
        rw [HPL.out] at HV1 HV2
        have HBw := Lib.hid HS.out.b
        have HM1 := Lib.hid (HM.out.below HBw.out)
        have HK1 := Lib.hid (HK.out.below HBw.out)
        obtain ⟨wq, rfl⟩ : ∃ q, q = wr := ⟨_, rfl⟩
        have h0 : Hid (OM wq wq.heap.size (.slice none 0 0) [] (z1.take 0)) := Lib.hid (OM.nil wq _)
        clear HM HK HS
        go_wp2_with fail
        go_loopw [9, 11, 13] (fun v n i wi => ∃ (j y : Nat) (rows : List Value), j ≤ len1 ∧ i = .int .i64 (j : Int) ∧ n = .int .i64 (y : Int) ∧ y ≤ 100 * j ∧ Hid (wtN z1 j = y) ∧ Hid (∀ i, i < j → (z1.getD i []).length ≤ 100) ∧ Hid (OM wi wq.heap.size v rows (z1.take j)) ∧ Hid (Below wq.heap.size wq wi)) (fun _ _ i _ => len1 - (intOf i).toNat)
        case atStart => exact ⟨0, 0, [], by omega, rfl, rfl, by omega, Lib.hid rfl, Lib.hid (fun i hi => by omega), h0, Lib.hid (Below.refl _ _)⟩
        case round =>
          clear h0
          obtain ⟨j, y, rows, hj, rfl, rfl, hyj, HY, HRW, HO, HB⟩ := hrel
          by_cases hjl : j < len1
          · obtain ⟨b, o, ai, ci, rfl, hbl, hc, hv⟩ := (HM1.out.below HB.out).row j hjl
            have hsz := HB.out.size
            have hWN : Hid (wtN z1 (j + 1) = y + (z1.getD j []).length) := Lib.hid (by rw [wtN, HY.out])
            have hTS := Lib.hid (take_snocL z1 j (by rw [← HML.out]; exact hjl))
            have hTL : Hid ((z1.take j).length = j) := Lib.hid (by rw [List.length_take, ← HML.out]; omega)
            have hR1 : Hid ((z1.getD j []).length ≤ 100 → ∀ i, i < j + 1 → (z1.getD i []).length ≤ 100) := Lib.hid (fun h i hi => by
              by_cases e : i = j
              · rw [e]; exact h
              · exact HRW.out i (by omega))
            obtain ⟨xs, hxs⟩ : ∃ xs, z1.getD j [] = xs := ⟨_, rfl⟩
            rw [hxs] at hc hv hTS hWN hR1
            clear hxs
            obtain ⟨m, hm⟩ : ∃ m, xs.length = m := ⟨_, rfl⟩
            by_cases hml : 100 < m
            · have hmI : (100 : Int) < (m : Int) := by omega
              rw [hm] at hc
              clear hv
              go_wp2_with fail
              go_ret
              exact ⟨rfl, trans3 HBw.out HB.out⟩
            · have hmI : ¬ (100 : Int) < (m : Int) := by omega
              have hV0 := Lib.hid (hv.below (w' := wr.alloc (.cells #[] 3)) ((Below.refl _ _).alloc (Nat.le_refl _) _))
              have HR2 := Lib.hid (hR1.out (by omega))
              rw [hm] at hc hV0 hWN
              have HMM := Lib.hid hm
              clear hv hm hR1
              go_wp2_with ((at_builtin; refine wpList_copy_row rfl _ _ rfl wr.heap.size wr.heap.size rfl (heap_alloc_new _ _) (Nat.le_refl _) xs hV0.out (by rw [HMM.out]; omega) ?_))
              intro v1 W2 hr1 hb1
              have hb2 : Below wr.heap.size wr W2 := ((Below.refl _ _).alloc (Nat.le_refl _) _).trans hb1
              have hO1 : OI W2 wq.heap.size v1 xs := OI.base (B := wr.heap.size) hr1 hsz
              have hs2 := hb2.size
              obtain ⟨av, cv, rfl, _⟩ := OI.form hO1
              have hn2 : Below W2.heap.size W2 (W2.alloc (.cells #[.slice av xs.length cv] 24)) := (Below.refl _ _).alloc (Nat.le_refl _) _
              have HOI := Lib.hid (hO1.below hn2)
              have HOM := Lib.hid ((HO.out.below hb2).below hn2)
              have hz2 : wq.heap.size ≤ (W2.alloc (.cells #[.slice av xs.length cv] 24)).heap.size := by simp; omega
              have HBW : Hid (Below wq.heap.size wq (W2.alloc (.cells #[.slice av xs.length cv] 24))) := Lib.hid ((HB.out.trans (hb2.mono hsz)).trans (hn2.mono (by omega)))
              clear hr1 hb1 hb2 hO1 hn2 hV0 hc
              go_wp2_with ((at_builtin; refine wpList_app41 rfl _ _ rfl wq.heap.size _ rows (z1.take j) rfl ⟨W2.heap.size, 0, none⟩ 1 rfl (.slice av xs.length cv) xs HOM.out (by go_simp) HOI.out rfl (by rw [hTL.out]; omega) hz2 ?_))
              intro v2 W3 hr2 hg2 ho2
              rw [← hTS.out] at hr2
              have hO3 := Lib.hid hr2
              have hB3 : Hid (Below wq.heap.size wq W3) := Lib.hid (HBW.out.grown hg2 hz2 (fun q e => (own_lt41 HOM.out.1 q e).1))
              obtain ⟨b9, o9, a9, c9, e9, hbl9, hc9, _⟩ := (HM1.out.below hB3.out).row j hjl
              have hq9 : W3.cell? ⟨b, o + j, none⟩ = some (.slice a9 m c9) := by
                cases e9
                have h1 := congrArg List.length hTS.out
                have h2 : (z1.getD j []).length = m := by
                  have h3 := take_snocL z1 j (by rw [← HML.out]; exact hjl)
                  rw [hTS.out] at h3
                  have h4 := List.append_cancel_left h3
                  rw [← List.singleton_inj.1 h4]
                  exact HMM.out
                rw [h2] at hc9
                exact hc9
              have hbl3 : b < W3.heap.size := by cases e9; exact hbl9
              clear hr2 hg2 ho2 HOI HOM HBW HO HB hTS hc9 e9
              go_wp2_with fail
              go_roundw
              case rel => exact ⟨j + 1, y + m, _, by omega, by go_num, by go_num, by omega, hWN, HR2, hO3, hB3⟩
              case measure => simp [intOf]; omega
          · obtain rfl : j = len1 := by omega
            have hmv := HO.out.mv
            rw [List.take_of_length_le (by rw [HML.out]; omega)] at hmv
            obtain ⟨oa, oc, rfl, _⟩ := hmv.form
            rw [← HML.out] at hmv ⊢
            have HMV := Lib.hid hmv
            have HB1 := Lib.hid HB.out
            have HV1' := Lib.hid (HV1.out.below HB.out)
            have HV2' := Lib.hid (HV2.out.below HB.out)
            have HM2 := Lib.hid (HM1.out.below HB.out)
            have HK2 := Lib.hid (HK1.out.below HB.out)
            have HRWA : Hid (∀ i, (z1.getD i []).length ≤ 100) := Lib.hid fun i => by
              by_cases h : i < j
              · exact HRW.out i h
              · rw [List.getD_eq_getElem?_getD, List.getElem?_eq_none (by rw [← HML.out]; omega)]; simp
            clear hmv HO HB HV1 HV2 HM1 HK1 HRW
            rw [HPL.out]
            go_wp2_with ((at_builtin; refine wpList_copy_row rfl _ _ rfl wr.heap.size wr.heap.size rfl (heap_alloc_new _ _) (Nat.le_refl _) ks (HK2.out.below ((Below.refl _ _).alloc (Nat.le_refl _) _)) (by rw [HKL.out]; omega) ?_))
            intro v3 w3 hr3 hb3
            have hb3' : Below wr.heap.size wr w3 := ((Below.refl _ _).alloc (Nat.le_refl _) _).trans hb3
            have hkv3 := view_of_own hr3
            obtain ⟨ka, kc, rfl, _⟩ := OI.form hr3
            rw [HKL.out] at hkv3 ⊢
            have HKV3 := Lib.hid hkv3
            obtain ⟨r, hrr⟩ : ∃ r, lkE ks vs z1 = r := ⟨_, rfl⟩
            have C1 := Lib.hid (look_of la oa ka k lc j oc len2 kc vs z1 ks r w3 (HV1'.out.below hb3') (HMV.out.below hb3') hkv3 (by omega) hrr)
            have HV14 := Lib.hid (HV1'.out.below hb3')
            have HV24 := Lib.hid (HV2'.out.below hb3')
            have HM4 := Lib.hid (HM2.out.below hb3')
            have HK4 := Lib.hid (HK2.out.below hb3')
            have HMV4 := Lib.hid (HMV.out.below hb3')
            have HBB := Lib.hid (trans3 (trans3 HBw.out HB1.out) hb3')
            have HRR := Lib.hid hrr
            have HXX : Hid (idN vs k = x) := HX
            have HYY : Hid (wtN z1 j = y) := HY
            clear hr3 hb3 hb3' hkv3 hrr HKV3 HV1' HV2' HM2 HK2 HMV HB1 HBw HX HY
            go_wp2_with (first | (go_at_call 8; (with_reducible refine C1.out.mono ?_); rintro e w4 ⟨rfl, hb4⟩))
            have C2 := Lib.hid (rlook_of ma a1 a2 k mc j cap1 len2 cap2 vs z1 ks r w4 (HV24.out.below hb4) (HM4.out.below hb4) (HK4.out.below hb4) hn0 hn1 HRWA.out HRR.out)
            have HV15 := Lib.hid (HV14.out.below hb4)
            have HMV5 := Lib.hid (HMV4.out.below hb4)
            have HBB5 := Lib.hid (trans3 HBB.out hb4)
            clear hb4 C1 HV14 HV24 HM4 HK4 HMV4 HBB
            go_wp2_with (first | (go_at_call 9; (with_reducible refine C2.out.mono ?_); rintro e w5 ⟨rfl, hb5⟩))
            have C3 := Lib.hid (idle_of la k lc vs x w5 (HV15.out.below hb5) HXX.out)
            have HMV6 := Lib.hid (HMV5.out.below hb5)
            have HBB6 := Lib.hid (trans3 HBB5.out hb5)
            clear hb5 C2 HV15 HMV5 HBB5
            go_wp2_with (first | (go_at_call 10; (with_reducible refine C3.out.mono ?_); rintro e w6 ⟨rfl, hb6⟩))
            have C4 := Lib.hid (waiting_of oa j oc z1 y w6 (HMV6.out.below hb6) (by omega) (fun i => by have := HRWA.out i; omega) HYY.out)
            have HBB7 := Lib.hid (trans3 HBB6.out hb6)
            clear hb6 C3 HMV6 HBB6
            go_wp2_with (first | (go_at_call 11; (with_reducible refine C4.out.mono ?_); rintro e w7 ⟨rfl, rfl⟩))
            go_ret
            exact ⟨by simp, HBB7.out⟩
end Go.Proofs.Ytpflimnngilhnaa.auditLooks
