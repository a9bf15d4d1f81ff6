/- Words and lines, back (layer 5): the walk of the law. -/
import Derived.Test.YtflphnmmlaloeaaDoorWWordsLines
import Derived.Test.YtflphnmmlaloeaaDoorWdR
import Derived.Deep.RegionHeld3
namespace Go.Proofs.YtflphnmmlaloeaaDoor.wordsBack
open Go.ChangeShapes Go.WideShapes Go.ChangeAt Go.RowKit
open Go.Proofs.YtflphnmmlaloeaaDoor.st Go.Proofs.YtflphnmmlaloeaaDoor.wd Go.Proofs.YtflphnmmlaloeaaDoor.wordsLines
set_option linter.unusedVariables false
set_option linter.unusedSimpArgs false
set_option maxRecDepth 20000 in
set_option maxHeartbeats 3200000 in
theorem walk (a0 : Option Addr) (n0 c0 : Nat) (L0 : List (List UInt8)) (w : World) (w0 : wd.SV w (.slice a0 n0 c0) L0) (u0 : ∀ l ∈ L0, l.length ≤ maxLen) (hN : NM w) :
    Calls Tryd.prog 6 #[.slice a0 n0 c0] w fun e w' => e = .returned (.bool true) ∧ Below w.heap.size w w' := by
  have CW := Lib.hid works_v
  have HN := Lib.hid hN
  have HV := Lib.hid w0
  obtain ⟨hlen, hcap1, hcm1⟩ := RV.len w0
  unfold maxLen at hcm1
  have hn63 : n0 ≤ 9223372036854775807 := by omega
  have HX := Lib.hid hlen
  have HU := Lib.hid u0
  clear w0 hN hlen u0
  by_cases hmany : 100 < n0
  · have hmi : (100 : Int) < (n0 : Int) := by omega
    have hmd : decide ((100 : Int) < (n0 : Int)) = true := decide_eq_true hmi
    go_enter Tryd.func6, Tryd.ntmps6
    go_wp2_with fail
    refine (CW.out _ HN.out).mono ?_
    rintro e w1 ⟨rfl, hb1⟩
    go_wp2_with fail
    go_ret
    exact ⟨rfl, hb1⟩
  · have hmi : ¬ (100 : Int) < (n0 : Int) := by omega
    have hmd : decide ((100 : Int) < (n0 : Int)) = false := decide_eq_false hmi
    have HG0 : Hid (∀ x ∈ ([] : List (List UInt8)), (x ≠ [] ∧ ∀ c ∈ x, c ≠ 32) ∧ (∀ c ∈ x, c ≠ 10) ∧ x.length ≤ 100) := Lib.hid (fun x hx => by cases hx)
    have HT0 : Hid (([] : List UInt8) = txt []) := Lib.hid rfl
    have HA0 : Hid (([] : List (List UInt8)).length ≤ 0) := Lib.hid (Nat.le_refl _)
    have HTL0 : Hid (([] : List UInt8).length ≤ 101 * 0) := Lib.hid (Nat.le_refl _)
    go_enter Tryd.func6, Tryd.ntmps6
    go_wp2_with fail
    refine (CW.out _ HN.out).mono ?_
    rintro e w1 ⟨rfl, hb1⟩
    have HB1 := Lib.hid hb1
    have HO0 : Hid (OR 1 enS w1 w.heap.size 9 (.slice none 0 0) []) := Lib.hid (OR.nil _ _ _)
    clear hb1 CW
    go_wp2_with fail
    go_loopw [3, 4, 5] (fun pv tv i wr => ∃ (k : Nat) (P : List (List UInt8)) (T : List UInt8), i = .int .i64 (k : Int) ∧ tv = .string ⟨T.toArray⟩ ∧ k ≤ n0 ∧ Hid (P.length ≤ k) ∧ Hid (T.length ≤ 101 * k) ∧ Hid (∀ x ∈ P, (x ≠ [] ∧ ∀ c ∈ x, c ≠ 32) ∧ (∀ c ∈ x, c ≠ 10) ∧ x.length ≤ 100) ∧ Hid (T = txt P) ∧ Hid (OR 1 enS wr w.heap.size 9 pv P) ∧ Hid (Below w.heap.size w wr)) (fun _ _ i _ => n0 - (RowKit.intOf i).toNat)
    case atStart => exact ⟨0, [], [], rfl, rfl, by omega, HA0, HTL0, HG0, HT0, HO0, HB1⟩
    case round =>
      clear HG0 HT0 HA0 HTL0 HO0 HB1
      obtain ⟨k, P, T, rfl, rfl, hk, HA, HTL, HG, HT, HO, HB⟩ := hrel
      obtain ⟨la, lc, rfl⟩ := HO.out.form
      by_cases hlt : k < n0
      · have hki : (k : Int) < (n0 : Int) := by omega
        have hkd : decide ((k : Int) < (n0 : Int)) = true := decide_eq_true hki
        obtain ⟨b, off, rfl, hbl, hc0⟩ := SV.at HV.out k hlt
        have hmm := HU.out (L0.getD k []) (by
          have := HX.out
          rw [List.getD_eq_getElem?_getD, List.getElem?_eq_getElem (by omega)]; exact List.getElem_mem _)
        unfold maxLen at hmm
        obtain ⟨E, hE⟩ : ∃ E, L0.getD k [] = E := ⟨_, rfl⟩
        rw [hE] at hc0 hmm
        have hxc := kc hc0 HB.out
        have hbw : b < wr.heap.size := World.block_lt_of_cell? wr _ hxc
        have hes := str_size E
        by_cases h2 : 100 < E.length
        · have h2i : (100 : Int) < (E.length : Int) := by omega
          have h2d : decide ((100 : Int) < (E.length : Int)) = true := decide_eq_true h2i
          go_wp2_with fail
          go_ret
          exact ⟨rfl, HB.out⟩
        · have h2i : ¬ (100 : Int) < (E.length : Int) := by omega
          have h2d : decide ((100 : Int) < (E.length : Int)) = false := decide_eq_false h2i
          have CG := Lib.hid (fun w => rfields_v E w (by omega))
          have CR := Lib.hid (fun w => rlines_v E w (by omega))
          have HK : Hid (∀ w', Below wr.heap.size wr w' → Below wr.heap.size wr w' ∧ w'.cell? ⟨b, off + k, none⟩ = some (.string ⟨E.toArray⟩)) := Lib.hid fun w' hb => ⟨hb, kc hxc hb⟩
          clear hE hbl
          go_wp2_with fail
          go_region_held3 (fun w' => Below wr.heap.size wr w' ∧ w'.cell? ⟨b, off + k, none⟩ = some (.string ⟨E.toArray⟩))
            (first | (with_reducible assumption) | exact HK.out _ (Below.refl _ _) | exact HK.out _ hb7 | exact HK.out _ hb8 | (refine HK.out _ ?_; go_grown; done))
            (first | (go_at_call 10; (with_reducible refine (CG.out _).mono ?_); rintro e w5 ⟨v5, rfl, hv5, hb5⟩; have hb7 : Below wr.heap.size wr w5 := Below.trans (by go_grown) (hb5.mono (by first | (go_grown; done) | exact hb8.size))) | (go_at_call 12; (with_reducible refine (CR.out _).mono ?_); rintro e w6 ⟨v6, rfl, hv6, hb6⟩; have hb8 : Below wr.heap.size wr w6 := Below.trans (by go_grown) (hb6.mono (by first | (go_grown; done) | exact hb7.size))))
          all_goals
            have hvF := hv5.below hb6
            have hc6 := kc hxc hb8
            have HB6 := Lib.hid (tr3 HB.out hb8)
            have HO6 := Lib.hid (HO.out.below hb8)
            have HAN : Hid (P.length ≤ k + 1) := Lib.hid (by have := HA.out; omega)
            have HTN : Hid (T.length ≤ 101 * (k + 1)) := Lib.hid (by have := HTL.out; omega)
            obtain ⟨aF, cF, rfl, hFc, hFm⟩ := RV.form hvF
            obtain ⟨aG, cG, rfl, hGc, hGm⟩ := RV.form hv6
            obtain ⟨F, hF⟩ : ∃ F, fldV E = F := ⟨_, rfl⟩
            obtain ⟨G, hG⟩ : ∃ G, linV E = G := ⟨_, rfl⟩
            rw [hF] at hvF hFc
            rw [hG] at hv6 hGc
            rw [hF, hG]
            unfold maxLen at hFm hGm
            have HVF := Lib.hid hvF
            have HVG := Lib.hid hv6
            have HFE0 := Lib.hid hF
            have HLE0 := Lib.hid hG
            clear hv5 hb5 hb6 hb7 hb8 hvF hv6 CG CR HK hF hG HO HB
            rename_i hHeld
            clear hHeld
            cases h1 : F.length == 1 with
            | false =>
              have h1i : ((F.length : Int) == 1) = false := by rw [beq_eq_false_iff_ne] at h1 ⊢; omega
              clear HFE0 HLE0
              go_wp2_with fail
              go_quiet (fail)
              obtain ⟨wn, hwn⟩ : ∃ wn, w6.drewN nq = wn := ⟨_, rfl⟩
              rw [hwn]
              have hbn : Below w6.heap.size w6 wn := by rw [← hwn]; exact below_drewN (Below.refl _ _) _
              have HBN := Lib.hid (tr3 HB6.out hbn)
              have HON := Lib.hid (HO6.out.below hbn)
              clear hwn hbn
              go_wp2_with fail
              go_roundw
              case rel => exact ⟨k + 1, P, T, by go_num, rfl, by omega, HAN, HTN, HG, HT, HON, HBN⟩
              case measure => first | (simp [RowKit.intOf]; done) | (simp [RowKit.intOf]; omega)
            | true =>
              have h1n : F.length = 1 := beq_iff_eq.1 h1
              have h1i : ((F.length : Int) == 1) = true := by rw [beq_iff_eq]; omega
              obtain ⟨x, rfl⟩ : ∃ x, F = [x] := List.length_eq_one_iff.1 h1n
              obtain ⟨b5, o5, rfl, hb5l, hx5⟩ := SV.at HVF.out 0 (by simp)
              rw [Nat.add_zero, show ([x] : List (List UInt8)).getD 0 [] = x from rfl] at hx5
              have h01 : (0 : Int) < (([x] : List (List UInt8)).length : Int) := by simp
              cases hxe : x == E with
              | false =>
                have hxe2 : (E == x) = false := by rw [beq_eq_false_iff_ne] at hxe ⊢; exact Ne.symm hxe
                clear HFE0 HLE0
                go_wp2_with fail
                go_quiet (fail)
                obtain ⟨wn, hwn⟩ : ∃ wn, w6.drewN nq = wn := ⟨_, rfl⟩
                rw [hwn]
                have hbn : Below w6.heap.size w6 wn := by rw [← hwn]; exact below_drewN (Below.refl _ _) _
                have HBN := Lib.hid (tr3 HB6.out hbn)
                have HON := Lib.hid (HO6.out.below hbn)
                clear hwn hbn
                go_wp2_with fail
                go_roundw
                case rel => exact ⟨k + 1, P, T, by go_num, rfl, by omega, HAN, HTN, HG, HT, HON, HBN⟩
                case measure => first | (simp [RowKit.intOf]; done) | (simp [RowKit.intOf]; omega)
              | true =>
                obtain rfl : x = E := by simpa using hxe
                have HFE : Hid (fldV x = [x]) := Lib.hid HFE0.out
                cases h2 : G.length == 1 with
                | false =>
                  have h2i : ((G.length : Int) == 1) = false := by rw [beq_eq_false_iff_ne] at h2 ⊢; omega
                  clear HFE0 HLE0
                  go_wp2_with fail
                  go_quiet (fail)
                  obtain ⟨wn, hwn⟩ : ∃ wn, w6.drewN nq = wn := ⟨_, rfl⟩
                  rw [hwn]
                  have hbn : Below w6.heap.size w6 wn := by rw [← hwn]; exact below_drewN (Below.refl _ _) _
                  have HBN := Lib.hid (tr3 HB6.out hbn)
                  have HON := Lib.hid (HO6.out.below hbn)
                  clear hwn hbn
                  go_wp2_with fail
                  go_roundw
                  case rel => exact ⟨k + 1, P, T, by go_num, rfl, by omega, HAN, HTN, HG, HT, HON, HBN⟩
                  case measure => first | (simp [RowKit.intOf]; done) | (simp [RowKit.intOf]; omega)
                | true =>
                  have h2n : G.length = 1 := beq_iff_eq.1 h2
                  have h2i : ((G.length : Int) == 1) = true := by rw [beq_iff_eq]; omega
                  obtain ⟨y, rfl⟩ : ∃ y, G = [y] := List.length_eq_one_iff.1 h2n
                  obtain ⟨b6, o6, rfl, hb6l, hx6⟩ := SV.at HVG.out 0 (by simp)
                  rw [Nat.add_zero, show ([y] : List (List UInt8)).getD 0 [] = y from rfl] at hx6
                  have h02 : (0 : Int) < (([y] : List (List UInt8)).length : Int) := by simp
                  cases hye : y == x with
                  | false =>
                    clear HFE0 HLE0
                    go_wp2_with fail
                    go_quiet (fail)
                    obtain ⟨wn, hwn⟩ : ∃ wn, w6.drewN nq = wn := ⟨_, rfl⟩
                    rw [hwn]
                    have hbn : Below w6.heap.size w6 wn := by rw [← hwn]; exact below_drewN (Below.refl _ _) _
                    have HBN := Lib.hid (tr3 HB6.out hbn)
                    have HON := Lib.hid (HO6.out.below hbn)
                    clear hwn hbn
                    go_wp2_with fail
                    go_roundw
                    case rel => exact ⟨k + 1, P, T, by go_num, rfl, by omega, HAN, HTN, HG, HT, HON, HBN⟩
                    case measure => first | (simp [RowKit.intOf]; done) | (simp [RowKit.intOf]; omega)
                  | true =>
                    obtain rfl : y = x := by simpa using hye
                    have HLE : Hid (linV y = [y]) := Lib.hid HLE0.out
                    clear HFE0 HLE0
                    go_wp2_with fail
                    go_quiet (fail)
                    obtain ⟨wn, hwn⟩ : ∃ wn, w6.drewN nq = wn := ⟨_, rfl⟩
                    rw [hwn]
                    have hbn : Below w6.heap.size w6 wn := by rw [← hwn]; exact below_drewN (Below.refl _ _) _
                    have HBN := Lib.hid (tr3 HB6.out hbn)
                    have HON := Lib.hid (HO6.out.below hbn)
                    have hcn := kc hc6 hbn
                    clear hwn hbn HB6 HO6
                    have hg6 : Below wn.heap.size wn (wn.alloc (.cells #[.string ⟨y.toArray⟩] 9)) := (Below.refl _ _).alloc (Nat.le_refl _) _
                    have HB7 := Lib.hid (tr3 HBN.out hg6)
                    have HO7 := Lib.hid (HON.out.below hg6)
                    have hc7 := kc hcn hg6
                    have hu7 : ∀ j u, (enS y)[j]? = some u → (wn.alloc (.cells #[.string ⟨y.toArray⟩] 9)).cell? ((⟨wn.heap.size, 0, none⟩ : Addr).add j) = some u := one_str wn y
                    have HU7 := Lib.hid hu7
                    have hab : P.length ≤ 1000000 := by have := HA.out; omega
                    have HC7 := Lib.hid hc7
                    clear hg6 hu7 HBN HON hc7
                    go_wp2_with ((at_builtin; refine wpList_appR rfl _ _ 22 9 _ 16 rfl Tryd.underlying22 infoS rfl (by decide) recS w.heap.size (.slice la P.length lc) P rfl ⟨wn.heap.size, 0, none⟩ 1 rfl y HO7.out HU7.out hab HB7.out.size ?_))
                    intro v8 w8 ho8 hg8 hor8
                    have hb8 : Below w.heap.size w w8 := HB7.out.grown hg8 HB7.out.size (fun g e => (HO7.out.lt g e).1)
                    have hc8 : w8.cell? ⟨b, off + k, none⟩ = some (.string ⟨y.toArray⟩) := kc hc0 hb8
                    have HO8 := Lib.hid ho8
                    have HB8 := Lib.hid hb8
                    obtain ⟨l8, c8, rfl⟩ := ho8.form
                    clear ho8 hg8 hor8 hb8 HB7 HO7 HU7 HC7
                    have hj1 := str_join T y
                    have hj2 := str_join (T ++ y) [10]
                    have HGN : Hid (∀ x ∈ P ++ [y], (x ≠ [] ∧ ∀ c ∈ x, c ≠ 32) ∧ (∀ c ∈ x, c ≠ 10) ∧ x.length ≤ 100) := Lib.hid (by
                      intro x hx
                      rcases List.mem_append.1 hx with hx | hx
                      · exact HG.out x hx
                      · rw [List.mem_singleton] at hx
                        subst hx
                        exact ⟨fld_self _ HFE.out, lin_self _ HLE.out, by omega⟩)
                    have HTT : Hid ((T ++ y) ++ [10] = txt (P ++ [y])) := Lib.hid (by rw [txt_snoc, ← HT.out])
                    have HAP : Hid ((P ++ [y]).length ≤ k + 1) := Lib.hid (by rw [List.length_append, List.length_singleton]; have := HA.out; omega)
                    have HTP : Hid (((T ++ y) ++ [10]).length ≤ 101 * (k + 1)) := Lib.hid (by rw [List.length_append, List.length_append, List.length_singleton]; have := HTL.out; omega)
                    have htl := HTL.out
                    have hsz1 : ¬ 9223372036854775807 < T.length + y.length := by omega
                    have hsz2 : ¬ 9223372036854775807 < T.length + y.length + 1 := by omega
                    obtain ⟨T2, hT2⟩ : ∃ x, T ++ y = x := ⟨_, rfl⟩
                    have ht2 : T2.length = T.length + y.length := by rw [← hT2]; simp
                    rw [hT2] at hj1 hj2 HTT HTP
                    rw [← ht2] at hsz2
                    obtain ⟨T3, hT3⟩ : ∃ x, T2 ++ [10] = x := ⟨_, rfl⟩
                    rw [hT3] at hj2 HTT HTP
                    clear hT2 hT3 ht2 htl HTN HAN HA HTL HT
                    go_wp2_with fail
                    go_roundw
                    case rel => exact ⟨k + 1, P ++ [y], T3, by go_num, rfl, by omega, HAP, HTP, HGN, HTT, Lib.hid (by simpa using HO8.out), HB8⟩
                    case measure => first | (simp [RowKit.intOf]; done) | (simp [RowKit.intOf]; omega)
            
      · obtain rfl : k = n0 := by omega
        have hki : ¬ (k : Int) < (k : Int) := by omega
        have hkd : decide ((k : Int) < (k : Int)) = false := decide_eq_false hki
        have hpn : P.length ≤ 100 := by have := HA.out; omega
        have htn : T.length ≤ 100000 := by have := HTL.out; omega
        have hjl := join_len 100 32 P (fun x hx => (HG.out x hx).2.2)
        have hjl2 : (Lib.join P [32]).length ≤ 100000 := by omega
        have hfj := fld_join P (fun x hx => (HG.out x hx).1)
        have hlt2 := lin_txt P (fun x hx => (HG.out x hx).2.1)
        rw [← HT.out] at hlt2
        have CJ := Lib.hid (fun v w h => wjoin_v v P w h (by omega) (by omega))
        have CF := fun w => wfields_v (Lib.join P [32]) w hjl2
        rw [hfj] at CF
        have CL := fun w hN => wlines_v T w htn hN
        rw [hlt2] at CL
        obtain ⟨J, hJ⟩ : ∃ J, Lib.join P [32] = J := ⟨_, rfl⟩
        rw [hJ] at CJ CF
        replace CF := Lib.hid CF
        replace CL := Lib.hid CL
        obtain ⟨w2, hw2⟩ : ∃ w2, wr.alloc (.cells #[] 9) = w2 := ⟨_, rfl⟩
        have h12 : Below wr.heap.size wr w2 := by rw [← hw2]; exact (Below.refl _ _).alloc (Nat.le_refl _) _
        have he2 : w2.heap[wr.heap.size]? = some (.cells #[] 9 (0, 0)) := by rw [← hw2]; exact heap_new _ _ _
        have HW2 := Lib.hid hw2
        have HE2 := Lib.hid he2
        have H12 := Lib.hid h12
        have HVP := Lib.hid (OR.rv recS HO.out)
        have HX2 := Lib.hid (HVP.out.below h12)
        have hxl : P.length ≤ 1000000 := by omega
        clear h12 he2 hw2 hjl hjl2 hfj hlt2 hJ HG HT HA HTL htn hpn HO
        go_wp2_with ((at_builtin; rw [HW2.out]; refine wpList_copyR rfl _ _ 22 9 _ 16 rfl Tryd.underlying22 infoS rfl (by decide) recS wr.heap.size wr.heap.size rfl HE2.out (Nat.le_refl _) P HX2.out hxl ?_))
        intro v3 w3 ho3 hb3
        have hb13 := H12.out.trans hb3
        have HB3 := Lib.hid (tr3 HB.out hb13)
        have HP3 := Lib.hid (HVP.out.below hb13)
        have CJ3 := Lib.hid (CJ.out v3 w3 (OR.rv recS ho3))
        clear hb3 hb13 ho3 H12 HW2 HE2 HX2 CJ HB HVP
        go_wp2_with fail
        refine CJ3.out.mono ?_
        rintro e w4 ⟨rfl, hb4⟩
        have HB4 := Lib.hid (tr3 HB3.out hb4)
        have HP4 := Lib.hid (HP3.out.below hb4)
        clear hb4 CJ3 HB3 HP3
        go_wp2_with fail
        refine (CF.out _).mono ?_
        rintro e w5 ⟨v5, rfl, hv5, hb5⟩
        have HB5 := Lib.hid (tr3 HB4.out hb5)
        have HP5 := Lib.hid (HP4.out.below hb5)
        have CI := Lib.hid (strings_v v5 _ P w5 hv5 HP5.out)
        clear hb5 CF hv5 HB4 HP4
        go_wp2_with fail
        refine CI.out.mono ?_
        rintro e w6 ⟨rfl, hb6⟩
        have HB6 := Lib.hid (tr3 HB5.out hb6)
        have HP6 := Lib.hid (HP5.out.below hb6)
        clear hb6 CI HB5 HP5
        go_wp2_with fail
        refine (CL.out _ (HN.out.below HB6.out)).mono ?_
        rintro e w7 ⟨v7, rfl, hv7, hb7⟩
        have HB7 := Lib.hid (tr3 HB6.out hb7)
        have CI := Lib.hid (strings_v v7 _ P w7 hv7 (HP6.out.below hb7))
        clear hb7 CL hv7 HB6 HP6
        go_wp2_with fail
        refine CI.out.mono ?_
        rintro e w8 ⟨rfl, hb8⟩
        have HB8 := Lib.hid (tr3 HB7.out hb8)
        clear hb8 CI
        go_wp2_with fail
        go_ret
        exact ⟨by first | rfl | simp, HB8.out⟩
end Go.Proofs.YtflphnmmlaloeaaDoor.wordsBack
