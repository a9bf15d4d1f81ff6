/- Whether things come behind their predecessors, as the document says (layer 31). -/
import Derived.Test.YtciojgkgfhpaaaaRhK
namespace Go.Proofs.Ytciojgkgfhpaaaa.rh
open Go.ChangeShapes Go.WideShapes Go.ChangeAt Go.RowKit
set_option linter.unusedVariables false
set_option linter.unusedSimpArgs false
theorem cI_step {l : List Int} {j : Nat} {x p : Int} {f : Bool} (hj : j < l.length) (hx : l.getD j 0 = x) (h : cI l j p = f) : cI l (j + 1) p = (f || decide (x = p)) := by
  rw [cI_succ hj, h, hx]
  congr 1
  apply bool_iff
  simp [eq_comm]
set_option maxRecDepth 20000 in
set_option maxHeartbeats 2000000 in
theorem rorder_of (a al : Option Addr) (n cap m ml : Nat) (L : List (List Int)) (l : List Int) (v : Bool) (w : World) (h : MV w (.slice a n cap) L) (hl : View w (.slice al m ml) l) (hn : n ≤ 1002) (hv : orN L n l m = v) :
    Calls Try.prog 20 #[.slice a n cap, .slice al m ml] w fun e w' => e = .returned (.bool v) ∧ Below w.heap.size w w' := by
  obtain ⟨hnl, hnc, hcm⟩ := h.len
  obtain ⟨hml, hm1, hm2⟩ := hl.len
  unfold maxLen at hm2
  have H := Lib.hid h
  have HLV := Lib.hid hl
  have HML := Lib.hid hml
  have HVV := Lib.hid hv
  clear h hcm hnl hl hml hv
  go_enter Try.func20, Try.ntmps20
  go_wp2_with fail
  go_loopw [5] (fun i wr => ∃ (k : Nat), k ≤ m ∧ i = .int .i64 (k : Int) ∧ Hid (orN L n l k = true) ∧ Hid (Below w.heap.size w wr)) (fun i _ => m - (intOf i).toNat)
  case atStart => exact ⟨0, by omega, rfl, Lib.hid rfl, Lib.hid (Below.refl _ _)⟩
  case round =>
    obtain ⟨k, hk, rfl, HO, HB⟩ := hrel
    by_cases hlt : k < m
    · obtain ⟨b1, o1, rfl, hbl1, hcx0⟩ := HLV.out.at k hlt
      obtain ⟨x, hx⟩ : ∃ x, l.getD k 0 = x := ⟨_, rfl⟩
      rw [hx] at hcx0
      have hcx := (HB.out.cell (p := ⟨b1, o1 + k, none⟩) hbl1).trans hcx0
      have HCX := Lib.hid hcx0
      have HX := Lib.hid hx
      have HBad : Hid (stO L n l k = false → v = false) := Lib.hid fun e => by rw [← HVV.out]; exact orN_bad hlt e
      have HST : Hid (stO L n l k = (inB x n && (!cI l k x && (L.getD x.toNat []).all (cI l k)))) := Lib.hid (by unfold stO; rw [hx])
      clear hx hcx0
      by_cases hx0 : 0 ≤ x
      · have hx1 : ¬ x < 0 := by omega
        by_cases hxn : x < (n : Int)
        · have hx2 : ¬ (n : Int) ≤ x := by omega
          obtain ⟨y, rfl⟩ : ∃ y : Nat, x = (y : Int) := ⟨x.toNat, by omega⟩
          have hy : y < n := by omega
          have hin : Hid (inB (y : Int) n = true) := Lib.hid (by unfold inB; simp; omega)
          obtain ⟨b, o, ai, ci, rfl, hbl, hcl, hvv⟩ := H.out.row y hy
          obtain ⟨_, hr1, hr2⟩ := hvv.len
          unfold maxLen at hr2
          have HV := Lib.hid hvv
          obtain ⟨r, hr⟩ : ∃ r, (L.getD y []).length = r := ⟨_, rfl⟩
          rw [hr] at hcl HV hr1
          have HM := Lib.hid hr
          have HC := Lib.hid hcl
          have HB0 := HB
          clear hvv hr hcl HB
          go_wp2_with fail
          go_loopw [6] (fun i wi => ∃ (j : Nat), j ≤ k ∧ i = .int .i64 (j : Int) ∧ Hid (cI l j (y : Int) = false) ∧ Hid (Below w.heap.size w wi)) (fun i _ => k - (intOf i).toNat)
          case atStart => exact ⟨0, by omega, rfl, Lib.hid (by simp [cI]), HB0⟩
          case round =>
            clear HB0 hcx
            obtain ⟨j, hj, rfl, HA, HB⟩ := hrel
            have hcx := (HB.out.cell (p := ⟨b1, o1 + k, none⟩) hbl1).trans HCX.out
            by_cases hjl : j < k
            · have hjm : j < m := by omega
              obtain ⟨b2, o2, eb, hbl2, hcp⟩ := (HLV.out.below HB.out).at j hjm
              cases eb
              obtain ⟨p, hp⟩ : ∃ p, l.getD j 0 = p := ⟨_, rfl⟩
              rw [hp] at hcp
              by_cases hpe : p = (y : Int)
              · subst hpe
                have HF : Hid (v = false) := Lib.hid (HBad.out (by
                  rw [HST.out, cI_later hjl (by rw [← HML.out]; omega) hp]; simp))
                have HB5 : Hid (Below w.heap.size w wr.drew) := Lib.hid (HB.out.drew)
                clear hp HB
                go_wp2_with fail
                go_region
                go_wp2_with fail
                go_ret
                exact ⟨by rw [HF.out]; rfl, HB5.out⟩
              · have HN : Hid (cI l (j + 1) (y : Int) = false) := Lib.hid (by
                  rw [cI_step (by rw [← HML.out]; omega) hp HA.out]; simp [hpe])
                have HB5 : Hid (Below w.heap.size w wr.drew) := Lib.hid (HB.out.drew)
                have hbq : (p == (y : Int)) = false := by simpa using hpe
                clear hp HB
                go_wp2_with fail
                go_region
                go_wp2_with fail
                go_roundw
                case rel => exact ⟨j + 1, by omega, by go_num, HN, HB5⟩
                case measure => simp [intOf]; omega
            · obtain rfl : j = k := by omega
              have HB0 := HB
              clear HB
              go_wp2_with fail
              go_loopw [7] (fun i wi => ∃ (q : Nat), q ≤ r ∧ i = .int .i64 (q : Int) ∧ Hid (((L.getD y []).take q).all (cI l j) = true) ∧ Hid (Below w.heap.size w wi)) (fun i _ => r - (intOf i).toNat)
              case atStart => exact ⟨0, by omega, rfl, Lib.hid (by simp), HB0⟩
              case round =>
                clear HB0 hcx
                obtain ⟨q, hq, rfl, HQ, HB⟩ := hrel
                have hcx := (HB.out.cell (p := ⟨b1, o1 + j, none⟩) hbl1).trans HCX.out
                have hcl := (HB.out.cell (p := ⟨b, o + y, none⟩) hbl).trans HC.out
                by_cases hql : q < r
                · obtain ⟨b2, o2, rfl, hbl3, hcp0⟩ := HV.out.at q hql
                  obtain ⟨p, hp⟩ : ∃ p, (L.getD y []).getD q 0 = p := ⟨_, rfl⟩
                  rw [hp] at hcp0
                  have HCP := Lib.hid hcp0
                  have HAll : Hid (cI l j p = false → v = false) := Lib.hid fun e => HBad.out (by
                    rw [HST.out, Int.toNat_natCast, all_bad (by rw [HM.out]; exact hql) (by rw [hp]; exact e)]; simp)
                  have HNext : Hid (cI l j p = true → ((L.getD y []).take (q + 1)).all (cI l j) = true) := Lib.hid fun e => by
                    rw [all_take_succ (by rw [HM.out]; exact hql), HQ.out, hp, e]; rfl
                  have HB0 := HB
                  clear hp hcp0 HB
                  go_wp2_with fail
                  go_loopw [8, 9] (fun f i wi => ∃ (fb : Bool) (d : Nat), d ≤ j ∧ f = .bool fb ∧ i = .int .i64 (d : Int) ∧ Hid (cI l d p = fb) ∧ Hid (Below w.heap.size w wi)) (fun _ i _ => j - (intOf i).toNat)
                  case atStart => exact ⟨false, 0, by omega, rfl, rfl, Lib.hid (by simp [cI]), HB0⟩
                  case round =>
                    clear HB0 hcx hcl
                    obtain ⟨fb, d, hd, rfl, rfl, HD, HB⟩ := hrel
                    by_cases hdl : d < j
                    · have hcx := (HB.out.cell (p := ⟨b1, o1 + j, none⟩) hbl1).trans HCX.out
                      have hcl := (HB.out.cell (p := ⟨b, o + y, none⟩) hbl).trans HC.out
                      have hcp := (HB.out.cell (p := ⟨b2, o2 + q, none⟩) hbl3).trans HCP.out
                      have hdm : d < m := by omega
                      obtain ⟨b3, o3, eb, hbl4, hcd⟩ := (HLV.out.below HB.out).at d hdm
                      cases eb
                      obtain ⟨t, ht⟩ : ∃ t, l.getD d 0 = t := ⟨_, rfl⟩
                      rw [ht] at hcd
                      have HS := cI_step (by rw [← HML.out]; omega) ht HD.out
                      have hyi : (y : Int) < (n : Int) := by omega
                      have HB5 : Hid (Below w.heap.size w wr.drew) := Lib.hid (HB.out.drew)
                      obtain ⟨z, hz⟩ : ∃ z, (fb || decide (t = p)) = z := ⟨_, rfl⟩
                      rw [hz] at HS
                      have HZ := Lib.hid HS
                      have htz : (fb = true ∧ z = true) ∨ (fb = false ∧ (t == p) = z) := by
                        cases fb
                        · right; exact ⟨rfl, by rw [← hz]; rfl⟩
                        · left; exact ⟨rfl, by rw [← hz]; rfl⟩
                      clear ht HB HS hz
                      rcases htz with ⟨rfl, rfl⟩ | ⟨rfl, htz⟩
                      · go_wp2_with fail
                        go_region
                        go_wp2_with fail
                        go_roundw
                        case rel => exact ⟨true, d + 1, by omega, rfl, by go_num, HZ, HB5⟩
                        case measure => simp [intOf]; omega
                      · go_wp2_with fail
                        go_region
                        go_wp2_with fail
                        go_roundw
                        case rel => exact ⟨z, d + 1, by omega, by first | rfl | rw [← htz]; rfl, by go_num, HZ, HB5⟩
                        case measure => simp [intOf]; omega
                    · obtain rfl : d = j := by omega
                      cases fb with
                      | true =>
                        have HN := Lib.hid (HNext.out HD.out)
                        go_wp2_with fail
                        go_roundw
                        case rel => exact ⟨q + 1, by omega, by go_num, HN, HB⟩
                        case measure => simp [intOf]; omega
                      | false =>
                        have HF := Lib.hid (HAll.out HD.out)
                        go_wp2_with fail
                        go_ret
                        exact ⟨by rw [HF.out]; rfl, HB.out⟩
                · obtain rfl : q = r := by omega
                  have HO5 : Hid (orN L n l (j + 1) = true) := Lib.hid (by
                    rw [orN, HO.out, HST.out, hin.out, HA.out, Int.toNat_natCast]
                    have := HQ.out
                    rw [List.take_of_length_le (by rw [HM.out]; omega)] at this
                    rw [this]; rfl)
                  go_wp2_with fail
                  go_roundw
                  case rel => exact ⟨j + 1, by omega, by go_num, HO5, HB⟩
                  case measure => simp [intOf]; omega
        · have hx2 : (n : Int) ≤ x := by omega
          have HF : Hid (v = false) := Lib.hid (HBad.out (by rw [HST.out]; unfold inB; simp; omega))
          go_wp2_with fail
          go_ret
          exact ⟨by rw [HF.out]; rfl, HB.out⟩
      · have hx1 : x < 0 := by omega
        have HF : Hid (v = false) := Lib.hid (HBad.out (by rw [HST.out]; unfold inB; simp; omega))
        go_wp2_with fail
        go_ret
        exact ⟨by rw [HF.out]; rfl, HB.out⟩
    · obtain rfl : k = m := by omega
      have HT : Hid (v = true) := Lib.hid (by rw [← HVV.out, HO.out])
      go_wp2_with fail
      go_ret
      exact ⟨by rw [HT.out]; rfl, HB.out⟩
end Go.Proofs.Ytciojgkgfhpaaaa.rh
