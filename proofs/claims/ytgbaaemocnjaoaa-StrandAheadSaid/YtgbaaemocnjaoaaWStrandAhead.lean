/- Predecessors have lower numbers; each strand but the first one has some: the law StrandAhead answers true. No condition. -/
import Derived.Test.YtgbaaemocnjaoaaSnN
import Derived.Deep.RegionHeld3
namespace Go.Proofs.Ytgbaaemocnjaoaa.strandAhead
open Go.ChangeShapes Go.WideShapes Go.ChangeAt Go.RowKit
open Go.Proofs.Ytgbaaemocnjaoaa.ro Go.Proofs.Ytgbaaemocnjaoaa.sn
attribute [local go_sem ↓] Go.wp_at_zero Go.wp_at_succ
set_option linter.unusedVariables false
set_option linter.unusedSimpArgs false
set_option maxHeartbeats 2000000 in
set_option maxRecDepth 20000 in
theorem core (a0 : Option Addr) (n cap0 : Nat) (L : List (Int × Int × Int)) (w : World) (h : RV 3 enN w (.slice a0 n cap0) L) (hn : n ≤ 2000) :
    Calls Try.prog 4 #[.slice a0 n cap0] w fun e w' => e = .returned (.bool true) ∧ Below w.heap.size w w' := by
  have hd : ¬ (2000 : Int) < (n : Int) := by omega
  have hd2 : decide (2000 < n) = false := by simp; omega
  have HV := Lib.hid h
  clear h
  go_enter Try.func4, Try.ntmps4
  go_wp2_with fail
  refine (works30 w).mono ?_
  rintro e w1 ⟨rfl, hb1⟩
  go_wp2_with fail
  refine (marks_of w1 a0 n cap0 L (HV.out.below hb1) (by omega)).mono ?_
  rintro e w2 ⟨a2, n2, c2, rfl, hv2, hb2⟩
  have hn2 : n2 = n := by rw [(RV.len hv2).1, (RV.len HV.out).1]
  subst hn2
  have HB2 := Lib.hid (hb1.trans (hb2.mono hb1.size))
  clear HV hb1 hb2
  go_wp2_with fail
  refine (build_of w2 a2 n2 c2 L hv2 (by omega)).mono ?_
  rintro e w3 ⟨c, pv, nv, av, rfl, hb3, H⟩
  have HB3 := Lib.hid (HB2.out.trans (hb3.mono HB2.out.size))
  have HLL : Hid (n2 = L.length) := Lib.hid (RV.len hv2).1
  clear HB2 hb3 hv2
  rcases H with ⟨hc, rfl, rfl, rfl, _⟩ | ⟨rfl, s, _, hI, hD⟩
  · have hcb : (c != 0) = true := by simpa using hc
    go_wp2_with fail
    go_ret
    exact ⟨rfl, HB3.out.trans ((show Below w3.heap.size w3 _ by go_grown).mono HB3.out.size)⟩
  · obtain ⟨pa, pc, rfl, _⟩ := hD.p.form
    obtain ⟨na, nc, rfl, _⟩ := hD.n.form
    obtain ⟨aa, ac, rfl, _⟩ := hD.a.form
    have HPN := Lib.hid hI.pn
    have HPR := Lib.hid hI.pr
    have HAC := Lib.hid hI.ac
    have hp1 := hI.p1
    have hpm := hI.pm
    have hal := hI.al
    have hLl : L.length ≤ 2000 := by have := HLL.out; omega
    have HDP := Lib.hid hD.p
    have HDA := Lib.hid hD.a
    rw [hI.pn]
    obtain ⟨np, hnp⟩ : ∃ np, s.P.length = np := ⟨_, rfl⟩
    obtain ⟨nA, hnA⟩ : ∃ nA, s.A.length = nA := ⟨_, rfl⟩
    rw [hnp] at HPR HAC HDP hp1 hpm ⊢
    rw [hnA] at HDA hal ⊢
    have hpb : (np : Int) ≤ 1000 := by omega
    clear hI hD
    go_wp2_with fail
    obtain ⟨W, hW⟩ : ∃ W, w3.alloc (.cells #[.slice pa np pc, .slice na np nc, .slice aa nA ac] 28) = W := ⟨_, rfl⟩
    have hX := heap_new w3 (.cells #[.slice pa np pc, .slice na np nc, .slice aa nA ac] 28)
    rw [hW] at hX ⊢
    have hbW : Below w3.heap.size w3 W := by rw [← hW]; go_grown
    replace HDP := Lib.hid (HDP.out.below hbW)
    replace HDA := Lib.hid (RV.below HDA.out hbW)
    replace HB3 := Lib.hid (HB3.out.trans (hbW.mono HB3.out.size))
    have c0 : W.cell? ⟨w3.heap.size, 0, none⟩ = some (.slice pa np pc) := cel hX 0
    have c1 : W.cell? ⟨w3.heap.size, 1, none⟩ = some (.slice na np nc) := cel hX 1
    have c2 : W.cell? ⟨w3.heap.size, 2, none⟩ = some (.slice aa nA ac) := cel hX 2
    have HNP := Lib.hid hnp
    have HNA := Lib.hid hnA
    obtain ⟨X, hXe⟩ : ∃ X, w3.heap.size = X := ⟨_, rfl⟩
    rw [hXe] at c0 c1 c2 ⊢
    clear hW hX hbW hnp hnA hXe hd hd2
    go_loop [5] (fun i => ∃ k : Nat, k ≤ np ∧ i = .int .i64 (k : Int)) (fun i => np - (intOf i).toNat)
    case atStart => exact ⟨0, by omega, rfl⟩
    case round =>
      obtain ⟨k, hk, rfl⟩ := hrel
      by_cases hlt : k < np
      · obtain ⟨b, o, ai, ci, rfl, hbl, hck, hvk⟩ := HDP.out.row k hlt
        obtain ⟨h1, h2⟩ := HPR.out k hlt
        have HVK := Lib.hid hvk
        have H2 := Lib.hid h2
        obtain ⟨m, hm⟩ : ∃ m, (s.P.getD k []).length = m := ⟨_, rfl⟩
        rw [hm] at hck HVK
        have HM := Lib.hid hm
        have hmm : m ≤ maxLen := by have := hvk.len; omega
        unfold maxLen at hmm
        obtain ⟨t, hm1, hk1⟩ : ∃ t : Bool, ((m : Int) == 0) = t ∧ ((k : Int) == 0) = t := by
          refine ⟨_, rfl, ?_⟩
          rw [Bool.eq_iff_iff, beq_iff_eq, beq_iff_eq]
          have h3 : m = 0 ↔ k = 0 := by
            rw [← h1, ← hm]
            exact List.length_eq_zero_iff
          omega
        have htt : (t != t) = false := by simp
        clear h1 h2 hvk hm
        cases t
        all_goals
          go_wp2_with fail
          go_loop [6] (fun j => ∃ q : Nat, q ≤ m ∧ j = .int .i64 (q : Int)) (fun j => m - (intOf j).toNat)
          case atStart => exact ⟨0, by omega, rfl⟩
          case round =>
            obtain ⟨q, hq, rfl⟩ := hrel
            by_cases hq2 : q < m
            · obtain ⟨g, og, rfl, hg, hcq⟩ := HVK.out.at q hq2
              have hu := H2.out ((s.P.getD k []).getD q 0) (sn.getD_in _ q 0 (by rw [HM.out]; exact hq2))
              obtain ⟨u, hue⟩ : ∃ u, (s.P.getD k []).getD q 0 = u := ⟨_, rfl⟩
              rw [hue] at hcq hu
              obtain ⟨u1, u2⟩ := hu
              have u3 : ¬ u < 0 := by omega
              have u4 : ¬ (k : Int) ≤ u := by omega
              clear hue
              go_wp2_with fail
              go_round
              case rel => exact ⟨q + 1, by omega, by go_num⟩
              case measure => simp [intOf]; omega
            · obtain rfl : q = m := by omega
              go_wp2_with fail
              go_round
              case rel => exact ⟨k + 1, by omega, by go_num⟩
              case measure => simp [intOf]; omega
      · obtain rfl : k = np := by omega
        go_wp2_with fail
        go_loopw [7] (fun j wr => ∃ q : Nat, q ≤ nA ∧ j = .int .i64 (q : Int) ∧ Hid (Below W.heap.size W wr)) (fun j _ => nA - (intOf j).toNat)
        case atStart => exact ⟨0, by omega, rfl, Lib.hid (Below.refl _ _)⟩
        case round =>
          obtain ⟨q, hq, rfl, HW⟩ := hrel
          have hXl := World.block_lt_of_cell? W _ c0
          have d0 : wr.cell? ⟨X, 0, none⟩ = some (.slice pa k pc) := (HW.out.cell (p := ⟨X, 0, none⟩) hXl).trans c0
          have d1 : wr.cell? ⟨X, 1, none⟩ = some (.slice na k nc) := (HW.out.cell (p := ⟨X, 1, none⟩) hXl).trans c1
          have d2 : wr.cell? ⟨X, 2, none⟩ = some (.slice aa nA ac) := (HW.out.cell (p := ⟨X, 2, none⟩) hXl).trans c2
          by_cases hq2 : q < nA
          · obtain ⟨y, hy⟩ : ∃ y, s.A[q]? = some y := ⟨_, List.getElem?_eq_getElem (by have := HNA.out; omega)⟩
            obtain ⟨g, og, rfl, hg, hcq⟩ := HDA.out.at q y hy
            have e0 : wr.cell? ⟨g, og + q * 3, none⟩ = some (.int .i64 y.1) := (HW.out.cell (p := ⟨g, og + q * 3, none⟩) hg).trans (by simpa using hcq 0 _ rfl)
            obtain ⟨u1, u2⟩ := HAC.out y (List.mem_of_getElem? hy)
            have u3 : decide (y.1 < 0) = false := by simp; omega
            have u4 : decide ((k : Int) ≤ y.1) = false := by simp; omega
            have HBq := Lib.hid (fun n => below_drewN HW.out n)
            clear hy hcq HW
            go_wp2_with fail
            go_quiet (fail)
            go_wp2_with fail
            go_roundw
            case rel => exact ⟨q + 1, by omega, by go_num, Lib.hid (HBq.out _)⟩
            case measure => simp [intOf]; omega
          · obtain rfl : q = nA := by omega
            go_wp2_with fail
            go_ret
            exact ⟨rfl, HB3.out.trans (HW.out.mono HB3.out.size)⟩
theorem walk (a0 : Option Addr) (len0 cap0 : Nat) (z0 : Nat → Nat → Int) (w : World) (w0 : IsGrid [.i64, .i64, .i64] w a0 len0 cap0 z0) :
    Calls Try.prog 4 #[.slice a0 len0 cap0] w fun e w' => e = .returned (.bool true) ∧ Below w.heap.size w w' := by
  by_cases hl : len0 ≤ 2000
  · exact core a0 len0 cap0 _ w (rv_grid w0) hl
  · have hd : (2000 : Int) < (len0 : Int) := by omega
    have hd2 : decide (2000 < len0) = true := by simp; omega
    clear w0
    go_enter Try.func4, Try.ntmps4
    go_wp2_with fail
    refine (works30 w).mono ?_
    rintro e w1 ⟨rfl, hb1⟩
    go_wp2_with fail
    go_ret
    exact ⟨rfl, hb1⟩
end Go.Proofs.Ytgbaaemocnjaoaa.strandAhead
