/- TraceCuts: a beginning could happen too (layer 34). -/
import Derived.Test.YtgbeghaojkhiaaaTrR
import Derived.Test.YtgbeghaojkhiaaaGrids
namespace Go.Proofs.Ytgbeghaojkhiaaa.traceCuts
open Go.ChangeShapes Go.WideShapes Go.ChangeAt Go.RowKit Go.Maps
open Go.Proofs.Ytgbeghaojkhiaaa.ro Go.Proofs.Ytgbeghaojkhiaaa.tr
open Go.Proofs.Ytgbeghaojkhiaaa.gr (rec_new tr3 kb)
attribute [local go_sem ↓] Go.wp_at_zero Go.wp_at_succ
attribute [local go_sem] Oper.semAt_some
set_option linter.unusedVariables false
set_option linter.unusedSimpArgs false
def mkL (m : Int) (k : Nat) (os : List I4) : List I4 := (os.take k).map (fun e => (e.1, m, e.2.2)) ++ os.drop k
theorem mkL_zero (m : Int) (os : List I4) : mkL m 0 os = os := by simp [mkL]
theorem mkL_len (m : Int) (k : Nat) (os : List I4) : (mkL m k os).length = os.length := by
  unfold mkL
  rw [List.length_append, List.length_map, List.length_take, List.length_drop]
  omega
theorem mkL_split {m : Int} {k : Nat} {os : List I4} {x : I4} (h : os[k]? = some x) : mkL m k os = (os.take k).map (fun e => (e.1, m, e.2.2)) ++ x :: os.drop (k + 1) ∧ ((os.take k).map (fun e => ((e.1, m, e.2.2) : I4))).length = k := by
  have hk := (List.getElem?_eq_some_iff.1 h).1
  refine ⟨?_, by rw [List.length_map, List.length_take]; omega⟩
  unfold mkL
  rw [List.drop_eq_getElem_cons hk, (List.getElem?_eq_some_iff.1 h).2]
theorem mkL_at {m : Int} {k : Nat} {os : List I4} {x : I4} (h : os[k]? = some x) : (mkL m k os)[k]? = some x := by
  obtain ⟨h1, h2⟩ := mkL_split (m := m) h
  rw [h1, List.getElem?_append_right (by omega), h2, Nat.sub_self]
  rfl
theorem mkL_step {m : Int} {k : Nat} {os : List I4} {p q r s : Int} (h : os[k]? = some (p, q, r, s)) : (mkL m k os).set k (p, m, r, s) = mkL m (k + 1) os := by
  obtain ⟨h1, h2⟩ := mkL_split (m := m) h
  rw [h1, List.set_append_right _ _ (by omega), h2, Nat.sub_self, List.set_cons_zero]
  unfold mkL
  rw [List.take_add_one, h]
  simp
theorem mkL_all {m : Int} {k : Nat} {os : List I4} (h : os.length ≤ k) : ∀ e ∈ mkL m k os, e.2.1 = m := by
  intro e he
  unfold mkL at he
  rw [List.drop_of_length_le h, List.append_nil] at he
  obtain ⟨x, _, rfl⟩ := List.mem_map.1 he
  rfl
theorem OR.nonnil {w : World} {B e : Nat} {a : Option Addr} {n c i : Nat} {es : List I4} {x : I4} (h : OR 4 enE w B e (.slice a n c) es) (hi : es[i]? = some x) : ∃ g, a = some ⟨g, 0, none⟩ := by
  obtain ⟨hl, ⟨e0, h0⟩ | ⟨g', cap, cur, e0, _⟩⟩ := h
  · have : es = [] := List.eq_nil_of_length_eq_zero h0
    rw [this] at hi
    cases hi
  · rw [Value.slice.injEq] at e0
    exact ⟨g', e0.1⟩
set_option maxRecDepth 20000 in
set_option maxHeartbeats 4000000 in
theorem core (a : Option Addr) (n c : Nat) (es : List I4) (cut : Int) (a2 : Option Addr) (n2 c2 : Nat) (os : List I4) (w : World) (h : RV 4 enE w (.slice a n c) es) (hwf : ∀ x ∈ es, (Lit.int .i64 x.2.1).wf = true) (h2 : RV 4 enE w (.slice a2 n2 c2) os) :
    Calls Try.prog 5 #[.slice a n c, .int .i64 cut, .slice a2 n2 c2] w fun e w' => e = .returned (.bool true) ∧ Below w.heap.size w w' := by
  have HWK := Lib.hid (works_v w)
  have HR := Lib.hid h
  have HR2 := Lib.hid h2
  have hn := h.len
  have hn2 := h2.len
  have HWF := Lib.hid hwf
  have hmx := hn.2.2
  have hnc := hn.2.1
  unfold maxLen at hmx
  have HN := Lib.hid hn.1
  have HN2 := Lib.hid hn2.1
  clear h h2 hwf hn hn2
  by_cases hb1 : 300 < n
  · have hbI : (300 : Int) < (n : Int) := by omega
    go_enter Try.func5, Try.ntmps5
    go_wp2_with (go_at_call 6; (with_reducible refine HWK.out.mono ?_); rintro _ w1 ⟨rfl, hw1⟩)
    go_ret
    exact ⟨rfl, hw1⟩
  by_cases hb2 : 100 < n2
  · have hbI : (100 : Int) < (n2 : Int) := by omega
    have hbJ : ¬ (300 : Int) < (n : Int) := by omega
    go_enter Try.func5, Try.ntmps5
    go_wp2_with (go_at_call 6; (with_reducible refine HWK.out.mono ?_); rintro _ w1 ⟨rfl, hw1⟩)
    go_ret
    exact ⟨rfl, hw1⟩
  have hn300 : n ≤ 300 := by omega
  have hn100 : n2 ≤ 100 := by omega
  obtain ⟨ci, hci⟩ : ∃ ci, (chk es).1 = ci := ⟨_, rfl⟩
  obtain ⟨cr, hcr⟩ : ∃ cr, (chk es).2 = cr := ⟨_, rfl⟩
  have HCI := Lib.hid hci
  have HCR := Lib.hid hcr
  have HOWN : Hid (∀ w', Below w.heap.size w w' → Calls Try.prog 8 #[.slice a n c] w' fun e w'' => ∃ a' m' c', e = .returned (.slice a' m' c') ∧ Hid (RV 4 enE w'' (.slice a' m' c') es) ∧ Below w'.heap.size w' w'') := Lib.hid (fun w' hb => by
    refine (own_v _ _ _ es w' (HR.out.below hb) (by omega)).mono ?_
    rintro e w'' ⟨a', m', c', rfl, h1, h2⟩
    exact ⟨_, _, _, rfl, Lib.hid h1, h2⟩)
  have HCK : Hid (∀ a' m' c' w', RV 4 enE w' (.slice a' m' c') es → Calls Try.prog 7 #[.slice a' m' c'] w' fun e w'' => e = .returned (.tuple #[.int .i64 (ci : Int), .int .i64 cr]) ∧ Below w'.heap.size w' w'') := Lib.hid (fun a' m' c' w' h => by
    have := check_v a' m' c' es w' h (by have := h.len.1; have := HN.out; omega) HWF.out
    rw [hci, hcr] at this
    exact this)
  have hbI : ¬ (300 : Int) < (n : Int) := by omega
  have hbJ : ¬ (100 : Int) < (n2 : Int) := by omega
  obtain ⟨tn, htn, htle⟩ := cut_at cut n (by omega)
  clear hci hcr hb1 hb2
  go_enter Try.func5, Try.ntmps5
  go_upto_region 6 with (first
    | (go_at_call 6; (with_reducible refine HWK.out.mono ?_); rintro _ w1 ⟨rfl, hw1⟩; have HW1 := Lib.hid hw1; clear hw1)
    | (go_at_call 8; (with_reducible refine (HOWN.out _ HW1.out).mono ?_); rintro _ w2 ⟨oa, om, oc, rfl, hr2, hw2⟩; have HW2 := Lib.hid (tr3 HW1.out hw2); clear hw2)
    | (go_at_call 7; (with_reducible refine (HCK.out _ _ _ _ hr2.out).mono ?_); rintro _ w3 ⟨rfl, hw3⟩; have HW3 := Lib.hid (tr3 HW2.out hw3); clear hw3))
  clear hr2
  by_cases h0 : cr = 0
  · subst h0
    have HKC : Hid ((chk (es.take tn)).2 = 0) := Lib.hid (chk_ok HCR.out tn)
    have hK := htle
    have HOWK : Hid (∀ w', Below w.heap.size w w' → Calls Try.prog 8 #[.slice a tn c] w' fun e w'' => ∃ a' m' c', e = .returned (.slice a' m' c') ∧ Hid (RV 4 enE w'' (.slice a' m' c') (es.take tn)) ∧ Below w'.heap.size w' w'') := Lib.hid (fun w' hb => by
      refine (own_v _ _ _ (es.take tn) w' (Go.Proofs.Ytgbeghaojkhiaaa.tr.RV.take (HR.out.below hb) tn hK) (by omega)).mono ?_
      rintro e w'' ⟨a', m', c', rfl, h1, h2⟩
      exact ⟨_, _, _, rfl, Lib.hid h1, h2⟩)
    have HCKK : Hid (∀ a' m' c' w', RV 4 enE w' (.slice a' m' c') (es.take tn) → Calls Try.prog 7 #[.slice a' m' c'] w' fun e w'' => ∃ x, e = .returned (.tuple #[.int .i64 x, .int .i64 0]) ∧ Below w'.heap.size w' w'') := Lib.hid (fun a' m' c' w' h => by
      refine (check_v a' m' c' (es.take tn) w' h (by have := h.len.1; rw [List.length_take] at this; omega) (fun x hx => HWF.out x (List.mem_of_mem_take hx))).mono ?_
      rintro e w'' ⟨rfl, hb⟩
      rw [HKC.out]
      exact ⟨_, rfl, hb⟩)
    have hKI : (tn : Int) ≤ (c : Int) := by omega
    have hKJ : (0 : Int) ≤ (tn : Int) := by omega
    have htn : tn ≤ c := by omega
    clear hK
    go_upto_region 12 with (first
      | (go_at_call 8; (with_reducible refine (HOWK.out _ HW3.out).mono ?_); rintro _ w5 ⟨pa, pm, pc, rfl, hr5, hw5⟩; have HW5 := Lib.hid (tr3 HW3.out hw5); clear hw5)
      | (go_at_call 7; (with_reducible refine (HCKK.out _ _ _ _ hr5.out).mono ?_); rintro _ w6 ⟨x6, rfl, hw6⟩; have HW6 := Lib.hid (tr3 HW5.out hw6); clear hw6))
    clear hr5
    go_wp2_with fail
    go_loopw [12, 13] (fun mv iv wr => ∃ (k : Nat) (mo : Int), mv = .int .i64 mo ∧ iv = .int .i64 (k : Int) ∧ k ≤ n ∧ 0 ≤ mo ∧ mo ≤ 1099511627776 ∧ Hid (Below w.heap.size w wr) ∧ Hid (∀ (j : Nat) (e : I4), j < k → es[j]? = some e → e.2.1 ≤ mo)) (fun mv iv _ => n - (intOf iv).toNat)
    case atStart => exact ⟨0, 0, rfl, by go_num, by omega, by omega, by omega, HW6, Lib.hid (fun j e h => by omega)⟩
    case round =>
      clear HW1 HW2 HW3 HW5 HW6 HWK HOWN HCK HOWK HCKK HKC
      obtain ⟨k, mo, rfl, rfl, hk, hm0, hm1, HBK, HMX⟩ := hrel
      by_cases hlt : k < n
      · obtain ⟨⟨k0, z, i0, s0⟩, hx⟩ : ∃ x, es[k]? = some x := ⟨es[k]'(by rw [← HN.out]; exact hlt), by simp⟩
        have HX := Lib.hid hx
        obtain ⟨b, o, rfl, hbl, c0, c1, c2, c3⟩ := RV.fourE (HR.out.below HBK.out) k hx
        have d1 : (k : Int) < (n : Int) := by omega
        clear hx c0 c2 c3 hbl
        by_cases hz : 1099511627776 < z
        · have hzd : decide ((1099511627776 : Int) < z) = true := decide_eq_true hz
          go_wp2_with fail
          go_ret
          exact ⟨rfl, HBK.out⟩
        · have hzd : decide ((1099511627776 : Int) < z) = false := decide_eq_false hz
          obtain ⟨mx, hmx⟩ : ∃ mx, (if mo < z then z else mo) = mx := ⟨_, rfl⟩
          have HMX2 : Hid (0 ≤ mx ∧ mx ≤ 1099511627776 ∧ mo ≤ mx ∧ z ≤ mx) := Lib.hid (by rw [← hmx]; split <;> omega)
          go_wp2_with fail
          try rw [hmx]
          go_roundw
          case rel => exact ⟨k + 1, mx, rfl, by go_num, by omega, HMX2.out.1, HMX2.out.2.1, HBK, Lib.hid (fun j e hj he => by
            by_cases e2 : j = k
            · subst e2
              rw [HX.out] at he
              cases he
              exact HMX2.out.2.2.2
            · exact Int.le_trans (HMX.out j e (by omega) he) HMX2.out.2.2.1)⟩
          case measure => simp [intOf]; omega
      · obtain rfl : k = n := by omega
        obtain ⟨m1, hm1'⟩ : ∃ m1, mo + 1 = m1 := ⟨_, rfl⟩
        have hwm : IntKind.i64.wrap m1 = m1 := by rw [IntKind.wrap_i64]; omega
        have HWFM : Hid ((Lit.int .i64 m1).wf = true) := Lib.hid (by
          have h1 : IntKind.i64.min = -9223372036854775808 := by decide
          have h2 : IntKind.i64.max = 9223372036854775807 := by decide
          simp [Lit.wf]
          omega)
        have HLO : Hid (∀ e ∈ es, e.2.1 ≠ m1) := Lib.hid (fun e he => by
          obtain ⟨j, hj⟩ := List.getElem?_of_mem he
          have := HMX.out j e (by rw [HN.out]; exact (List.getElem?_eq_some_iff.1 hj).1) hj
          omega)
        have HOWM : Hid (∀ w', Below w.heap.size w w' → Calls Try.prog 8 #[.slice a2 n2 c2] w' fun e w'' => ∃ a' c' B, e = .returned (.slice a' n2 c') ∧ Hid (OR 4 enE w'' B 45 (.slice a' n2 c') os) ∧ w.heap.size ≤ B ∧ Below w'.heap.size w' w'') := Lib.hid (fun w' hb => by
          refine (own_o _ _ _ os w' (HR2.out.below hb) (by omega)).mono ?_
          rintro e w'' ⟨a', c', rfl, h1, h2⟩
          exact ⟨_, _, _, rfl, Lib.hid h1, hb.size, h2⟩)
        clear HMX
        go_wp2_with (go_at_call 8; (with_reducible refine (HOWM.out _ HBK.out).mono ?_); rintro _ w8 ⟨oa, oc, B, rfl, ho8, hB8, hw8⟩; have HW8 := Lib.hid (tr3 HBK.out hw8); have HB8 := Lib.hid hB8; clear hw8 hB8)
        have HO8 : Hid (OR 4 enE w8 B 45 (.slice oa n2 oc) (mkL m1 0 os)) := Lib.hid (by rw [mkL_zero]; exact ho8.out)
        clear ho8
        obtain ⟨wO, rfl⟩ : ∃ x, x = wr := ⟨_, rfl⟩
        go_loopw [15] (fun iv wr => ∃ j : Nat, iv = .int .i64 (j : Int) ∧ j ≤ n2 ∧ Hid (OR 4 enE wr B 45 (.slice oa n2 oc) (mkL m1 j os)) ∧ Hid (Below w.heap.size w wr)) (fun iv _ => n2 - (intOf iv).toNat)
        case atStart => exact ⟨0, by go_num, by omega, HO8, HW8⟩
        case round =>
          clear HO8 HW8
          obtain ⟨j, rfl, hj, HO, HBJ⟩ := hrel
          by_cases hjl : j < n2
          · obtain ⟨⟨p, q, r, s⟩, hx⟩ : ∃ x, os[j]? = some x := ⟨os[j]'(by rw [← HN2.out]; exact hjl), by simp⟩
            have hx' := mkL_at (m := m1) hx
            obtain ⟨g, rfl⟩ := OR.nonnil HO.out hx'
            obtain ⟨cc, cf, cB⟩ := OR.cellE HO.out hx'
            have HO2 : Hid (OR 4 enE (wr.setCell ⟨g, j * 4 + 1, none⟩ (.int .i64 m1)) B 45 (.slice (some ⟨g, 0, none⟩) n2 oc) (mkL m1 (j + 1) os)) := Lib.hid (by
              have := OR.setE (m := m1) HO.out hx'
              rw [mkL_step hx] at this
              exact this)
            have HB2 := Lib.hid (set_below (i := j * 4 + 1) (v := .int .i64 m1) HBJ.out (Nat.le_trans HB8.out cB))
            have jI : (j : Int) < (n2 : Int) := by omega
            clear hx hx' cB HO HBJ
            go_wp2_with fail
            go_roundw
            case rel => exact ⟨j + 1, by go_num, by omega, HO2, HB2⟩
            case measure => simp [intOf]; omega
          · obtain rfl : j = n2 := by omega
            obtain ⟨ot, hot⟩ : ∃ ot, mkL m1 j os = ot := ⟨_, rfl⟩
            have HOA : Hid (∀ e ∈ ot, e.2.1 = m1) := Lib.hid (by rw [← hot]; exact mkL_all (by rw [← HN2.out]; exact Nat.le_refl _))
            have HOL : Hid (j = ot.length) := Lib.hid (by rw [← hot, mkL_len]; exact HN2.out)
            rw [hot] at HO
            have HRO := Lib.hid (OR.rv recE HO.out)
            obtain ⟨co, hco⟩ : ∃ co, (chk ot).2 = co := ⟨_, rfl⟩
            have HCO := Lib.hid hco
            have HOWO : Hid (∀ w', Below wr.heap.size wr w' → Calls Try.prog 8 #[.slice oa j oc] w' fun e w'' => ∃ a' m' c', e = .returned (.slice a' m' c') ∧ Hid (RV 4 enE w'' (.slice a' m' c') ot) ∧ Below w'.heap.size w' w'') := Lib.hid (fun w' hb => by
              refine (own_v _ _ _ ot w' (HRO.out.below hb) (by omega)).mono ?_
              rintro e w'' ⟨a', m', c', rfl, h1, h2⟩
              exact ⟨_, _, _, rfl, Lib.hid h1, h2⟩)
            have HCKO : Hid (∀ a' m' c' w', RV 4 enE w' (.slice a' m' c') ot → Calls Try.prog 7 #[.slice a' m' c'] w' fun e w'' => ∃ x, e = .returned (.tuple #[.int .i64 x, .int .i64 co]) ∧ Below w'.heap.size w' w'') := Lib.hid (fun a' m' c' w' h => by
              refine (check_v a' m' c' ot w' h (by have := h.len.1; have := HOL.out; omega) (fun x hx => by rw [HOA.out x hx]; exact HWFM.out)).mono ?_
              rintro e w'' ⟨rfl, hb⟩
              rw [HCO.out]
              exact ⟨_, rfl, hb⟩)
            clear hot hco HO
            go_upto_region 25 with (first
              | (go_at_call 8; (with_reducible refine (HOWO.out _ (Below.refl _ _)).mono ?_); rintro _ w9 ⟨qa, qm, qc, rfl, hr9, hw9⟩; have HB9 := Lib.hid hw9; clear hw9)
              | (go_at_call 7; (with_reducible refine (HCKO.out _ _ _ _ hr9.out).mono ?_); rintro _ wq ⟨xq, rfl, hwq⟩; have HBQ := Lib.hid (tr3 HB9.out hwq); clear hwq))
            clear hr9
            by_cases hc0 : ¬ co = 0
            · have hc0b : (co != 0) = true := by simpa using hc0
              have hc0d : decide (co = 0) = false := decide_eq_false hc0
              go_wp2_with fail
              go_ret
              exact ⟨rfl, tr3 HBJ.out HBQ.out⟩
            have hc0 : co = 0 := Decidable.of_not_not hc0
            subst hc0
            have HRE : Hid (∀ w', Below wq.heap.size wq w' → RV 4 enE w' (.slice a k c) es ∧ RV 4 enE w' (.slice oa j oc) ot) := Lib.hid (fun w' hb => ⟨HR.out.below (tr3 (tr3 HBJ.out HBQ.out) hb), HRO.out.below (tr3 HBQ.out hb)⟩)
            have HBW := Lib.hid (tr3 HBJ.out HBQ.out)
            have HMXL : Hid (∀ i, (mixN es ot i).length ≤ 400) := Lib.hid (fun i => by have := mix_len es ot i; have := HN.out; have := HOL.out; omega)
            have HFIN : Hid (∀ a' m' c' w' i, k ≤ i → j ≤ i → RV 4 enE w' (.slice a' m' c') (mixN es ot i) → Calls Try.prog 7 #[.slice a' m' c'] w' fun e w'' => ∃ x, e = .returned (.tuple #[.int .i64 x, .int .i64 0]) ∧ Below w'.heap.size w' w'') := Lib.hid (fun a' m' c' w' i h1 h2 h => by
              have hl := h.len.1
              have hm := HMXL.out i
              have hwfm : ∀ x ∈ mixN es ot i, (Lit.int .i64 x.2.1).wf = true := fun x hx => by
                obtain ⟨f1, f2⟩ := mix_filter m1 es ot HLO.out HOA.out i
                by_cases e : x.2.1 = m1
                · rw [e]; exact HWFM.out
                · have : x ∈ (mixN es ot i).filter fun e => decide (e.2.1 ≠ m1) := List.mem_filter.2 ⟨hx, by simpa using e⟩
                  rw [f2] at this
                  exact HWF.out x (List.mem_of_mem_take this)
              refine (check_v a' m' c' _ w' h (by omega) hwfm).mono ?_
              rintro e w'' ⟨rfl, hb⟩
              rw [mix_chk HLO.out HOA.out HCO.out (by rw [← HN.out]; exact h1) (by rw [← HOL.out]; exact h2), HCR.out]
              exact ⟨_, rfl, hb⟩)
            clear HOWO HCKO HBQ HB9 HRO HBJ HOWM
            go_wp2_with fail
            have HI3 : Hid (OR 4 enE wq wq.heap.size 45 (.slice none 0 0) (mixN es ot 0)) := Lib.hid (OR.nil _ _ _)
            have HI4 : Hid (Below wq.heap.size wq wq) := Lib.hid (Below.refl _ _)
            go_loopw [18, 19] (fun bv iv wr => ∃ (i : Nat) (ba : Option Addr) (bn bc : Nat), bv = .slice ba bn bc ∧ iv = .int .i64 (i : Int) ∧ i ≤ k + j ∧ Hid (OR 4 enE wr wq.heap.size 45 (.slice ba bn bc) (mixN es ot i)) ∧ Hid (Below wq.heap.size wq wr)) (fun bv iv _ => k + j - (intOf iv).toNat)
            case atStart => exact ⟨0, none, 0, 0, rfl, by go_num, by omega, HI3, HI4⟩
            case round =>
              clear HI3 HI4
              obtain ⟨i, ba, bn, bc, rfl, rfl, hi, HO3, HB3⟩ := hrel
              by_cases ha : i < k
              · obtain ⟨⟨p0, p1, p2, p3⟩, hx⟩ : ∃ x, es[i]? = some x := ⟨es[i]'(by rw [← HN.out]; exact ha), by simp⟩
                obtain ⟨b, o, rfl, hbl, c0, c1, c2, c3⟩ := RV.fourE (HRE.out _ HB3.out).1 i hx
                have aI : (i : Int) < (k : Int) := by omega
                by_cases hb : i < j
                · obtain ⟨⟨q0, q1, q2, q3⟩, hy⟩ : ∃ x, ot[i]? = some x := ⟨ot[i]'(by rw [← HOL.out]; exact hb), by simp⟩
                  obtain ⟨b2, o2, rfl, hbl2, y0, y1, y2, y3⟩ := RV.fourE (HRE.out _ HB3.out).2 i hy
                  have HY := Lib.hid hy
                  have bI : (i : Int) < (j : Int) := by omega
                  have HCE : Hid (mixN es ot (i + 1) = mixN es ot i ++ [(p0, p1, p2, p3)] ++ [(q0, q1, q2, q3)]) := Lib.hid (by
                    rw [mixN, hx, hy]
                    simp)
                  have hln : (mixN es ot i).length ≤ 1000000 := by have := HMXL.out i; omega
                  have hln2 : (mixN es ot i ++ [(p0, p1, p2, p3)]).length ≤ 1000000 := by have := HMXL.out i; rw [List.length_append]; simp; omega
                  obtain ⟨XS, hXS⟩ : ∃ XS, mixN es ot i = XS := ⟨_, rfl⟩
                  rw [hXS] at hln hln2 HO3 HCE
                  have HGo : Hid (∀ w', Below wr.heap.size wr w' → OR 4 enE w' wq.heap.size 45 (.slice ba bn bc) XS ∧ wq.heap.size ≤ w'.heap.size ∧ Below wq.heap.size wq w') := Lib.hid (fun w' hb => ⟨OR.below HO3.out hb, Nat.le_trans HB3.out.size hb.size, tr3 HB3.out hb⟩)
                  clear hXS hx hy y0 y1 y2 y3 hbl2
                  go_upto_region 33 with (at_builtin; refine wpList_appR rfl _ _ 22 45 _ 32 rfl Try.underlying22 infoEv rfl (by decide) recE wq.heap.size (.slice ba bn bc) XS rfl ⟨wr.heap.size, 0, none⟩ 1 rfl (p0, p1, p2, p3) (HGo.out _ (by go_grown)).1 (rec_new rfl rfl) hln (HGo.out _ (by go_grown)).2.1 ?_)
                  intro v2 w2 ho2 hg2 hor2
                  obtain ⟨xa, xc, rfl⟩ := ho2.form
                  obtain ⟨vn, hvn⟩ : ∃ vn, (XS ++ [(p0, p1, p2, p3)]).length = vn := ⟨_, rfl⟩
                  rw [hvn] at ho2 ⊢
                  obtain ⟨YS, hYS⟩ : ∃ YS, XS ++ [(p0, p1, p2, p3)] = YS := ⟨_, rfl⟩
                  rw [hYS] at ho2 hln2 HCE
                  have HO9 := Lib.hid ho2
                  have HB9 : Hid (Below wq.heap.size wq w2) := Lib.hid (by
                    obtain ⟨q1, q2, q3⟩ := HGo.out (wr.alloc (.cells #[.int .i64 p0, .int .i64 p1, .int .i64 p2, .int .i64 p3] 45)) (by go_grown)
                    exact q3.trans ⟨hg2.os, hg2.tape, hg2.output, hg2.size, fun p hp => hg2.block p (Nat.lt_of_lt_of_le hp q2) (fun e => by have := (q1.lt p e.symm).1; omega)⟩)
                  obtain ⟨b', o', e', _, g0, g1, g2, g3⟩ := RV.fourE (HRE.out _ HB9.out).2 i HY.out
                  cases e'
                  have HGp : Hid (∀ w', Below w2.heap.size w2 w' → OR 4 enE w' wq.heap.size 45 (.slice xa vn xc) YS ∧ wq.heap.size ≤ w'.heap.size ∧ Below wq.heap.size wq w') := Lib.hid (fun w' hb => ⟨OR.below HO9.out hb, Nat.le_trans HB9.out.size hb.size, tr3 HB9.out hb⟩)
                  clear ho2 hg2 hor2 hvn HGo hYS c0 c1 c2 c3
                  go_wp2_with (at_builtin; refine wpList_appR rfl _ _ 22 45 _ 32 rfl Try.underlying22 infoEv rfl (by decide) recE wq.heap.size (.slice xa vn xc) YS rfl ⟨w2.heap.size, 0, none⟩ 1 rfl (q0, q1, q2, q3) (HGp.out _ (by go_grown)).1 (rec_new rfl rfl) hln2 (HGp.out _ (by go_grown)).2.1 ?_)
                  intro v3 w4 ho4 hg4 hor4
                  obtain ⟨za, zc, rfl⟩ := ho4.form
                  obtain ⟨zn, hzn⟩ : ∃ zn, (YS ++ [(q0, q1, q2, q3)]).length = zn := ⟨_, rfl⟩
                  rw [hzn] at ho4 ⊢
                  rw [← HCE.out] at ho4
                  have HOx := Lib.hid ho4
                  have HBx : Hid (Below wq.heap.size wq w4) := Lib.hid (by
                    obtain ⟨q1, q2, q3⟩ := HGp.out (w2.alloc (.cells #[.int .i64 q0, .int .i64 q1, .int .i64 q2, .int .i64 q3] 45)) (by go_grown)
                    exact q3.trans ⟨hg4.os, hg4.tape, hg4.output, hg4.size, fun p hp => hg4.block p (Nat.lt_of_lt_of_le hp q2) (fun e => by have := (q1.lt p e.symm).1; omega)⟩)
                  clear ho4 hg4 hor4 hzn HGp HCE
                  go_wp2_with fail
                  go_roundw
                  case rel => exact ⟨i + 1, za, zn, zc, rfl, by go_num, by omega, HOx, HBx⟩
                  case measure => simp [intOf]; omega
                · have bI : ¬ (i : Int) < (j : Int) := by omega
                  have HCE : Hid (mixN es ot (i + 1) = mixN es ot i ++ [(p0, p1, p2, p3)]) := Lib.hid (by
                    rw [mixN, hx, List.getElem?_eq_none (by rw [← HOL.out]; omega)]
                    simp)
                  have hln : (mixN es ot i).length ≤ 1000000 := by have := HMXL.out i; omega
                  obtain ⟨XS, hXS⟩ : ∃ XS, mixN es ot i = XS := ⟨_, rfl⟩
                  rw [hXS] at hln HO3 HCE
                  have HGo : Hid (∀ w', Below wr.heap.size wr w' → OR 4 enE w' wq.heap.size 45 (.slice ba bn bc) XS ∧ wq.heap.size ≤ w'.heap.size ∧ Below wq.heap.size wq w') := Lib.hid (fun w' hb => ⟨OR.below HO3.out hb, Nat.le_trans HB3.out.size hb.size, tr3 HB3.out hb⟩)
                  clear hXS hx
                  go_wp2_with (at_builtin; refine wpList_appR rfl _ _ 22 45 _ 32 rfl Try.underlying22 infoEv rfl (by decide) recE wq.heap.size (.slice ba bn bc) XS rfl ⟨wr.heap.size, 0, none⟩ 1 rfl (p0, p1, p2, p3) (HGo.out _ (by go_grown)).1 (rec_new rfl rfl) hln (HGo.out _ (by go_grown)).2.1 ?_)
                  intro v2 w2 ho2 hg2 hor2
                  obtain ⟨xa, xc, rfl⟩ := ho2.form
                  obtain ⟨vn, hvn⟩ : ∃ vn, (XS ++ [(p0, p1, p2, p3)]).length = vn := ⟨_, rfl⟩
                  rw [hvn] at ho2 ⊢
                  rw [← HCE.out] at ho2
                  have HO9 := Lib.hid ho2
                  have HB9 : Hid (Below wq.heap.size wq w2) := Lib.hid (by
                    obtain ⟨q1, q2, q3⟩ := HGo.out (wr.alloc (.cells #[.int .i64 p0, .int .i64 p1, .int .i64 p2, .int .i64 p3] 45)) (by go_grown)
                    exact q3.trans ⟨hg2.os, hg2.tape, hg2.output, hg2.size, fun p hp => hg2.block p (Nat.lt_of_lt_of_le hp q2) (fun e => by have := (q1.lt p e.symm).1; omega)⟩)
                  clear ho2 hg2 hor2 hvn HGo HCE
                  go_wp2_with fail
                  go_roundw
                  case rel => exact ⟨i + 1, xa, vn, xc, rfl, by go_num, by omega, HO9, HB9⟩
                  case measure => simp [intOf]; omega
              · have aI : ¬ (i : Int) < (k : Int) := by omega
                by_cases hb : i < j
                · obtain ⟨⟨p0, p1, p2, p3⟩, hx⟩ : ∃ x, ot[i]? = some x := ⟨ot[i]'(by rw [← HOL.out]; exact hb), by simp⟩
                  obtain ⟨b, o, rfl, hbl, c0, c1, c2, c3⟩ := RV.fourE (HRE.out _ HB3.out).2 i hx
                  have bI : (i : Int) < (j : Int) := by omega
                  have HCE : Hid (mixN es ot (i + 1) = mixN es ot i ++ [(p0, p1, p2, p3)]) := Lib.hid (by
                    rw [mixN, hx, List.getElem?_eq_none (by rw [← HN.out]; omega)]
                    simp)
                  have hln : (mixN es ot i).length ≤ 1000000 := by have := HMXL.out i; omega
                  obtain ⟨XS, hXS⟩ : ∃ XS, mixN es ot i = XS := ⟨_, rfl⟩
                  rw [hXS] at hln HO3 HCE
                  have HGo : Hid (∀ w', Below wr.heap.size wr w' → OR 4 enE w' wq.heap.size 45 (.slice ba bn bc) XS ∧ wq.heap.size ≤ w'.heap.size ∧ Below wq.heap.size wq w') := Lib.hid (fun w' hb => ⟨OR.below HO3.out hb, Nat.le_trans HB3.out.size hb.size, tr3 HB3.out hb⟩)
                  clear hXS hx
                  go_wp2_with (at_builtin; refine wpList_appR rfl _ _ 22 45 _ 32 rfl Try.underlying22 infoEv rfl (by decide) recE wq.heap.size (.slice ba bn bc) XS rfl ⟨wr.heap.size, 0, none⟩ 1 rfl (p0, p1, p2, p3) (HGo.out _ (by go_grown)).1 (rec_new rfl rfl) hln (HGo.out _ (by go_grown)).2.1 ?_)
                  intro v2 w2 ho2 hg2 hor2
                  obtain ⟨xa, xc, rfl⟩ := ho2.form
                  obtain ⟨vn, hvn⟩ : ∃ vn, (XS ++ [(p0, p1, p2, p3)]).length = vn := ⟨_, rfl⟩
                  rw [hvn] at ho2 ⊢
                  rw [← HCE.out] at ho2
                  have HO9 := Lib.hid ho2
                  have HB9 : Hid (Below wq.heap.size wq w2) := Lib.hid (by
                    obtain ⟨q1, q2, q3⟩ := HGo.out (wr.alloc (.cells #[.int .i64 p0, .int .i64 p1, .int .i64 p2, .int .i64 p3] 45)) (by go_grown)
                    exact q3.trans ⟨hg2.os, hg2.tape, hg2.output, hg2.size, fun p hp => hg2.block p (Nat.lt_of_lt_of_le hp q2) (fun e => by have := (q1.lt p e.symm).1; omega)⟩)
                  clear ho2 hg2 hor2 hvn HGo HCE
                  go_wp2_with fail
                  go_roundw
                  case rel => exact ⟨i + 1, xa, vn, xc, rfl, by go_num, by omega, HO9, HB9⟩
                  case measure => simp [intOf]; omega
                · have bI : ¬ (i : Int) < (j : Int) := by omega
                  have HR4 := Lib.hid (OR.rv recE HO3.out)
                  have HB4 := Lib.hid (tr3 HBW.out HB3.out)
                  have hki : k ≤ i := by omega
                  have hji : j ≤ i := by omega
                  go_wp2_with (go_at_call 7; (with_reducible refine (HFIN.out _ _ _ _ i hki hji HR4.out).mono ?_); rintro _ wf ⟨xf, rfl, hwf⟩; have HBF := Lib.hid (tr3 HB4.out hwf); clear hwf)
                  go_ret
                  exact ⟨by simp, HBF.out⟩
  · have h0b : (cr != 0) = true := by simpa using h0
    have h0d : decide (cr = 0) = false := decide_eq_false h0
    have HKC : Hid ((chk (es.take ci)).2 = 0) := Lib.hid (by have := (chk_cut (l := es) (by rw [HCR.out]; exact h0)).1; rw [HCI.out] at this; exact this)
    have hK : ci ≤ n := by have := (chk_cut (l := es) (by rw [HCR.out]; exact h0)).2; rw [HCI.out] at this; have := HN.out; omega
    have HOWK : Hid (∀ w', Below w.heap.size w w' → Calls Try.prog 8 #[.slice a ci c] w' fun e w'' => ∃ a' m' c', e = .returned (.slice a' m' c') ∧ Hid (RV 4 enE w'' (.slice a' m' c') (es.take ci)) ∧ Below w'.heap.size w' w'') := Lib.hid (fun w' hb => by
      refine (own_v _ _ _ (es.take ci) w' (Go.Proofs.Ytgbeghaojkhiaaa.tr.RV.take (HR.out.below hb) ci hK) (by omega)).mono ?_
      rintro e w'' ⟨a', m', c', rfl, h1, h2⟩
      exact ⟨_, _, _, rfl, Lib.hid h1, h2⟩)
    have HCKK : Hid (∀ a' m' c' w', RV 4 enE w' (.slice a' m' c') (es.take ci) → Calls Try.prog 7 #[.slice a' m' c'] w' fun e w'' => ∃ x, e = .returned (.tuple #[.int .i64 x, .int .i64 0]) ∧ Below w'.heap.size w' w'') := Lib.hid (fun a' m' c' w' h => by
      refine (check_v a' m' c' (es.take ci) w' h (by have := h.len.1; rw [List.length_take] at this; omega) (fun x hx => HWF.out x (List.mem_of_mem_take hx))).mono ?_
      rintro e w'' ⟨rfl, hb⟩
      rw [HKC.out]
      exact ⟨_, rfl, hb⟩)
    have hKI : (ci : Int) ≤ (c : Int) := by omega
    have hKJ : (0 : Int) ≤ (ci : Int) := by omega
    have htn : tn ≤ c := by omega
    clear hK
    go_upto_region 12 with (first
      | (go_at_call 8; (with_reducible refine (HOWK.out _ HW3.out).mono ?_); rintro _ w5 ⟨pa, pm, pc, rfl, hr5, hw5⟩; have HW5 := Lib.hid (tr3 HW3.out hw5); clear hw5)
      | (go_at_call 7; (with_reducible refine (HCKK.out _ _ _ _ hr5.out).mono ?_); rintro _ w6 ⟨x6, rfl, hw6⟩; have HW6 := Lib.hid (tr3 HW5.out hw6); clear hw6))
    clear hr5
    go_wp2_with fail
    go_loopw [12, 13] (fun mv iv wr => ∃ (k : Nat) (mo : Int), mv = .int .i64 mo ∧ iv = .int .i64 (k : Int) ∧ k ≤ n ∧ 0 ≤ mo ∧ mo ≤ 1099511627776 ∧ Hid (Below w.heap.size w wr) ∧ Hid (∀ (j : Nat) (e : I4), j < k → es[j]? = some e → e.2.1 ≤ mo)) (fun mv iv _ => n - (intOf iv).toNat)
    case atStart => exact ⟨0, 0, rfl, by go_num, by omega, by omega, by omega, HW6, Lib.hid (fun j e h => by omega)⟩
    case round =>
      clear HW1 HW2 HW3 HW5 HW6 HWK HOWN HCK HOWK HCKK HKC
      obtain ⟨k, mo, rfl, rfl, hk, hm0, hm1, HBK, HMX⟩ := hrel
      by_cases hlt : k < n
      · obtain ⟨⟨k0, z, i0, s0⟩, hx⟩ : ∃ x, es[k]? = some x := ⟨es[k]'(by rw [← HN.out]; exact hlt), by simp⟩
        have HX := Lib.hid hx
        obtain ⟨b, o, rfl, hbl, c0, c1, c2, c3⟩ := RV.fourE (HR.out.below HBK.out) k hx
        have d1 : (k : Int) < (n : Int) := by omega
        clear hx c0 c2 c3 hbl
        by_cases hz : 1099511627776 < z
        · have hzd : decide ((1099511627776 : Int) < z) = true := decide_eq_true hz
          go_wp2_with fail
          go_ret
          exact ⟨rfl, HBK.out⟩
        · have hzd : decide ((1099511627776 : Int) < z) = false := decide_eq_false hz
          obtain ⟨mx, hmx⟩ : ∃ mx, (if mo < z then z else mo) = mx := ⟨_, rfl⟩
          have HMX2 : Hid (0 ≤ mx ∧ mx ≤ 1099511627776 ∧ mo ≤ mx ∧ z ≤ mx) := Lib.hid (by rw [← hmx]; split <;> omega)
          go_wp2_with fail
          try rw [hmx]
          go_roundw
          case rel => exact ⟨k + 1, mx, rfl, by go_num, by omega, HMX2.out.1, HMX2.out.2.1, HBK, Lib.hid (fun j e hj he => by
            by_cases e2 : j = k
            · subst e2
              rw [HX.out] at he
              cases he
              exact HMX2.out.2.2.2
            · exact Int.le_trans (HMX.out j e (by omega) he) HMX2.out.2.2.1)⟩
          case measure => simp [intOf]; omega
      · obtain rfl : k = n := by omega
        obtain ⟨m1, hm1'⟩ : ∃ m1, mo + 1 = m1 := ⟨_, rfl⟩
        have hwm : IntKind.i64.wrap m1 = m1 := by rw [IntKind.wrap_i64]; omega
        have HWFM : Hid ((Lit.int .i64 m1).wf = true) := Lib.hid (by
          have h1 : IntKind.i64.min = -9223372036854775808 := by decide
          have h2 : IntKind.i64.max = 9223372036854775807 := by decide
          simp [Lit.wf]
          omega)
        have HLO : Hid (∀ e ∈ es, e.2.1 ≠ m1) := Lib.hid (fun e he => by
          obtain ⟨j, hj⟩ := List.getElem?_of_mem he
          have := HMX.out j e (by rw [HN.out]; exact (List.getElem?_eq_some_iff.1 hj).1) hj
          omega)
        have HOWM : Hid (∀ w', Below w.heap.size w w' → Calls Try.prog 8 #[.slice a2 n2 c2] w' fun e w'' => ∃ a' c' B, e = .returned (.slice a' n2 c') ∧ Hid (OR 4 enE w'' B 45 (.slice a' n2 c') os) ∧ w.heap.size ≤ B ∧ Below w'.heap.size w' w'') := Lib.hid (fun w' hb => by
          refine (own_o _ _ _ os w' (HR2.out.below hb) (by omega)).mono ?_
          rintro e w'' ⟨a', c', rfl, h1, h2⟩
          exact ⟨_, _, _, rfl, Lib.hid h1, hb.size, h2⟩)
        clear HMX
        go_wp2_with (go_at_call 8; (with_reducible refine (HOWM.out _ HBK.out).mono ?_); rintro _ w8 ⟨oa, oc, B, rfl, ho8, hB8, hw8⟩; have HW8 := Lib.hid (tr3 HBK.out hw8); have HB8 := Lib.hid hB8; clear hw8 hB8)
        have HO8 : Hid (OR 4 enE w8 B 45 (.slice oa n2 oc) (mkL m1 0 os)) := Lib.hid (by rw [mkL_zero]; exact ho8.out)
        clear ho8
        obtain ⟨wO, rfl⟩ : ∃ x, x = wr := ⟨_, rfl⟩
        go_loopw [15] (fun iv wr => ∃ j : Nat, iv = .int .i64 (j : Int) ∧ j ≤ n2 ∧ Hid (OR 4 enE wr B 45 (.slice oa n2 oc) (mkL m1 j os)) ∧ Hid (Below w.heap.size w wr)) (fun iv _ => n2 - (intOf iv).toNat)
        case atStart => exact ⟨0, by go_num, by omega, HO8, HW8⟩
        case round =>
          clear HO8 HW8
          obtain ⟨j, rfl, hj, HO, HBJ⟩ := hrel
          by_cases hjl : j < n2
          · obtain ⟨⟨p, q, r, s⟩, hx⟩ : ∃ x, os[j]? = some x := ⟨os[j]'(by rw [← HN2.out]; exact hjl), by simp⟩
            have hx' := mkL_at (m := m1) hx
            obtain ⟨g, rfl⟩ := OR.nonnil HO.out hx'
            obtain ⟨cc, cf, cB⟩ := OR.cellE HO.out hx'
            have HO2 : Hid (OR 4 enE (wr.setCell ⟨g, j * 4 + 1, none⟩ (.int .i64 m1)) B 45 (.slice (some ⟨g, 0, none⟩) n2 oc) (mkL m1 (j + 1) os)) := Lib.hid (by
              have := OR.setE (m := m1) HO.out hx'
              rw [mkL_step hx] at this
              exact this)
            have HB2 := Lib.hid (set_below (i := j * 4 + 1) (v := .int .i64 m1) HBJ.out (Nat.le_trans HB8.out cB))
            have jI : (j : Int) < (n2 : Int) := by omega
            clear hx hx' cB HO HBJ
            go_wp2_with fail
            go_roundw
            case rel => exact ⟨j + 1, by go_num, by omega, HO2, HB2⟩
            case measure => simp [intOf]; omega
          · obtain rfl : j = n2 := by omega
            obtain ⟨ot, hot⟩ : ∃ ot, mkL m1 j os = ot := ⟨_, rfl⟩
            have HOA : Hid (∀ e ∈ ot, e.2.1 = m1) := Lib.hid (by rw [← hot]; exact mkL_all (by rw [← HN2.out]; exact Nat.le_refl _))
            have HOL : Hid (j = ot.length) := Lib.hid (by rw [← hot, mkL_len]; exact HN2.out)
            rw [hot] at HO
            have HRO := Lib.hid (OR.rv recE HO.out)
            obtain ⟨co, hco⟩ : ∃ co, (chk ot).2 = co := ⟨_, rfl⟩
            have HCO := Lib.hid hco
            have HOWO : Hid (∀ w', Below wr.heap.size wr w' → Calls Try.prog 8 #[.slice oa j oc] w' fun e w'' => ∃ a' m' c', e = .returned (.slice a' m' c') ∧ Hid (RV 4 enE w'' (.slice a' m' c') ot) ∧ Below w'.heap.size w' w'') := Lib.hid (fun w' hb => by
              refine (own_v _ _ _ ot w' (HRO.out.below hb) (by omega)).mono ?_
              rintro e w'' ⟨a', m', c', rfl, h1, h2⟩
              exact ⟨_, _, _, rfl, Lib.hid h1, h2⟩)
            have HCKO : Hid (∀ a' m' c' w', RV 4 enE w' (.slice a' m' c') ot → Calls Try.prog 7 #[.slice a' m' c'] w' fun e w'' => ∃ x, e = .returned (.tuple #[.int .i64 x, .int .i64 co]) ∧ Below w'.heap.size w' w'') := Lib.hid (fun a' m' c' w' h => by
              refine (check_v a' m' c' ot w' h (by have := h.len.1; have := HOL.out; omega) (fun x hx => by rw [HOA.out x hx]; exact HWFM.out)).mono ?_
              rintro e w'' ⟨rfl, hb⟩
              rw [HCO.out]
              exact ⟨_, rfl, hb⟩)
            clear hot hco HO
            go_upto_region 25 with (first
              | (go_at_call 8; (with_reducible refine (HOWO.out _ (Below.refl _ _)).mono ?_); rintro _ w9 ⟨qa, qm, qc, rfl, hr9, hw9⟩; have HB9 := Lib.hid hw9; clear hw9)
              | (go_at_call 7; (with_reducible refine (HCKO.out _ _ _ _ hr9.out).mono ?_); rintro _ wq ⟨xq, rfl, hwq⟩; have HBQ := Lib.hid (tr3 HB9.out hwq); clear hwq))
            clear hr9
            by_cases hc0 : ¬ co = 0
            · have hc0b : (co != 0) = true := by simpa using hc0
              have hc0d : decide (co = 0) = false := decide_eq_false hc0
              go_wp2_with fail
              go_ret
              exact ⟨rfl, tr3 HBJ.out HBQ.out⟩
            have hc0 : co = 0 := Decidable.of_not_not hc0
            subst hc0
            have HRE : Hid (∀ w', Below wq.heap.size wq w' → RV 4 enE w' (.slice a k c) es ∧ RV 4 enE w' (.slice oa j oc) ot) := Lib.hid (fun w' hb => ⟨HR.out.below (tr3 (tr3 HBJ.out HBQ.out) hb), HRO.out.below (tr3 HBQ.out hb)⟩)
            have HBW := Lib.hid (tr3 HBJ.out HBQ.out)
            have HMXL : Hid (∀ i, (mixN es ot i).length ≤ 400) := Lib.hid (fun i => by have := mix_len es ot i; have := HN.out; have := HOL.out; omega)
            have HFIN : Hid (∀ a' m' c' w' i, k ≤ i → j ≤ i → RV 4 enE w' (.slice a' m' c') (mixN es ot i) → Calls Try.prog 7 #[.slice a' m' c'] w' fun e w'' => ∃ x, e = .returned (.tuple #[.int .i64 x, .int .i64 cr]) ∧ Below w'.heap.size w' w'') := Lib.hid (fun a' m' c' w' i h1 h2 h => by
              have hl := h.len.1
              have hm := HMXL.out i
              have hwfm : ∀ x ∈ mixN es ot i, (Lit.int .i64 x.2.1).wf = true := fun x hx => by
                obtain ⟨f1, f2⟩ := mix_filter m1 es ot HLO.out HOA.out i
                by_cases e : x.2.1 = m1
                · rw [e]; exact HWFM.out
                · have : x ∈ (mixN es ot i).filter fun e => decide (e.2.1 ≠ m1) := List.mem_filter.2 ⟨hx, by simpa using e⟩
                  rw [f2] at this
                  exact HWF.out x (List.mem_of_mem_take this)
              refine (check_v a' m' c' _ w' h (by omega) hwfm).mono ?_
              rintro e w'' ⟨rfl, hb⟩
              rw [mix_chk HLO.out HOA.out HCO.out (by rw [← HN.out]; exact h1) (by rw [← HOL.out]; exact h2), HCR.out]
              exact ⟨_, rfl, hb⟩)
            clear HOWO HCKO HBQ HB9 HRO HBJ HOWM
            go_wp2_with fail
            have HI3 : Hid (OR 4 enE wq wq.heap.size 45 (.slice none 0 0) (mixN es ot 0)) := Lib.hid (OR.nil _ _ _)
            have HI4 : Hid (Below wq.heap.size wq wq) := Lib.hid (Below.refl _ _)
            go_loopw [18, 19] (fun bv iv wr => ∃ (i : Nat) (ba : Option Addr) (bn bc : Nat), bv = .slice ba bn bc ∧ iv = .int .i64 (i : Int) ∧ i ≤ k + j ∧ Hid (OR 4 enE wr wq.heap.size 45 (.slice ba bn bc) (mixN es ot i)) ∧ Hid (Below wq.heap.size wq wr)) (fun bv iv _ => k + j - (intOf iv).toNat)
            case atStart => exact ⟨0, none, 0, 0, rfl, by go_num, by omega, HI3, HI4⟩
            case round =>
              clear HI3 HI4
              obtain ⟨i, ba, bn, bc, rfl, rfl, hi, HO3, HB3⟩ := hrel
              by_cases ha : i < k
              · obtain ⟨⟨p0, p1, p2, p3⟩, hx⟩ : ∃ x, es[i]? = some x := ⟨es[i]'(by rw [← HN.out]; exact ha), by simp⟩
                obtain ⟨b, o, rfl, hbl, c0, c1, c2, c3⟩ := RV.fourE (HRE.out _ HB3.out).1 i hx
                have aI : (i : Int) < (k : Int) := by omega
                by_cases hb : i < j
                · obtain ⟨⟨q0, q1, q2, q3⟩, hy⟩ : ∃ x, ot[i]? = some x := ⟨ot[i]'(by rw [← HOL.out]; exact hb), by simp⟩
                  obtain ⟨b2, o2, rfl, hbl2, y0, y1, y2, y3⟩ := RV.fourE (HRE.out _ HB3.out).2 i hy
                  have HY := Lib.hid hy
                  have bI : (i : Int) < (j : Int) := by omega
                  have HCE : Hid (mixN es ot (i + 1) = mixN es ot i ++ [(p0, p1, p2, p3)] ++ [(q0, q1, q2, q3)]) := Lib.hid (by
                    rw [mixN, hx, hy]
                    simp)
                  have hln : (mixN es ot i).length ≤ 1000000 := by have := HMXL.out i; omega
                  have hln2 : (mixN es ot i ++ [(p0, p1, p2, p3)]).length ≤ 1000000 := by have := HMXL.out i; rw [List.length_append]; simp; omega
                  obtain ⟨XS, hXS⟩ : ∃ XS, mixN es ot i = XS := ⟨_, rfl⟩
                  rw [hXS] at hln hln2 HO3 HCE
                  have HGo : Hid (∀ w', Below wr.heap.size wr w' → OR 4 enE w' wq.heap.size 45 (.slice ba bn bc) XS ∧ wq.heap.size ≤ w'.heap.size ∧ Below wq.heap.size wq w') := Lib.hid (fun w' hb => ⟨OR.below HO3.out hb, Nat.le_trans HB3.out.size hb.size, tr3 HB3.out hb⟩)
                  clear hXS hx hy y0 y1 y2 y3 hbl2
                  go_upto_region 33 with (at_builtin; refine wpList_appR rfl _ _ 22 45 _ 32 rfl Try.underlying22 infoEv rfl (by decide) recE wq.heap.size (.slice ba bn bc) XS rfl ⟨wr.heap.size, 0, none⟩ 1 rfl (p0, p1, p2, p3) (HGo.out _ (by go_grown)).1 (rec_new rfl rfl) hln (HGo.out _ (by go_grown)).2.1 ?_)
                  intro v2 w2 ho2 hg2 hor2
                  obtain ⟨xa, xc, rfl⟩ := ho2.form
                  obtain ⟨vn, hvn⟩ : ∃ vn, (XS ++ [(p0, p1, p2, p3)]).length = vn := ⟨_, rfl⟩
                  rw [hvn] at ho2 ⊢
                  obtain ⟨YS, hYS⟩ : ∃ YS, XS ++ [(p0, p1, p2, p3)] = YS := ⟨_, rfl⟩
                  rw [hYS] at ho2 hln2 HCE
                  have HO9 := Lib.hid ho2
                  have HB9 : Hid (Below wq.heap.size wq w2) := Lib.hid (by
                    obtain ⟨q1, q2, q3⟩ := HGo.out (wr.alloc (.cells #[.int .i64 p0, .int .i64 p1, .int .i64 p2, .int .i64 p3] 45)) (by go_grown)
                    exact q3.trans ⟨hg2.os, hg2.tape, hg2.output, hg2.size, fun p hp => hg2.block p (Nat.lt_of_lt_of_le hp q2) (fun e => by have := (q1.lt p e.symm).1; omega)⟩)
                  obtain ⟨b', o', e', _, g0, g1, g2, g3⟩ := RV.fourE (HRE.out _ HB9.out).2 i HY.out
                  cases e'
                  have HGp : Hid (∀ w', Below w2.heap.size w2 w' → OR 4 enE w' wq.heap.size 45 (.slice xa vn xc) YS ∧ wq.heap.size ≤ w'.heap.size ∧ Below wq.heap.size wq w') := Lib.hid (fun w' hb => ⟨OR.below HO9.out hb, Nat.le_trans HB9.out.size hb.size, tr3 HB9.out hb⟩)
                  clear ho2 hg2 hor2 hvn HGo hYS c0 c1 c2 c3
                  go_wp2_with (at_builtin; refine wpList_appR rfl _ _ 22 45 _ 32 rfl Try.underlying22 infoEv rfl (by decide) recE wq.heap.size (.slice xa vn xc) YS rfl ⟨w2.heap.size, 0, none⟩ 1 rfl (q0, q1, q2, q3) (HGp.out _ (by go_grown)).1 (rec_new rfl rfl) hln2 (HGp.out _ (by go_grown)).2.1 ?_)
                  intro v3 w4 ho4 hg4 hor4
                  obtain ⟨za, zc, rfl⟩ := ho4.form
                  obtain ⟨zn, hzn⟩ : ∃ zn, (YS ++ [(q0, q1, q2, q3)]).length = zn := ⟨_, rfl⟩
                  rw [hzn] at ho4 ⊢
                  rw [← HCE.out] at ho4
                  have HOx := Lib.hid ho4
                  have HBx : Hid (Below wq.heap.size wq w4) := Lib.hid (by
                    obtain ⟨q1, q2, q3⟩ := HGp.out (w2.alloc (.cells #[.int .i64 q0, .int .i64 q1, .int .i64 q2, .int .i64 q3] 45)) (by go_grown)
                    exact q3.trans ⟨hg4.os, hg4.tape, hg4.output, hg4.size, fun p hp => hg4.block p (Nat.lt_of_lt_of_le hp q2) (fun e => by have := (q1.lt p e.symm).1; omega)⟩)
                  clear ho4 hg4 hor4 hzn HGp HCE
                  go_wp2_with fail
                  go_roundw
                  case rel => exact ⟨i + 1, za, zn, zc, rfl, by go_num, by omega, HOx, HBx⟩
                  case measure => simp [intOf]; omega
                · have bI : ¬ (i : Int) < (j : Int) := by omega
                  have HCE : Hid (mixN es ot (i + 1) = mixN es ot i ++ [(p0, p1, p2, p3)]) := Lib.hid (by
                    rw [mixN, hx, List.getElem?_eq_none (by rw [← HOL.out]; omega)]
                    simp)
                  have hln : (mixN es ot i).length ≤ 1000000 := by have := HMXL.out i; omega
                  obtain ⟨XS, hXS⟩ : ∃ XS, mixN es ot i = XS := ⟨_, rfl⟩
                  rw [hXS] at hln HO3 HCE
                  have HGo : Hid (∀ w', Below wr.heap.size wr w' → OR 4 enE w' wq.heap.size 45 (.slice ba bn bc) XS ∧ wq.heap.size ≤ w'.heap.size ∧ Below wq.heap.size wq w') := Lib.hid (fun w' hb => ⟨OR.below HO3.out hb, Nat.le_trans HB3.out.size hb.size, tr3 HB3.out hb⟩)
                  clear hXS hx
                  go_wp2_with (at_builtin; refine wpList_appR rfl _ _ 22 45 _ 32 rfl Try.underlying22 infoEv rfl (by decide) recE wq.heap.size (.slice ba bn bc) XS rfl ⟨wr.heap.size, 0, none⟩ 1 rfl (p0, p1, p2, p3) (HGo.out _ (by go_grown)).1 (rec_new rfl rfl) hln (HGo.out _ (by go_grown)).2.1 ?_)
                  intro v2 w2 ho2 hg2 hor2
                  obtain ⟨xa, xc, rfl⟩ := ho2.form
                  obtain ⟨vn, hvn⟩ : ∃ vn, (XS ++ [(p0, p1, p2, p3)]).length = vn := ⟨_, rfl⟩
                  rw [hvn] at ho2 ⊢
                  rw [← HCE.out] at ho2
                  have HO9 := Lib.hid ho2
                  have HB9 : Hid (Below wq.heap.size wq w2) := Lib.hid (by
                    obtain ⟨q1, q2, q3⟩ := HGo.out (wr.alloc (.cells #[.int .i64 p0, .int .i64 p1, .int .i64 p2, .int .i64 p3] 45)) (by go_grown)
                    exact q3.trans ⟨hg2.os, hg2.tape, hg2.output, hg2.size, fun p hp => hg2.block p (Nat.lt_of_lt_of_le hp q2) (fun e => by have := (q1.lt p e.symm).1; omega)⟩)
                  clear ho2 hg2 hor2 hvn HGo HCE
                  go_wp2_with fail
                  go_roundw
                  case rel => exact ⟨i + 1, xa, vn, xc, rfl, by go_num, by omega, HO9, HB9⟩
                  case measure => simp [intOf]; omega
              · have aI : ¬ (i : Int) < (k : Int) := by omega
                by_cases hb : i < j
                · obtain ⟨⟨p0, p1, p2, p3⟩, hx⟩ : ∃ x, ot[i]? = some x := ⟨ot[i]'(by rw [← HOL.out]; exact hb), by simp⟩
                  obtain ⟨b, o, rfl, hbl, c0, c1, c2, c3⟩ := RV.fourE (HRE.out _ HB3.out).2 i hx
                  have bI : (i : Int) < (j : Int) := by omega
                  have HCE : Hid (mixN es ot (i + 1) = mixN es ot i ++ [(p0, p1, p2, p3)]) := Lib.hid (by
                    rw [mixN, hx, List.getElem?_eq_none (by rw [← HN.out]; omega)]
                    simp)
                  have hln : (mixN es ot i).length ≤ 1000000 := by have := HMXL.out i; omega
                  obtain ⟨XS, hXS⟩ : ∃ XS, mixN es ot i = XS := ⟨_, rfl⟩
                  rw [hXS] at hln HO3 HCE
                  have HGo : Hid (∀ w', Below wr.heap.size wr w' → OR 4 enE w' wq.heap.size 45 (.slice ba bn bc) XS ∧ wq.heap.size ≤ w'.heap.size ∧ Below wq.heap.size wq w') := Lib.hid (fun w' hb => ⟨OR.below HO3.out hb, Nat.le_trans HB3.out.size hb.size, tr3 HB3.out hb⟩)
                  clear hXS hx
                  go_wp2_with (at_builtin; refine wpList_appR rfl _ _ 22 45 _ 32 rfl Try.underlying22 infoEv rfl (by decide) recE wq.heap.size (.slice ba bn bc) XS rfl ⟨wr.heap.size, 0, none⟩ 1 rfl (p0, p1, p2, p3) (HGo.out _ (by go_grown)).1 (rec_new rfl rfl) hln (HGo.out _ (by go_grown)).2.1 ?_)
                  intro v2 w2 ho2 hg2 hor2
                  obtain ⟨xa, xc, rfl⟩ := ho2.form
                  obtain ⟨vn, hvn⟩ : ∃ vn, (XS ++ [(p0, p1, p2, p3)]).length = vn := ⟨_, rfl⟩
                  rw [hvn] at ho2 ⊢
                  rw [← HCE.out] at ho2
                  have HO9 := Lib.hid ho2
                  have HB9 : Hid (Below wq.heap.size wq w2) := Lib.hid (by
                    obtain ⟨q1, q2, q3⟩ := HGo.out (wr.alloc (.cells #[.int .i64 p0, .int .i64 p1, .int .i64 p2, .int .i64 p3] 45)) (by go_grown)
                    exact q3.trans ⟨hg2.os, hg2.tape, hg2.output, hg2.size, fun p hp => hg2.block p (Nat.lt_of_lt_of_le hp q2) (fun e => by have := (q1.lt p e.symm).1; omega)⟩)
                  clear ho2 hg2 hor2 hvn HGo HCE
                  go_wp2_with fail
                  go_roundw
                  case rel => exact ⟨i + 1, xa, vn, xc, rfl, by go_num, by omega, HO9, HB9⟩
                  case measure => simp [intOf]; omega
                · have bI : ¬ (i : Int) < (j : Int) := by omega
                  have HR4 := Lib.hid (OR.rv recE HO3.out)
                  have HB4 := Lib.hid (tr3 HBW.out HB3.out)
                  have hki : k ≤ i := by omega
                  have hji : j ≤ i := by omega
                  go_wp2_with (go_at_call 7; (with_reducible refine (HFIN.out _ _ _ _ i hki hji HR4.out).mono ?_); rintro _ wf ⟨xf, rfl, hwf⟩; have HBF := Lib.hid (tr3 HB4.out hwf); clear hwf)
                  go_ret
                  exact ⟨by simp, HBF.out⟩
theorem walk (a0 : Option Addr) (len0 cap0 : Nat) (z0 : Nat → Nat → Int) (a1 : Int) (a2 : Option Addr) (len2 cap2 : Nat) (z2 : Nat → Nat → Int) (w : World) (w0 : IsGrid [.i64, .i64, .i64, .i64] w a0 len0 cap0 z0) (w1 : (Lit.int .i64 a1).wf = true) (w2 : IsGrid [.i64, .i64, .i64, .i64] w a2 len2 cap2 z2) :
    Calls Try.prog 5 #[.slice a0 len0 cap0, .int .i64 a1, .slice a2 len2 cap2] w fun e w' => e = .returned (.bool true) ∧ Below w.heap.size w w' :=
  core a0 len0 cap0 (quadL z0 len0) a1 a2 len2 cap2 (quadL z2 len2) w (rv_grid w0).1 (rv_grid w0).2 (rv_grid w2).1
end Go.Proofs.Ytgbeghaojkhiaaa.traceCuts
