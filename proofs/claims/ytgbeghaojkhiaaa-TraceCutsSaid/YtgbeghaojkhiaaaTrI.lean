/- Begun: the nodes that have begun (layer 34). -/
import Derived.Test.YtgbeghaojkhiaaaTrH
import Derived.Test.YtgbeghaojkhiaaaGrF
namespace Go.Proofs.Ytgbeghaojkhiaaa.tr
open Go.ChangeShapes Go.WideShapes Go.ChangeAt Go.RowKit
open Go.Proofs.Ytgbeghaojkhiaaa.ro
open Go.Proofs.Ytgbeghaojkhiaaa.gr (cx hd node_v tr3 kb rec_new)
set_option linter.unusedVariables false
set_option linter.unusedSimpArgs false
def enN (p : Int × Int) : List Value := [cx p.1 p.2]
theorem recN : Rec 1 enN := ⟨by omega, fun _ => rfl, fun x u hu => by simp [enN] at hu; rcases hu with rfl; rfl⟩
theorem infoN : (Try.prog.info? 38).map (fun i => (i.zero, i.size, i.bytes)) = some (some (.complex .f64 0 0), 1, 16) := by kernel_rfl
/-- what began in a loop, in its order. -/
def bgn (lp : Int) (es : List I4) : List (Int × Int) := (es.filter fun e => decide (e.2.1 = lp) && decide (e.1 = 2)).map fun e => (e.2.2.1, e.2.2.2)
theorem bgn_len (lp : Int) (es : List I4) : (bgn lp es).length ≤ es.length := by
  unfold bgn
  rw [List.length_map]
  exact List.length_filter_le _ _
theorem bgn_no {lp : Int} {es : List I4} {k : Nat} {e : I4} (he : es[k]? = some e) (h : ¬ (e.2.1 = lp ∧ e.1 = 2)) : bgn lp (es.take (k + 1)) = bgn lp (es.take k) := by
  rw [List.take_add_one, he]
  simp only [bgn, Option.toList_some, List.filter_append, List.map_append]
  have : (decide (e.2.1 = lp) && decide (e.1 = 2)) = false := by
    rw [← Bool.not_eq_true, Bool.and_eq_true, decide_eq_true_eq, decide_eq_true_eq]
    exact h
  simp [List.filter_cons, this]
theorem bgn_yes {lp : Int} {es : List I4} {k : Nat} {e : I4} (he : es[k]? = some e) (h1 : e.2.1 = lp) (h2 : e.1 = 2) : bgn lp (es.take (k + 1)) = bgn lp (es.take k) ++ [(e.2.2.1, e.2.2.2)] := by
  rw [List.take_add_one, he]
  simp only [bgn, Option.toList_some, List.filter_append, List.map_append]
  simp [List.filter_cons, h1, h2]
set_option maxRecDepth 20000 in
set_option maxHeartbeats 2000000 in
theorem begun_v (a : Option Addr) (n c : Nat) (es : List I4) (lp : Int) (w : World) (h : RV 4 enE w (.slice a n c) es) (hn : n ≤ 1000) :
    Calls Try.prog 12 #[.slice a n c, .int .i64 lp] w fun e w' => ∃ a' m' c', e = .returned (.slice a' m' c') ∧ OR 1 enN w' w.heap.size 38 (.slice a' m' c') (bgn lp es) ∧ Below w.heap.size w w' := by
  obtain ⟨hnl, hnc, hcm⟩ := h.len
  have HR := Lib.hid h
  have HN := Lib.hid hnl
  have h00 : Hid (Below w.heap.size w w) := Lib.hid (Below.refl _ _)
  have HO5 : Hid (OR 1 enN w w.heap.size 38 (.slice none 0 0) (bgn lp (es.take 0))) := Lib.hid (OR.nil _ _ _)
  obtain ⟨P, hP⟩ : ∃ P : Ending → World → Prop, (fun (e : Ending) (w' : World) => ∃ a' m' c', e = .returned (.slice a' m' c') ∧ OR 1 enN w' w.heap.size 38 (.slice a' m' c') (bgn lp es) ∧ Below w.heap.size w w') = P := ⟨_, rfl⟩
  have HF : Hid (∀ a' m' c' w', OR 1 enN w' w.heap.size 38 (.slice a' m' c') (bgn lp es) → Below w.heap.size w w' → P (.returned (.slice a' m' c')) w') := Lib.hid (by rintro a' m' c' w' ho hb; rw [← hP]; exact ⟨_, _, _, rfl, ho, hb⟩)
  rw [hP]
  clear h hnl hP
  go_enter Try.func12, Try.ntmps12
  go_wp2_with fail
  go_loopw [5, 10] (fun l i wr => ∃ (k : Nat) (a' : Option Addr) (m' c' : Nat), i = .int .i64 (k : Int) ∧ l = .slice a' m' c' ∧ k ≤ n ∧ Hid (OR 1 enN wr w.heap.size 38 (.slice a' m' c') (bgn lp (es.take k))) ∧ Hid (Below w.heap.size w wr)) (fun l i _ => n - (intOf i).toNat)
  case atStart => exact ⟨0, none, 0, 0, rfl, rfl, by omega, HO5, h00⟩
  case round =>
    clear HO5 h00
    obtain ⟨k, la, lm, lc, rfl, rfl, hk, HO, HB⟩ := hrel
    by_cases hlt : k < n
    · obtain ⟨⟨k0, z, i0, s0⟩, hx⟩ : ∃ x, es[k]? = some x := ⟨es[k]'(by rw [← HN.out]; exact hlt), by simp⟩
      obtain ⟨b, o, rfl, hbl, c0, c1, c2, c3⟩ := RV.fourE (HR.out.below HB.out) k hx
      have d1 : (k : Int) < (n : Int) := by omega
      obtain ⟨W, hW⟩ : ∃ W, wr.alloc (.cells #[.int .i64 k0, .int .i64 z, .int .i64 i0, .int .i64 s0] 45) = W := ⟨_, rfl⟩
      have hbW : Below wr.heap.size wr W := by rw [← hW]; go_grown
      have hXW : W.heap[wr.heap.size]? = some (.cells #[.int .i64 k0, .int .i64 z, .int .i64 i0, .int .i64 s0] 45 (0, 0)) := by rw [← hW]; exact heap_new _ _
      have e0 : W.cell? ⟨wr.heap.size, 0, none⟩ = some (.int .i64 k0) := cel hXW 0
      have e1 : W.cell? ⟨wr.heap.size, 1, none⟩ = some (.int .i64 z) := cel hXW 1
      have e2 : W.cell? ⟨wr.heap.size, 2, none⟩ = some (.int .i64 i0) := cel hXW 2
      have e3 : W.cell? ⟨wr.heap.size, 3, none⟩ = some (.int .i64 s0) := cel hXW 3
      have HOW := Lib.hid (OR.below HO.out hbW)
      have HBW := Lib.hid (tr3 HB.out hbW)
      have hlen : (bgn lp (es.take k)).length ≤ 1000000 := by
        have := bgn_len lp (es.take k)
        rw [List.length_take] at this
        omega
      by_cases hz : z = lp
      · by_cases h2 : k0 = 2
        · have HCE : Hid (bgn lp (es.take (k + 1)) = bgn lp (es.take k) ++ [(i0, s0)]) := Lib.hid (bgn_yes hx hz h2)
          subst hz h2
          obtain ⟨XS, hXS⟩ : ∃ XS, bgn z (es.take k) = XS := ⟨_, rfl⟩
          rw [hXS] at hlen HOW HCE
          have HGo : Hid (∀ w', Below W.heap.size W w' → OR 1 enN w' w.heap.size 38 (.slice la lm lc) XS ∧ w.heap.size ≤ w'.heap.size ∧ Below w.heap.size w w') := Lib.hid (fun w' hb => ⟨OR.below HOW.out hb, Nat.le_trans HBW.out.size hb.size, tr3 HBW.out hb⟩)
          clear hXS hbW hXW hx HO HOW
          go_wp2_with (first | (go_at_call 16; (with_reducible refine (node_v _ _ _).mono ?_); rintro _ _ ⟨rfl, rfl⟩; obtain ⟨cp, cq, hcv⟩ : ∃ cp cq, cx i0 s0 = .complex .f64 cp cq := ⟨_, _, rfl⟩; rw [hcv]; have HEN : Hid ([Value.complex .f64 cp cq] = enN (i0, s0)) := Lib.hid (by rw [← hcv]; rfl); clear hcv) | (at_builtin; refine wpList_appR rfl _ _ 30 38 (.complex .f64 0 0) 16 rfl Try.underlying30 infoN rfl (by decide) recN w.heap.size (.slice la lm lc) XS rfl ⟨W.heap.size, 0, none⟩ 1 rfl (i0, s0) (HGo.out _ (by go_grown)).1 (rec_new rfl HEN.out) hlen (HGo.out _ (by go_grown)).2.1 ?_))
          intro v2 w2 ho2 hg2 hor2
          obtain ⟨va, vc, rfl⟩ := ho2.form
          obtain ⟨vn, hvn⟩ : ∃ vn, (XS ++ [(i0, s0)]).length = vn := ⟨_, rfl⟩
          rw [hvn] at ho2 ⊢
          rw [← HCE.out] at ho2
          have HO9 := Lib.hid ho2
          have HB9 : Hid (Below w.heap.size w w2) := Lib.hid (by
            obtain ⟨q1, q2, q3⟩ := HGo.out (W.alloc (.cells #[.complex .f64 cp cq] 38)) (by go_grown)
            exact q3.trans ⟨hg2.os, hg2.tape, hg2.output, hg2.size, fun p hp => hg2.block p (Nat.lt_of_lt_of_le hp q2) (fun e => by have := (q1.lt p e.symm).1; omega)⟩)
          clear ho2 hg2 hor2 hvn HGo HCE
          go_wp2_with fail
          go_roundw
          case rel => exact ⟨k + 1, va, vn, vc, by go_num, rfl, by omega, HO9, HB9⟩
          case measure => simp [intOf]; omega
        · have HO9 : Hid (OR 1 enN W w.heap.size 38 (.slice la lm lc) (bgn lp (es.take (k + 1)))) := Lib.hid (by rw [bgn_no hx (fun h => h2 h.2)]; exact HOW.out)
          subst hz
          have h2b : (k0 == 2) = false := by simpa using h2
          have h2d : decide (k0 = 2) = false := decide_eq_false h2
          clear hbW hXW hx HO HOW
          go_wp2_with fail
          go_roundw
          case rel => exact ⟨k + 1, la, lm, lc, by go_num, rfl, by omega, HO9, HBW⟩
          case measure => simp [intOf]; omega
      · have HO9 : Hid (OR 1 enN W w.heap.size 38 (.slice la lm lc) (bgn lp (es.take (k + 1)))) := Lib.hid (by rw [bgn_no hx (fun h => hz h.1)]; exact HOW.out)
        have hzb : (z == lp) = false := by simpa using hz
        have hzd : decide (z = lp) = false := decide_eq_false hz
        clear hbW hXW hx HO HOW
        go_wp2_with fail
        go_roundw
        case rel => exact ⟨k + 1, la, lm, lc, by go_num, rfl, by omega, HO9, HBW⟩
        case measure => simp [intOf]; omega
    · obtain rfl : k = n := by omega
      have HO9 : Hid (OR 1 enN wr w.heap.size 38 (.slice la lm lc) (bgn lp es)) := Lib.hid (by have := HO.out; rw [HN.out, List.take_length] at this; exact this)
      go_wp2_with fail
      first | exact HF.out _ _ _ _ HO9.out HB.out | (go_ret; exact HF.out _ _ _ _ HO9.out HB.out)
end Go.Proofs.Ytgbeghaojkhiaaa.tr
