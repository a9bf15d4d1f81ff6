/- The edges of rows, by the document (layer 33). -/
import Derived.Test.YtagcgffofddcnaaGrS
import Derived.Test.YtagcgffofddcnaaGrF
namespace Go.Proofs.Ytagcgffofddcnaa.gr
open Go.ChangeShapes Go.WideShapes Go.ChangeAt Go.RowKit
open Go.Proofs.Ytagcgffofddcnaa.ro
open Go.Proofs.Ytagcgffofddcnaa
set_option linter.unusedVariables false
set_option linter.unusedSimpArgs false
def enQ (q : Q4) : List Value := [.int .i64 q.1, .int .i64 q.2.1, .int .i64 q.2.2.1, .int .i64 q.2.2.2]
theorem recQ : Rec 4 enQ := ⟨by omega, fun _ => rfl, fun x u hu => by simp [enQ] at hu; rcases hu with rfl | rfl | rfl | rfl <;> rfl⟩
theorem infoQ : (Try.prog.info? 43).map (fun i => (i.zero, i.size, i.bytes)) = some (some (.agg #[.int .i64 0, .int .i64 0, .int .i64 0, .int .i64 0]), 4, 32) := by kernel_rfl
abbrev boxC (c : C2) : Obj := .cells #[.int .i64 c.1, .bool c.2] 54 (0, 0)
/-- an edge more is laid down: what stays. -/
theorem eapp {w0 w7 w4 : World} {ja : Option Addr} {jm jc : Nat} {XS : List Q4} {g8 : Nat} {c : C2} (hbW : Below w0.heap.size w0 w7) (ho : OR 4 enQ w7 w0.heap.size 43 (.slice ja jm jc) XS)
    (hx : w7.heap[g8]? = some (boxC c)) (hg : w7.grownBy w4 (Value.slice ja jm jc).ownBlock) : Below w0.heap.size w0 w4 ∧ w4.heap[g8]? = some (boxC c) := by
  refine ⟨hbW.trans ⟨hg.os, hg.tape, hg.output, hg.size, fun p hp => hg.block p (Nat.lt_of_lt_of_le hp hbW.size) (fun e => by have := (ho.lt p e.symm).1; omega)⟩, ?_⟩
  rw [hg.block g8 (lt_of hx) ?_]
  · exact hx
  · intro e
    obtain ⟨_, ⟨e1, _⟩ | ⟨g2, cap2, cur2, e1, _, hh2, _⟩⟩ := ho
    · rw [e1] at e; simp [Value.ownBlock] at e
    · rw [e1] at e
      simp [Value.ownBlock] at e
      subst e
      rw [hx] at hh2
      simp at hh2
theorem upTo_no {l : List C2} {s : Int} {t : Nat} (h : ¬ (l.getD t d2).1 ≤ s) : upTo l s (t + 1) = upTo l s t := by rw [upTo, if_neg h]
theorem upTo_yes {l : List C2} {s : Int} {t : Nat} (h : (l.getD t d2).1 ≤ s) : upTo l s (t + 1) = t := by rw [upTo, if_pos h]
set_option maxRecDepth 20000 in
set_option maxHeartbeats 16000000 in
theorem redges_v (a : Option Addr) (n c : Nat) (L : List (List C2)) (w : World) (h : PM w (.slice a n c) L) (hr : chkE L = 0) :
    Calls Try.prog 20 #[.slice a n c] w fun e w' => ∃ a' m' c', e = .returned (.slice a' m' c') ∧ OR 4 enQ w' w.heap.size 43 (.slice a' m' c') (eds L) ∧ Below w.heap.size w w' := by
  have hL := chkE_rts hr
  obtain ⟨hnl, hnc, hcm⟩ := h.len
  unfold maxLen at hcm
  have HL := Lib.hid hL
  have HR0 := Lib.hid h
  have HNL := Lib.hid hnl
  have hn100 : n ≤ 100 := by have := hL.m; omega
  have h00 : Hid (Below w.heap.size w w) := Lib.hid (Below.refl _ _)
  have HED : Hid (eds L = edsN L n) := Lib.hid (by unfold eds; rw [hnl])
  have HLEN : Hid (∀ i k j, i < L.length → k < (L.getD i []).length → (edsN L i ++ rowEd L i k ++ (cellE L (i, k)).take j).length ≤ 1000000) := Lib.hid (fun i k j hi hk => by
    have e1 := edsN_len L i
    have e2 := cnt_le hL i (by omega)
    have e3 := rowEd_len L i k
    have e4 := ahd_len L (i, k)
    have e5 := hL.m
    have e6 := (hL.r i hi).m
    have e7 : ((cellE L (i, k)).take j).length ≤ 2 := by
      refine Nat.le_trans (List.length_take_le' _ _) ?_
      unfold cellE
      rw [List.length_map]
      exact e4
    rw [List.length_append, List.length_append]
    omega)
  have HO5 : Hid (OR 4 enQ w w.heap.size 43 (.slice none 0 0) (edsN L 0)) := Lib.hid (OR.nil _ _ _)
  obtain ⟨P, hP⟩ : ∃ P : Ending → World → Prop, (fun (e : Ending) (w' : World) => ∃ a' m' c', e = .returned (.slice a' m' c') ∧ OR 4 enQ w' w.heap.size 43 (.slice a' m' c') (eds L) ∧ Below w.heap.size w w') = P := ⟨_, rfl⟩
  have HF : Hid (∀ a' m' c' w', OR 4 enQ w' w.heap.size 43 (.slice a' m' c') (eds L) → Below w.heap.size w w' → P (.returned (.slice a' m' c')) w') := Lib.hid (by rintro a' m' c' w' ho hb; rw [← hP]; exact ⟨_, _, _, rfl, ho, hb⟩)
  rw [hP]
  clear h hr hL hnl hP
  go_enter Try.func20, Try.ntmps20
  go_wp2_with fail
  go_loopw [3, 4] (fun l i wr => ∃ (k : Nat) (a' : Option Addr) (m' c' : Nat), i = .int .i64 (k : Int) ∧ l = .slice a' m' c' ∧ k ≤ n ∧ Hid (OR 4 enQ wr w.heap.size 43 (.slice a' m' c') (edsN L k)) ∧ Hid (Below w.heap.size w wr)) (fun l i _ => n - (intOf i).toNat)
  case atStart => exact ⟨0, none, 0, 0, rfl, rfl, by omega, HO5, h00⟩
  case round =>
    clear HO5 h00
    obtain ⟨i, la, lm, lc, rfl, rfl, hi, HO, HB⟩ := hrel
    by_cases hlt : i < n
    · obtain ⟨b, o, ai, ci, rfl, hbl, c0, hrow⟩ := HR0.out.row i hlt
      have HC0 := Lib.hid c0
      have HBL := Lib.hid hbl
      obtain ⟨m, hm⟩ : ∃ m, (L.getD i []).length = m := ⟨_, rfl⟩
      have hrt := HL.out.r i (by rw [← HNL.out]; exact hlt)
      have hm100 : m ≤ 100 := by have := hrt.m; omega
      have HM := Lib.hid hm
      have HRT := Lib.hid hrt
      rw [hm] at c0 HC0
      have HROW := Lib.hid hrow
      rw [hm] at HROW
      have hiI : (i : Int) < (n : Int) := by omega
      have HO2 : Hid (OR 4 enQ wr w.heap.size 43 (.slice la lm lc) (edsN L i ++ rowEd L i 0)) := Lib.hid (by rw [rowEd, List.append_nil]; exact HO.out)
      have HB2 := Lib.hid HB.out
      clear hm hrow HO HB c0 hbl hrt
      go_wp2_with fail
      go_loopw [3, 5] (fun l i' wr => ∃ (k : Nat) (a' : Option Addr) (m' c' : Nat), i' = .int .i64 (k : Int) ∧ l = .slice a' m' c' ∧ k ≤ m ∧ Hid (OR 4 enQ wr w.heap.size 43 (.slice a' m' c') (edsN L i ++ rowEd L i k)) ∧ Hid (Below w.heap.size w wr)) (fun l i' _ => m - (intOf i').toNat)
      case atStart => exact ⟨0, la, lm, lc, rfl, rfl, by omega, HO2, HB2⟩
      case round =>
        clear HO2 HB2
        obtain ⟨k, ka, km, kc, rfl, rfl, hk, HO3, HB3⟩ := hrel
        have c0 := (HB3.out.cell (p := ⟨b, o + i, none⟩) HBL.out).trans HC0.out
        by_cases hkt : k < m
        · have hin : In L (i, k) := ⟨by rw [← HNL.out]; exact hlt, by show k < (L.getD i []).length; rw [HM.out]; exact hkt⟩
          have HIN := Lib.hid hin
          have hkI : (k : Int) < (m : Int) := by omega
          obtain ⟨b1, o1, rfl, hb1, d0, d1⟩ := RV.two HROW.out k hkt
          have hst : ((L.getD i []).getD k d2).1 = st L (i, k) := rfl
          have hwt : ((L.getD i []).getD k d2).2 = wt L (i, k) := rfl
          rw [hst] at d0
          rw [hwt] at d1
          obtain ⟨sk, hsk⟩ : ∃ s, st L (i, k) = s := ⟨_, rfl⟩
          obtain ⟨bk, hbk⟩ : ∃ s, wt L (i, k) = s := ⟨_, rfl⟩
          rw [hsk] at d0
          rw [hbk] at d1
          have HD0 := Lib.hid d0
          have HB1 := Lib.hid hb1
          have d0 := (HB3.out.cell (p := ⟨b1, o1 + k * 2, none⟩) hb1).trans HD0.out
          have d1 := (HB3.out.cell (p := ⟨b1, o1 + k * 2 + 1, none⟩) hb1).trans d1
          have HSK := Lib.hid hsk
          have HBK := Lib.hid hbk
          obtain ⟨W, hW⟩ : ∃ W, wr.alloc (.cells #[.int .i64 sk, .bool bk] 54) = W := ⟨_, rfl⟩
          have hbW : Below wr.heap.size wr W := by rw [← hW]; go_grown
          have hXW : W.heap[wr.heap.size]? = some (boxC (sk, bk)) := by rw [← hW]; exact heap_new _ _
          obtain ⟨g8, hg8⟩ : ∃ g, wr.heap.size = g := ⟨_, rfl⟩
          rw [hg8] at hXW
          obtain ⟨z0, z1⟩ := cel2 hXW
          have HOW := Lib.hid (OR.below HO3.out hbW)
          have HBW := Lib.hid (tr3 HB3.out hbW)
          have HXW := Lib.hid hXW
          have HHY : Hid (W.heap.size = g8 + 1) := Lib.hid (by rw [← hW, ← hg8]; simp)
          have hlen := HLEN.out i k 0 (by rw [← HNL.out]; exact hlt) (by rw [HM.out]; exact hkt)
          rw [List.take_zero, List.append_nil] at hlen
          clear hin hst hwt hsk hbk hbW hXW HB3 HO3 hb1
          by_cases hk0 : k = 0
          · have HK0 := Lib.hid hk0
            have hs0 : sk = 0 := by
              rw [← HSK.out, hk0]
              unfold st
              show ((L.getD i []).getD 0 d2).1 = 0
              rw [HRT.out.z]
              rfl
            have hkf : ¬ (0 : Int) < (k : Int) := by omega
            have hkfd : decide ((0 : Int) < (k : Int)) = false := by simpa using hkf
            have hkfn : decide (0 < k) = false := by simpa using hk0
            have hkfN : ¬ 0 < k := by omega
            have hked : ((k : Int) == 0) = true := by simpa using hk0
            have hken : (k == 0) = true := by simpa using hk0
            clear hk0
            by_cases hi0 : i = 0
            · have hif : ¬ (0 : Int) < (i : Int) := by omega
              have hifd : decide ((0 : Int) < (i : Int)) = false := by simpa using hif
              have hifn : decide (0 < i) = false := by simpa using hi0
              have hifN : ¬ 0 < i := by omega
              have HO9 : Hid (OR 4 enQ W w.heap.size 43 (.slice ka km kc) (edsN L i ++ rowEd L i (k + 1))) := Lib.hid (by
                have e : cellE L (i, k) = [] := by rw [hi0, HK0.out]; rfl
                have h9 := HOW.out
                rw [rowEd, e, List.append_nil]
                exact h9)
              clear HOW hi0 hs0
              go_wp2_with fail
              go_roundw
              case rel => exact ⟨k + 1, ka, km, kc, by go_num, rfl, by omega, HO9, HBW⟩
              case measure => simp [intOf]; omega
            · obtain ⟨i1, hi1⟩ : ∃ i1, i - 1 = i1 := ⟨_, rfl⟩
              have hi1c : (i : Int) - 1 = (i1 : Int) := by omega
              have hwi : IntKind.i64.wrap (i1 : Int) = (i1 : Int) := by rw [IntKind.wrap_i64]; omega
              have hip : (0 : Int) < (i : Int) := by omega
              have hipd : decide ((0 : Int) < (i : Int)) = true := by simpa using hip
              have hiN : 0 < i := by omega
              have hiNd : decide (0 < i) = true := by simpa using hiN
              have HEN : Hid ([Value.int .i64 (i1 : Int), Value.int .i64 0, Value.int .i64 (i : Int), Value.int .i64 0] = enQ ((i1 : Int), 0, (i : Int), 0)) := Lib.hid rfl
              have HCE : Hid (edsN L i ++ rowEd L i (k + 1) = edsN L i ++ rowEd L i k ++ [((i1 : Int), 0, (i : Int), 0)]) := Lib.hid (by
                have hsk := HSK.out
                rw [HK0.out] at hsk ⊢
                have e : cellE L (i, 0) = [((i1 : Int), 0, (i : Int), 0)] := by
                  unfold cellE ahd
                  simp only [if_true]
                  rw [if_neg hi0, hi1]
                  show [q4 L (i, 0) (i1, 0)] = _
                  unfold q4
                  rw [hsk, hs0]
                  have z1 : st L (i1, 0) = 0 := by
                    unfold st
                    show ((L.getD i1 []).getD 0 d2).1 = 0
                    rw [(HL.out.r i1 (by have := HIN.out.1; simp only at this; omega)).z]
                    rfl
                  rw [z1]
                show edsN L i ++ (rowEd L i 0 ++ cellE L (i, 0)) = _
                rw [e, ← List.append_assoc])
              obtain ⟨XS, hXS⟩ : ∃ XS, edsN L i ++ rowEd L i k = XS := ⟨_, rfl⟩
              rw [hXS] at hlen HOW HCE
              subst hs0
              have HGo : Hid (∀ w', Below W.heap.size W w' → OR 4 enQ w' w.heap.size 43 (.slice ka km kc) XS ∧ w.heap.size ≤ w'.heap.size) := Lib.hid (fun w' hb => ⟨OR.below HOW.out hb, Nat.le_trans HBW.out.size hb.size⟩)
              clear hXS hi1
              go_wp2_with ((at_builtin; refine wpList_appR rfl _ _ 39 43 _ 32 rfl Try.underlying39 infoQ rfl (by decide) recQ w.heap.size (.slice ka km kc) XS rfl ⟨W.heap.size, 0, none⟩ 1 rfl ((i1 : Int), 0, (i : Int), 0) (HGo.out _ (by go_grown)).1 (rec_new rfl HEN.out) hlen (HGo.out _ (by go_grown)).2 ?_))
              intro v2 w2 ho2 hg2 hor2
              obtain ⟨va, vc, rfl⟩ := ho2.form
              obtain ⟨vn, hvn⟩ : ∃ vn, (XS ++ [((i1 : Int), (0 : Int), (i : Int), (0 : Int))]).length = vn := ⟨_, rfl⟩
              rw [hvn] at ho2 ⊢
              rw [← HCE.out] at ho2
              obtain ⟨hb2, hx2⟩ := eapp (w0 := w) (w7 := W.alloc (.cells #[Value.int .i64 (i1 : Int), Value.int .i64 0, Value.int .i64 (i : Int), Value.int .i64 0] 43)) (c := (0, bk)) (tr3 HBW.out (by go_grown)) (HGo.out _ (by go_grown)).1 (kb HXW.out (by go_grown)) hg2
              have HO9 := Lib.hid ho2
              have HB9 := Lib.hid hb2
              obtain ⟨z0, z1⟩ := cel2 hx2
              clear ho2 hg2 hor2 hvn hb2 hx2 HOW HGo
              go_wp2_with fail
              go_roundw
              case rel => exact ⟨k + 1, va, vn, vc, by go_num, rfl, by omega, HO9, HB9⟩
              case measure => simp [intOf]; omega
          · obtain ⟨j, hj⟩ : ∃ j, k - 1 = j := ⟨_, rfl⟩
            have hkj : (k : Int) - 1 = (j : Int) := by omega
            have hkp : (0 : Int) < (k : Int) := by omega
            have hkpd : decide ((0 : Int) < (k : Int)) = true := by simpa using hkp
            have hkN : 0 < k := by omega
            have hkNd : decide (0 < k) = true := by simpa using hkN
            have hk0I : ¬ (k : Int) = 0 := by omega
            have hk0d : ((k : Int) == 0) = false := by simpa using hk0I
            have hk0n : (k == 0) = false := by simpa using hk0
            have hjm : (j : Int) < (m : Int) := by omega
            have hjN : j < m := by omega
            have hjn : ¬ m ≤ j := by omega
            have hj1 : (0 : Int) ≤ (k : Int) - 1 := by omega
            have hj2 : (k : Int) - 1 < (m : Int) := by omega
            have hj3 : ((k : Int) - 1).toNat = j := by omega
            have hj4 : (0 : Int) ≤ (j : Int) := by omega
            have hwj : IntKind.i64.wrap (j : Int) = (j : Int) := by rw [IntKind.wrap_i64]; omega
            obtain ⟨b1', o1', e1, _, y0, _⟩ := RV.two HROW.out j (by omega)
            cases e1
            have hst : ((L.getD i []).getD j d2).1 = st L (i, j) := rfl
            rw [hst] at y0
            obtain ⟨sj, hsj⟩ : ∃ s, st L (i, j) = s := ⟨_, rfl⟩
            rw [hsj] at y0
            have HY0 := Lib.hid y0
            have HEN : Hid ([Value.int .i64 (i : Int), Value.int .i64 sj, Value.int .i64 (i : Int), Value.int .i64 sk] = enQ ((i : Int), sj, (i : Int), sk)) := Lib.hid rfl
            have HQ1 : Hid (q4 L (i, k) (i, k - 1) = ((i : Int), sj, (i : Int), sk)) := Lib.hid (by unfold q4; rw [hj, hsj, HSK.out])
            have hb1 := HB1.out
            have HS : Hid (∀ w', Below w.heap.size w w' → w'.heap[g8]? = some (boxC (sk, bk)) → w'.cell? ⟨b, o + i, none⟩ = some (.slice (some ⟨b1, o1, none⟩) m ci) ∧ w'.cell? ⟨b1, o1 + j * 2, none⟩ = some (.int .i64 sj) ∧ w'.cell? ⟨g8, 0, none⟩ = some (.int .i64 sk)) := Lib.hid (fun w' hb hx => ⟨(hb.cell (p := ⟨b, o + i, none⟩) HBL.out).trans HC0.out, (hb.cell (p := ⟨b1, o1 + j * 2, none⟩) HB1.out).trans HY0.out, (cel2 hx).1⟩)
            obtain ⟨XS, hXS⟩ : ∃ XS, edsN L i ++ rowEd L i k = XS := ⟨_, rfl⟩
            have HXS := Lib.hid hXS
            rw [hXS] at hlen HOW
            have HGo : Hid (∀ w', Below W.heap.size W w' → OR 4 enQ w' w.heap.size 43 (.slice ka km kc) XS ∧ w.heap.size ≤ w'.heap.size) := Lib.hid (fun w' hb => ⟨OR.below HOW.out hb, Nat.le_trans HBW.out.size hb.size⟩)
            have HApp : Hid (∀ w7 w4 va vn vc, Below W.heap.size W w7 → w7.grownBy w4 (Value.slice ka km kc).ownBlock → OR 4 enQ w4 w.heap.size 43 (.slice va vn vc) (XS ++ [((i : Int), sj, (i : Int), sk)]) → Hid (OR 4 enQ w4 w.heap.size 43 (.slice va vn vc) (XS ++ [((i : Int), sj, (i : Int), sk)])) ∧ Hid (Below w.heap.size w w4) ∧ Hid (w4.heap[g8]? = some (boxC (sk, bk))) ∧ (w4.cell? ⟨b, o + i, none⟩ = some (.slice (some ⟨b1, o1, none⟩) m ci) ∧ w4.cell? ⟨b1, o1 + j * 2, none⟩ = some (.int .i64 sj) ∧ w4.cell? ⟨g8, 0, none⟩ = some (.int .i64 sk))) := Lib.hid (fun w7 w4 va vn vc hb hg ho => by
              obtain ⟨h1, h2⟩ := eapp (w0 := w) (c := (sk, bk)) (tr3 HBW.out hb) (HGo.out _ hb).1 (kb HXW.out hb) hg
              exact ⟨Lib.hid ho, Lib.hid h1, Lib.hid h2, HS.out _ h1 h2⟩)
            have hS0 := HS.out W HBW.out HXW.out
            have HSD : Hid (∀ w', Below W.heap.size W w' → w'.cell? ⟨b, o + i, none⟩ = some (.slice (some ⟨b1, o1, none⟩) m ci) ∧ w'.cell? ⟨b1, o1 + j * 2, none⟩ = some (.int .i64 sj) ∧ w'.cell? ⟨g8, 0, none⟩ = some (.int .i64 sk)) := Lib.hid (fun w' hb => HS.out w' (tr3 HBW.out hb) (kb HXW.out hb))
            clear hj hst hsj y0 hXS HOW
            by_cases hi0 : i = 0
            · have HI0 := Lib.hid hi0
              have hif : ¬ (0 : Int) < (i : Int) := by omega
              have hifd : decide ((0 : Int) < (i : Int)) = false := by simpa using hif
              have hifn : decide (0 < i) = false := by simpa using hi0
              have hifN : ¬ 0 < i := by omega
              clear hi0
              have HO9 : Hid (edsN L i ++ rowEd L i (k + 1) = XS ++ [((i : Int), sj, (i : Int), sk)]) := Lib.hid (by
                rw [rowEd, ← List.append_assoc, HXS.out]
                congr 1
                unfold cellE ahd
                rw [if_neg hk0]
                show q4 L (i, k) (i, k - 1) :: List.map (q4 L (i, k)) (if wt L (i, k) = true ∧ 0 < i then _ else []) = _
                rw [if_neg (by omega)]
                rw [HQ1.out]
                rfl)
              go_wp2_with fail
              go_region_held3 (fun w' => w'.cell? ⟨b, o + i, none⟩ = some (.slice (some ⟨b1, o1, none⟩) m ci) ∧ w'.cell? ⟨b1, o1 + j * 2, none⟩ = some (.int .i64 sj) ∧ w'.cell? ⟨g8, 0, none⟩ = some (.int .i64 sk)) (first | (with_reducible assumption) | exact hs4 | (refine HSD.out _ ?_; go_grown; done))
                (first
                  | ((refine step_appB w.heap.size rfl _ _ 39 43 _ 32 (by rfl) Try.underlying39 infoQ rfl (by decide) recQ (.slice ka km kc) XS ((i : Int), sj, (i : Int), sk) rfl W.heap.size 1 (by rfl) (HGo.out _ (by go_grown)).1 (HGo.out _ (by go_grown)).2 (rec_new (by go_simp) HEN.out) hlen ?_; intro va vn vc w4 ho4 hg4 hor4; obtain ⟨hA1, hA2, hA3, hs4⟩ := HApp.out _ w4 va vn vc (by go_grown) hg4 ho4.out)))
              all_goals
                obtain ⟨q0', q1'⟩ := cel2 hA3.out
                have HO10 := hA1
                rw [← HO9.out] at HO10
                go_wp2_with fail
                go_roundw
                case rel => exact ⟨k + 1, va, vn, vc, by go_num, rfl, by omega, HO10, hA2⟩
                case measure => simp [intOf]; omega
            · obtain ⟨i1, hi1⟩ : ∃ i1, i - 1 = i1 := ⟨_, rfl⟩
              have hi1c : (i : Int) - 1 = (i1 : Int) := by omega
              have hwi : IntKind.i64.wrap (i1 : Int) = (i1 : Int) := by rw [IntKind.wrap_i64]; omega
              have hip : (0 : Int) < (i : Int) := by omega
              have hipd : decide ((0 : Int) < (i : Int)) = true := by simpa using hip
              have hiN : 0 < i := by omega
              have hiNd : decide (0 < i) = true := by simpa using hiN
              go_wp2_with fail
              go_region_held3 (fun w' => w'.cell? ⟨b, o + i, none⟩ = some (.slice (some ⟨b1, o1, none⟩) m ci) ∧ w'.cell? ⟨b1, o1 + j * 2, none⟩ = some (.int .i64 sj) ∧ w'.cell? ⟨g8, 0, none⟩ = some (.int .i64 sk)) (first | (with_reducible assumption) | exact hs4 | (refine HSD.out _ ?_; go_grown; done))
                (first
                  | ((refine step_appB w.heap.size rfl _ _ 39 43 _ 32 (by rfl) Try.underlying39 infoQ rfl (by decide) recQ (.slice ka km kc) XS ((i : Int), sj, (i : Int), sk) rfl W.heap.size 1 (by rfl) (HGo.out _ (by go_grown)).1 (HGo.out _ (by go_grown)).2 (rec_new (by go_simp) HEN.out) hlen ?_; intro va vn vc w4 ho4 hg4 hor4; obtain ⟨hA1, hA2, hA3, hs4⟩ := HApp.out _ w4 va vn vc (by go_grown) hg4 ho4.out)))
              all_goals
                obtain ⟨q0', q1'⟩ := cel2 hA3.out
                cases bk with
                | false =>
                    have HO10 := hA1
                    have HO9 : Hid (edsN L i ++ rowEd L i (k + 1) = XS ++ [((i : Int), sj, (i : Int), sk)]) := Lib.hid (by
                      rw [rowEd, ← List.append_assoc, HXS.out]
                      congr 1
                      unfold cellE ahd
                      rw [if_neg hk0]
                      show q4 L (i, k) (i, k - 1) :: List.map (q4 L (i, k)) (if wt L (i, k) = true ∧ 0 < i then _ else []) = _
                      rw [if_neg (by rw [HBK.out]; simp)]
                      rw [HQ1.out]
                      rfl)
                    rw [← HO9.out] at HO10
                    go_wp2_with fail
                    go_roundw
                    case rel => exact ⟨k + 1, va, vn, vc, by go_num, rfl, by omega, HO10, hA2⟩
                    case measure => simp [intOf]; omega
                | true =>
                  have hi1n : i1 < n := by omega
                  have hi1I : (i1 : Int) < (n : Int) := by omega
                  obtain ⟨b', o', a2, c2, e2, _, x0, hrow2⟩ := HR0.out.row i1 hi1n
                  cases e2
                  have hrt2 := HL.out.r i1 (by rw [← HNL.out]; exact hi1n)
                  obtain ⟨l2, hl2⟩ : ∃ l, L.getD i1 [] = l := ⟨_, rfl⟩
                  rw [hl2] at x0 hrow2 hrt2
                  obtain ⟨m2, hm2⟩ : ∃ m, l2.length = m := ⟨_, rfl⟩
                  have hm2p := hrt2.p
                  have hm2m := hrt2.m
                  rw [hm2] at x0 hrow2 hm2p hm2m
                  obtain ⟨b2, o2, rfl, hb2, _, _⟩ := RV.two hrow2 0 hm2p
                  have HX0 := Lib.hid x0
                  have HROW2 := Lib.hid hrow2
                  have HB2 := Lib.hid hb2
                  have hsk0 : 0 ≤ sk := by rw [← HSK.out]; exact (st_rng HL.out HIN.out).1
                  have HUP0 : Hid (∀ t, t = 0 → (l2.getD t d2).1 ≤ sk) := Lib.hid (fun t ht => by rw [ht, hrt2.z]; exact hsk0)
                  have HCE : Hid (∀ t, upTo l2 sk m2 = t → edsN L i ++ rowEd L i (k + 1) = XS ++ [((i : Int), sj, (i : Int), sk)] ++ [((i1 : Int), (l2.getD t d2).1, (i : Int), sk)]) := Lib.hid (fun t ht => by
                    rw [rowEd, ← List.append_assoc, HXS.out, List.append_assoc]
                    congr 1
                    unfold cellE ahd
                    rw [if_neg hk0]
                    show q4 L (i, k) (i, k - 1) :: List.map (q4 L (i, k)) (if wt L (i, k) = true ∧ 0 < i then _ else []) = _
                    rw [if_pos ⟨HBK.out, hiN⟩, HQ1.out]
                    simp only [List.map_cons, List.map_nil, List.cons_append, List.nil_append]
                    rw [HSK.out, hi1, hl2, hm2, ht]
                    congr 2
                    unfold q4
                    rw [HSK.out]
                    have : st L (i1, t) = (l2.getD t d2).1 := by unfold st; rw [hl2]
                    rw [this])
                  clear hm2 hl2 hrow2 hrt2 hi1 hb2 x0 hsk0
                  have x0 := (hA2.out.cell (p := ⟨b, o + i1, none⟩) HBL.out).trans HX0.out
                  have hm2c : (m2 : Int) - 1 = ((m2 - 1 : Nat) : Int) := by omega
                  obtain ⟨m3, hm3⟩ : ∃ m3, m2 - 1 = m3 := ⟨_, rfl⟩
                  rw [hm3] at hm2c
                  have h23 : m2 = m3 + 1 := by omega
                  have HU0 : Hid (upTo l2 sk m2 = upTo l2 sk (m3 + 1)) := Lib.hid (by rw [h23])
                  have hm3m : m3 < m2 := by omega
                  have hxs2 : (XS ++ [((i : Int), sj, (i : Int), sk)]).length ≤ 1000001 := by simp; omega
                  have hb00 : Hid (Below w4.heap.size w4 w4) := Lib.hid (Below.refl _ _)
                  clear hm3 h23 hS0 HApp HGo HSD
                  go_wp2_with fail
                  go_loopw [7] (fun t wr => ∃ u : Nat, t = .int .i64 (u : Int) ∧ u < m2 ∧ Hid (upTo l2 sk m2 = upTo l2 sk (u + 1)) ∧ Hid (Below w4.heap.size w4 wr)) (fun t _ => (intOf t).toNat)
                  case atStart => exact ⟨m3, rfl, hm3m, HU0, hb00⟩
                  case round =>
                    clear HU0 hb00
                    obtain ⟨u, rfl, hu, HU, HB5⟩ := hrel
                    have huI : (u : Int) < (m2 : Int) := by omega
                    have HB6 := Lib.hid (tr3 hA2.out HB5.out)
                    have hx6 := kb hA3.out HB5.out
                    have HX6 := Lib.hid hx6
                    obtain ⟨r0, r1⟩ := cel2 hx6
                    have x0 := (HB6.out.cell (p := ⟨b, o + i1, none⟩) HBL.out).trans HX0.out
                    obtain ⟨b2', o2', e2, _, s0, _⟩ := RV.two (HROW2.out.below HB6.out) u hu
                    cases e2
                    obtain ⟨su, hsu⟩ : ∃ s, (l2.getD u d2).1 = s := ⟨_, rfl⟩
                    rw [hsu] at s0
                    have HSU := Lib.hid hsu
                    have HO6 := Lib.hid (OR.below hA1.out HB5.out)
                    clear hx6 hsu
                    by_cases hgt : su ≤ sk
                    · have hgtn : ¬ sk < su := by omega
                      have hgtd : decide (sk < su) = false := by simpa using hgtn
                      have HUT : Hid (upTo l2 sk m2 = u) := Lib.hid (by rw [HU.out, upTo_yes (by rw [HSU.out]; exact hgt)])
                      have HC9 := Lib.hid (HCE.out u HUT.out)
                      rw [HSU.out] at HC9
                      have HEN2 : Hid ([Value.int .i64 (i1 : Int), Value.int .i64 su, Value.int .i64 (i : Int), Value.int .i64 sk] = enQ ((i1 : Int), su, (i : Int), sk)) := Lib.hid rfl
                      obtain ⟨XT, hXT⟩ : ∃ XT, XS ++ [((i : Int), sj, (i : Int), sk)] = XT := ⟨_, rfl⟩
                      rw [hXT] at HC9 HO6 hxs2
                      have hlenT : XT.length ≤ 1000000 := by
                        have h9 := HLEN.out i k 1 (by rw [← HNL.out]; exact hlt) (by rw [HM.out]; exact hkt)
                        have e9 : (cellE L (i, k)).take 1 = [((i : Int), sj, (i : Int), sk)] := by
                          unfold cellE ahd
                          rw [if_neg hk0]
                          show [q4 L (i, k) (i, k - 1)] = _
                          rw [HQ1.out]
                        rw [e9, HXS.out, hXT] at h9
                        exact h9
                      obtain ⟨W5, hW5⟩ : ∃ W5, wr.drew = W5 := ⟨_, rfl⟩
                      have HGo : Hid (∀ w', Below wr.heap.size wr w' → OR 4 enQ w' w.heap.size 43 (.slice va vn vc) XT ∧ w.heap.size ≤ w'.heap.size) := Lib.hid (fun w' hb => ⟨OR.below HO6.out hb, Nat.le_trans HB6.out.size hb.size⟩)
                      have HST : Hid (∀ w', Below w.heap.size w w' → w'.heap[g8]? = some (boxC (sk, true)) → w'.cell? ⟨b, o + i1, none⟩ = some (.slice (some ⟨b2, o2, none⟩) m2 c2) ∧ w'.cell? ⟨b2, o2 + u * 2, none⟩ = some (.int .i64 su) ∧ w'.cell? ⟨g8, 0, none⟩ = some (.int .i64 sk)) := Lib.hid (fun w' hb hx => by
                        obtain ⟨b2', o2', e2, _, s0, _⟩ := RV.two (HROW2.out.below hb) u hu
                        cases e2
                        rw [HSU.out] at s0
                        exact ⟨(hb.cell (p := ⟨b, o + i1, none⟩) HBL.out).trans HX0.out, s0, (cel2 hx).1⟩)
                      have HSD : Hid (∀ w', Below wr.heap.size wr w' → w'.cell? ⟨b, o + i1, none⟩ = some (.slice (some ⟨b2, o2, none⟩) m2 c2) ∧ w'.cell? ⟨b2, o2 + u * 2, none⟩ = some (.int .i64 su) ∧ w'.cell? ⟨g8, 0, none⟩ = some (.int .i64 sk)) := Lib.hid (fun w' hb => HST.out w' (tr3 HB6.out hb) (kb HX6.out hb))
                      have HApp : Hid (∀ w7 w4 va' vn' vc', Below wr.heap.size wr w7 → w7.grownBy w4 (Value.slice va vn vc).ownBlock → OR 4 enQ w4 w.heap.size 43 (.slice va' vn' vc') (XT ++ [((i1 : Int), su, (i : Int), sk)]) → Hid (OR 4 enQ w4 w.heap.size 43 (.slice va' vn' vc') (XT ++ [((i1 : Int), su, (i : Int), sk)])) ∧ Hid (Below w.heap.size w w4) ∧ (w4.cell? ⟨b, o + i1, none⟩ = some (.slice (some ⟨b2, o2, none⟩) m2 c2) ∧ w4.cell? ⟨b2, o2 + u * 2, none⟩ = some (.int .i64 su) ∧ w4.cell? ⟨g8, 0, none⟩ = some (.int .i64 sk))) := Lib.hid (fun w7 w4 va' vn' vc' hb hg ho => by
                        obtain ⟨h1, h2⟩ := eapp (w0 := w) (c := (sk, true)) (tr3 HB6.out hb) (HGo.out _ hb).1 (kb HX6.out hb) hg
                        exact ⟨Lib.hid ho, Lib.hid h1, HST.out _ h1 h2⟩)
                      clear hXT hW5
                      go_wp2_with fail
                      go_quiet (fail)
                      obtain ⟨wz, hwz⟩ : ∃ wz, wr.drewN nq = wz := ⟨_, rfl⟩
                      have HZ : Hid (∀ w', Below wz.heap.size wz w' → Below wr.heap.size wr w') := Lib.hid (fun w' hb => tr3 (by rw [← hwz]; exact fbd _ _) hb)
                      have hS0 := HSD.out wz (HZ.out wz (Below.refl _ _))
                      rw [hwz]
                      go_wp2_with fail
                      go_region_held3 (fun w' => w'.cell? ⟨b, o + i1, none⟩ = some (.slice (some ⟨b2, o2, none⟩) m2 c2) ∧ w'.cell? ⟨b2, o2 + u * 2, none⟩ = some (.int .i64 su) ∧ w'.cell? ⟨g8, 0, none⟩ = some (.int .i64 sk)) (first | (with_reducible assumption) | exact hs5 | (refine HSD.out _ (HZ.out _ ?_); go_grown; done))
                        (first
                          | ((refine step_appB w.heap.size rfl _ _ 39 43 _ 32 (by rfl) Try.underlying39 infoQ rfl (by decide) recQ (.slice va vn vc) XT ((i1 : Int), su, (i : Int), sk) rfl wz.heap.size 1 (by rfl) (HGo.out _ (HZ.out _ (by go_grown))).1 (HGo.out _ (HZ.out _ (by go_grown))).2 (rec_new (by go_simp) HEN2.out) hlenT ?_; intro va' vn' vc' w5 ho5 hg5 hor5; obtain ⟨hD1, hD2, hs5⟩ := HApp.out _ w5 va' vn' vc' (HZ.out _ (by go_grown)) hg5 ho5.out)))
                      all_goals
                        rw [← HC9.out] at hD1
                        go_wp2_with fail
                        go_roundw
                        case rel => exact ⟨k + 1, va', vn', vc', by go_num, rfl, by omega, hD1, hD2⟩
                        case measure => simp [intOf]; omega
                    · have hgtn : sk < su := by omega
                      have hgtd : decide (sk < su) = true := by simpa using hgtn
                      have hu0 : u ≠ 0 := fun h => hgt (by rw [← HSU.out]; exact HUP0.out u h)
                      obtain ⟨u1, hu1⟩ : ∃ u1, u - 1 = u1 := ⟨_, rfl⟩
                      have hu1c : (u : Int) - 1 = (u1 : Int) := by omega
                      have hu1m : u1 < m2 := by omega
                      have HU1 : Hid (upTo l2 sk m2 = upTo l2 sk (u1 + 1)) := Lib.hid (by
                        rw [HU.out, upTo_no (by rw [HSU.out]; exact hgt)]
                        rw [show u1 + 1 = u by omega])
                      clear hu1
                      go_wp2_with fail
                      go_quiet (fail)
                      have HB7 : Hid (Below w4.heap.size w4 (wr.drewN nq)) := Lib.hid (tr3 HB5.out (fbd _ _))
                      go_wp2_with fail
                      go_roundw
                      case rel => exact ⟨u1, by go_num, hu1m, HU1, HB7⟩
                      case measure => simp [intOf]; omega
        · obtain rfl : k = m := by omega
          have HO8 : Hid (OR 4 enQ wr w.heap.size 43 (.slice ka km kc) (edsN L (i + 1))) := Lib.hid (by
            rw [edsN, HM.out]
            exact HO3.out)
          clear HO3
          go_wp2_with fail
          go_roundw
          case rel => exact ⟨i + 1, ka, km, kc, by go_num, rfl, by omega, HO8, HB3⟩
          case measure => simp [intOf]; omega
    · obtain rfl : i = n := by omega
      have HO8 : Hid (OR 4 enQ wr w.heap.size 43 (.slice la lm lc) (eds L)) := Lib.hid (by rw [HED.out]; exact HO.out)
      go_wp2_with fail
      first | exact HF.out _ _ _ _ HO8.out HB.out | (go_ret; exact HF.out _ _ _ _ HO8.out HB.out)
end Go.Proofs.Ytagcgffofddcnaa.gr
