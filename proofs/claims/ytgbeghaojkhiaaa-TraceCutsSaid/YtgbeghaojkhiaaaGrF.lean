/- The edges of rows (layer 33): the program. -/
import Derived.Test.YtgbeghaojkhiaaaGrE
namespace Go.Proofs.Ytgbeghaojkhiaaa.gr
open Go.ChangeShapes Go.WideShapes Go.ChangeAt Go.RowKit
open Go.Proofs.Ytgbeghaojkhiaaa.ro
open Go.Proofs.Ytgbeghaojkhiaaa
set_option linter.unusedVariables false
set_option linter.unusedSimpArgs false
theorem infoE : (Try.prog.info? 69).map (fun i => (i.zero, i.size, i.bytes)) = some (some (.agg #[.complex .f64 0 0, .complex .f64 0 0]), 2, 32) := by kernel_rfl
section
variable {α β : Type} {k k' : Nat} {en : α → List Value} {en' : β → List Value}
theorem OR.other {w w' : World} {B B' e e' : Nat} {v v' : Value} {xs : List α} {ys : List β} (h : OR k en w B e v xs) (h2 : OR k' en' w B' e' v' ys) (hne : e ≠ e') (hg : w.grownBy w' v'.ownBlock) : OR k en w' B e v xs := by
  obtain ⟨hl, h | ⟨g, cap, cur, rfl, h1, hh, h3⟩⟩ := h
  · exact ⟨hl, .inl h⟩
  · refine ⟨hl, .inr ⟨g, cap, cur, rfl, h1, ?_, h3⟩⟩
    have hlt := (Array.getElem?_eq_some_iff.1 hh).1
    rw [hg.block g hlt ?_]
    · exact hh
    · intro e0
      obtain ⟨_, ⟨rfl, _⟩ | ⟨g2, cap2, cur2, rfl, _, hh2, _⟩⟩ := h2
      · simp [Value.ownBlock] at e0
      · simp [Value.ownBlock] at e0
        subst e0
        rw [hh] at hh2
        simp at hh2
        exact hne hh2.2
end
theorem OR.place {w : World} {B : Nat} {a : Option Addr} {m c : Nat} {xs : List Pl} (h : OR 2 enP w B 94 (.slice a m c) xs) (j : Nat) (q : Pl) (hq : xs[j]? = some q) :
    ∃ b, a = some ⟨b, 0, none⟩ ∧ b < w.heap.size ∧ w.cell? ⟨b, j * 2, none⟩ = some (.int .i64 (q.1 : Int)) ∧ w.cell? ⟨b, j * 2 + 1, none⟩ = some (.int .i64 (q.2 : Int)) := by
  obtain ⟨b, o, e, hlt, hc⟩ := (OR.rv recP h).at j q hq
  obtain ⟨hl, ⟨e2, _⟩ | ⟨g, cap, cur, e2, _⟩⟩ := h
  · cases e2; cases e
  · rw [Value.slice.injEq] at e2
    obtain ⟨rfl, _, _⟩ := e2
    simp at e
    obtain ⟨rfl, rfl⟩ := e
    have h0 := hc 0 _ rfl
    have h1 := hc 1 _ rfl
    simp only [Nat.zero_add, Nat.add_zero] at h0 h1
    exact ⟨g, rfl, hlt, h0, h1⟩
theorem or_box {w : World} {B g : Nat} (p : Pl) (hB : B ≤ g) (h : w.heap[g]? = some (.cells #[.int .i64 (p.1 : Int), .int .i64 (p.2 : Int)] 94 (0, 0))) : OR 2 enP w B 94 (.slice (some ⟨g, 0, none⟩) 1 1) [p] :=
  ⟨rfl, .inr ⟨g, 1, #[.int .i64 (p.1 : Int), .int .i64 (p.2 : Int)], rfl, hB, h, Nat.le_refl _, by decide, rfl, rfl⟩⟩
set_option maxHeartbeats 4000000 in
theorem edges_no (a : Option Addr) (n c : Nat) (L : List (List C2)) (r : Int) (w : World) (h : PM w (.slice a n c) L) (hr : chkE L = r) (h0 : r ≠ 0) :
    Calls Try.prog 26 #[.slice a n c] w fun e w' => e = .returned (.tuple #[.slice none 0 0, .int .i64 r]) ∧ Below w.heap.size w w' := by
  have HC := Lib.hid (check_v a n c L r w h hr)
  have h0' : (r != 0) = true := by simpa using h0
  have h0'' : (r == 0) = false := by simpa using h0
  clear h hr
  go_enter Try.func26, Try.ntmps26
  go_wp2_with fail
  refine HC.out.mono ?_
  rintro e w5 ⟨rfl, hb5⟩
  go_wp2_with fail
  go_ret2
  exact ⟨rfl, hb5⟩
set_option maxHeartbeats 8000000 in
theorem edges_ok (a : Option Addr) (n c : Nat) (L : List (List C2)) (w : World) (h : PM w (.slice a n c) L) (hr : chkE L = 0) :
    Calls Try.prog 26 #[.slice a n c] w fun e w' => ∃ a' m' c', e = .returned (.tuple #[.slice a' m' c', .int .i64 0]) ∧ OR 2 enE w' w.heap.size 69 (.slice a' m' c') (eds L) ∧ Below w.heap.size w w' := by
  have HC := Lib.hid (check_v a n c L 0 w h hr)
  have hL := chkE_rts hr
  obtain ⟨hnl, hnc, hcm⟩ := h.len
  unfold maxLen at hcm
  have HL := Lib.hid hL
  have HR0 := Lib.hid h
  have HNL := Lib.hid hnl
  have hn100 : n ≤ 100 := by have := hL.m; omega
  have h00 : Hid (Below w.heap.size w w) := Lib.hid (Below.refl _ _)
  have HED : Hid (eds L = edsN L n) := Lib.hid (by unfold eds; rw [hnl])
  have HLEN : Hid (∀ i k j, i < L.length → k < (L.getD i []).length → (edsN L i ++ rowEd L i k ++ (cellE L (i, k)).take j).length ≤ 1000000) := Lib.hid (fun i k j hi hk => by
    have e1 := edsN_len L i
    have e2 := cnt_le hL i (by omega)
    have e3 := rowEd_len L i k
    have e4 := ahd_len L (i, k)
    have e5 := hL.m
    have e6 := (hL.r i hi).m
    have e7 : ((cellE L (i, k)).take j).length ≤ 2 := by
      refine Nat.le_trans (List.length_take_le' _ _) ?_
      unfold cellE
      rw [List.length_map]
      exact e4
    rw [List.length_append, List.length_append]
    omega)
  clear h hr hL hnl
  go_enter Try.func26, Try.ntmps26
  go_wp2_with fail
  refine HC.out.mono ?_
  rintro e w5 ⟨rfl, hb5⟩
  have HB5 := Lib.hid hb5
  have HO5 : Hid (OR 2 enE w5 w.heap.size 69 (.slice none 0 0) (edsN L 0)) := Lib.hid (OR.nil _ _ _)
  clear hb5 HC h00
  go_wp2_with fail
  go_loopw [5, 19] (fun l i wr => ∃ (k : Nat) (a' : Option Addr) (m' c' : Nat), i = .int .i64 (k : Int) ∧ l = .slice a' m' c' ∧ k ≤ n ∧ Hid (OR 2 enE wr w.heap.size 69 (.slice a' m' c') (edsN L k)) ∧ Hid (Below w.heap.size w wr)) (fun l i _ => n - (intOf i).toNat)
  case atStart => exact ⟨0, none, 0, 0, rfl, rfl, by omega, HO5, HB5⟩
  case round =>
    clear HO5 HB5
    obtain ⟨i, la, lm, lc, rfl, rfl, hi, HO, HB⟩ := hrel
    by_cases hlt : i < n
    · obtain ⟨b, o, ai, ci, rfl, hbl, c0, hrow⟩ := (HR0.out.below HB.out).row i hlt
      obtain ⟨m, hm⟩ : ∃ m, (L.getD i []).length = m := ⟨_, rfl⟩
      have hm100 : m ≤ 100 := by have := (HL.out.r i (by rw [← HNL.out]; exact hlt)).m; omega
      rw [hm] at c0
      have HM := Lib.hid hm
      have hiI : (i : Int) < (n : Int) := by omega
      have HO2 : Hid (OR 2 enE wr w.heap.size 69 (.slice la lm lc) (edsN L i ++ rowEd L i 0)) := Lib.hid (by rw [rowEd, List.append_nil]; exact HO.out)
      have HB2 := Lib.hid HB.out
      clear hm hrow HO HB
      go_wp2_with fail
      go_loopw [5, 26] (fun l i' wr => ∃ (k : Nat) (a' : Option Addr) (m' c' : Nat), i' = .int .i64 (k : Int) ∧ l = .slice a' m' c' ∧ k ≤ m ∧ Hid (OR 2 enE wr w.heap.size 69 (.slice a' m' c') (edsN L i ++ rowEd L i k)) ∧ Hid (Below w.heap.size w wr)) (fun l i' _ => m - (intOf i').toNat)
      case atStart => exact ⟨0, la, lm, lc, rfl, rfl, by omega, HO2, HB2⟩
      case round =>
        clear HO2 HB2
        obtain ⟨k, ka, km, kc, rfl, rfl, hk, HO3, HB3⟩ := hrel
        by_cases hkt : k < m
        · have hin : In L (i, k) := ⟨by rw [← HNL.out]; exact hlt, by show k < (L.getD i []).length; rw [HM.out]; exact hkt⟩
          have HIN := Lib.hid hin
          have hkI : (k : Int) < (m : Int) := by omega
          obtain ⟨W, hW⟩ : ∃ W, wr.alloc (.cells #[.int .i64 (i : Int), .int .i64 (k : Int)] 94) = W := ⟨_, rfl⟩
          have hbW : Below wr.heap.size wr W := by rw [← hW]; go_grown
          have hXW : W.heap[wr.heap.size]? = some (.cells #[.int .i64 (i : Int), .int .i64 (k : Int)] 94 (0, 0)) := by rw [← hW]; exact heap_new _ _
          obtain ⟨g9, hg9⟩ : ∃ g, wr.heap.size = g := ⟨_, rfl⟩
          have hBg : w.heap.size ≤ g9 := by have := HB3.out.size; omega
          rw [hg9] at hXW
          obtain ⟨x0, x1⟩ := cel2 hXW
          have hBW := tr3 HB3.out hbW
          have HA := Lib.hid (ahead_of (.slice (some ⟨b, o, none⟩) n c) L (i, k) W (HR0.out.below hBW) hin HL.out)
          have HBW := Lib.hid hBW
          have HOW := Lib.hid (OR.below HO3.out hbW)
          have HXW := Lib.hid (or_box (B := w.heap.size) (i, k) hBg hXW)
          clear hin hbW hXW hBW HB3 HO3 c0
          go_wp2_with fail
          refine HA.out.mono ?_
          rintro e w6 ⟨fa, fm, fc, rfl, hf6, hb6⟩
          have hfm : fm = (ahd L (i, k)).length := (OR.rv recP hf6).len.1
          have hf2 := ahd_len L (i, k)
          rw [← hfm] at hf2
          have HFM := Lib.hid hfm
          have HB6 := Lib.hid (tr3 HBW.out hb6)
          have HF6 := Lib.hid (show ∃ B, OR 2 enP w6 B 94 (.slice fa fm fc) (ahd L (i, k)) from ⟨_, hf6⟩)
          have HX6 := Lib.hid (OR.below HXW.out hb6)
          have HO6 : Hid (OR 2 enE w6 w.heap.size 69 (.slice ka km kc) (edsN L i ++ rowEd L i k ++ (cellE L (i, k)).take 0)) := Lib.hid (by rw [List.take_zero, List.append_nil]; exact OR.below HOW.out hb6)
          clear hf6 hb6 hfm HA HBW HOW HXW x0 x1
          go_wp2_with fail
          go_loopw [5, 36] (fun l i' wr => ∃ (j : Nat) (a' : Option Addr) (m' c' : Nat), i' = .int .i64 (j : Int) ∧ l = .slice a' m' c' ∧ j ≤ fm ∧ Hid (OR 2 enE wr w.heap.size 69 (.slice a' m' c') (edsN L i ++ rowEd L i k ++ (cellE L (i, k)).take j)) ∧ Hid (∃ B, OR 2 enP wr B 94 (.slice fa fm fc) (ahd L (i, k))) ∧ Hid (OR 2 enP wr w.heap.size 94 (.slice (some ⟨g9, 0, none⟩) 1 1) [(i, k)]) ∧ Hid (Below w.heap.size w wr)) (fun l i' _ => fm - (intOf i').toNat)
          case atStart => exact ⟨0, ka, km, kc, rfl, rfl, by omega, HO6, HF6, HX6, HB6⟩
          case round =>
            clear HO6 HF6 HX6 HB6
            obtain ⟨j, ja, jm, jc, rfl, rfl, hj, HO7, HF7, HX7, HB7⟩ := hrel
            by_cases hjt : j < fm
            · have hjI : (j : Int) < (fm : Int) := by omega
              obtain ⟨q, hq⟩ : ∃ q, (ahd L (i, k))[j]? = some q := ⟨_, List.getElem?_eq_getElem (by rw [← HFM.out]; exact hjt)⟩
              obtain ⟨BF, hF7⟩ := HF7.out
              obtain ⟨bf, rfl, hbf, f0, f1⟩ := OR.place hF7 j q hq
              obtain ⟨b9, e9, hb9, y0, y1⟩ := OR.place HX7.out 0 (i, k) rfl
              cases e9
              simp only [Nat.zero_mul, Nat.zero_add] at y0 y1
              obtain ⟨W, hW⟩ : ∃ W, wr.alloc (.cells #[.int .i64 (q.1 : Int), .int .i64 (q.2 : Int)] 94) = W := ⟨_, rfl⟩
              have hbW : Below wr.heap.size wr W := by rw [← hW]; go_grown
              have hXW : W.heap[wr.heap.size]? = some (.cells #[.int .i64 (q.1 : Int), .int .i64 (q.2 : Int)] 94 (0, 0)) := by rw [← hW]; exact heap_new _ _
              obtain ⟨g8, hg8⟩ : ∃ g, wr.heap.size = g := ⟨_, rfl⟩
              rw [hg8] at hXW
              obtain ⟨z0, z1⟩ := cel2 hXW
              have hzl : g8 < W.heap.size := lt_of hXW
              have hyl : g9 < W.heap.size := Nat.lt_of_lt_of_le hb9 hbW.size
              have y0' := (hbW.cell (p := ⟨g9, 0, none⟩) hb9).trans y0
              have y1' := (hbW.cell (p := ⟨g9, 1, none⟩) hb9).trans y1
              have hqin : In L q := ahd_in HL.out HIN.out (List.mem_of_getElem? hq)
              have HBW := Lib.hid (tr3 HB7.out hbW)
              obtain ⟨X1, hX1⟩ : ∃ X, fl.enc (hd (q.1 : Int)) = X := ⟨_, rfl⟩
              obtain ⟨Y1, hY1⟩ : ∃ X, fl.enc (hd (st L q)) = X := ⟨_, rfl⟩
              obtain ⟨X2, hX2⟩ : ∃ X, fl.enc (hd (i : Int)) = X := ⟨_, rfl⟩
              obtain ⟨Y2, hY2⟩ : ∃ X, fl.enc (hd (st L (i, k))) = X := ⟨_, rfl⟩
              have hc1 : cx q.1 (st L q) = .complex .f64 X1 Y1 := by unfold cx; rw [hX1, hY1]
              have hc2 : cx i (st L (i, k)) = .complex .f64 X2 Y2 := by unfold cx; rw [hX2, hY2]
              have HEN : Hid ([Value.complex .f64 X1 Y1, Value.complex .f64 X2 Y2] = enE ((q.1 : Int), st L q, (i : Int), st L (i, k))) := Lib.hid (by unfold enE; rw [hc1, hc2])
              have HN1 : Hid (∀ w9, Below W.heap.size W w9 → Calls Try.prog 39 #[.slice (some ⟨b, o, none⟩) n c, .agg #[.int .i64 (q.1 : Int), .int .i64 (q.2 : Int)]] w9 fun e w' => e = .returned (.complex .f64 X1 Y1) ∧ Below w9.heap.size w9 w') := Lib.hid (fun w9 hb9 => by rw [← hc1]; exact node_of _ L q w9 (HR0.out.below (tr3 HBW.out hb9)) hqin)
              have HN2 : Hid (∀ w9, Below W.heap.size W w9 → Calls Try.prog 39 #[.slice (some ⟨b, o, none⟩) n c, .agg #[.int .i64 (i : Int), .int .i64 (k : Int)]] w9 fun e w' => e = .returned (.complex .f64 X2 Y2) ∧ Below w9.heap.size w9 w') := Lib.hid (fun w9 hb9 => by rw [← hc2]; exact node_of _ L (i, k) w9 (HR0.out.below (tr3 HBW.out hb9)) HIN.out)
              have HS : Hid (∀ w', Below W.heap.size W w' → w'.cell? ⟨g8, 0, none⟩ = some (.int .i64 (q.1 : Int)) ∧ w'.cell? ⟨g8, 1, none⟩ = some (.int .i64 (q.2 : Int)) ∧ w'.cell? ⟨g9, 0, none⟩ = some (.int .i64 (i : Int)) ∧ w'.cell? ⟨g9, 1, none⟩ = some (.int .i64 (k : Int))) := Lib.hid (fun w' hb => ⟨(hb.cell (p := ⟨g8, 0, none⟩) hzl).trans z0, (hb.cell (p := ⟨g8, 1, none⟩) hzl).trans z1, (hb.cell (p := ⟨g9, 0, none⟩) hyl).trans y0', (hb.cell (p := ⟨g9, 1, none⟩) hyl).trans y1'⟩)
              have HTK : Hid ((cellE L (i, k)).take (j + 1) = (cellE L (i, k)).take j ++ [((q.1 : Int), st L q, (i : Int), st L (i, k))]) := Lib.hid (by
                rw [List.take_add_one]
                unfold cellE
                rw [List.getElem?_map, hq]
                rfl)
              have HGo : Hid (∀ w', Below W.heap.size W w' → OR 2 enE w' w.heap.size 69 (.slice ja jm jc) (edsN L i ++ rowEd L i k ++ (cellE L (i, k)).take j) ∧ w.heap.size ≤ w'.heap.size) := Lib.hid (fun w' hb => ⟨OR.below (OR.below HO7.out hbW) hb, Nat.le_trans HBW.out.size hb.size⟩)
              have HApp : Hid (∀ w7 w4 va vn vc, Below W.heap.size W w7 → w7.grownBy w4 (Value.slice ja jm jc).ownBlock → OR 2 enE w4 w.heap.size 69 (.slice va vn vc) (edsN L i ++ rowEd L i k ++ (cellE L (i, k)).take j ++ [((q.1 : Int), st L q, (i : Int), st L (i, k))]) → Hid (OR 2 enE w4 w.heap.size 69 (.slice va vn vc) (edsN L i ++ rowEd L i k ++ (cellE L (i, k)).take (j + 1))) ∧ Hid (∃ B, OR 2 enP w4 B 94 (.slice (some ⟨bf, 0, none⟩) fm fc) (ahd L (i, k))) ∧ Hid (OR 2 enP w4 w.heap.size 94 (.slice (some ⟨g9, 0, none⟩) 1 1) [(i, k)]) ∧ Hid (Below w.heap.size w w4) ∧ (w4.cell? ⟨g8, 0, none⟩ = some (.int .i64 (q.1 : Int)) ∧ w4.cell? ⟨g8, 1, none⟩ = some (.int .i64 (q.2 : Int)) ∧ w4.cell? ⟨g9, 0, none⟩ = some (.int .i64 (i : Int)) ∧ w4.cell? ⟨g9, 1, none⟩ = some (.int .i64 (k : Int)))) := Lib.hid (fun w7 w4 va vn vc hb hg ho => by
                have hb7 := tr3 HBW.out hb
                have ho7 := (HGo.out _ hb).1
                have hx9 : OR 2 enP w4 w.heap.size 94 (.slice (some ⟨g9, 0, none⟩) 1 1) [(i, k)] := OR.other (OR.below (OR.below HX7.out hbW) hb) ho7 (by decide) hg
                have hx8 : OR 2 enP w4 w.heap.size 94 (.slice (some ⟨g8, 0, none⟩) 1 1) [q] := OR.other (OR.below (or_box q (by have := HB7.out.size; omega) hXW) hb) ho7 (by decide) hg
                refine ⟨Lib.hid ?_, Lib.hid ⟨BF, ?_⟩, Lib.hid hx9, Lib.hid ?_, ?_⟩
                · rw [HTK.out, ← List.append_assoc]; exact ho
                · exact OR.other (OR.below (OR.below hF7 hbW) hb) ho7 (by decide) hg
                · exact hb7.trans ⟨hg.os, hg.tape, hg.output, hg.size, fun p hp => hg.block p (Nat.lt_of_lt_of_le hp hb7.size) (fun e => by have := (ho7.lt p e.symm).1; omega)⟩
                · obtain ⟨_, e8, _, v0, v1⟩ := OR.place hx8 0 q rfl
                  cases e8
                  obtain ⟨_, e9, _, v2, v3⟩ := OR.place hx9 0 (i, k) rfl
                  cases e9
                  simp only [Nat.zero_mul, Nat.zero_add] at v0 v1 v2 v3
                  exact ⟨v0, v1, v2, v3⟩)
              have hlen := HLEN.out i k j (by rw [← HNL.out]; exact hlt) (by rw [HM.out]; exact hkt)
              obtain ⟨XS, hXS⟩ : ∃ XS, edsN L i ++ rowEd L i k ++ (cellE L (i, k)).take j = XS := ⟨_, rfl⟩
              rw [hXS] at hlen HGo HApp
              clear hX1 hY1 hX2 hY2 hc1 hc2 hXS hqin hXW hbW hq HTK HO7 HF7 HX7 hF7
              go_wp2_with fail
              go_region_held3 (fun w' => w'.cell? ⟨g8, 0, none⟩ = some (.int .i64 (q.1 : Int)) ∧ w'.cell? ⟨g8, 1, none⟩ = some (.int .i64 (q.2 : Int)) ∧ w'.cell? ⟨g9, 0, none⟩ = some (.int .i64 (i : Int)) ∧ w'.cell? ⟨g9, 1, none⟩ = some (.int .i64 (k : Int))) (first | (with_reducible assumption) | exact ⟨z0, z1, y0', y1'⟩ | exact hs4 | exact HS.out _ hbb5 | (refine HS.out _ (tr3 hbb5 ?_); go_grown; done) | (refine HS.out _ ?_; go_grown; done))
                (first
                  | ((go_at_call 39; (with_reducible refine (HN1.out _ ?_).mono ?_); (focus first | (go_grown; done) | exact hbb5 | exact tr3 hbb5 (by go_grown)); rintro e w5 ⟨rfl, hb5⟩; have hbb5 : Below W.heap.size W w5 := by first | exact tr3 (tr3 hbb5 (by go_grown)) hb5 | exact tr3 (by go_grown) hb5))
                  | ((go_at_call 39; (with_reducible refine (HN2.out _ ?_).mono ?_); (focus first | (go_grown; done) | exact hbb5 | exact tr3 hbb5 (by go_grown)); rintro e w5 ⟨rfl, hb5⟩; have hbb5 : Below W.heap.size W w5 := by first | exact tr3 (tr3 hbb5 (by go_grown)) hb5 | exact tr3 (by go_grown) hb5))
                  | ((refine step_appB w.heap.size rfl _ _ 62 69 _ 32 (by rfl) Try.underlying62 infoE rfl (by decide) recE (.slice ja jm jc) XS ((q.1 : Int), st L q, (i : Int), st L (i, k)) rfl w5.heap.size 1 (by rfl) (HGo.out _ (tr3 hbb5 (by go_grown))).1 (HGo.out _ (tr3 hbb5 (by go_grown))).2 (rec_new (by go_simp) HEN.out) hlen ?_; intro va vn vc w4 ho4 hg4 hor4; obtain ⟨hA1, hA2, hA3, hA4, hs4⟩ := HApp.out _ w4 va vn vc (tr3 hbb5 (by go_grown)) hg4 ho4.out)))
              all_goals
                clear HApp HGo HS HN1 HN2 HEN
                go_wp2_with fail
                go_roundw
                case rel => exact ⟨j + 1, va, vn, vc, by go_num, rfl, by omega, hA1, hA2, hA3, hA4⟩
                case measure => simp [intOf]; omega
            · obtain rfl : j = fm := by omega
              have HO8 : Hid (OR 2 enE wr w.heap.size 69 (.slice ja jm jc) (edsN L i ++ rowEd L i (k + 1))) := Lib.hid (by
                have e : (cellE L (i, k)).take j = cellE L (i, k) := List.take_of_length_le (by unfold cellE; rw [List.length_map, ← HFM.out]; exact Nat.le_refl _)
                have := HO7.out
                rw [e] at this
                rw [rowEd, ← List.append_assoc]
                exact this)
              clear HO7 HF7 HX7
              go_wp2_with fail
              go_roundw
              case rel => exact ⟨k + 1, ja, jm, jc, by go_num, rfl, by omega, HO8, HB7⟩
              case measure => simp [intOf]; omega
        · obtain rfl : k = m := by omega
          have HO8 : Hid (OR 2 enE wr w.heap.size 69 (.slice ka km kc) (edsN L (i + 1))) := Lib.hid (by
            rw [edsN, HM.out]
            exact HO3.out)
          clear HO3
          go_wp2_with fail
          go_roundw
          case rel => exact ⟨i + 1, ka, km, kc, by go_num, rfl, by omega, HO8, HB3⟩
          case measure => simp [intOf]; omega
    · obtain rfl : i = n := by omega
      have HO8 : Hid (OR 2 enE wr w.heap.size 69 (.slice la lm lc) (eds L)) := Lib.hid (by rw [HED.out]; exact HO.out)
      go_wp2_with fail
      go_ret2
      exact ⟨la, lm, lc, rfl, HO8.out, HB.out⟩
end Go.Proofs.Ytgbeghaojkhiaaa.gr
