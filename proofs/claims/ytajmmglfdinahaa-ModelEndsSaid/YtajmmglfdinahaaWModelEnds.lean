/- From either end: the law ModelEnds answers true. No condition. -/
import Derived.Test.YtajmmglfdinahaaMoD
import Derived.Test.YtajmmglfdinahaaGrids
namespace Go.Proofs.Ytajmmglfdinahaa.modelEnds
open Go.ChangeShapes Go.WideShapes Go.ChangeAt Go.RowKit Go.Proofs.Ytajmmglfdinahaa.mo
set_option linter.unusedVariables false
set_option linter.unusedSimpArgs false
theorem take_last (L : List Int) (m : Nat) (h : m < L.length) : L.take (m + 1) = L.take m ++ [L.getD m 0] := by
  rw [List.take_add_one]; simp [h]
theorem drop_first (L : List Int) (m : Nat) (h : m < L.length) : L.drop m = L.getD m 0 :: L.drop (m + 1) := by
  rw [List.drop_eq_getElem_cons h]; simp [h]
theorem td_first (L : List Int) (f g : Nat) (h : f < g) (hg : g ≤ L.length) : (L.take g).drop f = L.getD f 0 :: (L.take g).drop (f + 1) := by
  have hl : f < (L.take g).length := by rw [List.length_take]; omega
  rw [drop_first _ _ hl]
  simp [List.getElem?_take_of_lt h]
theorem td_last (L : List Int) (f g : Nat) (h : f ≤ g) (hg : g < L.length) : (L.take (g + 1)).drop f = (L.take g).drop f ++ [L.getD g 0] := by
  rw [take_last L g hg, List.drop_append_of_le_length (by rw [List.length_take]; omega)]
theorem rev_more (L : List Int) (m : Nat) (h : m < L.length) : (L.drop m).reverse = (L.drop (m + 1)).reverse ++ [L.getD m 0] := by
  rw [drop_first L m h]; simp
set_option maxRecDepth 20000 in
set_option maxHeartbeats 4000000 in
theorem core (a0 : Option Addr) (len cap : Nat) (L : List Int) (a1 : Option Addr) (len1 cap1 : Nat) (z1 : Nat → Bool) (w : World) (hL : L.length = len) (h3 : len ≤ 300) (h10 : len1 ≤ 1000)
    (hv : View w (.slice a0 len cap) L)
    (hz : ∀ k, k < len → ∃ b off, a0 = some ⟨b, off, none⟩ ∧ b < w.heap.size ∧ ∀ k, k < len → w.cell? ⟨b, off + k, none⟩ = some (.int .i64 (L.getD k 0)))
    (ho : ∀ k, k < len1 → ∃ b off, a1 = some ⟨b, off, none⟩ ∧ b < w.heap.size ∧ w.cell? ⟨b, off + k, none⟩ = some (.bool (z1 k))) :
    Calls Try.prog 7 #[.slice a0 len cap, .slice a1 len1 cap1] w fun e w' => e = .returned (.bool true) ∧ Below w.heap.size w w' := by
  have hd5 : decide (300 < len) = false := by simp; omega
  have hd6 : ¬ (300 : Int) < (len : Int) := by omega
  have hd7 : decide (1000 < len1) = false := by simp; omega
  have hd8 : ¬ (1000 : Int) < (len1 : Int) := by omega
  have HZ := Lib.hid hz
  have HO := Lib.hid ho
  have HV := Lib.hid hv
  have HL := Lib.hid hL
  clear hz ho hv hL
  go_enter Try.func7, Try.ntmps7
  go_wp2_with fail
  refine (works14 w).mono ?_
  rintro e w1 ⟨rfl, hb1⟩
  have hs1 := hb1.size
  have HB1 := Lib.hid hb1
  clear hb1
  go_wp2_with fail
  refine (new_of 1000 w.heap.size w1 hs1).mono ?_
  rintro e w2 ⟨rfl, hm1, hb2⟩
  have HM1 := Lib.hid hm1
  have HB2 := Lib.hid hb2
  have hs2 : w1.heap.size < w2.heap.size := hm1.lt
  clear hm1 hb2
  go_wp2_with fail
  refine (new_of 1000 w.heap.size w2 (by omega)).mono ?_
  rintro e w3 ⟨rfl, hm2, hb3⟩
  have HM2 := Lib.hid hm2
  have HB3 := Lib.hid hb3
  have hs3 : w2.heap.size < w3.heap.size := hm2.lt
  clear hm2 hb3
  go_wp2_with fail
  refine (new_of 1000 w.heap.size w3 (by omega)).mono ?_
  rintro e w4 ⟨rfl, hm3, hb4⟩
  have hs4 : w3.heap.size < w4.heap.size := hm3.lt
  have HF : Hid (MF w4.heap.size 3 6 (fun i => if i = 0 then w1.heap.size else if i = 1 then w2.heap.size else w3.heap.size) (fun _ => .slice none 0 0) (fun _ => []) w4) := by
    have e1 := (((HM1.out.below HB3.out).below hb4).obj)
    have e2 := ((HM2.out.below hb4).obj)
    have e3 := hm3.obj
    refine Lib.hid ⟨?_, ?_, fun i hi => World.ownsRow_nil _ _ _ _, fun i j _ _ _ k e => by simp [Value.ownBlock] at e, ?_, Nat.le_refl _, by decide⟩
    · intro i hi
      match i, hi with
      | 0, _ => exact e1
      | 1, _ => exact e2
      | 2, _ => exact e3
    · intro i hi
      match i, hi with
      | 0, _ => show w1.heap.size < _; omega
      | 1, _ => show w2.heap.size < _; omega
      | 2, _ => show w3.heap.size < _; omega
    · intro i j hi hj hij
      match i, hi, j, hj with
      | 0, _, 0, _ => exact absurd rfl hij
      | 0, _, 1, _ => show w1.heap.size ≠ w2.heap.size; omega
      | 0, _, 2, _ => show w1.heap.size ≠ w3.heap.size; omega
      | 1, _, 0, _ => show w2.heap.size ≠ w1.heap.size; omega
      | 1, _, 1, _ => exact absurd rfl hij
      | 1, _, 2, _ => show w2.heap.size ≠ w3.heap.size; omega
      | 2, _, 0, _ => show w3.heap.size ≠ w1.heap.size; omega
      | 2, _, 1, _ => show w3.heap.size ≠ w2.heap.size; omega
      | 2, _, 2, _ => exact absurd rfl hij
  obtain ⟨M, m0, m1, m2, hMF⟩ : ∃ M : Nat → Nat, M 0 = w1.heap.size ∧ M 1 = w2.heap.size ∧ M 2 = w3.heap.size ∧ MF w4.heap.size 3 6 M (fun _ => .slice none 0 0) (fun _ => []) w4 := ⟨_, rfl, rfl, rfl, HF.out⟩
  have HB4 : Hid (Below w.heap.size w w4) := Lib.hid (((HB1.out.trans (HB2.out.mono hs1)).trans (HB3.out.mono (by omega))).trans (hb4.mono (by omega)))
  have d0 : w.heap.size ≤ M 0 := by omega
  have d1 : w.heap.size ≤ M 1 := by omega
  have d2 : w.heap.size ≤ M 2 := by omega
  have bF : w.heap.size ≤ w4.heap.size := by omega
  rw [← m0, ← m1, ← m2]
  have HMF := Lib.hid hMF
  clear HF hMF hm3 hb4 HM1 HM2 HB1 HB2 HB3 m0 m1 m2 hs1 hs2 hs3 hs4
  obtain ⟨F, hF⟩ : ∃ F, w4.heap.size = F := ⟨_, rfl⟩
  rw [hF] at HMF bF
  clear hF
  go_wp2_with fail
  go_loopw [10, 11] (fun v i wr => ∃ (k : Nat) (R : Nat → Value) (Y : Nat → List Int), k ≤ len ∧ v = R 5 ∧ i = .int .i64 (k : Int) ∧ Hid (MF F 3 6 M R Y wr) ∧ Hid (Below w.heap.size w wr) ∧ Hid (Y 0 = L.take k ∧ Y 1 = L.take k ∧ Y 2 = L.take k ∧ Y 3 = [] ∧ Y 4 = [] ∧ Y 5 = (L.drop (len - k)).reverse ∧ R 3 = .slice none 0 0 ∧ R 4 = .slice none 0 0)) (fun _ i _ => len - (intOf i).toNat)
  case atStart => exact ⟨0, _, _, by omega, rfl, rfl, HMF, HB4, Lib.hid ⟨by simp, by simp, by simp, rfl, rfl, by simp [HL.out], rfl, rfl⟩⟩
  case round =>
    clear HMF HB4
    obtain ⟨k, R, Y, hk, rfl, rfl, HM, HB, HY⟩ := hrel
    by_cases hlt : k < len
    · obtain ⟨b, off, rfl, hbl, hc⟩ := HZ.out k hlt
      have hk1 : ((len - 1 - k : Nat) : Int) = (len : Int) - 1 - (k : Int) := by omega
      have hx := (HB.out.cell (p := ⟨b, off + k, none⟩) hbl).trans (hc k hlt)
      have HC := Lib.hid hc
      obtain ⟨x, hxx⟩ : ∃ x, L.getD k 0 = x := ⟨_, rfl⟩
      rw [hxx] at hx
      have HX := Lib.hid hxx
      clear hc hxx
      have lk : (L.take k).length < 1000 := by rw [List.length_take]; omega
      have hbl2 : b < wr.heap.size := Nat.lt_of_lt_of_le hbl HB.out.size
      go_wp2_with fail
      refine (mf_push HM 0 w.heap.size (by decide) d0 x (by rw [HY.out.1]; exact lk)).mono ?_
      rintro e w5 ⟨rfl, R5, Y5, H5⟩
      replace hx := (cell_heap (H5.out.k.2 b (Nat.lt_of_lt_of_le hbl bF) (fun i hi => by match i, hi with | 0, _ => omega | 1, _ => omega | 2, _ => omega))).trans hx
      have e2 := H5.out.o 1 (by decide)
      go_wp2_with fail
      refine (mf_push (Lib.hid H5.out.m) 1 w.heap.size (by decide) d1 x (by rw [H5.out.o 1 (by decide), HY.out.2.1]; exact lk)).mono ?_
      rintro e w6 ⟨rfl, R6, Y6, H6⟩
      replace hx := (cell_heap (H6.out.k.2 b (Nat.lt_of_lt_of_le hbl bF) (fun i hi => by match i, hi with | 0, _ => omega | 1, _ => omega | 2, _ => omega))).trans hx
      go_wp2_with fail
      refine (mf_push (Lib.hid H6.out.m) 2 w.heap.size (by decide) d2 x (by rw [H6.out.o 2 (by decide), H5.out.o 2 (by decide), HY.out.2.2.1]; exact lk)).mono ?_
      rintro e w7 ⟨rfl, R7, Y7, H7⟩
      replace hx := (cell_heap (H7.out.k.2 b (Nat.lt_of_lt_of_le hbl bF) (fun i hi => by match i, hi with | 0, _ => omega | 1, _ => omega | 2, _ => omega))).trans hx
      obtain ⟨m, hm⟩ : ∃ m, m = len - 1 - k := ⟨_, rfl⟩
      have hq0 : (len : Int) - 1 - (k : Int) = (m : Int) := by omega
      have hq1 : IntKind.i64.wrap ((len : Int) - 1) = (len : Int) - 1 := by rw [IntKind.wrap_i64]; omega
      have hq2 : IntKind.i64.wrap ((len : Int) - 1 - (k : Int)) = (m : Int) := by rw [IntKind.wrap_i64]; omega
      have hq4 : (m : Int) < (len : Int) := by omega
      have hbF : b < F := Nat.lt_of_lt_of_le hbl bF
      have hK : ∀ {v w'}, KF F 3 M v w' → w'.heap[b]? = v.heap[b]? := fun h => h.2 b hbF (fun i hi => by match i, hi with | 0, _ => omega | 1, _ => omega | 2, _ => omega)
      obtain ⟨y, hyy⟩ : ∃ y, L.getD m 0 = y := ⟨_, rfl⟩
      have hy : w7.cell? ⟨b, off + m, none⟩ = some (.int .i64 y) := by
        rw [← hyy]
        exact (cell_heap ((hK H7.out.k).trans ((hK H6.out.k).trans (hK H5.out.k)))).trans ((HB.out.cell (p := ⟨b, off + m, none⟩) hbl).trans (HC.out m (by omega)))
      have hr5 : R7 5 = R 5 := by rw [H7.out.r 5 (by decide), H6.out.r 5 (by decide), H5.out.r 5 (by decide)]
      have hy5 : Y7 5 = Y 5 := by rw [H7.out.o 5 (by decide), H6.out.o 5 (by decide), H5.out.o 5 (by decide)]
      have hlY : (Y 5).length ≤ 2000 := by rw [HY.out.2.2.2.2.2.1]; simp; have := HL.out; omega
      have hrow : OI w7 F (R 5) (Y 5) := by rw [← hr5, ← hy5]; exact H7.out.m.row 5 (by decide)
      have HN := H7.out.m.below (show Below w7.heap.size w7 (w7.alloc (.cells #[.int .i64 y] 3)) by go_grown)
      have hrow' : OI (w7.alloc (.cells #[.int .i64 y] 3)) F (R 5) (Y 5) := by rw [← hr5, ← hy5]; exact HN.1.row 5 (by decide)
      have HNH := Lib.hid HN
      have HROW := Lib.hid hrow'
      have hF7 : F ≤ (w7.alloc (.cells #[.int .i64 y] 3)).heap.size := HN.1.top
      have HYY := Lib.hid (And.intro hyy hm)
      have HR := Lib.hid (And.intro hr5 hy5)
      clear hK hrow hrow' HN hyy hm hr5 hy5 hx
      go_wp2_with ((at_builtin; refine wpList_app1 rfl _ _ rfl F (R 5) (Y 5) rfl ⟨w7.heap.size, 0, none⟩ 1 rfl y HROW.out (by go_simp) rfl (by omega) hF7 ?_))
      intro v' W2 hr2 hg2 ho2
      replace hr2 : OI W2 F v' (Y 5 ++ [y]) := by unfold OI; simpa using hr2
      have H8 := HNH.out.1.fa (i := 5) (B := w.heap.size) (by decide) (by decide) bF hr2 (by rw [HR.out.1]; exact hg2) (by rw [HR.out.1]; simpa using ho2)
      obtain ⟨R8, Y8, rfl, H8⟩ := H8
      clear hr2 hg2 ho2
      go_wp2_with fail
      go_roundw
      case rel =>
        have q : ∀ j, j ≠ 5 → Y8 j = Y7 j := H8.out.o
        have c8 : Below w.heap.size w W2 := ((((HB.out.trans H5.out.b).trans H6.out.b).trans H7.out.b).trans ((show Below w7.heap.size w7 (w7.alloc (.cells #[.int .i64 y] 3)) by go_grown).mono (by have := H7.out.m.top; omega))).trans H8.out.b
        have l2 := HL.out
        have hyy := HYY.out
        refine ⟨k + 1, R8, Y8, by omega, rfl, by go_num, Lib.hid H8.out.m, Lib.hid c8, Lib.hid ⟨?_, ?_, ?_, ?_, ?_, ?_, ?_, ?_⟩⟩
        · rw [q 0 (by decide), H7.out.o 0 (by decide), H6.out.o 0 (by decide), H5.out.y, HY.out.1, take_last L k (by omega), HX.out]
        · rw [q 1 (by decide), H7.out.o 1 (by decide), H6.out.y, H5.out.o 1 (by decide), HY.out.2.1, take_last L k (by omega), HX.out]
        · rw [q 2 (by decide), H7.out.y, H6.out.o 2 (by decide), H5.out.o 2 (by decide), HY.out.2.2.1, take_last L k (by omega), HX.out]
        · rw [q 3 (by decide), H7.out.o 3 (by decide), H6.out.o 3 (by decide), H5.out.o 3 (by decide)]; exact HY.out.2.2.2.1
        · rw [q 4 (by decide), H7.out.o 4 (by decide), H6.out.o 4 (by decide), H5.out.o 4 (by decide)]; exact HY.out.2.2.2.2.1
        · rw [H8.out.y, HY.out.2.2.2.2.2.1, show len - (k + 1) = m by omega, rev_more L m (by omega), hyy.1, show m + 1 = len - k by omega]
        · rw [H8.out.r 3 (by decide), H7.out.r 3 (by decide), H6.out.r 3 (by decide), H5.out.r 3 (by decide)]; exact HY.out.2.2.2.2.2.2.1
        · rw [H8.out.r 4 (by decide), H7.out.r 4 (by decide), H6.out.r 4 (by decide), H5.out.r 4 (by decide)]; exact HY.out.2.2.2.2.2.2.2
      case measure => simp [intOf]; omega
    · obtain rfl : k = len := by omega
      obtain ⟨vb, hvb⟩ : ∃ vb, R 5 = vb := ⟨_, rfl⟩
      rw [hvb]
      have HVB := Lib.hid hvb
      clear hvb
      go_wp2_with fail
      go_loopw [8, 9, 12, 13, 14] (fun p s fi la i wr => ∃ (j f g : Nat) (R : Nat → Value) (Y : Nat → List Int), j ≤ k ∧ f + k = g + j ∧ g ≤ k ∧ p = R 3 ∧ s = R 4 ∧ fi = .int .i64 (f : Int) ∧ la = .int .i64 (g : Int) ∧ i = .int .i64 (j : Int) ∧ Hid (MF F 3 6 M R Y wr) ∧ Hid (Below w.heap.size w wr) ∧ Hid (R 5 = vb ∧ Y 0 = L.take (k - j) ∧ Y 1 = L.drop j ∧ Y 2 = (L.take g).drop f ∧ Y 3 = (L.drop (k - j)).reverse ∧ Y 4 = L.take j ∧ Y 5 = L.reverse)) (fun _ _ _ _ i _ => k - (intOf i).toNat)
      case atStart =>
        have l2 := HL.out
        obtain ⟨y0, y1, y2, y3, y4, y5, r3, r4⟩ := HY.out
        refine ⟨0, 0, k, R, Y, by omega, by omega, by omega, r3.symm, r4.symm, rfl, rfl, rfl, HM, HB, Lib.hid ⟨HVB.out, ?_, ?_, ?_, ?_, ?_, ?_⟩⟩
        · rw [y0]; rfl
        · rw [y1, ← l2]; simp
        · rw [y2]; simp
        · rw [y3, ← l2]; simp
        · rw [y4]; simp
        · rw [y5]; simp
      case round =>
        clear HM HB HY HVB
        obtain ⟨j, f, g, R, Y, hj, hfg, hg, rfl, rfl, rfl, rfl, rfl, HM, HB, HY⟩ := hrel
        by_cases hlt : j < k
        · obtain ⟨b, off, rfl, hbl, hc⟩ := HZ.out j hlt
          have HC := Lib.hid hc
          clear hc
          obtain ⟨m, hm⟩ : ∃ m, m + 1 = k - j := ⟨k - j - 1, by omega⟩
          have e0 : Y 0 = L.take m ++ [L.getD m 0] := by rw [HY.out.2.1, ← hm, take_last L m (by have := HL.out; omega)]
          have e1 : Y 1 = L.getD j 0 :: L.drop (j + 1) := by rw [HY.out.2.2.1, drop_first L j (by have := HL.out; omega)]
          obtain ⟨x, hxx⟩ : ∃ x, L.getD m 0 = x := ⟨_, rfl⟩
          obtain ⟨y, hyy⟩ : ∃ y, L.getD j 0 = y := ⟨_, rfl⟩
          rw [hxx] at e0
          rw [hyy] at e1
          have E0 := Lib.hid e0
          have E1 := Lib.hid e1
          have HX := Lib.hid (And.intro hxx hyy)
          clear e0 e1 hxx hyy
          have lm : (L.take m).length < 1000 := by rw [List.length_take]; omega
          have lj : (L.drop (j + 1)).length < 1000 := by rw [List.length_drop]; have := HL.out; omega
          have l3 : (Y 3).length ≤ 2000 := by rw [HY.out.2.2.2.2.1]; simp; have := HL.out; omega
          have l4 : (Y 4).length ≤ 2000 := by rw [HY.out.2.2.2.2.2.1]; simp; have := HL.out; omega
          go_wp2_with fail
          refine (mf_pop HM 0 w.heap.size (by decide) d0 _ x E0.out lm).mono ?_
          rintro e w5 ⟨rfl, R5, Y5, H5⟩
          go_wp2_with fail
          refine (mf_steal (Lib.hid H5.out.m) 1 w.heap.size (by decide) d1 _ y (by rw [H5.out.o 1 (by decide)]; exact E1.out) lj).mono ?_
          rintro e w6 ⟨rfl, R6, Y6, H6⟩
          have r3 : R6 3 = R 3 := by rw [H6.out.r 3 (by decide), H5.out.r 3 (by decide)]
          have y3 : Y6 3 = Y 3 := by rw [H6.out.o 3 (by decide), H5.out.o 3 (by decide)]
          have A3 := MF.room (Lib.hid H6.out.m) 3 (by decide) x
          rw [r3, y3] at A3
          have HR3 := Lib.hid (And.intro r3 y3)
          clear r3 y3
          go_wp2_with ((at_builtin; refine wpList_app1 rfl _ _ rfl F (R 3) (Y 3) rfl ⟨w6.heap.size, 0, none⟩ 1 rfl x A3.out.1 (by go_simp) rfl (by omega) A3.out.2 ?_))
          intro v7 w7 hr7 hg7 ho7
          obtain ⟨R7, Y7, rfl, H7⟩ := MF.more (Lib.hid H6.out.m) 3 w.heap.size (by decide) (by decide) bF (y := x) (w' := w7) (v' := v7) (by rw [HR3.out.2]; unfold OI; simpa using hr7) (by rw [HR3.out.1]; exact hg7) (by rw [HR3.out.1]; simpa using ho7)
          clear hr7 hg7 ho7 A3
          have r4 : R7 4 = R 4 := by rw [H7.out.r 4 (by decide), H6.out.r 4 (by decide), H5.out.r 4 (by decide)]
          have y4 : Y7 4 = Y 4 := by rw [H7.out.o 4 (by decide), H6.out.o 4 (by decide), H5.out.o 4 (by decide)]
          have A4 := MF.room (Lib.hid H7.out.m) 4 (by decide) y
          rw [r4, y4] at A4
          have HR4 := Lib.hid (And.intro r4 y4)
          clear r4 y4
          go_wp2_with ((at_builtin; refine wpList_app1 rfl _ _ rfl F (R 4) (Y 4) rfl ⟨w7.heap.size, 0, none⟩ 1 rfl y A4.out.1 (by go_simp) rfl (by omega) A4.out.2 ?_))
          intro v8 w8 hr8 hg8 ho8
          obtain ⟨R8, Y8, rfl, H8⟩ := MF.more (Lib.hid H7.out.m) 4 w.heap.size (by decide) (by decide) bF (y := y) (w' := w8) (v' := v8) (by rw [HR4.out.2]; unfold OI; simpa using hr8) (by rw [HR4.out.1]; exact hg8) (by rw [HR4.out.1]; simpa using ho8)
          clear hr8 hg8 ho8 A4
          have c8 : Hid (Below w.heap.size w w8) := Lib.hid ((((HB.out.trans H5.out.b).trans H6.out.b).trans H7.out.b).trans H8.out.b)
          have HA : Hid (R8 3 = R7 3 ∧ R8 5 = R 5 ∧ Y8 0 = L.take m ∧ Y8 1 = L.drop (j + 1) ∧ Y8 2 = Y 2 ∧ Y8 3 = Y 3 ++ [x] ∧ Y8 4 = Y 4 ++ [y] ∧ Y8 5 = Y 5) := by
            refine Lib.hid ⟨H8.out.r 3 (by decide), ?_, ?_, ?_, ?_, ?_, ?_, ?_⟩
            · rw [H8.out.r 5 (by decide), H7.out.r 5 (by decide), H6.out.r 5 (by decide), H5.out.r 5 (by decide)]
            · rw [H8.out.o 0 (by decide), H7.out.o 0 (by decide), H6.out.o 0 (by decide), H5.out.y]
            · rw [H8.out.o 1 (by decide), H7.out.o 1 (by decide), H6.out.y]
            · rw [H8.out.o 2 (by decide), H7.out.o 2 (by decide), H6.out.o 2 (by decide), H5.out.o 2 (by decide)]
            · rw [H8.out.o 3 (by decide), H7.out.y, HR3.out.2]
            · rw [H8.out.y, HR4.out.2]
            · rw [H8.out.o 5 (by decide), H7.out.o 5 (by decide), H6.out.o 5 (by decide), H5.out.o 5 (by decide)]
          have HM8 := Lib.hid H8.out.m
          have H8r : Hid (R7 3 = R8 3) := Lib.hid (H8.out.r 3 (by decide)).symm
          clear H5 H6 H7 H8 HR3 HR4 HM HB E0 E1 l3 l4 lm lj
          rw [H8r.out]
          clear H8r
          have hz1 : ∀ q, q < k → w8.cell? ⟨b, off + q, none⟩ = some (.int .i64 (L.getD q 0)) := fun q hq => (c8.out.cell (p := ⟨b, off + q, none⟩) hbl).trans (HC.out q hq)
          have HZ1 := Lib.hid hz1
          have hbl8 : b < w8.heap.size := Nat.lt_of_lt_of_le hbl c8.out.size
          clear hz1
          have FIN : ∀ (f' g' : Nat) (w9 : World) (R9 : Nat → Value) (Y9 : Nat → List Int), f' + k = g' + (j + 1) → g' ≤ k → FP F 3 6 M R8 Y8 w8 2 w.heap.size ((L.take g').drop f') R9 Y9 w9 →
              Hid (R8 3 = R9 3 ∧ R8 4 = R9 4 ∧ MF F 3 6 M R9 Y9 w9 ∧ Below w.heap.size w w9 ∧ (R9 5 = vb ∧ Y9 0 = L.take (k - (j + 1)) ∧ Y9 1 = L.drop (j + 1) ∧ Y9 2 = (L.take g').drop f' ∧ Y9 3 = (L.drop (k - (j + 1))).reverse ∧ Y9 4 = L.take (j + 1) ∧ Y9 5 = L.reverse)) := by
            intro f' g' w9 R9 Y9 h1 h2 h
            obtain ⟨_, a2, a3, a4, a5, a6, a7, a8⟩ := HA.out
            obtain ⟨i1, i2, i3, i4, i5, i6, i7⟩ := HY.out
            have l2 := HL.out
            refine Lib.hid ⟨(h.r 3 (by decide)).symm, (h.r 4 (by decide)).symm, h.m, c8.out.trans h.b, ((h.r 5 (by decide)).trans a2).trans i1, ?_, ?_, h.y, ?_, ?_, ?_⟩
            · rw [h.o 0 (by decide), a3, show k - (j + 1) = m by omega]
            · rw [h.o 1 (by decide), a4]
            · rw [h.o 3 (by decide), a6, i5, show k - (j + 1) = m by omega, rev_more L m (by omega), HX.out.1, hm]
            · rw [h.o 4 (by decide), a7, i6, take_last L j (by omega), HX.out.2]
            · rw [h.o 5 (by decide), a8, i7]
          have HFIN := Lib.hid FIN
          clear FIN
          by_cases hord : j < len1 ∧ z1 j = true
          · obtain ⟨hj1, hzt⟩ := hord
            obtain ⟨b2, off2, rfl, hbl2, hc2⟩ := HO.out j hj1
            have hc8 := (c8.out.cell (p := ⟨b2, off2 + j, none⟩) hbl2).trans hc2
            rw [hzt] at hc8
            have hbl28 : b2 < w8.heap.size := Nat.lt_of_lt_of_le hbl2 c8.out.size
            obtain ⟨g', rfl⟩ : ∃ g', g = g' + 1 := ⟨g - 1, by omega⟩
            have hz2 := HZ1.out g' (by omega)
            obtain ⟨u, huu⟩ : ∃ u, L.getD g' 0 = u := ⟨_, rfl⟩
            rw [huu] at hz2
            have e2 : Y8 2 = (L.take g').drop f ++ [u] := by rw [HA.out.2.2.2.2.1, HY.out.2.2.2.1, td_last L f g' (by omega) (by have := HL.out; omega), huu]
            have E2 := Lib.hid e2
            have lg : ((L.take g').drop f).length < 1000 := by rw [List.length_drop, List.length_take]; omega
            have hg1 : ((g' + 1 : Nat) : Int) - 1 = (g' : Int) := by omega
            have hg2 : (g' : Int) + 1 - 1 = (g' : Int) := by omega
            have hg3 : (g' : Int) < (k : Int) := by omega
            have hg4 : IntKind.i64.wrap (g' : Int) = (g' : Int) := by rw [IntKind.wrap_i64]; omega
            have hg5 : (j : Int) < (len1 : Int) := by omega
            clear hc2 huu e2
            go_wp2_with fail
            refine (mf_pop HM8 2 w.heap.size (by decide) d2 _ u E2.out lg).mono ?_
            rintro e w9 ⟨rfl, R9, Y9, H9⟩
            obtain ⟨F1, F2, F3, F4, F5⟩ := (HFIN.out f g' w9 R9 Y9 (by omega) (by omega) H9.out).out
            replace hz2 := (cell_heap (H9.out.k.2 b (Nat.lt_of_lt_of_le hbl bF) (fun i hi => by match i, hi with | 0, _ => omega | 1, _ => omega | 2, _ => omega))).trans hz2
            have hbl9 : b < w9.heap.size := World.block_lt_of_cell? w9 _ hz2
            clear H9
            go_wp2_with fail
            go_roundw
            case rel => exact ⟨j + 1, f, g', R9, Y9, by omega, by omega, by omega, rfl, rfl, rfl, by go_num, by go_num, Lib.hid F3, Lib.hid F4, Lib.hid F5⟩
            case measure => simp [intOf]; omega
          · by_cases hj1 : j < len1
            · have hzf : z1 j = false := by
                cases h : z1 j
                · rfl
                · exact absurd ⟨hj1, h⟩ hord
              obtain ⟨b2, off2, rfl, hbl2, hc2⟩ := HO.out j hj1
              have hc8 := (c8.out.cell (p := ⟨b2, off2 + j, none⟩) hbl2).trans hc2
              rw [hzf] at hc8
              have hbl28 : b2 < w8.heap.size := Nat.lt_of_lt_of_le hbl2 c8.out.size
              have hg5 : (j : Int) < (len1 : Int) := by omega
              obtain ⟨u, huu⟩ : ∃ u, L.getD f 0 = u := ⟨_, rfl⟩
              have hz2 := HZ1.out f (by omega)
              rw [huu] at hz2
              have e2 : Y8 2 = u :: (L.take g).drop (f + 1) := by rw [HA.out.2.2.2.2.1, HY.out.2.2.2.1, td_first L f g (by omega) (by have := HL.out; omega), huu]
              have E2 := Lib.hid e2
              have lg : ((L.take g).drop (f + 1)).length < 1000 := by rw [List.length_drop, List.length_take]; omega
              have hg3 : (f : Int) < (k : Int) := by omega
              clear huu e2
              clear hc2
              go_wp2_with fail
              refine (mf_steal HM8 2 w.heap.size (by decide) d2 _ u E2.out lg).mono ?_
              rintro e w9 ⟨rfl, R9, Y9, H9⟩
              obtain ⟨F1, F2, F3, F4, F5⟩ := (HFIN.out (f + 1) g w9 R9 Y9 (by omega) (by omega) H9.out).out
              replace hz2 := (cell_heap (H9.out.k.2 b (Nat.lt_of_lt_of_le hbl bF) (fun i hi => by match i, hi with | 0, _ => omega | 1, _ => omega | 2, _ => omega))).trans hz2
              have hbl9 : b < w9.heap.size := World.block_lt_of_cell? w9 _ hz2
              clear H9
              go_wp2_with fail
              go_roundw
              case rel => exact ⟨j + 1, f + 1, g, R9, Y9, by omega, by omega, by omega, rfl, rfl, by go_num, rfl, by go_num, Lib.hid F3, Lib.hid F4, Lib.hid F5⟩
              case measure => simp [intOf]; omega
            · have hg5 : ¬ (j : Int) < (len1 : Int) := by omega
              obtain ⟨u, huu⟩ : ∃ u, L.getD f 0 = u := ⟨_, rfl⟩
              have hz2 := HZ1.out f (by omega)
              rw [huu] at hz2
              have e2 : Y8 2 = u :: (L.take g).drop (f + 1) := by rw [HA.out.2.2.2.2.1, HY.out.2.2.2.1, td_first L f g (by omega) (by have := HL.out; omega), huu]
              have E2 := Lib.hid e2
              have lg : ((L.take g).drop (f + 1)).length < 1000 := by rw [List.length_drop, List.length_take]; omega
              have hg3 : (f : Int) < (k : Int) := by omega
              clear huu e2
              go_wp2_with fail
              refine (mf_steal HM8 2 w.heap.size (by decide) d2 _ u E2.out lg).mono ?_
              rintro e w9 ⟨rfl, R9, Y9, H9⟩
              obtain ⟨F1, F2, F3, F4, F5⟩ := (HFIN.out (f + 1) g w9 R9 Y9 (by omega) (by omega) H9.out).out
              replace hz2 := (cell_heap (H9.out.k.2 b (Nat.lt_of_lt_of_le hbl bF) (fun i hi => by match i, hi with | 0, _ => omega | 1, _ => omega | 2, _ => omega))).trans hz2
              have hbl9 : b < w9.heap.size := World.block_lt_of_cell? w9 _ hz2
              clear H9
              go_wp2_with fail
              go_roundw
              case rel => exact ⟨j + 1, f + 1, g, R9, Y9, by omega, by omega, by omega, rfl, rfl, by go_num, rfl, by go_num, Lib.hid F3, Lib.hid F4, Lib.hid F5⟩
              case measure => simp [intOf]; omega
        · obtain rfl : j = k := by omega
          obtain rfl : f = g := by omega
          obtain ⟨i1, i2, i3, i4, i5, i6, i7⟩ := HY.out
          have l2 := HL.out
          have V3 : View wr (R 3) L.reverse := by have := view_of_own (HM.out.row 3 (by decide)); rwa [i5, Nat.sub_self, List.drop_zero] at this
          have V5 : View wr (R 5) L.reverse := by have := view_of_own (HM.out.row 5 (by decide)); rwa [i7] at this
          have V4 : View wr (R 4) L := by have := view_of_own (HM.out.row 4 (by decide)); rwa [i6, ← l2, List.take_length] at this
          have V0 : View wr (.slice a0 j cap) L := HV.out.below HB.out
          have y0 : (Y 0).length = 0 := by rw [i2]; simp
          have y1 : (Y 1).length = 0 := by rw [i3, ← l2]; simp
          have y2 : (Y 2).length = 0 := by rw [i4]; simp
          rw [i1] at V5
          have W3 := Lib.hid V3
          have W4 := Lib.hid V4
          have W5 := Lib.hid V5
          have W0 := Lib.hid V0
          clear V3 V4 V5 V0 i1 i2 i3 i4 i5 i6 i7 l2 HY
          go_wp2_with fail
          refine (ints_any _ _ _ _ wr W3.out W5.out).mono ?_
          rintro e w5 ⟨rfl, n1, rfl⟩
          rw [beq_self_eq_true]
          have hb5 : Below wr.heap.size wr (wr.drewN n1) := below_drewN (Below.refl _ _) n1
          obtain ⟨w5, hw5⟩ : ∃ w5, wr.drewN n1 = w5 := ⟨_, rfl⟩
          rw [hw5] at hb5 ⊢
          clear hw5
          have HM5 := Lib.hid (HM.out.below hb5).1
          have HB5 := Lib.hid (HB.out.trans (hb5.mono HB.out.size))
          have X4 := Lib.hid (W4.out.below hb5)
          have X0 := Lib.hid (W0.out.below hb5)
          clear hb5 HM HB W3 W4 W5 W0
          go_wp2_with fail
          refine (ints_any _ _ _ _ w5 X4.out X0.out).mono ?_
          rintro e w6 ⟨rfl, n2, rfl⟩
          rw [beq_self_eq_true]
          have hb6 : Below w5.heap.size w5 (w5.drewN n2) := below_drewN (Below.refl _ _) n2
          obtain ⟨w6, hw6⟩ : ∃ w6, w5.drewN n2 = w6 := ⟨_, rfl⟩
          rw [hw6] at hb6 ⊢
          clear hw6
          have HM6 := Lib.hid (HM5.out.below hb6).1
          have HB6 := Lib.hid (HB5.out.trans (hb6.mono HB5.out.size))
          clear hb6 HM5 HB5 X4 X0
          go_wp2_with fail
          refine (mf_len HM6 0 (by decide) 0 y0).mono ?_
          rintro e w7 ⟨rfl, rfl⟩
          go_wp2_with fail
          refine (mf_len HM6 1 (by decide) 0 y1).mono ?_
          rintro e w8 ⟨rfl, rfl⟩
          go_wp2_with fail
          refine (mf_len HM6 2 (by decide) 0 y2).mono ?_
          rintro e w9 ⟨rfl, rfl⟩
          go_wp2_with fail
          go_ret
          exact ⟨rfl, HB6.out⟩
set_option maxRecDepth 20000 in
theorem walk (a0 : Option Addr) (len0 cap0 : Nat) (z0 : List Int) (a1 : Option Addr) (len1 cap1 : Nat) (z1 : Nat → Bool) (w : World) (w0 : IsRow .i64 w a0 len0 cap0 z0) (w1 : IsBools w a1 len1 cap1 z1) :
    Calls Try.prog 7 #[.slice a0 len0 cap0, .slice a1 len1 cap1] w fun e w' => e = .returned (.bool true) ∧ Below w.heap.size w w' := by
  have hv := view_of_row w0
  have hl : (z0.take len0).length = len0 := by
    obtain ⟨a, c, h, _⟩ := hv
    rw [Value.slice.injEq] at h
    exact h.2.1.symm
  by_cases h3 : len0 ≤ 300
  · by_cases h10 : len1 ≤ 1000
    · refine core a0 len0 cap0 (z0.take len0) a1 len1 cap1 z1 w hl h3 h10 hv ?_ ?_
      · intro k hk
        rcases hv.cases with ⟨h, _⟩ | ⟨_, b, off, c, h, _, hb, _, hc⟩
        · rw [h] at hl; simp at hl; omega
        · rw [Value.slice.injEq] at h
          exact ⟨b, off, h.1, hb, fun q hq => hc q (by omega)⟩
      · intro k hk
        rcases w1.split with h | ⟨b, off, rfl, hb, hle, hm, hc⟩
        · omega
        · exact ⟨b, off, rfl, hb, hc k (by omega)⟩
    · have hd5 : decide (1000 < len1) = true := by simp; omega
      have hd6 : (1000 : Int) < (len1 : Int) := by omega
      have hd7 : decide (300 < len0) = false := by simp; omega
      have hd8 : ¬ (300 : Int) < (len0 : Int) := by omega
      clear hv hl w0 w1
      go_enter Try.func7, Try.ntmps7
      go_wp2_with fail
      refine (works14 w).mono ?_
      rintro e wk ⟨rfl, hbk⟩
      go_wp2_with fail
      go_ret
      exact ⟨rfl, hbk⟩
  · have hd7 : decide (300 < len0) = true := by simp; omega
    have hd8 : (300 : Int) < (len0 : Int) := by omega
    clear hv hl w0 w1
    go_enter Try.func7, Try.ntmps7
    go_wp2_with fail
    refine (works14 w).mono ?_
    rintro e wk ⟨rfl, hbk⟩
    go_wp2_with fail
    go_ret
    exact ⟨rfl, hbk⟩
end Go.Proofs.Ytajmmglfdinahaa.modelEnds
