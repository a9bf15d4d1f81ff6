/- The program's walks of layer 19 and the document's, step by step. -/
import Derived.Test.YtegbifphekhgkaaRgE
import Derived.Test.YtegbifphekhgkaaRgF
import Derived.Test.YtegbifphekhgkaaRgG
namespace Go.Proofs.Ytegbifphekhgkaa.cg
open Go.ChangeShapes Go.WideShapes Go.ChangeAt Go.RowKit
set_option linter.unusedVariables false
set_option linter.unusedSimpArgs false
theorem slot_ex (it wh : Int) (h0 : 0 ≤ wh) (h2 : wh ≤ 2) : ∃ (q : Int) (k : Nat), HQ 3 it q ∧ Hid (25 + 2 + q * 4 + wh = (k : Int)) ∧ k < 61 := by
  rcases Int.lt_or_le it 0 with h | h
  · exact ⟨0, (25 + 2 + 0 * 4 + wh).toNat, Lib.hid (.inl ⟨h, by decide⟩), Lib.hid (by omega), by omega⟩
  · refine ⟨it.tmod (3 + 1), (25 + 2 + it.tmod (3 + 1) * 4 + wh).toNat, Lib.hid (.inr ⟨h, rfl⟩), Lib.hid ?_, ?_⟩ <;>
    · rw [Int.tmod_eq_emod_of_nonneg h]
      omega
theorem set_same (xs : List Int) (k : Nat) (h : k < xs.length) : xs.set k (xs.getD k 0) = xs := by
  rw [List.getD_eq_getElem?_getD, List.getElem?_eq_getElem h]
  exact List.set_getElem_self h
theorem hF2 : Hid ((1 : Int) * (4 + 3) + (2 - 1) * (2 + (3 + 1) * 4) = 25) := Lib.hid (by decide)
structure PairR (S g A : Nat) (xs : List Int) (r : Rw) (st : Int) (xs' : List Int) (r' : Rw) (st' : Int) : Prop where
  ref : ∀ (w : World) (B : Nat) (ad : Option Addr) (cp : Nat), OI w B (.slice ad 61 cp) xs → B ≤ w.heap.size → Calls Try.prog 38 #[.agg #[.int .i64 1, .int .i64 3, .int .i64 3, .int .i64 3], .agg r.cs, .slice ad 61 cp] w (RPost19 B 61 (.slice ad 61 cp) w r' xs')
  prg : ∀ (w0 w : World), J w0 w S g xs → RightAt w A 2 r.sr (r.it + 1) r.n r.at_ st r.fr r.gt → A ≠ g → A ≠ S → w0.heap.size ≤ A → Calls Try.prog 39 #[.pointer (some ⟨A, 0, none⟩), .pointer (some ⟨S, 0, none⟩)] w fun e w' => e = .returned (.bool (decide (r'.at_ = 3))) ∧ J w0 w' S g xs' ∧ RightAt w' A 2 r.sr (r.it + 1) r.n r'.at_ st' r'.fr r'.gt ∧ Keep2 g A w w'
  same : r'.pk = r.pk ∧ r'.sr = r.sr ∧ r'.it = r.it ∧ r'.n = r.n
  len : xs'.length = 61
  ats : r'.at_ = 0 ∨ r'.at_ = 1 ∨ r'.at_ = 2 ∨ r'.at_ = 3
  sta : r'.at_ = 1 → st' = r'.st
structure PairP (S g A : Nat) (xs : List Int) (r : Rw) (xs' : List Int) (r' : Rw) : Prop where
  ref : ∀ (w : World) (B : Nat) (ad : Option Addr) (cp : Nat), OI w B (.slice ad 61 cp) xs → B ≤ w.heap.size → Calls Try.prog 38 #[.agg #[.int .i64 1, .int .i64 3, .int .i64 3, .int .i64 3], .agg r.cs, .slice ad 61 cp] w (RPost19 B 61 (.slice ad 61 cp) w r' xs')
  prg : ∀ (w0 w : World), J w0 w S g xs → ParkAt w A 2 r.sr r.it r.n r.at_ r.gt → A ≠ g → A ≠ S → w0.heap.size ≤ A → Calls Try.prog 41 #[.pointer (some ⟨A, 0, none⟩), .pointer (some ⟨S, 0, none⟩)] w fun e w' => e = .returned (.bool (decide (r'.at_ = 3))) ∧ J w0 w' S g xs' ∧ ParkAt w' A 2 r.sr r.it r.n r'.at_ r'.gt ∧ Keep2 g A w w'
  same : r'.pk = r.pk ∧ r'.sr = r.sr ∧ r'.it = r.it ∧ r'.n = r.n
  len : xs'.length = 61
  ats : r'.at_ = 0 ∨ r'.at_ = 1 ∨ r'.at_ = 2 ∨ r'.at_ = 3
theorem tOf_le (l i s : Int) : tOf l i s ≤ 1152921504606846975 := by
  have := tHeld_bd l
  have := tHeld_bd i
  have := tHeld_bd s
  unfold tOf
  omega
theorem right_pair (S g A : Nat) (xs : List Int) (r : Rw) (st : Int) (hpk : r.pk = false) (ha : r.at_ = 0 ∨ r.at_ = 1 ∨ r.at_ = 2 ∨ r.at_ = 3) (hst : r.at_ = 1 → st = r.st) (hl : xs.length = 61) (hi : -1099511627776 ≤ r.it) (hi2 : r.it ≤ 1099511627776) :
    ∃ xs' r' st', PairR S g A xs r st xs' r' st' := by
  obtain ⟨pk, sr, it, n, at_, s0, fr, gt⟩ := r
  simp only at hpk ha hst hi hi2
  subst hpk
  rcases ha with rfl | rfl | rfl | rfl
  · obtain ⟨q, k, hq, hk, hk6⟩ := slot_ex (it + 1) 1 (by omega) (by omega)
    have hkl : k < xs.length := by omega
    obtain ⟨x, hx⟩ : ∃ x, xs.getD k 0 = x := ⟨_, rfl⟩
    have hs := set_same xs k hkl
    rw [hx] at hs
    by_cases hc : (tNextB x n && (x == tOf sr (it + 1) (tPart x 1))) = true
    · rw [Bool.and_eq_true] at hc
      obtain ⟨hc1, hc2⟩ := hc
      have hc3 := hc1
      unfold tNextB at hc3
      rw [Bool.and_eq_true, decide_eq_true_eq] at hc3
      have h40 : 1099511627776 ≤ x := by
        have := hc3.1
        unfold tIs at this
        rw [decide_eq_true_eq] at this
        exact this.1
      refine ⟨xs, ⟨false, sr, it, n, 1, tPart x 1, fr, gt⟩, tPart x 1, fun w B ad cp ho hB => ?_, fun w0 w h hA h1 h2 h3 => ?_, ⟨rfl, rfl, rfl, rfl⟩, hl, by simp, fun _ => rfl⟩
      · have := rr0y sr it n s0 fr q gt x (tPart x 1) B 61 k ad cp xs w ho hB hq hk hl hk6 (by omega) hi hi2 (Lib.hid hx) rfl _ rfl h40 hc2 hc3.2
        rw [hs] at this
        exact this
      · exact right_look_yes S g A k xs 2 sr (it + 1) q 25 n x st fr gt w0 w h hA (Lib.hid h1) (Lib.hid h2) (Lib.hid h3) (by omega) (by omega) hF2 hq hkl (by omega) hk (tPart x 1) (Lib.hid hx) (Lib.hid hc1) (Lib.hid (eq_of_beq hc2)) (Lib.hid rfl)
    · have hc' : (tNextB x n && (x == tOf sr (it + 1) (tPart x 1))) = false := by simpa using hc
      refine ⟨xs, ⟨false, sr, it, n, 3, s0, fr, gt⟩, 0, fun w B ad cp ho hB => ?_, fun w0 w h hA h1 h2 h3 => ?_, ⟨rfl, rfl, rfl, rfl⟩, hl, by simp, by simp⟩
      · have key : RPost19 B 61 (.slice ad 61 cp) w ⟨false, sr, it, n, 3, s0, fr, gt⟩ xs = RPost19 B 61 (.slice ad 61 cp) w ⟨false, sr, it, n, 3, s0, fr, gt⟩ (xs.set k x) := by rw [hs]
        rw [key]
        by_cases h40 : 1099511627776 ≤ x
        · by_cases he : x = tOf sr (it + 1) (tPart x 1)
          · have hlt : ¬ tPart x 1 < n := by
              intro hlt
              have h1 : tIs x = true := tIs_yes h40 (by rw [he]; exact tOf_le _ _ _)
              have h2 : tNextB x n = true := by unfold tNextB; rw [h1]; simpa using hlt
              rw [h2] at hc'
              simp at hc'
              exact hc' he
            exact rr0c sr it n s0 fr q gt x (tPart x 1) B 61 k ad cp xs w ho hB hq hk hl hk6 (by omega) hi hi2 (Lib.hid hx) rfl _ rfl h40 (by rw [beq_iff_eq]; exact he) hlt
          · exact rr0b sr it n s0 fr q gt x (tPart x 1) B 61 k ad cp xs w ho hB hq hk hl hk6 (by omega) hi hi2 (Lib.hid hx) rfl _ rfl h40 (by simpa using he)
        · exact rr0a sr it n s0 fr q gt x (tPart x 1) B 61 k ad cp xs w ho hB hq hk hl hk6 (by omega) hi hi2 (Lib.hid hx) rfl h40
      · exact right_look_no S g A k xs 2 sr (it + 1) q 25 n x st fr gt w0 w h hA (Lib.hid h1) (Lib.hid h2) (Lib.hid h3) (by omega) (by omega) hF2 hq hkl (by omega) hk (Lib.hid hx) (Lib.hid hc')
  · obtain ⟨q, k, hq, hk, hk6⟩ := slot_ex (it + 1) 1 (by omega) (by omega)
    have hkl : k < xs.length := by omega
    obtain ⟨x, hx⟩ : ∃ x, xs.getD k 0 = x := ⟨_, rfl⟩
    have hs := set_same xs k hkl
    rw [hx] at hs
    obtain rfl := hst rfl
    by_cases he : x = tOf sr (it + 1) st
    · refine ⟨xs.set k 0, ⟨false, sr, it, n, 2, st, fr, gt⟩, st, fun w B ad cp ho hB => ?_, fun w0 w h hA h1 h2 h3 => ?_, ⟨rfl, rfl, rfl, rfl⟩, by simpa using hl, by simp, by simp⟩
      · exact rr1y sr it n st fr q gt B 61 k ad cp xs w ho hB hq hk hl hk6 (by omega) hi hi2 (Lib.hid (hx.trans he))
      · exact right_free_yes S g A k xs 2 sr (it + 1) q 25 n st fr gt w0 w h hA (Lib.hid h1) (Lib.hid h2) (Lib.hid h3) (by omega) (by omega) hF2 hq hkl (by omega) hk (Lib.hid (hx.trans he))
    · refine ⟨xs, ⟨false, sr, it, n, 3, st, fr, gt⟩, st, fun w B ad cp ho hB => ?_, fun w0 w h hA h1 h2 h3 => ?_, ⟨rfl, rfl, rfl, rfl⟩, hl, by simp, by simp⟩
      · have := rr1n sr it n st fr q gt x B 61 k ad cp xs w ho hB hq hk hl hk6 (by omega) hi hi2 (Lib.hid hx) he
        rw [hs] at this
        exact this
      · exact right_free_no S g A k xs 2 sr (it + 1) q 25 n st fr gt w0 w h hA (Lib.hid h1) (Lib.hid h2) (Lib.hid h3) (by omega) (by omega) hF2 hq hkl (by omega) hk x (Lib.hid hx) (Lib.hid he)
  · obtain ⟨q, k, hq, hk, hk6⟩ := slot_ex (it + 1) 2 (by omega) (by omega)
    have hkl : k < xs.length := by omega
    obtain ⟨x, hx⟩ : ∃ x, xs.getD k 0 = x := ⟨_, rfl⟩
    have hs := set_same xs k hkl
    rw [hx] at hs
    refine ⟨xs, ⟨false, sr, it, n, 3, s0, x, true⟩, st, fun w B ad cp ho hB => ?_, fun w0 w h hA h1 h2 h3 => ?_, ⟨rfl, rfl, rfl, rfl⟩, hl, by simp, by simp⟩
    · have := rr2 sr it n s0 fr q gt x B 61 k ad cp xs w ho hB hq hk hl hk6 (by omega) hi hi2 (Lib.hid hx)
      rw [hs] at this
      exact this
    · exact right_take S g A k xs 2 sr (it + 1) q 25 n st fr x gt w0 w h hA (Lib.hid h1) (Lib.hid h2) (Lib.hid h3) (by omega) (by omega) hF2 hq hkl (by omega) hk (Lib.hid hx)
  · refine ⟨xs, ⟨false, sr, it, n, 3, s0, fr, gt⟩, st, fun w B ad cp ho hB => re3 false sr it n s0 fr gt B 61 ad cp xs w ho, fun w0 w h hA h1 h2 h3 => ?_, ⟨rfl, rfl, rfl, rfl⟩, hl, by simp, by simp⟩
    exact right_end S g A xs 2 sr (it + 1) n st fr gt w0 w h hA
theorem park_pair (S g A : Nat) (xs : List Int) (r : Rw) (hpk : r.pk = true) (ha : r.at_ = 0 ∨ r.at_ = 1 ∨ r.at_ = 2 ∨ r.at_ = 3) (hl : xs.length = 61) (hi : -1099511627776 ≤ r.it) (hi2 : r.it ≤ 1099511627776) :
    ∃ xs' r', PairP S g A xs r xs' r' := by
  obtain ⟨pk, sr, it, n, at_, s0, fr, gt⟩ := r
  simp only at hpk ha hi hi2
  subst hpk
  rcases ha with rfl | rfl | rfl | rfl
  · obtain ⟨q, k, hq, hk, hk6⟩ := slot_ex it 1 (by omega) (by omega)
    have hkl : k < xs.length := by omega
    refine ⟨xs.set k (tOf sr it n), ⟨true, sr, it, n, 1, s0, fr, gt⟩, fun w B ad cp ho hB => ?_, fun w0 w h hA h1 h2 h3 => ?_, ⟨rfl, rfl, rfl, rfl⟩, by simpa using hl, by simp⟩
    · exact rp0 sr it n s0 fr q gt B 61 k ad cp xs w ho hB hq hk hl hk6 (by omega)
    · exact park_wait S g A k xs 2 sr it q 25 n gt w0 w h hA (Lib.hid h1) (Lib.hid h2) (Lib.hid h3) (by omega) (by omega) hF2 hq hkl (by omega) hk
  · obtain ⟨q, k, hq, hk, hk6⟩ := slot_ex (it - 1) 0 (by omega) (by omega)
    have hkl : k < xs.length := by omega
    obtain ⟨x, hx⟩ : ∃ x, xs.getD k 0 = x := ⟨_, rfl⟩
    have hs := set_same xs k hkl
    rw [hx] at hs
    by_cases hlt : n < x
    · refine ⟨xs, ⟨true, sr, it, n, 2, s0, fr, gt⟩, fun w B ad cp ho hB => ?_, fun w0 w h hA h1 h2 h3 => ?_, ⟨rfl, rfl, rfl, rfl⟩, hl, by simp⟩
      · have := rp1y sr it n s0 fr q gt x B 61 k ad cp xs w ho hB hq hk hl hk6 (by omega) hi hi2 (Lib.hid hx) hlt
        rw [hs] at this
        exact this
      · exact park_look_yes S g A k xs 2 sr it q 25 n gt w0 w h hA (Lib.hid h1) (Lib.hid h2) (Lib.hid h3) (by omega) (by omega) hF2 (it - 1) rfl hi hi2 hq hkl (by omega) hk x (Lib.hid hx) hlt
    · refine ⟨xs, ⟨true, sr, it, n, 3, s0, fr, gt⟩, fun w B ad cp ho hB => ?_, fun w0 w h hA h1 h2 h3 => ?_, ⟨rfl, rfl, rfl, rfl⟩, hl, by simp⟩
      · have := rp1n sr it n s0 fr q gt x B 61 k ad cp xs w ho hB hq hk hl hk6 (by omega) hi hi2 (Lib.hid hx) hlt
        rw [hs] at this
        exact this
      · exact park_look_no S g A k xs 2 sr it q 25 n gt w0 w h hA (Lib.hid h1) (Lib.hid h2) (Lib.hid h3) (by omega) (by omega) hF2 (it - 1) rfl hi hi2 hq hkl (by omega) hk x (Lib.hid hx) (by omega)
  · obtain ⟨q, k, hq, hk, hk6⟩ := slot_ex it 1 (by omega) (by omega)
    have hkl : k < xs.length := by omega
    obtain ⟨x, hx⟩ : ∃ x, xs.getD k 0 = x := ⟨_, rfl⟩
    have hs := set_same xs k hkl
    rw [hx] at hs
    by_cases he : x = tOf sr it n
    · refine ⟨xs.set k 0, ⟨true, sr, it, n, 3, s0, fr, true⟩, fun w B ad cp ho hB => ?_, fun w0 w h hA h1 h2 h3 => ?_, ⟨rfl, rfl, rfl, rfl⟩, by simpa using hl, by simp⟩
      · exact rp2y sr it n s0 fr q gt B 61 k ad cp xs w ho hB hq hk hl hk6 (by omega) (Lib.hid (hx.trans he))
      · exact park_free_yes S g A k xs 2 sr it q 25 n gt w0 w h hA (Lib.hid h1) (Lib.hid h2) (Lib.hid h3) (by omega) (by omega) hF2 hq hkl (by omega) hk (Lib.hid (hx.trans he))
    · refine ⟨xs, ⟨true, sr, it, n, 3, s0, fr, false⟩, fun w B ad cp ho hB => ?_, fun w0 w h hA h1 h2 h3 => ?_, ⟨rfl, rfl, rfl, rfl⟩, hl, by simp⟩
      · have := rp2n sr it n s0 fr q gt x B 61 k ad cp xs w ho hB hq hk hl hk6 (by omega) (Lib.hid hx) he
        rw [hs] at this
        exact this
      · exact park_free_no S g A k xs 2 sr it q 25 n gt w0 w h hA (Lib.hid h1) (Lib.hid h2) (Lib.hid h3) (by omega) (by omega) hF2 hq hkl (by omega) hk x (Lib.hid hx) (Lib.hid he)
  · refine ⟨xs, ⟨true, sr, it, n, 3, s0, fr, gt⟩, fun w B ad cp ho hB => re3 true sr it n s0 fr gt B 61 ad cp xs w ho, fun w0 w h hA h1 h2 h3 => ?_, ⟨rfl, rfl, rfl, rfl⟩, hl, by simp⟩
    exact park_end S g A xs 2 sr it n gt w0 w h hA
end Go.Proofs.Ytegbifphekhgkaa.cg
