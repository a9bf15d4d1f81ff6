/- Pure: what is got as a program, put, is these bytes (layer 4). -/
import Derived.Test.YthllikmnlnakkaaPrR
namespace Go.Proofs.Ythllikmnlnakkaa.pr
open Go.ChangeShapes Go.WideShapes Go.ChangeAt Go.RowKit
open Go.Proofs.Ythllikmnlnakkaa.bin Go.Proofs.Ythllikmnlnakkaa.bits Go.Proofs.Ythllikmnlnakkaa.ins
set_option linter.unusedVariables false
set_option linter.unusedSimpArgs false
theorem getE_len {r : List UInt8} (h : getE r = 0) : r.length = 4 := by
  unfold getE at h
  by_cases h1 : r.length < 4
  · rw [if_pos h1] at h; omega
  · rw [if_neg h1] at h
    by_cases h2 : 4 < r.length
    · rw [if_pos h2] at h; omega
    · omega
theorem got_enc (r : List UInt8) (h : getE r = 0) : enc4 (gI r) = r ∧ ck4 (gI r) = 0 := by
  have hl := getE_len h
  match r, hl with
  | b :: rest, hl =>
    have hr : rest.length = 3 := by simpa using hl
    have h' := h
    rw [getE_cons b rest hr] at h'
    by_cases h25 : 25 < b.toNat
    · rw [if_pos h25] at h'; omega
    · rw [if_neg h25] at h'
      by_cases hT : (readL (frm b.toNat) rest).1 = 0
      · rw [if_neg (by simpa using hT)] at h'
        by_cases hz : (readL (frm b.toNat) rest).2.2.all (· == 0) = true
        · obtain ⟨A, B, C, hA, hB, hC, he, hc⟩ := put_get b rest hr h25 hT hz
          have hg : gI (b :: rest) = ((b.toNat : Int), A, B, C) := by
            unfold gI getV
            rw [h, ← hA, ← hB, ← hC]
            rfl
          rw [hg]
          exact ⟨he, hc⟩
        · rw [if_neg hz] at h'; omega
      · rw [if_pos hT] at h'; omega
theorem bad_no {e m : Int} {L : List (List I4)} (he : e ≠ 0) (h : bad e = (0, m, L)) : False := by
  unfold bad at h
  simp only [Prod.mk.injEq] at h
  exact he h.1
theorem stI_got (F : List I4 → List UInt8 → R3) (m : Int) (L : List (List I4)) : ∀ (j : Nat) (c : List I4) (r : List UInt8), stI F j c r = (0, m, L) →
    ∃ xs z, xs.length = j ∧ r = xs.flatMap enc4 ++ z ∧ F (c ++ xs) z = (0, m, L) := by
  intro j
  induction j with
  | zero => intro c r h; exact ⟨[], r, rfl, rfl, by rw [List.append_nil]; exact h⟩
  | succ j ih =>
    intro c r h
    rw [stI] at h
    by_cases h0 : getE (r.take 4) = 0
    · rw [if_neg (by simpa using h0)] at h
      obtain ⟨xs, z, h1, h2, h3⟩ := ih _ _ h
      refine ⟨gI (r.take 4) :: xs, z, by rw [List.length_cons, h1], ?_, by rw [List.append_assoc] at h3; exact h3⟩
      rw [List.flatMap_cons, (got_enc _ h0).1, List.append_assoc, ← h2, List.take_append_drop]
    · rw [if_pos h0] at h
      exact absurd h (bad_no h0)
theorem putB_ofB2 (r : List UInt8) (h : r.length = 2) : putB (ofB r : Int) 2 = r := by
  match r, h with
  | [a, b], _ =>
    have ha := a.toNat_lt
    have hb := b.toNat_lt
    rw [putB2, u8_ext (a := byteAt _ 1) (b := a) (by rw [byte1, ofB2]; omega), u8_ext (a := byteAt _ 0) (b := b) (by rw [byte0, ofB2]; omega)]
theorem putB_ofB1 (r : List UInt8) (h : r.length = 1) : putB (ofB r : Int) 1 = r := by
  match r, h with
  | [a], _ =>
    have ha := a.toNat_lt
    rw [putB1, u8_ext (a := byteAt _ 0) (b := a) (by rw [byte0, ofB_one]; omega)]
theorem stF_got (m m' : Int) (L : List (List I4)) : ∀ (k : Nat) (acc : List (List I4)) (r : List UInt8), stF m k acc r = (0, m', L) →
    m' = m ∧ prE m L = 0 ∧ ∃ L', L = acc ++ L' ∧ L'.length = k ∧ r = L'.flatMap fnB := by
  intro k
  induction k with
  | zero =>
    intro acc r h
    rw [stF] at h
    by_cases h0 : r = []
    · subst h0
      rw [if_neg (by simp)] at h
      by_cases h1 : prE m acc = 0
      · rw [if_neg (by simpa using h1)] at h
        simp only [Prod.mk.injEq, true_and] at h
        obtain ⟨rfl, rfl⟩ := h
        exact ⟨rfl, h1, [], by simp, rfl, rfl⟩
      · rw [if_pos h1] at h
        exact absurd h (bad_no h1)
    · rw [if_pos h0] at h
      exact absurd h (bad_no (by decide))
  | succ k ih =>
    intro acc r h
    rw [stF] at h
    by_cases h0 : r.length < 2
    · rw [if_pos h0] at h
      exact absurd h (bad_no (by decide))
    · rw [if_neg h0] at h
      by_cases h1 : lenE (ofB (r.take 2)) = 0
      · rw [if_neg (by simpa using h1)] at h
        obtain ⟨xs, z, h2, h3, h4⟩ := stI_got _ _ _ _ _ _ h
        rw [List.nil_append] at h4
        obtain ⟨h5, h6, L', h7, h8, h9⟩ := ih _ _ h4
        refine ⟨h5, h6, xs :: L', by rw [h7, List.append_assoc]; rfl, by rw [List.length_cons, h8], ?_⟩
        rw [List.flatMap_cons, fnB, h2, putB_ofB2 _ (by rw [List.length_take]; omega), List.append_assoc, ← h9, ← h3, List.take_append_drop]
      · rw [if_pos h1] at h
        exact absurd h (bad_no h1)
/-- what is got, put, is these bytes. -/
theorem getP_got (s : List UInt8) (m : Int) (L : List (List I4)) (h : getP s = (0, m, L)) : prE m L = 0 ∧ prB m L = s := by
  unfold getP at h
  by_cases h6 : s.length < 6
  · rw [if_pos h6] at h
    exact absurd h (bad_no (by decide))
  · rw [if_neg h6] at h
    by_cases h3 : s.take 3 = [72, 82, 1]
    · rw [if_neg (by simpa using h3)] at h
      by_cases hc : cntE (gM s) (gN s) = 0
      · rw [if_neg (by simpa using hc)] at h
        obtain ⟨h5, h7, L', h8, h9, h10⟩ := stF_got _ _ _ _ _ _ h
        subst h5
        refine ⟨h7, ?_⟩
        rw [List.nil_append] at h8
        subst h8
        unfold prB hdB
        rw [h9, ← h10, ← h3]
        unfold gN gM
        rw [putB_ofB1 _ (by rw [List.length_take, List.length_drop]; omega), putB_ofB2 _ (by rw [List.length_take, List.length_drop]; omega)]
        have e1 : s.take 3 ++ (s.drop 3).take 1 = s.take 4 := by rw [← List.take_add]
        have e2 : s.take 4 ++ (s.drop 4).take 2 = s.take 6 := by rw [← List.take_add]
        rw [e1, e2, List.take_append_drop]
      · rw [if_pos hc] at h
        exact absurd h (bad_no hc)
    · rw [if_pos h3] at h
      exact absurd h (bad_no (by decide))
end Go.Proofs.Ythllikmnlnakkaa.pr
