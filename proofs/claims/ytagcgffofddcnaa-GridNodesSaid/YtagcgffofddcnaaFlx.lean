/- Words of floats: sums of numbers. -/
import Derived.Test.YtagcgffofddcnaaFlw
namespace Go.Proofs.Ytagcgffofddcnaa.fl
open Ieee
set_option linter.unusedVariables false
set_option linter.unusedSimpArgs false
theorem opp_is {u : Nat} {z : Int} (h : Is u z) : ∃ s m e, (double.read u).opposite = .number s m e ∧ m < 2 ^ 53 ∧ -1074 ≤ e ∧ signed s m (e + 1074).toNat = -z := by
  obtain ⟨s, m, e, h1, h2, h3, rfl⟩ := h
  refine ⟨!s, m, e, by rw [h1]; rfl, h2, h3, ?_⟩
  cases s
  · show signed true m _ = _
    rw [signed_t, signed_f]
  · show signed false m _ = _
    rw [signed_t, signed_f]
    omega
/-- a sum of two numbers: a number, whose sign is the total's. -/
theorem sum_is {s t : Bool} {m n : Nat} {i j : Int} (hi : -1074 ≤ i) (hj : -1074 ≤ j) : ∃ (P : Nat) (total : Int), (Datum.number s m i).sum (.number t n j) = some (.number (if total = 0 then s && t else decide (total < 0)) total.natAbs ((P : Int) - 1074)) ∧ (P : Int) = min i j + 1074 ∧
    total * ((2 ^ P : Nat) : Int) = signed s m (i + 1074).toNat + signed t n (j + 1074).toNat := by
  refine ⟨(min i j + 1074).toNat, signed s m (i - min i j).toNat + signed t n (j - min i j).toNat, ?_, by omega, ?_⟩
  · rw [show (((min i j + 1074).toNat : Nat) : Int) - 1074 = min i j by omega]
    rfl
  · have e1 : (i + 1074).toNat = (i - min i j).toNat + (min i j + 1074).toNat := by omega
    have e2 : (j + 1074).toNat = (j - min i j).toNat + (min i j + 1074).toNat := by omega
    rw [e1, e2, signed_add, signed_add, Int.add_mul]
theorem word0 (P : Int) (s : Bool) : Is (double.nearest s 0 P) 0 := by
  have h : double.nearest s 0 P = double.word s (0 * 2 ^ 52 + 0) := by unfold Format.nearest; rw [if_pos rfl]
  rw [h]
  have := is_word s 0 0 (by decide) (.inl rfl) (by decide)
  cases s
  · rw [signed_f, Nat.zero_mul] at this; exact this
  · rw [signed_t, Nat.zero_mul] at this; exact this
theorem log2_lt_of {n b : Nat} (h0 : 0 < n) (h : n < 2 ^ b) : n.log2 < b := (Nat.log2_lt (by omega)).2 h
/-- of a total that is k times a power of two: the nearest word is it. -/
theorem near_exact {P : Nat} {total : Int} {sg : Bool} {k d : Nat} (hs : total = 0 ∨ sg = decide (total < 0)) (hk : total.natAbs = k * 2 ^ d) (hk2 : k < 2 ^ 53) (hb : P + total.natAbs.log2 ≤ 2000) : Is (double.nearest sg total.natAbs ((P : Int) - 1074)) (total * ((2 ^ P : Nat) : Int)) := by
  rcases Int.lt_trichotomy total 0 with h | h | h
  · obtain ⟨kept, L, _, h2, h3⟩ := near_any sg total.natAbs P (by omega) hb
    rw [h3 k d hk hk2] at h2
    have : sg = true := by rcases hs with h9 | h9; omega; rw [h9]; simpa using h
    subst this
    rw [signed_t] at h2
    have e : -((total.natAbs * 2 ^ P : Nat) : Int) = total * ((2 ^ P : Nat) : Int) := by
      rw [Int.natCast_mul, ← Int.neg_mul]
      congr 1
      omega
    rw [e] at h2
    exact h2
  · subst h
    rw [Int.zero_mul]
    exact word0 _ _
  · obtain ⟨kept, L, _, h2, h3⟩ := near_any sg total.natAbs P (by omega) hb
    rw [h3 k d hk hk2] at h2
    have : sg = false := by rcases hs with h9 | h9; omega; rw [h9]; simp; omega
    subst this
    rw [signed_f] at h2
    have e : ((total.natAbs * 2 ^ P : Nat) : Int) = total * ((2 ^ P : Nat) : Int) := by
      rw [Int.natCast_mul]
      congr 1
      omega
    rw [e] at h2
    exact h2
theorem pow_cancel {a b : Int} {P : Nat} (h : a * ((2 ^ P : Nat) : Int) = b * ((2 ^ P : Nat) : Int)) : a = b :=
  Int.eq_of_mul_eq_mul_right (by have : 0 < 2 ^ P := Nat.pow_pos (by decide); omega) h
/-- whole numbers add up. -/
theorem add_enc {a b : Nat} (ha : a < 2 ^ 51) (hb : b < 2 ^ 51) : ∃ r, double.add (enc a) (enc b) = some r ∧ Is r (((a + b) * U : Nat) : Int) := by
  obtain ⟨s, m, i, h1, _, h2, hz⟩ := is_enc (n := a) (by omega)
  obtain ⟨t, n, j, h3, _, h4, hy⟩ := is_enc (n := b) (by omega)
  have hi0 : i ≤ 0 := by
    rcases Nat.eq_zero_or_pos a with h | h
    · subst h; rw [read_zero] at h1; cases h1; omega
    · have := log2_lt_of (b := 52) h (by omega)
      rw [read_enc h (by omega)] at h1; cases h1; omega
  obtain ⟨P, total, hs, hP, ht⟩ := sum_is (s := s) (t := t) (m := m) (n := n) h2 h4
  rw [hz, hy] at ht
  have hPE : P ≤ 1074 := by omega
  have hU := U_cut hPE
  have htot : total = (((a + b) * 2 ^ (1074 - P) : Nat) : Int) := by
    apply pow_cancel (P := P)
    have hn : a * U + b * U = (a + b) * 2 ^ (1074 - P) * 2 ^ P := by
      rw [← Nat.add_mul, hU, Nat.mul_comm (2 ^ P), ← Nat.mul_assoc]
    rw [ht, ← Int.natCast_mul, ← Int.natCast_add, hn]
  have habs : total.natAbs = (a + b) * 2 ^ (1074 - P) := by rw [htot]; rfl
  have hlog : P + total.natAbs.log2 ≤ 2000 := by
    rcases Nat.eq_zero_or_pos total.natAbs with h | h
    · rw [h, show Nat.log2 0 = 0 from rfl]; omega
    · have h9 : total.natAbs < 2 ^ (52 + (1074 - P)) := by
        rw [habs, Nat.pow_add]
        exact Nat.mul_lt_mul_of_pos_right (by omega) (Nat.pow_pos (by decide))
      have := log2_lt_of h h9
      omega
  refine ⟨double.nearest (if total = 0 then s && t else decide (total < 0)) total.natAbs ((P : Int) - 1074), ?_, ?_⟩
  · unfold Format.add
    rw [h1, h3, hs]
    rfl
  · have h5 := near_exact (P := P) (total := total) (sg := if total = 0 then s && t else decide (total < 0)) (by by_cases h : total = 0; exact .inl h; exact .inr (by rw [if_neg h])) habs (by omega) hlog
    rw [ht, ← Int.natCast_add, ← Nat.add_mul] at h5
    exact h5
/-- one less, rounded, is less than what was made whole. -/
theorem sub_one {u : Nat} {z : Int} {p : Nat} (hu : Is u z) (h0 : 0 < z) (hp : ((p * U : Nat) : Int) ≤ z) (hp2 : z < (((p + 1) * U : Nat) : Int)) (hb : p < 2 ^ 20) : ∃ r, double.sub u (enc 1) = some r ∧ double.order (enc p) r = some .gt := by
  obtain ⟨t, n, j, h3, _, h4, hy⟩ := opp_is (is_enc (n := 1) (by decide))
  have hj : j = -52 := by
    rw [read_enc (n := 1) (by decide) (by decide)] at h3
    cases h3
    decide
  subst hj
  obtain ⟨s, m, e, h1, hm, h2, hz⟩ := hu
  have hs' : s = false := by
    cases s
    · rfl
    · rw [signed_t] at hz; omega
  subst hs'
  obtain ⟨P, total, hs, hP, ht⟩ := sum_is (s := false) (t := t) (m := m) (n := n) h2 h4
  rw [hz, hy, Nat.one_mul] at ht
  have hPE : P ≤ 1074 := by omega
  have hU := U_pos
  have hbig : P + total.natAbs.log2 ≤ 2000 := by
    rcases Nat.eq_zero_or_pos total.natAbs with h | h
    · rw [h, show Nat.log2 0 = 0 from rfl]; omega
    · have h9 : total.natAbs < 2 ^ (21 + (1074 - P)) := by
        have a1 : (total.natAbs * 2 ^ P : Nat) < (p + 1) * U := by
          have b1 : ((total.natAbs * 2 ^ P : Nat) : Int) = (total * ((2 ^ P : Nat) : Int)).natAbs := by
            rw [Int.natAbs_mul]; rfl
          have b2 : (total * ((2 ^ P : Nat) : Int)).natAbs < (p + 1) * U := by
            rw [ht]
            rw [Nat.add_mul, Nat.one_mul] at hp2 ⊢
            omega
          omega
        have a2 : (p + 1) * U ≤ 2 ^ 21 * U := Nat.mul_le_mul_right _ (by omega)
        have a4 : 2 ^ 21 * U = 2 ^ (21 + (1074 - P)) * 2 ^ P := by
          rw [Nat.pow_add 2 21, U_cut hPE, Nat.mul_comm (2 ^ P), ← Nat.mul_assoc]
        have a3 : total.natAbs * 2 ^ P < 2 ^ (21 + (1074 - P)) * 2 ^ P := by
          rw [← a4]
          exact Nat.lt_of_lt_of_le a1 a2
        exact Nat.lt_of_mul_lt_mul_right a3
      have := log2_lt_of h h9
      omega
  refine ⟨double.nearest (if total = 0 then false && t else decide (total < 0)) total.natAbs ((P : Int) - 1074), by unfold Format.sub; rw [h1, h3, hs]; rfl, ?_⟩
  show double.order (enc p) (double.nearest (if total = 0 then false && t else decide (total < 0)) total.natAbs ((P : Int) - 1074)) = some .gt
  have hsg : total = 0 ∨ (if total = 0 then false && t else decide (total < 0)) = decide (total < 0) := by by_cases h : total = 0; exact .inl h; exact .inr (by rw [if_neg h])
  obtain ⟨sg, hsge⟩ : ∃ sg, (if total = 0 then false && t else decide (total < 0)) = sg := ⟨_, rfl⟩
  rw [hsge] at hsg ⊢
  rcases Int.lt_or_le z (U : Int) with hlt | hge
  · -- below one
    have htn : total < 0 := by
      rcases Int.lt_or_le total 0 with h | h
      · exact h
      · have : 0 ≤ total * ((2 ^ P : Nat) : Int) := Int.mul_nonneg h (Int.natCast_nonneg _)
        rw [ht] at this
        omega
    have hp0 : p = 0 := by
      rcases Nat.eq_zero_or_pos p with h | h
      · exact h
      · have : 1 * U ≤ p * U := Nat.mul_le_mul_right _ h
        omega
    subst hp0
    obtain ⟨kept, L, hk, h5, _⟩ := near_any sg total.natAbs P (by omega) hbig
    have : sg = true := by rcases hsg with h9 | h9; omega; rw [h9]; simpa using htn
    subst this
    rw [signed_t] at h5
    rw [order_is (is_enc (n := 0) (by decide)) h5]
    have hpos : 0 < kept * 2 ^ L := Nat.mul_pos hk (Nat.pow_pos (by decide))
    show some (compareOfLessAndEq _ _) = _
    unfold compareOfLessAndEq
    rw [Nat.zero_mul, if_neg (by omega), if_neg (by omega)]
  · -- one or more
    have he : -52 ≤ e := by
      rcases Int.lt_or_le e (-52) with h | h
      · exfalso
        rw [signed_f] at hz
        have a1 : m * 2 ^ (e + 1074).toNat < 2 ^ 53 * 2 ^ (e + 1074).toNat := Nat.mul_lt_mul_of_pos_right hm (Nat.pow_pos (by decide))
        rw [← Nat.pow_add] at a1
        have a2 : 2 ^ (53 + (e + 1074).toNat) ≤ 2 ^ EE := Nat.pow_le_pow_right (by decide) (by have := hEE; omega)
        rw [← U_eq] at a2
        omega
      · exact h
    have hP2 : P = 1022 := by omega
    obtain ⟨k, d, hkd, hk53⟩ : ∃ k d, total.natAbs = k * 2 ^ d ∧ k < 2 ^ 53 := by
      rw [signed_f] at hz
      rcases Int.lt_or_le e 0 with h | h
      · obtain ⟨q, hq⟩ : ∃ q : Nat, (-e).toNat = q := ⟨_, rfl⟩
        have hmq : 2 ^ q ≤ m := by
          have a1 : U ≤ m * 2 ^ (e + 1074).toNat := by omega
          rw [U_cut (k := q) (by omega), show (e + 1074).toNat = 1074 - q by omega] at a1
          exact Nat.le_of_mul_le_mul_right a1 (Nat.pow_pos (by decide))
        refine ⟨m - 2 ^ q, 52 - q, ?_, Nat.lt_of_le_of_lt (Nat.sub_le _ _) hm⟩
        have : total = (((m - 2 ^ q) * 2 ^ (52 - q) : Nat) : Int) := by
          apply pow_cancel (P := P)
          have e1 : 2 ^ (52 - q) * 2 ^ P = 2 ^ (1074 - q) := by
            rw [← Nat.pow_add]
            congr 1
            omega
          rw [ht, ← hz, U_cut (k := q) (by omega), show (e + 1074).toNat = 1074 - q by omega, ← Int.natCast_mul, Nat.mul_assoc (m - 2 ^ q), e1, Nat.sub_mul]
          have := Nat.mul_le_mul_right (2 ^ (1074 - q)) hmq
          omega
        rw [this]; rfl
      · have hm1 : 1 ≤ m * 2 ^ e.toNat := by
          rcases Nat.eq_zero_or_pos (m * 2 ^ e.toNat) with h9 | h9
          · exfalso
            rw [show (e + 1074).toNat = e.toNat + EE by have := hEE; omega, Nat.pow_add, ← Nat.mul_assoc, h9, Nat.zero_mul] at hz
            omega
          · exact h9
        have hzU : z = ((m * 2 ^ e.toNat * U : Nat) : Int) := by
          rw [← hz, show (e + 1074).toNat = e.toNat + EE by have := hEE; omega, Nat.pow_add, ← Nat.mul_assoc, U_eq]
        refine ⟨m * 2 ^ e.toNat - 1, 52, ?_, ?_⟩
        · have : total = (((m * 2 ^ e.toNat - 1) * 2 ^ 52 : Nat) : Int) := by
            apply pow_cancel (P := P)
            have e1 : 2 ^ 52 * 2 ^ P = U := by
              rw [← Nat.pow_add, U_eq, show 52 + P = EE by have := hEE; omega]
            rw [ht, hzU, ← Int.natCast_mul, Nat.mul_assoc (m * 2 ^ e.toNat - 1), e1, Nat.sub_mul, Nat.one_mul]
            have := Nat.mul_le_mul_right U hm1
            omega
          rw [this]; rfl
        · rw [hzU] at hp2
          have : m * 2 ^ e.toNat < p + 1 := Nat.lt_of_mul_lt_mul_right (Int.ofNat_lt.1 hp2)
          omega
    have h5 := near_exact (P := P) hsg hkd hk53 hbig
    rw [ht] at h5
    rw [order_is (is_enc (n := p) (by omega)) h5]
    rw [Nat.add_mul, Nat.one_mul] at hp2
    show some (compareOfLessAndEq _ _) = _
    unfold compareOfLessAndEq
    rw [if_neg (by omega), if_neg (by omega)]
end Go.Proofs.Ytagcgffofddcnaa.fl
