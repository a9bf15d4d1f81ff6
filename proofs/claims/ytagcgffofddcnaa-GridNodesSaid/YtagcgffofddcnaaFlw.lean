/- Words of floats as whole numbers of the least unit: order, sums, cutting, rounding. -/
import Derived.Test.YtagcgffofddcnaaFlt
namespace Go.Proofs.Ytagcgffofddcnaa.fl
open Ieee
set_option linter.unusedVariables false
set_option linter.unusedSimpArgs false
def EE : Nat := 1074
theorem hEE : EE = 1074 := rfl
def U : Nat := 2 ^ EE
theorem U_eq : U = 2 ^ EE := rfl
theorem U_pos : 0 < U := Nat.pow_pos (by decide)
theorem U_cut {k : Nat} (h : k ≤ 1074) : U = 2 ^ k * 2 ^ (1074 - k) := by
  unfold U
  rw [← Nat.pow_add]
  congr 1
  have := hEE
  omega
/-- the word is a number: so many of the least unit. -/
def Is (u : Nat) (z : Int) : Prop := ∃ s m e, double.read u = .number s m e ∧ m < 2 ^ 53 ∧ -1074 ≤ e ∧ signed s m (e + 1074).toNat = z
theorem signed_t (m u : Nat) : signed true m u = -((m * 2 ^ u : Nat) : Int) := by simp [signed, Nat.shiftLeft_eq]
theorem signed_add (s : Bool) (m a b : Nat) : signed s m (a + b) = signed s m a * ((2 ^ b : Nat) : Int) := by
  cases s
  · rw [signed_f, signed_f, Nat.pow_add, ← Nat.mul_assoc, Int.natCast_mul]
  · rw [signed_t, signed_t, Nat.pow_add, ← Nat.mul_assoc, Int.natCast_mul, Int.neg_mul]
theorem cmp_mulI (a b : Int) (c : Nat) (hc : 0 < c) : compare (a * (c : Int)) (b * (c : Int)) = compare a b := by
  have hc' : (0 : Int) < (c : Int) := by omega
  show compareOfLessAndEq _ _ = compareOfLessAndEq _ _
  unfold compareOfLessAndEq
  rcases Int.lt_trichotomy a b with h | h | h
  · rw [if_pos (Int.mul_lt_mul_of_pos_right h hc'), if_pos h]
  · subst h
    rw [if_neg (Int.lt_irrefl _), if_pos rfl, if_neg (Int.lt_irrefl _), if_pos rfl]
  · have h1 := Int.mul_lt_mul_of_pos_right h hc'
    rw [if_neg (by omega), if_neg (by omega), if_neg (by omega), if_neg (by omega)]
theorem order_is {u v : Nat} {z y : Int} (hu : Is u z) (hv : Is v y) : double.order u v = some (compare z y) := by
  obtain ⟨s, m, i, h1, _, h2, rfl⟩ := hu
  obtain ⟨t, n, j, h3, _, h4, rfl⟩ := hv
  unfold Format.order
  rw [h1, h3]
  show some (compare (signed s m (i - min i j).toNat) (signed t n (j - min i j).toNat)) = _
  have e1 : (i + 1074).toNat = (i - min i j).toNat + (min i j + 1074).toNat := by omega
  have e2 : (j + 1074).toNat = (j - min i j).toNat + (min i j + 1074).toNat := by omega
  rw [e1, e2, signed_add, signed_add, cmp_mulI _ _ _ (Nat.pow_pos (by decide))]
theorem is_enc {n : Nat} (hn : n < 2 ^ 52) : Is (enc n) ((n * U : Nat) : Int) := by
  rcases Nat.eq_zero_or_pos n with h | h
  · subst h
    refine ⟨false, 0, -1074, read_zero, by decide, by omega, ?_⟩
    rw [signed_f, Nat.zero_mul, Nat.zero_mul]
  · have hk : n.log2 < 52 := (Nat.log2_lt (by omega)).2 hn
    refine ⟨false, _, _, read_enc h hn, (enc_ge h hn).2, by omega, ?_⟩
    have he : 52 - n.log2 + ((n.log2 : Int) - 52 + 1074).toNat = EE := by have := hEE; omega
    rw [signed_f, Nat.mul_assoc, ← Nat.pow_add, he, U_eq]
theorem cutz (s : Bool) (n d : Nat) : Toward.zero.cut s n d = n / 2 ^ d := by
  unfold Toward.cut
  simp only [Nat.shiftLeft_eq, Nat.one_mul, Bool.toNat_false, Nat.add_zero]
  rcases Nat.le_total d (n.log2 + 2) with h | h
  · rw [Nat.min_eq_left h]
  · rw [Nat.min_eq_right h]
    have h1 : n < 2 ^ (n.log2 + 1) := Nat.lt_log2_self
    have h2 : 2 ^ (n.log2 + 1) ≤ 2 ^ (n.log2 + 2) := Nat.pow_le_pow_right (by decide) (by omega)
    have h3 : 2 ^ (n.log2 + 2) ≤ 2 ^ d := Nat.pow_le_pow_right (by decide) h
    rw [Nat.div_eq_of_lt (by omega), Nat.div_eq_of_lt (by omega)]
/-- what is made whole. -/
theorem toInt_is {u : Nat} {z : Int} (hu : Is u z) (h0 : 0 < z) : ∃ n : Nat, (double.read u).toInt .zero = some (n : Int) ∧ ((n * U : Nat) : Int) ≤ z ∧ z < (((n + 1) * U : Nat) : Int) := by
  obtain ⟨s, m, e, h1, hm, h2, rfl⟩ := hu
  have hs : s = false := by
    cases s
    · rfl
    · rw [signed_t] at h0; omega
  subst hs
  rw [h1, signed_f]
  refine ⟨(m <<< e.toNat) / 2 ^ (-e).toNat, ?_, ?_, ?_⟩
  · show some (signed false (Toward.zero.cut false (m <<< e.toNat) (-e).toNat) 0) = _
    rw [cutz, signed_f]
    simp
  · rw [Nat.shiftLeft_eq]
    rcases Int.lt_or_le e 0 with h | h
    · rw [show e.toNat = 0 by omega, Nat.pow_zero, Nat.mul_one]
      obtain ⟨k, hk⟩ : ∃ k : Nat, (-e).toNat = k := ⟨_, rfl⟩
      rw [hk, show (e + 1074).toNat = 1074 - k by omega, U_cut (k := k) (by omega), ← Nat.mul_assoc]
      exact Int.ofNat_le.2 (Nat.mul_le_mul_right _ (Nat.div_mul_le_self m (2 ^ k)))
    · rw [show (-e).toNat = 0 by omega, Nat.pow_zero, Nat.div_one, show (e + 1074).toNat = e.toNat + EE by have := hEE; omega, Nat.pow_add, ← Nat.mul_assoc]
      exact Int.le_refl _
  · rw [Nat.shiftLeft_eq]
    rcases Int.lt_or_le e 0 with h | h
    · rw [show e.toNat = 0 by omega, Nat.pow_zero, Nat.mul_one]
      obtain ⟨k, hk⟩ : ∃ k : Nat, (-e).toNat = k := ⟨_, rfl⟩
      rw [hk, show (e + 1074).toNat = 1074 - k by omega, U_cut (k := k) (by omega), ← Nat.mul_assoc]
      have h5 : m < (m / 2 ^ k + 1) * 2 ^ k := by
        have h6 := Nat.div_add_mod m (2 ^ k)
        have h7 := Nat.mod_lt m (Nat.pow_pos (n := k) (show 0 < 2 by decide))
        rw [Nat.add_mul, Nat.one_mul, Nat.mul_comm (m / 2 ^ k)]
        omega
      exact Int.ofNat_lt.2 (Nat.mul_lt_mul_of_pos_right h5 (Nat.pow_pos (by decide)))
    · rw [show (-e).toNat = 0 by omega, Nat.pow_zero, Nat.div_one, show (e + 1074).toNat = e.toNat + EE by have := hEE; omega, Nat.pow_add, ← Nat.mul_assoc]
      have hU := U_pos
      rw [Nat.add_mul, Nat.one_mul]
      show ((m * 2 ^ e.toNat * U : Nat) : Int) < _
      exact Int.ofNat_lt.2 (by omega)
/-- a word by its rung. -/
theorem is_word (neg : Bool) (L kept : Nat) (h1 : kept ≤ 2 ^ 53) (h2 : L = 0 ∨ 2 ^ 52 ≤ kept) (h3 : L ≤ 2000) : Is (double.word neg (L * 2 ^ 52 + kept)) (signed neg kept L) := by
  have hsw : double.signWeight = 2 ^ 63 := rfl
  have hbn : double.binade = 2 ^ 52 := rfl
  have hir : double.infRung = 2047 * 2 ^ 52 := rfl
  have hlp : double.leastPlace = -1074 := rfl
  obtain ⟨R, hR⟩ : ∃ R, L * 2 ^ 52 + kept = R := ⟨_, rfl⟩
  have hRb : R < 2 ^ 63 := by omega
  have hd1 : (double.word neg R / 2 ^ 63 % 2 == 1) = neg := by
    cases neg
    · show (R / 2 ^ 63 % 2 == 1) = false
      rw [Nat.div_eq_of_lt hRb]; rfl
    · show ((2 ^ 63 + R) / 2 ^ 63 % 2 == 1) = true
      have : (2 ^ 63 + R) / 2 ^ 63 = 1 := by omega
      rw [this]; rfl
  have hd2 : double.word neg R % 2 ^ 63 = R := by
    cases neg
    · exact Nat.mod_eq_of_lt hRb
    · show (2 ^ 63 + R) % 2 ^ 63 = R
      omega
  have hrd : double.read (double.word neg R) = if R < 2 ^ 52 then .number neg R (-1074) else if R < 2047 * 2 ^ 52 then .number neg (2 ^ 52 + R % 2 ^ 52) (-1074 + (R / 2 ^ 52 - 1 : Nat)) else if R = 2047 * 2 ^ 52 then .infinity neg else .nan neg (R - 2047 * 2 ^ 52) := by
    unfold Format.read
    simp only [hsw, hbn, hir, hlp, hd1, hd2]
  rw [hR]
  rcases Nat.lt_or_ge R (2 ^ 52) with h4 | h4
  · have hL : L = 0 := by rcases h2 with h | h <;> omega
    subst hL
    obtain rfl : kept = R := by omega
    refine ⟨neg, kept, -1074, by rw [hrd, if_pos h4], by omega, by omega, rfl⟩
  · have h5 : R < 2047 * 2 ^ 52 := by omega
    refine ⟨neg, 2 ^ 52 + R % 2 ^ 52, -1074 + (R / 2 ^ 52 - 1 : Nat), by rw [hrd, if_neg (by omega), if_pos h5], by have := Nat.mod_lt R (show 0 < 2 ^ 52 by decide); omega, by omega, ?_⟩
    rw [show (-1074 + ((R / 2 ^ 52 - 1 : Nat) : Int) + 1074).toNat = R / 2 ^ 52 - 1 by omega]
    have key : (2 ^ 52 + R % 2 ^ 52) * 2 ^ (R / 2 ^ 52 - 1) = kept * 2 ^ L := by
      rcases Nat.lt_or_ge kept (2 ^ 53) with h6 | h6
      · rcases Nat.lt_or_ge kept (2 ^ 52) with h7 | h7
        · have hL : L = 0 := by rcases h2 with h | h <;> omega
          subst hL
          omega
        · rw [show R / 2 ^ 52 - 1 = L by omega, show 2 ^ 52 + R % 2 ^ 52 = kept by omega]
      · obtain rfl : kept = 2 ^ 53 := by omega
        rw [show R / 2 ^ 52 - 1 = 1 + L by omega, show 2 ^ 52 + R % 2 ^ 52 = 2 ^ 52 by omega, Nat.pow_add, ← Nat.mul_assoc]
    cases neg
    · rw [signed_f, signed_f, key]
    · rw [signed_t, signed_t, key]
theorem cut_even (s : Bool) (n d : Nat) : n / 2 ^ d ≤ Toward.even.cut s n d ∧ Toward.even.cut s n d ≤ n / 2 ^ d + 1 := by
  unfold Toward.cut
  simp only [Nat.shiftLeft_eq, Nat.one_mul]
  have hg : n / 2 ^ min d (n.log2 + 2) = n / 2 ^ d := by
    rcases Nat.le_total d (n.log2 + 2) with h | h
    · rw [Nat.min_eq_left h]
    · rw [Nat.min_eq_right h]
      have h1 : n < 2 ^ (n.log2 + 1) := Nat.lt_log2_self
      have h2 : 2 ^ (n.log2 + 1) ≤ 2 ^ (n.log2 + 2) := Nat.pow_le_pow_right (by decide) (by omega)
      have h3 : 2 ^ (n.log2 + 2) ≤ 2 ^ d := Nat.pow_le_pow_right (by decide) h
      rw [Nat.div_eq_of_lt (by omega), Nat.div_eq_of_lt (by omega)]
  rw [hg]
  constructor
  · omega
  · have := Bool.toNat_le (decide (2 ^ min d (n.log2 + 2) < 2 * (n % 2 ^ min d (n.log2 + 2))) || (2 ^ min d (n.log2 + 2) == 2 * (n % 2 ^ min d (n.log2 + 2)) && n / 2 ^ d % 2 == 1))
    omega
theorem cut_exact (s : Bool) (k d : Nat) (h : d ≤ (k * 2 ^ d).log2 + 2) : Toward.even.cut s (k * 2 ^ d) d = k := by
  unfold Toward.cut
  simp only [Nat.shiftLeft_eq, Nat.one_mul]
  rw [Nat.min_eq_left h, Nat.mul_div_cancel _ (Nat.pow_pos (by decide)), Nat.mul_mod_left]
  have hp : 0 < 2 ^ d := Nat.pow_pos (by decide)
  simp
theorem log2_of {n k : Nat} (h1 : 2 ^ k ≤ n) (h2 : n < 2 ^ (k + 1)) : n.log2 = k := by
  have hn : n ≠ 0 := by have : 0 < 2 ^ k := Nat.pow_pos (by decide); omega
  have a := (Nat.le_log2 hn).2 h1
  have b := (Nat.log2_lt hn).2 h2
  omega
/-- of any number that is not nothing: the nearest word is a number of its sign. -/
theorem near_any (neg : Bool) (mag P : Nat) (h0 : 0 < mag) (hb : P + mag.log2 ≤ 2000) : ∃ kept L, 0 < kept ∧ Is (double.nearest neg mag ((P : Int) - 1074)) (signed neg kept L) ∧ (∀ k d, mag = k * 2 ^ d → k < 2 ^ 53 → signed neg kept L = signed neg mag P) := by
  have hbn : double.binade = 2 ^ 52 := rfl
  have hir : double.infRung = 2047 * 2 ^ 52 := rfl
  have hlp : double.leastPlace = -1074 := rfl
  have hfb : double.fractionBits = 52 := rfl
  obtain ⟨g, hg⟩ : ∃ g, mag.log2 = g := ⟨_, rfl⟩
  have g1 : 2 ^ g ≤ mag := by rw [← hg]; exact Nat.log2_self_le (by omega)
  have g2 : mag < 2 ^ (g + 1) := by rw [← hg]; exact Nat.lt_log2_self
  unfold Format.nearest
  rw [if_neg (by omega)]
  simp only [hlp, hfb, hbn, hir, hg]
  rw [hg] at hb
  obtain ⟨L, hL⟩ : ∃ L : Nat, max ((P : Int) - 1074 + (g : Int) - ((52 : Nat) : Int)) (-1074) = (L : Int) - 1074 := ⟨(max ((P : Int) - 1074 + (g : Int) - 52) (-1074) + 1074).toNat, by omega⟩
  rw [hL, show ((L : Int) - 1074 - -1074).toNat = L by omega]
  rcases Nat.lt_or_ge 52 g with hgg | hgg
  · have hLP : L = P + (g - 52) := by omega
    rw [show ((P : Int) - 1074 - ((L : Int) - 1074)).toNat = 0 by omega, show ((L : Int) - 1074 - ((P : Int) - 1074)).toNat = g - 52 by omega, Nat.shiftLeft_zero]
    obtain ⟨d, hd⟩ : ∃ d, g - 52 = d := ⟨_, rfl⟩
    rw [hd]
    have hge : g = d + 52 := by omega
    obtain ⟨c1, c2⟩ := cut_even neg mag d
    obtain ⟨K, hK⟩ : ∃ K, Toward.even.cut neg mag d = K := ⟨_, rfl⟩
    rw [hK] at c1 c2
    have q1 : 2 ^ 52 ≤ mag / 2 ^ d := by
      rw [Nat.le_div_iff_mul_le (Nat.pow_pos (by decide)), ← Nat.pow_add, Nat.add_comm, ← hge]
      exact g1
    have q2 : mag / 2 ^ d < 2 ^ 53 := by
      rw [Nat.div_lt_iff_lt_mul (Nat.pow_pos (by decide)), ← Nat.pow_add]
      rw [show 53 + d = g + 1 by omega]
      exact g2
    rw [hK, Nat.min_eq_left (by omega)]
    refine ⟨K, L, by omega, is_word neg L K (by omega) (.inr (by omega)) (by omega), fun k e hke hk => ?_⟩
    have hde : d ≤ e := by
      rcases Nat.lt_or_ge e d with h9 | h9
      · exfalso
        have : k * 2 ^ e < 2 ^ 53 * 2 ^ e := Nat.mul_lt_mul_of_pos_right hk (Nat.pow_pos (by decide))
        rw [← Nat.pow_add, ← hke] at this
        have h8 : 2 ^ (53 + e) ≤ 2 ^ g := Nat.pow_le_pow_right (by decide) (by omega)
        omega
      · exact h9
    have hm2 : mag = (k * 2 ^ (e - d)) * 2 ^ d := by rw [hke, Nat.mul_assoc, ← Nat.pow_add]; congr 2; omega
    have hKe : K = k * 2 ^ (e - d) := by
      rw [← hK]
      have := cut_exact neg (k * 2 ^ (e - d)) d (by rw [← hm2, hg]; omega)
      rw [← hm2] at this
      exact this
    rw [hKe, hLP, hd]
    cases neg
    · rw [signed_f, signed_f, hm2, Nat.mul_assoc _ (2 ^ d), ← Nat.pow_add, Nat.add_comm P d]
    · rw [signed_t, signed_t, hm2, Nat.mul_assoc _ (2 ^ d), ← Nat.pow_add, Nat.add_comm P d]
  · have hLP : L ≤ P := by omega
    rw [show ((L : Int) - 1074 - ((P : Int) - 1074)).toNat = 0 by omega, show ((P : Int) - 1074 - ((L : Int) - 1074)).toNat = P - L by omega, Nat.shiftLeft_eq]
    have hc : Toward.even.cut neg (mag * 2 ^ (P - L)) 0 = mag * 2 ^ (P - L) := by
      have := cut_exact neg (mag * 2 ^ (P - L)) 0 (by omega)
      rw [Nat.pow_zero, Nat.mul_one] at this
      exact this
    rw [hc]
    obtain ⟨K, hK⟩ : ∃ K, mag * 2 ^ (P - L) = K := ⟨_, rfl⟩
    have k1 : K < 2 ^ 53 := by
      have h9 : mag * 2 ^ (P - L) < 2 ^ (g + 1) * 2 ^ (P - L) := Nat.mul_lt_mul_of_pos_right g2 (Nat.pow_pos (by decide))
      rw [← Nat.pow_add, hK] at h9
      have h8 : 2 ^ (g + 1 + (P - L)) ≤ 2 ^ 53 := Nat.pow_le_pow_right (by decide) (by omega)
      omega
    have k2 : L = 0 ∨ 2 ^ 52 ≤ K := by
      rcases Nat.eq_zero_or_pos L with h9 | h9
      · exact .inl h9
      · refine .inr ?_
        rw [← hK]
        have h8 : 2 ^ 52 = 2 ^ g * 2 ^ (P - L) := by rw [← Nat.pow_add]; congr 1; omega
        rw [h8]
        exact Nat.mul_le_mul_right _ g1
    have k0 : 0 < K := by rw [← hK]; exact Nat.mul_pos h0 (Nat.pow_pos (by decide))
    rw [hK, Nat.min_eq_left (by omega)]
    refine ⟨K, L, k0, is_word neg L K (by omega) k2 (by omega), fun k e _ _ => ?_⟩
    have hkk : K * 2 ^ L = mag * 2 ^ P := by rw [← hK, Nat.mul_assoc, ← Nat.pow_add]; congr 2; omega
    cases neg
    · rw [signed_f, signed_f, hkk]
    · rw [signed_t, signed_t, hkk]
end Go.Proofs.Ytagcgffofddcnaa.fl
