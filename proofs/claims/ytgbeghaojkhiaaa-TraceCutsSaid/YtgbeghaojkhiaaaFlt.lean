import GoSem.Core.Float
namespace Go.Proofs.Ytgbeghaojkhiaaa.fl
open Ieee
/-- the word of a whole number. -/
def enc (n : Nat) : Nat := double.nearest false n 0
theorem cut0 (n : Nat) : Toward.even.cut false n 0 = n := by
  simp [Toward.cut, Nat.mod_one]
theorem enc_pos {n : Nat} (h : 0 < n) (hn : n < 2 ^ 52) : enc n = (n.log2 + 1022) * 2 ^ 52 + n * 2 ^ (52 - n.log2) := by
  have hk : n.log2 < 52 := (Nat.log2_lt (by omega)).2 hn
  have h1 : n * 2 ^ (52 - n.log2) < 2 ^ 53 := by
    have h2 : n < 2 ^ (n.log2 + 1) := Nat.lt_log2_self
    calc n * 2 ^ (52 - n.log2) < 2 ^ (n.log2 + 1) * 2 ^ (52 - n.log2) := Nat.mul_lt_mul_of_pos_right h2 (Nat.pow_pos (by decide))
      _ = 2 ^ 53 := by rw [← Nat.pow_add]; congr 1; omega
  unfold enc Format.nearest
  rw [if_neg (by omega)]
  have hl : max (0 + (n.log2 : Int) - (double.fractionBits : Nat)) double.leastPlace = (n.log2 : Int) - 52 := by
    show max (0 + (n.log2 : Int) - 52) (-1074) = _
    omega
  simp only [hl]
  rw [show (0 - ((n.log2 : Int) - 52)).toNat = 52 - n.log2 by omega, show (((n.log2 : Int) - 52) - 0).toNat = 0 by omega, cut0, Nat.shiftLeft_eq]
  rw [show ((n.log2 : Int) - 52 - double.leastPlace).toNat = n.log2 + 1022 by show ((n.log2 : Int) - 52 - (-1074)).toNat = _; omega]
  show (if false = true then _ else min ((n.log2 + 1022) * 2 ^ 52 + n * 2 ^ (52 - n.log2)) (2047 * 2 ^ 52)) = _
  rw [if_neg (by simp)]
  apply Nat.min_eq_left
  omega
theorem enc_ge {n : Nat} (h : 0 < n) (hn : n < 2 ^ 52) : 2 ^ 52 ≤ n * 2 ^ (52 - n.log2) ∧ n * 2 ^ (52 - n.log2) < 2 ^ 53 := by
  have hk : n.log2 < 52 := (Nat.log2_lt (by omega)).2 hn
  constructor
  · have h2 : 2 ^ n.log2 ≤ n := Nat.log2_self_le (by omega)
    calc 2 ^ 52 = 2 ^ n.log2 * 2 ^ (52 - n.log2) := by rw [← Nat.pow_add]; congr 1; omega
      _ ≤ n * 2 ^ (52 - n.log2) := Nat.mul_le_mul_right _ h2
  · have h2 : n < 2 ^ (n.log2 + 1) := Nat.lt_log2_self
    calc n * 2 ^ (52 - n.log2) < 2 ^ (n.log2 + 1) * 2 ^ (52 - n.log2) := Nat.mul_lt_mul_of_pos_right h2 (Nat.pow_pos (by decide))
      _ = 2 ^ 53 := by rw [← Nat.pow_add]; congr 1; omega
set_option maxRecDepth 20000 in
theorem read_enc {n : Nat} (h : 0 < n) (hn : n < 2 ^ 52) : double.read (enc n) = .number false (n * 2 ^ (52 - n.log2)) ((n.log2 : Int) - 52) := by
  have hk : n.log2 < 52 := (Nat.log2_lt (by omega)).2 hn
  obtain ⟨g1, g2⟩ := enc_ge h hn
  obtain ⟨m, hm⟩ : ∃ m, n * 2 ^ (52 - n.log2) = 2 ^ 52 + m := ⟨n * 2 ^ (52 - n.log2) - 2 ^ 52, by omega⟩
  have hm2 : m < 2 ^ 52 := by omega
  rw [enc_pos h hn, hm]
  obtain ⟨k, hkk⟩ : ∃ k, n.log2 = k := ⟨_, rfl⟩
  rw [hkk] at hk ⊢
  have e1 : (k + 1022) * 2 ^ 52 + (2 ^ 52 + m) = (k + 1023) * 2 ^ 52 + m := by omega
  rw [e1]
  have hsw : double.signWeight = 2 ^ 63 := rfl
  have hbn : double.binade = 2 ^ 52 := rfl
  have hir : double.infRung = 2047 * 2 ^ 52 := rfl
  have hlp : double.leastPlace = -1074 := rfl
  unfold Format.read
  simp only [hsw, hbn, hir, hlp]
  have d1 : ((k + 1023) * 2 ^ 52 + m) / 2 ^ 63 = 0 := Nat.div_eq_of_lt (by omega)
  have d2 : ((k + 1023) * 2 ^ 52 + m) % 2 ^ 63 = (k + 1023) * 2 ^ 52 + m := Nat.mod_eq_of_lt (by omega)
  have d3 : ((k + 1023) * 2 ^ 52 + m) / 2 ^ 52 = k + 1023 := by omega
  have d4 : ((k + 1023) * 2 ^ 52 + m) % 2 ^ 52 = m := by omega
  rw [d1, d2, d3, d4, if_neg (by omega), if_pos (by omega)]
  congr 1
  omega
theorem read_zero : double.read (enc 0) = .number false 0 (-1074) := by decide
theorem cmp_mul (a b c : Nat) (hc : 0 < c) : compare ((a * c : Nat) : Int) ((b * c : Nat) : Int) = compare (a : Int) (b : Int) := by
  show compareOfLessAndEq _ _ = compareOfLessAndEq _ _
  unfold compareOfLessAndEq
  rcases Nat.lt_trichotomy a b with h | h | h
  · have h1 : a * c < b * c := Nat.mul_lt_mul_of_pos_right h hc
    rw [if_pos (by omega), if_pos (by omega)]
  · subst h
    rw [if_neg (Int.lt_irrefl _), if_pos rfl, if_neg (Int.lt_irrefl _), if_pos rfl]
  · have h1 : b * c < a * c := Nat.mul_lt_mul_of_pos_right h hc
    rw [if_neg (by omega), if_neg (by omega), if_neg (by omega), if_neg (by omega)]
theorem signed_f (m u : Nat) : signed false m u = ((m * 2 ^ u : Nat) : Int) := by
  simp [signed, Nat.shiftLeft_eq]
set_option maxRecDepth 20000 in
theorem order_enc {a b : Nat} (ha : a < 2 ^ 52) (hb : b < 2 ^ 52) : double.order (enc a) (enc b) = some (compare (a : Int) (b : Int)) := by
  unfold Format.order
  rcases Nat.eq_zero_or_pos a with h1 | h1
  · subst h1
    rcases Nat.eq_zero_or_pos b with h2 | h2
    · subst h2
      rw [read_zero]
      decide
    · have hk : b.log2 < 52 := (Nat.log2_lt (by omega)).2 hb
      rw [read_zero, read_enc h2 hb]
      show some (compare (signed false 0 _) (signed false (b * 2 ^ (52 - b.log2)) _)) = _
      rw [signed_f, signed_f, Nat.mul_assoc, ← Nat.pow_add]
      have := cmp_mul 0 b (2 ^ (52 - b.log2 + ((b.log2 : Int) - 52 - min (-1074) ((b.log2 : Int) - 52)).toNat)) (Nat.pow_pos (by decide))
      rw [Nat.zero_mul] at this ⊢
      rw [this]
  · have hka : a.log2 < 52 := (Nat.log2_lt (by omega)).2 ha
    rcases Nat.eq_zero_or_pos b with h2 | h2
    · subst h2
      rw [read_zero, read_enc h1 ha]
      show some (compare (signed false (a * 2 ^ (52 - a.log2)) _) (signed false 0 _)) = _
      rw [signed_f, signed_f, Nat.mul_assoc, ← Nat.pow_add]
      have := cmp_mul a 0 (2 ^ (52 - a.log2 + ((a.log2 : Int) - 52 - min ((a.log2 : Int) - 52) (-1074)).toNat)) (Nat.pow_pos (by decide))
      rw [Nat.zero_mul] at this ⊢
      rw [this]
    · have hkb : b.log2 < 52 := (Nat.log2_lt (by omega)).2 hb
      rw [read_enc h1 ha, read_enc h2 hb]
      show some (compare (signed false (a * 2 ^ (52 - a.log2)) ((a.log2 : Int) - 52 - min ((a.log2 : Int) - 52) ((b.log2 : Int) - 52)).toNat) (signed false (b * 2 ^ (52 - b.log2)) ((b.log2 : Int) - 52 - min ((a.log2 : Int) - 52) ((b.log2 : Int) - 52)).toNat)) = _
      rw [signed_f, signed_f, Nat.mul_assoc, ← Nat.pow_add, Nat.mul_assoc, ← Nat.pow_add]
      obtain ⟨p, hp⟩ : ∃ p, a.log2 = p := ⟨_, rfl⟩
      obtain ⟨q, hq⟩ : ∃ q, b.log2 = q := ⟨_, rfl⟩
      rw [hp] at hka ⊢
      rw [hq] at hkb ⊢
      have e1 : 52 - p + ((p : Int) - 52 - min ((p : Int) - 52) ((q : Int) - 52)).toNat = 52 - min p q := by omega
      have e2 : 52 - q + ((q : Int) - 52 - min ((p : Int) - 52) ((q : Int) - 52)).toNat = 52 - min p q := by omega
      rw [e1, e2, cmp_mul _ _ _ (Nat.pow_pos (by decide))]
theorem cut_zero (n k : Nat) : Toward.zero.cut false (n * 2 ^ k) k = n := by
  unfold Toward.cut
  have h2 : n * 2 ^ k / (1 <<< min k ((n * 2 ^ k).log2 + 2)) = n := by
    by_cases h : n = 0
    · subst h; simp
    · have hk : k ≤ (n * 2 ^ k).log2 := by
        have : 2 ^ k ≤ n * 2 ^ k := Nat.le_mul_of_pos_left _ (by omega)
        exact (Nat.le_log2 (by have : 0 < n * 2 ^ k := Nat.mul_pos (by omega) (Nat.pow_pos (by decide)); omega)).2 this
      rw [Nat.min_eq_left (by omega), Nat.shiftLeft_eq, Nat.one_mul, Nat.mul_div_cancel _ (Nat.pow_pos (by decide))]
  simp only [h2]
  simp
set_option maxRecDepth 20000 in
theorem toInt_enc {n : Nat} (hn : n < 2 ^ 52) : (double.read (enc n)).toInt .zero = some (n : Int) := by
  rcases Nat.eq_zero_or_pos n with h | h
  · subst h
    rw [read_zero]
    decide
  · have hk : n.log2 < 52 := (Nat.log2_lt (by omega)).2 hn
    rw [read_enc h hn]
    show some (signed false (Toward.zero.cut false ((n * 2 ^ (52 - n.log2)) <<< ((n.log2 : Int) - 52).toNat) (-((n.log2 : Int) - 52)).toNat) 0) = _
    rw [show ((n.log2 : Int) - 52).toNat = 0 by omega, show (-((n.log2 : Int) - 52)).toNat = 52 - n.log2 by omega, Nat.shiftLeft_zero, cut_zero, signed_f]
    simp
end Go.Proofs.Ytgbeghaojkhiaaa.fl
