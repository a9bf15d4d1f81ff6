/- How many bits are set, added up in pieces of 2, 4 and 8 bits (layer 31). No Go in sight. -/
import Derived.Test.YtpflimnngilhnaaRhM
namespace Go.Proofs.Ytpflimnngilhnaa.rh
set_option linter.unusedVariables false
def mk (c : Nat) : Nat → Nat
  | 0 => 0
  | k + 1 => 256 * mk c k + c
def t1 (b : Nat) : Nat := (b >>> 1 &&& 0x55) + (b &&& 0x55)
def t2 (b : Nat) : Nat := (b >>> 2 &&& 0x33) + (b &&& 0x33)
def t3 (b : Nat) : Nat := (b >>> 4) + b &&& 0x0f
def pc (b : Nat) : Nat := cnt b.testBit 8
theorem tab : ∀ b, b < 256 → t3 (t2 (t1 b)) = pc b ∧ t1 b < 256 ∧ t2 (t1 b) % 16 ≤ 4 ∧ t2 (t1 b) / 16 ≤ 4 := by decide +kernel
theorem tab1 : ∀ b, b < 256 → ∀ q, q < 2 → (128 * q + b / 2) &&& 0x55 = b >>> 1 &&& 0x55 := by decide +kernel
theorem tab2 : ∀ b, b < 256 → ∀ q, q < 4 → (64 * q + b / 4) &&& 0x33 = b >>> 2 &&& 0x33 := by decide +kernel
theorem and_split (r a m c : Nat) (ha : a < 256) (hc : c < 256) : (256 * r + a) &&& (256 * m + c) = 256 * (r &&& m) + (a &&& c) := by
  apply Nat.eq_of_testBit_eq
  intro i
  have h1 : a &&& c < 2 ^ 8 := Nat.lt_of_le_of_lt Nat.and_le_left ha
  rw [Nat.testBit_and, show (256 : Nat) = 2 ^ 8 from rfl, Nat.testBit_two_pow_mul_add _ ha, Nat.testBit_two_pow_mul_add _ hc, Nat.testBit_two_pow_mul_add _ h1]
  split <;> simp [Nat.testBit_and]
def s1 (k x : Nat) : Nat := (x >>> 1 &&& mk 0x55 k) + (x &&& mk 0x55 k)
def s2 (k x : Nat) : Nat := (x >>> 2 &&& mk 0x33 k) + (x &&& mk 0x33 k)
def s3 (k x : Nat) : Nat := (x >>> 4) + x &&& mk 0x0f k
theorem s1_step (k r b : Nat) (hb : b < 256) : s1 (k + 1) (256 * r + b) = 256 * s1 k r + t1 b := by
  unfold s1 t1
  have e : (256 * r + b) >>> 1 = 256 * (r >>> 1) + (128 * (r % 2) + b / 2) := by
    rw [Nat.shiftRight_eq_div_pow, Nat.shiftRight_eq_div_pow]; omega
  rw [show mk 0x55 (k + 1) = 256 * mk 0x55 k + 0x55 from rfl, e, and_split _ _ _ _ (by omega) (by decide), and_split _ _ _ _ hb (by decide), tab1 b hb _ (by omega)]
  omega
theorem s2_step (k r b : Nat) (hb : b < 256) : s2 (k + 1) (256 * r + b) = 256 * s2 k r + t2 b := by
  unfold s2 t2
  have e : (256 * r + b) >>> 2 = 256 * (r >>> 2) + (64 * (r % 4) + b / 4) := by
    rw [Nat.shiftRight_eq_div_pow, Nat.shiftRight_eq_div_pow]; omega
  rw [show mk 0x33 (k + 1) = 256 * mk 0x33 k + 0x33 from rfl, e, and_split _ _ _ _ (by omega) (by decide), and_split _ _ _ _ hb (by decide), tab2 b hb _ (by omega)]
  omega
theorem s3_step (k r u : Nat) (h1 : u % 16 ≤ 4) (h2 : u / 16 ≤ 4) (h3 : r % 16 ≤ 4) : s3 (k + 1) (256 * r + u) = 256 * s3 k r + t3 u := by
  unfold s3 t3
  have e : (256 * r + u) >>> 4 + (256 * r + u) = 256 * ((r >>> 4) + r) + (16 * (r % 16) + u / 16 + u) := by
    rw [Nat.shiftRight_eq_div_pow, Nat.shiftRight_eq_div_pow]; omega
  rw [show mk 0x0f (k + 1) = 256 * mk 0x0f k + 0x0f from rfl, e, and_split _ _ _ _ (by omega) (by decide), Nat.shiftRight_eq_div_pow u]
  rw [show (0x0f : Nat) = 2 ^ 4 - 1 from rfl, Nat.and_two_pow_sub_one_eq_mod, Nat.and_two_pow_sub_one_eq_mod]
  congr 1
  omega
def sS (k x : Nat) : Nat := s3 k (s2 k (s1 k x))
theorem sS_zero (x : Nat) : sS 0 x = 0 := by unfold sS s3; simp [mk]
theorem s2_low (k x : Nat) : s2 k (s1 k x) % 16 ≤ 4 := by
  cases k with
  | zero => unfold s2; simp [mk]
  | succ k =>
    have e : x = 256 * (x / 256) + x % 256 := by omega
    have hb : x % 256 < 256 := by omega
    obtain ⟨_, h1, h2, _⟩ := tab _ hb
    rw [e, s1_step k _ _ hb, s2_step k _ _ h1]
    omega
theorem sS_step (k r b : Nat) (hb : b < 256) : sS (k + 1) (256 * r + b) = 256 * sS k r + pc b := by
  obtain ⟨h0, h1, h2, h3⟩ := tab _ hb
  unfold sS
  rw [s1_step k _ _ hb, s2_step k _ _ h1, s3_step k _ _ h2 h3 (s2_low k r), h0]
theorem pc_le (b : Nat) : pc b ≤ 8 := cnt_le _ _
theorem cnt_byte (r b n : Nat) (hb : b < 256) : cnt (256 * r + b).testBit (8 + n) = pc b + cnt r.testBit n := by
  rw [cnt_add]
  congr 1
  · exact cnt_congr _ _ _ fun i hi => by rw [show (256 : Nat) = 2 ^ 8 from rfl, Nat.testBit_two_pow_mul_add _ hb, if_pos hi]
  · exact cnt_congr _ _ _ fun i hi => by rw [show (256 : Nat) = 2 ^ 8 from rfl, Nat.testBit_two_pow_mul_add _ hb, if_neg (by omega)]; congr 1; omega
theorem ones_of (x : Nat) (hx : x < 18446744073709551616) : ∃ y, sS 8 x = y ∧ y < 648518346341351424 ∧ (y + y / 256 + (y + y / 256) / 65536 + (y + y / 256 + (y + y / 256) / 65536) / 4294967296) % 128 = cnt x.testBit 64 := by
  obtain ⟨b0, r0, h0, e0⟩ : ∃ b r, b < 256 ∧ x = 256 * r + b := ⟨x % 256, x / 256, by omega, by omega⟩
  obtain ⟨b1, r1, h1, e1⟩ : ∃ b r, b < 256 ∧ r0 = 256 * r + b := ⟨r0 % 256, r0 / 256, by omega, by omega⟩
  obtain ⟨b2, r2, h2, e2⟩ : ∃ b r, b < 256 ∧ r1 = 256 * r + b := ⟨r1 % 256, r1 / 256, by omega, by omega⟩
  obtain ⟨b3, r3, h3, e3⟩ : ∃ b r, b < 256 ∧ r2 = 256 * r + b := ⟨r2 % 256, r2 / 256, by omega, by omega⟩
  obtain ⟨b4, r4, h4, e4⟩ : ∃ b r, b < 256 ∧ r3 = 256 * r + b := ⟨r3 % 256, r3 / 256, by omega, by omega⟩
  obtain ⟨b5, r5, h5, e5⟩ : ∃ b r, b < 256 ∧ r4 = 256 * r + b := ⟨r4 % 256, r4 / 256, by omega, by omega⟩
  obtain ⟨b6, r6, h6, e6⟩ : ∃ b r, b < 256 ∧ r5 = 256 * r + b := ⟨r5 % 256, r5 / 256, by omega, by omega⟩
  obtain ⟨b7, r7, h7, e7⟩ : ∃ b r, b < 256 ∧ r6 = 256 * r + b := ⟨r6 % 256, r6 / 256, by omega, by omega⟩
  have q0 := pc_le b0
  have q1 := pc_le b1
  have q2 := pc_le b2
  have q3 := pc_le b3
  have q4 := pc_le b4
  have q5 := pc_le b5
  have q6 := pc_le b6
  have q7 := pc_le b7
  have hs : sS 8 x = 256 * (256 * (256 * (256 * (256 * (256 * (256 * (256 * 0 + pc b7) + pc b6) + pc b5) + pc b4) + pc b3) + pc b2) + pc b1) + pc b0 := by
    rw [e0, sS_step _ _ _ h0, e1, sS_step _ _ _ h1, e2, sS_step _ _ _ h2, e3, sS_step _ _ _ h3, e4, sS_step _ _ _ h4, e5, sS_step _ _ _ h5, e6, sS_step _ _ _ h6, e7, sS_step _ _ _ h7, sS_zero]
  have hc : cnt x.testBit 64 = pc b0 + (pc b1 + (pc b2 + (pc b3 + (pc b4 + (pc b5 + (pc b6 + (pc b7 + 0))))))) := by
    rw [e0, show (64 : Nat) = 8 + 56 from rfl, cnt_byte _ _ _ h0, e1, show (56 : Nat) = 8 + 48 from rfl, cnt_byte _ _ _ h1, e2, show (48 : Nat) = 8 + 40 from rfl, cnt_byte _ _ _ h2, e3, show (40 : Nat) = 8 + 32 from rfl, cnt_byte _ _ _ h3, e4, show (32 : Nat) = 8 + 24 from rfl, cnt_byte _ _ _ h4, e5, show (24 : Nat) = 8 + 16 from rfl, cnt_byte _ _ _ h5, e6, show (16 : Nat) = 8 + 8 from rfl, cnt_byte _ _ _ h6, e7, show (8 : Nat) = 8 + 0 from rfl, cnt_byte _ _ _ h7]
    rfl
  refine ⟨_, hs, ?_, ?_⟩
  · omega
  · rw [hc]
    generalize pc b0 = p0 at *
    generalize pc b1 = p1 at *
    generalize pc b2 = p2 at *
    generalize pc b3 = p3 at *
    generalize pc b4 = p4 at *
    generalize pc b5 = p5 at *
    generalize pc b6 = p6 at *
    generalize pc b7 = p7 at *
    clear hs hc e0 e1 e2 e3 e4 e5 e6 e7
    obtain ⟨y, hy⟩ : ∃ y, y = 256 * (256 * (256 * (256 * (256 * (256 * (256 * (256 * 0 + p7) + p6) + p5) + p4) + p3) + p2) + p1) + p0 := ⟨_, rfl⟩
    rw [← hy]
    have g1 : y / 256 = 256 * (256 * (256 * (256 * (256 * (256 * (256 * (0) + p7) + p6) + p5) + p4) + p3) + p2) + p1 := by omega
    obtain ⟨y1, hy1⟩ : ∃ y1, y1 = y + y / 256 := ⟨_, rfl⟩
    rw [← hy1]
    have k1 : y1 = 256 * (256 * (256 * (256 * (256 * (256 * (256 * (256 * (0) + (p7)) + (p6 + p7)) + (p5 + p6)) + (p4 + p5)) + (p3 + p4)) + (p2 + p3)) + (p1 + p2)) + (p0 + p1) := by omega
    have g2 : y1 / 65536 = 256 * (256 * (256 * (256 * (256 * (256 * (0) + (p7)) + (p6 + p7)) + (p5 + p6)) + (p4 + p5)) + (p3 + p4)) + (p2 + p3) := by omega
    obtain ⟨y2, hy2⟩ : ∃ y2, y2 = y1 + y1 / 65536 := ⟨_, rfl⟩
    rw [← hy2]
    have k2 : y2 = 256 * (256 * (256 * (256 * (256 * (256 * (256 * (256 * (0) + (p7)) + (p6 + p7)) + (p5 + p6 + p7)) + (p4 + p5 + p6 + p7)) + (p3 + p4 + p5 + p6)) + (p2 + p3 + p4 + p5)) + (p1 + p2 + p3 + p4)) + (p0 + p1 + p2 + p3) := by omega
    have g3 : y2 / 4294967296 = 256 * (256 * (256 * (256 * (0) + (p7)) + (p6 + p7)) + (p5 + p6 + p7)) + (p4 + p5 + p6 + p7) := by omega
    rw [g3, k2]
    clear g3 k2 hy2 g2 k1 hy1 g1 hy
    omega
end Go.Proofs.Ytpflimnngilhnaa.rh
