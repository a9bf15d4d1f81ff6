/- Plain facts on who steps when: the last pick of each worker, the widest gap, how many each one has, and rounds in which each has one (layer 36). No Go in sight. -/
import Derived.WalkKit
namespace Go.Proofs.Ytfigabjcmpakeab.sch
set_option linter.unusedVariables false
set_option linter.unusedSectionVars false
def nx (o : Nat → Nat) : Nat → Nat → Nat
  | 0, _ => 0
  | k + 1, j => if o k = j then k + 1 else nx o k j
def sn (o : Nat → Nat) : Nat → Nat → Bool
  | 0, _ => false
  | k + 1, j => if o k = j then true else sn o k j
def wd (o : Nat → Nat) : Nat → Nat
  | 0 => 0
  | k + 1 => max (wd o k) (k - nx o k (o k) + 1)
def wf (o : Nat → Nat) (L : Nat) : Nat → Nat
  | 0 => wd o L
  | j + 1 => max (wf o L j) (L - nx o L j + 1)
def cn (o : Nat → Nat) : Nat → Nat → Nat
  | 0, _ => 0
  | k + 1, j => cn o k j + if o k = j then 1 else 0
theorem nx_le (o : Nat → Nat) (k j : Nat) : nx o k j ≤ k := by
  induction k with
  | zero => simp [nx]
  | succ k ih => unfold nx; split <;> omega
theorem wd_le (o : Nat → Nat) (k : Nat) : wd o k ≤ k := by
  induction k with
  | zero => simp [wd]
  | succ k ih => unfold wd; omega
theorem cn_le (o : Nat → Nat) (k j : Nat) : cn o k j ≤ k := by
  induction k with
  | zero => simp [cn]
  | succ k ih => unfold cn; split <;> omega
theorem wf_le (o : Nat → Nat) (L j : Nat) : wf o L j ≤ L + 1 := by
  induction j with
  | zero => have := wd_le o L; simp [wf]; omega
  | succ j ih => unfold wf; omega
theorem sn_cn (o : Nat → Nat) (k j : Nat) : sn o k j = decide (0 < cn o k j) := by
  induction k with
  | zero => simp [sn, cn]
  | succ k ih => unfold sn cn; split <;> simp [ih]
theorem congr_o (o o' : Nat → Nat) (k : Nat) (h : ∀ i, i < k → o i = o' i) : (∀ j, nx o k j = nx o' k j) ∧ (∀ j, sn o k j = sn o' k j) ∧ wd o k = wd o' k ∧ ∀ j, cn o k j = cn o' k j := by
  induction k with
  | zero => simp [nx, sn, wd, cn]
  | succ k ih =>
    obtain ⟨h1, h2, h3, h4⟩ := ih fun i hi => h i (by omega)
    have hk := h k (by omega)
    refine ⟨fun j => ?_, fun j => ?_, ?_, fun j => ?_⟩
    · unfold nx; rw [hk, h1]
    · unfold sn; rw [hk, h2]
    · unfold wd; rw [hk, h1, h3]
    · unfold cn; rw [hk, h4]
section
variable (o : Nat → Nat) (n : Nat) (pos : Nat → Nat → Nat) (hp : ∀ q j, j < n → pos q j < n) (ho : ∀ q r j, r < n → j < n → (o (q * n + r) = j ↔ r = pos q j))
include hp ho
theorem block_cn (q r j : Nat) (hr : r ≤ n) (hj : j < n) : cn o (q * n + r) j = q + if pos q j < r then 1 else 0 := by
  induction q generalizing r with
  | zero =>
    induction r with
    | zero => simp [cn]
    | succ r ih =>
      have h := ho 0 r j (by omega) hj
      have e := ih (by omega)
      rw [show 0 * n + (r + 1) = (0 * n + r) + 1 by omega]
      unfold cn
      rw [e]
      by_cases hh : r = pos 0 j
      · rw [if_pos (h.2 hh), if_neg (by omega), if_pos (by omega)]
      · rw [if_neg (fun x => hh (h.1 x))]
        by_cases h2 : pos 0 j < r
        · rw [if_pos h2, if_pos (by omega)]
        · rw [if_neg h2, if_neg (by omega)]
  | succ q iq =>
    induction r with
    | zero =>
      have e := iq n (Nat.le_refl n)
      rw [if_pos (hp q j hj)] at e
      rw [show (q + 1) * n + 0 = q * n + n by rw [Nat.add_mul]; omega, e]
      simp
    | succ r ih =>
      have h := ho (q + 1) r j (by omega) hj
      have e := ih (by omega)
      rw [show (q + 1) * n + (r + 1) = ((q + 1) * n + r) + 1 by omega]
      unfold cn
      rw [e]
      by_cases hh : r = pos (q + 1) j
      · rw [if_pos (h.2 hh), if_neg (by omega), if_pos (by omega)]
      · rw [if_neg (fun x => hh (h.1 x))]
        by_cases h2 : pos (q + 1) j < r
        · rw [if_pos h2, if_pos (by omega)]
        · rw [if_neg h2, if_neg (by omega)]
theorem block_nx0 (r j : Nat) (hr : r ≤ n) (hj : j < n) : nx o (0 * n + r) j = if pos 0 j < r then 0 * n + pos 0 j + 1 else 0 := by
  induction r with
  | zero => simp [nx]
  | succ r ih =>
    have h := ho 0 r j (by omega) hj
    have e := ih (by omega)
    rw [show 0 * n + (r + 1) = (0 * n + r) + 1 by omega]
    unfold nx
    rw [e]
    by_cases hh : r = pos 0 j
    · rw [if_pos (h.2 hh), if_pos (by omega)]; omega
    · rw [if_neg (fun x => hh (h.1 x))]
      by_cases h2 : pos 0 j < r
      · rw [if_pos h2, if_pos (by omega)]
      · rw [if_neg h2, if_neg (by omega)]
theorem block_nx (q r j : Nat) (hr : r ≤ n) (hj : j < n) : nx o ((q + 1) * n + r) j = if pos (q + 1) j < r then (q + 1) * n + pos (q + 1) j + 1 else q * n + pos q j + 1 := by
  induction q generalizing r with
  | zero =>
    induction r with
    | zero =>
      have e := block_nx0 o n pos hp ho n j (Nat.le_refl n) hj
      rw [if_pos (hp 0 j hj)] at e
      rw [show (0 + 1) * n + 0 = 0 * n + n by omega, e]
      simp
    | succ r ih =>
      have h := ho (0 + 1) r j (by omega) hj
      have e := ih (by omega)
      rw [show (0 + 1) * n + (r + 1) = ((0 + 1) * n + r) + 1 by omega]
      unfold nx
      rw [e]
      by_cases hh : r = pos (0 + 1) j
      · rw [if_pos (h.2 hh), if_pos (by omega)]; omega
      · rw [if_neg (fun x => hh (h.1 x))]
        by_cases h2 : pos (0 + 1) j < r
        · rw [if_pos h2, if_pos (by omega)]
        · rw [if_neg h2, if_neg (by omega)]
  | succ q iq =>
    induction r with
    | zero =>
      have e := iq n (Nat.le_refl n)
      rw [if_pos (hp (q + 1) j hj)] at e
      rw [show (q + 1 + 1) * n + 0 = (q + 1) * n + n by rw [Nat.add_mul (q + 1) 1 n]; omega, e]
      simp
    | succ r ih =>
      have h := ho (q + 1 + 1) r j (by omega) hj
      have e := ih (by omega)
      rw [show (q + 1 + 1) * n + (r + 1) = ((q + 1 + 1) * n + r) + 1 by omega]
      unfold nx
      rw [e]
      by_cases hh : r = pos (q + 1 + 1) j
      · rw [if_pos (h.2 hh), if_pos (by omega)]; omega
      · rw [if_neg (fun x => hh (h.1 x))]
        by_cases h2 : pos (q + 1 + 1) j < r
        · rw [if_pos h2, if_pos (by omega)]
        · rw [if_neg h2, if_neg (by omega)]
theorem block_wd (hn : 1 ≤ n) (hlt : ∀ i, o i < n) (k : Nat) : wd o k ≤ 2 * n - 1 := by
  induction k with
  | zero => simp [wd]
  | succ k ih =>
    unfold wd
    have hk : k = k / n * n + k % n := by rw [Nat.mul_comm]; exact (Nat.div_add_mod k n).symm
    have hr : k % n < n := Nat.mod_lt _ (by omega)
    have h : k - nx o k (o k) + 1 ≤ 2 * n - 1 := by
      generalize hjv : o k = j
      have hj : j < n := hjv ▸ hlt k
      generalize k / n = q at hk
      generalize k % n = r at hk hr
      have hpj := (ho q r j hr hj).1 (by rw [← hk]; exact hjv)
      cases q with
      | zero =>
        have e := block_nx0 o n pos hp ho r j (by omega) hj
        rw [← hk] at e
        rw [e]
        split <;> omega
      | succ q =>
        have e := block_nx o n pos hp ho q r j (by omega) hj
        rw [← hk] at e
        rw [e, if_neg (by omega)]
        rw [Nat.add_mul, Nat.one_mul] at hk
        omega
    omega
theorem block_wf (hn : 1 ≤ n) (hlt : ∀ i, o i < n) (k : Nat) (hk : 1 ≤ k) (m : Nat) (hm : m ≤ n) : wf o (n * k) m ≤ 2 * n - 1 := by
  induction m with
  | zero => exact block_wd o n pos hp ho hn hlt _
  | succ j ih =>
    unfold wf
    obtain ⟨q, rfl⟩ : ∃ q, k = q + 1 := ⟨k - 1, by omega⟩
    have ih := ih (by omega)
    have e : n * (q + 1) - nx o (n * (q + 1)) j + 1 ≤ n := by
      cases q with
      | zero =>
        have e := block_nx0 o n pos hp ho n j (Nat.le_refl n) (by omega)
        rw [if_pos (hp 0 j (by omega))] at e
        rw [show n * (0 + 1) = 0 * n + n by omega, e]
        omega
      | succ q =>
        have e := block_nx o n pos hp ho q n j (Nat.le_refl n) (by omega)
        rw [if_pos (hp (q + 1) j (by omega))] at e
        rw [show n * (q + 1 + 1) = (q + 1) * n + n by rw [Nat.mul_comm, Nat.add_mul (q + 1) 1 n]; omega, e]
        omega
    omega
theorem block_all (k j : Nat) (hj : j < n) : cn o (n * k) j = k := by
  have e := block_cn o n pos hp ho k 0 j (by omega) hj
  rw [show n * k = k * n + 0 by rw [Nat.mul_comm]; omega, e]
  simp
end
/-- Whose pick the i-th one of turns is. -/
def tn (ob : Nat → Nat) (n i : Nat) : Nat := if 128 ≤ ob (i / n) then (ob (i / n) % n + (n - i % n)) % n else (ob (i / n) % n + i % n) % n
def ps (ob : Nat → Nat) (n q j : Nat) : Nat := if 128 ≤ ob q then (ob q % n + n - j) % n else (j + n - ob q % n) % n
theorem ps_lt (ob : Nat → Nat) (n q j : Nat) (hj : j < n) : ps ob n q j < n := by
  unfold ps; split <;> exact Nat.mod_lt _ (by omega)
theorem mod_once (a n : Nat) (h : a < 2 * n) (hn : 0 < n) : a % n = if a < n then a else a - n := by
  by_cases h1 : a < n
  · rw [if_pos h1, Nat.mod_eq_of_lt h1]
  · rw [if_neg h1, Nat.mod_eq_sub_mod (by omega), Nat.mod_eq_of_lt (by omega)]
theorem tn_lt (ob : Nat → Nat) (n i : Nat) (hn : 1 ≤ n) : tn ob n i < n := by
  unfold tn; split <;> exact Nat.mod_lt _ (by omega)
theorem tn_ps (ob : Nat → Nat) (n : Nat) : ∀ q r j, r < n → j < n → (tn ob n (q * n + r) = j ↔ r = ps ob n q j) := by
  intro q r j hr hj
  have h1 : (q * n + r) / n = q := by rw [Nat.mul_comm, Nat.mul_add_div (by omega), Nat.div_eq_of_lt hr]; omega
  have h2 : (q * n + r) % n = r := by rw [Nat.mul_comm, Nat.mul_add_mod, Nat.mod_eq_of_lt hr]
  unfold tn ps
  rw [h1, h2]
  have hf : ob q % n < n := Nat.mod_lt _ (by omega)
  generalize ob q % n = f at hf
  by_cases hb : 128 ≤ ob q
  · rw [if_pos hb, if_pos hb, mod_once (f + n - j) n (by omega) (by omega)]
    by_cases hr0 : r = 0
    · subst hr0
      rw [show f + (n - 0) = f + n by omega, Nat.add_mod_right, Nat.mod_eq_of_lt hf]
      split <;> omega
    · rw [mod_once (f + (n - r)) n (by omega) (by omega)]
      split <;> split <;> omega
  · rw [if_neg hb, if_neg hb, mod_once (f + r) n (by omega) (by omega), mod_once (j + n - f) n (by omega) (by omega)]
    split <;> split <;> omega
end Go.Proofs.Ytfigabjcmpakeab.sch
