/- With how many picks a script repeats itself, as pure functions (layer 43). -/
import Derived.Test.YtokkgfefiblmiaaRpA
namespace Go.Proofs.Ytokkgfefiblmiaa.rp
set_option linter.unusedVariables false
set_option linter.unusedSimpArgs false
/-- the first k are the last k of the first i, and fewer than these. -/
def bd (l : List P2) (i k : Nat) : Prop := k < i ∧ ∀ j, j < k → l[j]? = l[i - k + j]?
def best (l : List P2) (i k : Nat) : Prop := bd l i k ∧ ∀ m, bd l i m → m ≤ k
section
variable {l : List P2} {i k m n : Nat}
theorem bd_zero (h : 1 ≤ i) : bd l i 0 := ⟨h, fun j hj => by omega⟩
theorem bd_snoc (h : m < i) : bd l (i + 1) (m + 1) ↔ bd l i m ∧ l[m]? = l[i]? := by
  constructor
  · rintro ⟨h1, h2⟩
    refine ⟨⟨h, fun j hj => ?_⟩, ?_⟩
    · have := h2 j (by omega)
      rwa [show i + 1 - (m + 1) + j = i - m + j by omega] at this
    · have := h2 m (by omega)
      rwa [show i + 1 - (m + 1) + m = i by omega] at this
  · rintro ⟨⟨h1, h2⟩, h3⟩
    refine ⟨by omega, fun j hj => ?_⟩
    rw [show i + 1 - (m + 1) + j = i - m + j by omega]
    by_cases e : j = m
    · subst e
      rw [show i - j + j = i by omega]
      exact h3
    · exact h2 j (by omega)
theorem bd_in (h1 : bd l i k) (h2 : bd l i m) (h : m < k) : bd l k m := by
  refine ⟨h, fun j hj => ?_⟩
  have e1 := h2.2 j hj
  have e2 := h1.2 (k - m + j) (by omega)
  have hk := h1.1
  rw [show i - k + (k - m + j) = i - m + j by omega] at e2
  rw [e1, e2]
theorem bd_down (h1 : bd l i k) (h2 : bd l k m) : bd l i m := by
  have hk := h1.1
  have hm := h2.1
  refine ⟨by omega, fun j hj => ?_⟩
  have e1 := h2.2 j hj
  have e2 := h1.2 (k - m + j) (by omega)
  rw [show i - k + (k - m + j) = i - m + j by omega] at e2
  rw [e1, e2]
/-- what holds while a shorter one is looked for. -/
def Look (l : List P2) (i k : Nat) : Prop := bd l i k ∧ ∀ m, bd l i m → l[m]? = l[i]? → m ≤ k
theorem Look.of (h : best l i k) : Look l i k := ⟨h.1, fun m h1 _ => h.2 m h1⟩
theorem Look.less {k' : Nat} (h : Look l i k) (hb : best l k k') (hne : ¬ l[k]? = l[i]?) : Look l i k' := by
  refine ⟨bd_down h.1 hb.1, fun m h1 h2 => ?_⟩
  have h3 := h.2 m h1 h2
  have h4 : m ≠ k := fun e => hne (by rw [← e]; exact h2)
  exact hb.2 m (bd_in h.1 h1 (by omega))
theorem Look.hit (h : Look l i k) (he : l[k]? = l[i]?) : best l (i + 1) (k + 1) := by
  refine ⟨(bd_snoc h.1.1).2 ⟨h.1, he⟩, fun m hm => ?_⟩
  cases m with
  | zero => omega
  | succ m =>
    have h1 : m < i := by have := hm.1; omega
    obtain ⟨h2, h3⟩ := (bd_snoc h1).1 hm
    have := h.2 m h2 h3
    omega
theorem Look.miss (h : Look l i 0) (he : ¬ l[0]? = l[i]?) : best l (i + 1) 0 := by
  refine ⟨bd_zero (by omega), fun m hm => ?_⟩
  cases m with
  | zero => omega
  | succ m =>
    have h1 : m < i := by have := hm.1; omega
    obtain ⟨h2, h3⟩ := (bd_snoc h1).1 hm
    have h4 := h.2 m h2 h3
    obtain rfl : m = 0 := by omega
    exact absurd h3 he
theorem best_one : best l 1 0 := ⟨bd_zero (by omega), fun m h => by have := h.1; omega⟩
theorem best_eq (h : best l i k) (h' : best l i m) : k = m := by
  have := h.2 m h'.1
  have := h'.2 k h.1
  omega
/-- it repeats itself with n. -/
def Per (l : List P2) (n : Nat) : Prop := ∀ i, n ≤ i → i < l.length → l[i]? = l[i - n]?
theorem per_bd (h1 : 1 ≤ n) (h2 : n ≤ l.length) : Per l n ↔ bd l l.length (l.length - n) := by
  constructor
  · intro h
    refine ⟨by omega, fun j hj => ?_⟩
    have := h (n + j) (by omega) (by omega)
    rw [show l.length - (l.length - n) + j = n + j by omega, this, show n + j - n = j by omega]
  · rintro ⟨_, h⟩ i hi hl
    have := h (i - n) (by omega)
    rw [show l.length - (l.length - n) + (i - n) = i by omega] at this
    exact this.symm
/-- with how many picks it repeats itself. -/
def RL (l : List P2) (v : Nat) : Prop := (l.length = 0 ∧ v = 0) ∨ ∃ b, best l l.length b ∧ v = l.length - b
theorem RL.eq {v v' : Nat} (h : RL l v) (h' : RL l v') : v = v' := by
  rcases h with ⟨h0, rfl⟩ | ⟨b, hb, rfl⟩
  · rcases h' with ⟨_, rfl⟩ | ⟨b', hb', rfl⟩
    · rfl
    · omega
  · rcases h' with ⟨h0, rfl⟩ | ⟨b', hb', rfl⟩
    · omega
    · rw [best_eq hb hb']
theorem RL.per (h1 : 1 ≤ n) (h2 : n < l.length) (hp : Per l n) (hn : ∀ n', 1 ≤ n' → n' < n → ¬ Per l n') : RL l n := by
  refine .inr ⟨l.length - n, ⟨(per_bd h1 (by omega)).1 hp, fun m hm => ?_⟩, by omega⟩
  have hm1 := hm.1
  by_cases e : m ≤ l.length - n
  · exact e
  · have h3 : Per l (l.length - m) := (per_bd (by omega) (by omega)).2 (by rw [show l.length - (l.length - m) = m by omega]; exact hm)
    exact absurd h3 (hn (l.length - m) (by omega) (by omega))
theorem RL.none (h : ∀ n', 1 ≤ n' → n' < l.length → ¬ Per l n') : RL l l.length := by
  by_cases h0 : l.length = 0
  · exact .inl ⟨h0, h0⟩
  · refine .inr ⟨0, ⟨bd_zero (by omega), fun m hm => ?_⟩, by omega⟩
    have hm1 := hm.1
    by_cases e : m ≤ 0
    · exact e
    · have h3 : Per l (l.length - m) := (per_bd (by omega) (by omega)).2 (by rw [show l.length - (l.length - m) = m by omega]; exact hm)
      exact absurd h3 (h (l.length - m) (by omega) (by omega))
end
end Go.Proofs.Ytokkgfefiblmiaa.rp
