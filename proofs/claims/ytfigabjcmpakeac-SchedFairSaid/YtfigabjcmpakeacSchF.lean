/- Plain facts on windows: the widest gap is the least window that always has each worker in it (layer 36). No Go in sight. -/
import Derived.Test.YtfigabjcmpakeacSchM
namespace Go.Proofs.Ytfigabjcmpakeac.sch
set_option linter.unusedVariables false
def HoldsP (o : Nat → Nat) (L n w : Nat) : Prop := ∀ i, i + w ≤ L → ∀ j, j < n → ∃ k, i ≤ k ∧ k < i + w ∧ o k = j
theorem nx_gap (o : Nat → Nat) (j : Nat) : ∀ k i, nx o k j ≤ i → i < k → o i ≠ j := by
  intro k
  induction k with
  | zero => intro i _ h; omega
  | succ k ih =>
    intro i h1 h2
    unfold nx at h1
    by_cases e : o k = j
    · rw [if_pos e] at h1; omega
    · rw [if_neg e] at h1
      by_cases hk : i = k
      · subst hk; exact e
      · exact ih i h1 (by omega)
theorem nx_of_gap (o : Nat → Nat) (j i : Nat) : ∀ k, i ≤ k → (∀ q, i ≤ q → q < k → o q ≠ j) → nx o k j ≤ i := by
  intro k
  induction k with
  | zero => intro _ _; unfold nx; omega
  | succ k ih =>
    intro h1 h2
    by_cases e : i = k + 1
    · subst e; exact nx_le o _ j
    · unfold nx
      rw [if_neg (h2 k (by omega) (by omega))]
      exact ih (by omega) fun q hq hk => h2 q hq (by omega)
theorem wd_mono (o : Nat → Nat) (k L : Nat) (h : k ≤ L) : wd o k ≤ wd o L := by
  induction L with
  | zero => have : k = 0 := by omega
            subst this; exact Nat.le_refl _
  | succ L ih =>
    by_cases e : k = L + 1
    · subst e; exact Nat.le_refl _
    · have := ih (by omega)
      rw [show wd o (L + 1) = max (wd o L) (L - nx o L (o L) + 1) from rfl]
      omega
theorem wd_gap (o : Nat → Nat) (k L : Nat) (h : k < L) : k - nx o k (o k) + 1 ≤ wd o L := by
  have h1 := wd_mono o (k + 1) L h
  rw [show wd o (k + 1) = max (wd o k) (k - nx o k (o k) + 1) from rfl] at h1
  omega
theorem wd_le_wf (o : Nat → Nat) (L m : Nat) : wd o L ≤ wf o L m := by
  induction m with
  | zero => exact Nat.le_refl _
  | succ m ih => rw [wf]; omega
theorem wf_gap (o : Nat → Nat) (L m j : Nat) (h : j < m) : L - nx o L j + 1 ≤ wf o L m := by
  induction m with
  | zero => omega
  | succ m ih =>
    rw [wf]
    by_cases e : j = m
    · subst e; omega
    · have := ih (by omega); omega
theorem wd_bound (o : Nat → Nat) (w L : Nat) (h : ∀ k, k < L → k - nx o k (o k) + 1 ≤ w) : wd o L ≤ w := by
  induction L with
  | zero => unfold wd; omega
  | succ L ih =>
    rw [show wd o (L + 1) = max (wd o L) (L - nx o L (o L) + 1) from rfl]
    have := ih fun k hk => h k (by omega)
    have := h L (by omega)
    omega
theorem wf_bound (o : Nat → Nat) (w L m : Nat) (h : ∀ k, k < L → k - nx o k (o k) + 1 ≤ w) (h' : ∀ j, j < m → L - nx o L j + 1 ≤ w) : wf o L m ≤ w := by
  induction m with
  | zero => exact wd_bound o w L h
  | succ m ih =>
    rw [wf]
    have := ih fun j hj => h' j (by omega)
    have := h' m (by omega)
    omega
theorem holds_iff (o : Nat → Nat) (L n w : Nat) (hn : ∀ i, i < L → o i < n) : HoldsP o L n w ↔ wf o L n ≤ w := by
  constructor
  · intro h
    refine wf_bound o w L n (fun k hk => ?_) (fun j hj => ?_)
    · rcases Nat.lt_or_ge w (k - nx o k (o k) + 1) with hlt | hge
      · have := nx_le o k (o k)
        obtain ⟨q, h1, h2, h3⟩ := h (nx o k (o k)) (by omega) (o k) (hn k hk)
        exact absurd h3 (nx_gap o (o k) k q h1 (by omega))
      · exact hge
    · rcases Nat.lt_or_ge w (L - nx o L j + 1) with hlt | hge
      · have := nx_le o L j
        obtain ⟨q, h1, h2, h3⟩ := h (nx o L j) (by omega) j hj
        exact absurd h3 (nx_gap o j L q h1 (by omega))
      · exact hge
  · intro h i hi j hj
    apply Classical.byContradiction
    intro hno
    have hno' : ∀ q, i ≤ q → q < i + w → o q ≠ j := fun q h1 h2 h3 => hno ⟨q, h1, h2, h3⟩
    have key : ∀ d, i + w + d ≤ L → ∀ q, i ≤ q → q < i + w + d → o q ≠ j := by
      intro d
      induction d with
      | zero => intro _; exact hno'
      | succ d ih =>
        intro hd q h1 h2
        have ih := ih (by omega)
        by_cases e : q = i + w + d
        · subst e
          intro hq
          have hg := wd_gap o (i + w + d) L (by omega)
          rw [hq] at hg
          have h3 := nx_of_gap o j i (i + w + d) (by omega) ih
          have := wd_le_wf o L n
          omega
        · exact ih q h1 (by omega)
    have h3 := nx_of_gap o j i L (by omega) (by have := key (L - (i + w)) (by omega); rwa [show i + w + (L - (i + w)) = L by omega] at this)
    have := wf_gap o L n j hj
    omega
theorem wf_pos (o : Nat → Nat) (L n : Nat) (h : 1 ≤ n) : 1 ≤ wf o L n := by
  have := wf_gap o L n 0 (by omega)
  omega
end Go.Proofs.Ytfigabjcmpakeac.sch
