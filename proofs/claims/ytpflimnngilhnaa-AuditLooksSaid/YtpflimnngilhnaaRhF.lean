/- Plain facts on sets as words of bits: what lies ahead of each (layer 31). -/
import Derived.Test.YtpflimnngilhnaaRhB
namespace Go.Proofs.Ytpflimnngilhnaa.rh
set_option linter.unusedVariables false
/-- of k things all is known, of the next one what the first j predecessors bring. -/
def FB (L : List (List Int)) (n : Nat) (f : Nat → Nat) (k j : Nat) : Prop :=
  ∀ b q r, b < n → q < 16 → r < 64 → ((f (b * 16 + q)).testBit r = true ↔ (b < k ∧ P L (64 * q + r) b) ∨ (b = k ∧ ∃ i, i < j ∧ ∃ a : Nat, (L.getD k []).getD i 0 = (a : Int) ∧ (64 * q + r = a ∨ P L (64 * q + r) a)))
theorem fb_start (L : List (List Int)) (n : Nat) : FB L n (fun _ => 0) 0 0 := by
  intro b q r _ _ _
  simp
theorem fb_step {L : List (List Int)} {n k j a qa ra : Nat} {f g : Nat → Nat} (h : FB L n f k j) (hk : k < n) (ha : (L.getD k []).getD j 0 = (a : Int)) (hak : a < k) (hn : n ≤ 1000) (e : a = 64 * qa + ra) (hra : ra < 64) (hqa : qa < 16)
    (hg : ∀ i, g i = if k * 16 ≤ i ∧ i < k * 16 + 16 then (if i = k * 16 + qa then f i ||| 2 ^ ra else f i) ||| (if a * 16 + (i - k * 16) = k * 16 + qa then f (a * 16 + (i - k * 16)) ||| 2 ^ ra else f (a * 16 + (i - k * 16))) else (if i = k * 16 + qa then f i ||| 2 ^ ra else f i)) : FB L n g k (j + 1) := by
  intro b q r hb hq hr
  rw [hg]
  have h1 := h b q r hb hq hr
  have h2 := h a q r (by omega) hq hr
  by_cases hbk : b = k
  · subst hbk
    rw [if_pos ⟨by omega, by omega⟩, show a * 16 + (b * 16 + q - b * 16) = a * 16 + q by omega, if_neg (show ¬ a * 16 + q = b * 16 + qa by omega)]
    have h3 : (f (a * 16 + q)).testBit r = true ↔ P L (64 * q + r) a := by
      rw [h2]
      constructor
      · rintro (⟨_, h⟩ | ⟨h, _⟩)
        · exact h
        · omega
      · intro h; exact .inl ⟨hak, h⟩
    rw [Nat.testBit_or, Bool.or_eq_true, h3]
    have h4 : (if b * 16 + q = b * 16 + qa then f (b * 16 + q) ||| 2 ^ ra else f (b * 16 + q)).testBit r = true ↔ ((f (b * 16 + q)).testBit r = true ∨ 64 * q + r = a) := by
      split
      · rw [Nat.testBit_or, Bool.or_eq_true, Nat.testBit_two_pow]
        simp
        constructor
        · rintro (h | h)
          · exact .inl h
          · exact .inr (by omega)
        · rintro (h | h)
          · exact .inl h
          · exact .inr (by omega)
      · constructor
        · intro h; exact .inl h
        · rintro (h | h)
          · exact h
          · omega
    rw [h4, h1]
    constructor
    · rintro (((⟨hh, _⟩ | ⟨_, i, hi, a', e', hh⟩) | hh) | hh)
      · omega
      · exact .inr ⟨rfl, i, by omega, a', e', hh⟩
      · exact .inr ⟨rfl, j, by omega, a, ha, .inl hh⟩
      · exact .inr ⟨rfl, j, by omega, a, ha, .inr hh⟩
    · rintro (⟨hh, _⟩ | ⟨_, i, hi, a', e', hh⟩)
      · omega
      · by_cases e2 : i = j
        · subst e2
          have : a' = a := by rw [ha] at e'; omega
          subst this
          rcases hh with hh | hh
          · exact .inl (.inr hh)
          · exact .inr hh
        · exact .inl (.inl (.inr ⟨rfl, i, by omega, a', e', hh⟩))
  · rw [if_neg (by omega), if_neg (by omega), h1]
    constructor
    · rintro (h | ⟨h, _⟩)
      · exact .inl h
      · exact absurd h hbk
    · rintro (h | ⟨h, _⟩)
      · exact .inl h
      · exact absurd h hbk
theorem mem_getD {xs : List Int} {x : Int} : x ∈ xs ↔ ∃ i, i < xs.length ∧ xs.getD i 0 = x := by
  constructor
  · intro h
    obtain ⟨i, hi, e⟩ := List.getElem_of_mem h
    exact ⟨i, hi, by rw [List.getD_eq_getElem?_getD, List.getElem?_eq_getElem hi]; exact e⟩
  · rintro ⟨i, hi, rfl⟩
    rw [List.getD_eq_getElem?_getD, List.getElem?_eq_getElem hi]; exact List.getElem_mem _
theorem fb_next {L : List (List Int)} {n k m : Nat} {f : Nat → Nat} (h : FB L n f k m) (hm : (L.getD k []).length = m) : FB L n f (k + 1) 0 := by
  intro b q r hb hq hr
  rw [h b q r hb hq hr]
  have hp : P L (64 * q + r) k ↔ ∃ i, i < m ∧ ∃ a : Nat, (L.getD k []).getD i 0 = (a : Int) ∧ (64 * q + r = a ∨ P L (64 * q + r) a) := by
    rw [P.unf]
    constructor
    · rintro (h | ⟨a, h, hp⟩)
      · obtain ⟨i, hi, e⟩ := mem_getD.1 h
        exact ⟨i, by omega, _, e, .inl rfl⟩
      · obtain ⟨i, hi, e⟩ := mem_getD.1 h
        exact ⟨i, by omega, a, e, .inr hp⟩
    · rintro ⟨i, hi, a, e, h | h⟩
      · exact .inl (mem_getD.2 ⟨i, by omega, by rw [e, h]⟩)
      · exact .inr ⟨a, mem_getD.2 ⟨i, by omega, e⟩, h⟩
  constructor
  · rintro (⟨h1, h2⟩ | ⟨rfl, h2⟩)
    · exact .inl ⟨by omega, h2⟩
    · exact .inl ⟨by omega, hp.2 h2⟩
  · rintro (⟨h1, h2⟩ | ⟨_, i, hi, _⟩)
    · by_cases e : b = k
      · subst e; exact .inr ⟨rfl, hp.1 h2⟩
      · exact .inl ⟨by omega, h2⟩
    · omega
/-- each word of each set. -/
def FA (L : List (List Int)) (n : Nat) (f : Nat → Nat) : Prop := ∀ b q r, b < n → q < 16 → r < 64 → (f (b * 16 + q)).testBit r = pB L (64 * q + r) b
theorem fb_end {L : List (List Int)} {n : Nat} {f : Nat → Nat} (h : FB L n f n 0) : FA L n f := by
  intro b q r hb hq hr
  have h1 := h b q r hb hq hr
  have h2 : (f (b * 16 + q)).testBit r = true ↔ P L (64 * q + r) b := by
    rw [h1]
    constructor
    · rintro (⟨_, h⟩ | ⟨h, _⟩)
      · exact h
      · omega
    · intro h; exact .inl ⟨hb, h⟩
  cases e : pB L (64 * q + r) b with
  | true => exact h2.2 (pB_true.1 e)
  | false =>
    have := pB_false.1 e
    cases e2 : (f (b * 16 + q)).testBit r with
    | true => exact absurd (h2.1 e2) this
    | false => rfl
theorem tot_fa {L : List (List Int)} {n : Nat} {f : Nat → Nat} (h : FA L n f) (b : Nat) (hb : b < n) : ∀ k, k ≤ 16 → tot (fun q => f (b * 16 + q)) k = cnt (fun x => pB L x b) (64 * k) := by
  intro k
  induction k with
  | zero => intro _; rfl
  | succ k ih =>
    intro hk
    simp only [tot]
    rw [ih (by omega), show 64 * (k + 1) = 64 * k + 64 from by omega, cnt_add]
    congr 1
    exact cnt_congr _ _ _ fun i hi => h b k i hb (by omega) hi
theorem cnt_cut (p : Nat → Bool) (m n : Nat) (hmn : m ≤ n) (h : ∀ i, m ≤ i → p i = false) : cnt p n = cnt p m := by
  obtain ⟨d, rfl⟩ : ∃ d, n = m + d := ⟨n - m, by omega⟩
  rw [cnt_add, cnt_zero _ d fun i _ => h _ (by omega)]
  rfl
theorem tot_all {L : List (List Int)} (hv : Valid L) {n : Nat} {f : Nat → Nat} (h : FA L n f) (b : Nat) (hb : b < n) (hn : n ≤ 1000) : tot (fun q => f (b * 16 + q)) 16 = cnt (fun x => pB L x b) n := by
  rw [tot_fa h b hb 16 (Nat.le_refl _)]
  exact cnt_cut _ n _ (by omega) fun i hi => pB_lt hv (by omega)
end Go.Proofs.Ytpflimnngilhnaa.rh
