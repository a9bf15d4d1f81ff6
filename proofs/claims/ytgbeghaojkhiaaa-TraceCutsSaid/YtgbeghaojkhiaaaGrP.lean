/- Rows of cells, as pure functions (layer 33). -/
import Derived.Test.YtgbeghaojkhiaaaGrB
namespace Go.Proofs.Ytgbeghaojkhiaaa.gr
set_option linter.unusedVariables false
set_option linter.unusedSimpArgs false
def badC (x y : C2) : Bool := decide (y.1 ≤ x.1) || decide (1048575 < y.1)
/-- is one of the first n steps on bad? -/
def badN (l : List C2) : Nat → Bool
  | 0 => false
  | n + 1 => badN l n || badC (l.getD n d2) (l.getD (n + 1) d2)
def rowE (l : List C2) : Int :=
  if 100 < l.length then 9 else if l.length = 0 then 7 else if l.getD 0 d2 ≠ d2 then 4 else if badN l (l.length - 1) then 4 else 0
/-- the first k rows' error. -/
def rowsN (L : List (List C2)) : Nat → Int
  | 0 => 0
  | n + 1 => if rowsN L n ≠ 0 then rowsN L n else rowE (L.getD n [])
def chkE (L : List (List C2)) : Int := if 100 < L.length then 9 else rowsN L L.length
theorem badN_stay (l : List C2) (k : Nat) : ∀ m, k ≤ m → badN l k = true → badN l m = true
  | 0, h, e => by obtain rfl : k = 0 := by omega
                  exact e
  | m + 1, h, e => by
    rcases Nat.lt_or_ge m k with h1 | h1
    · obtain rfl : k = m + 1 := by omega
      exact e
    · rw [badN, badN_stay l k m h1 e]; rfl
theorem rowsN_stay (L : List (List C2)) (k : Nat) : ∀ m, k ≤ m → rowsN L k ≠ 0 → rowsN L m = rowsN L k
  | 0, h, e => by obtain rfl : k = 0 := by omega
                  rfl
  | m + 1, h, e => by
    rcases Nat.lt_or_ge m k with h1 | h1
    · obtain rfl : k = m + 1 := by omega
      rfl
    · have := rowsN_stay L k m h1 e
      rw [rowsN, if_pos (by rw [this]; exact e), this]
/-- what a right row is. -/
structure Rt (l : List C2) : Prop where
  p : 0 < l.length
  m : l.length ≤ 100
  z : l.getD 0 d2 = d2
  u : ∀ k, k + 1 < l.length → (l.getD k d2).1 < (l.getD (k + 1) d2).1
  t : ∀ k, k < l.length → (l.getD k d2).1 ≤ 1048575
theorem badN_at (l : List C2) : ∀ n, badN l n = false → ∀ k, k < n → badC (l.getD k d2) (l.getD (k + 1) d2) = false
  | 0, _, k, hk => by omega
  | n + 1, h, k, hk => by
    rw [badN, Bool.or_eq_false_iff] at h
    rcases Nat.lt_or_ge k n with h1 | h1
    · exact badN_at l n h.1 k h1
    · obtain rfl : k = n := by omega
      exact h.2
theorem rowE_rt {l : List C2} (h : rowE l = 0) : Rt l := by
  unfold rowE at h
  split at h
  · omega
  split at h
  · omega
  split at h
  · omega
  split at h
  · omega
  rename_i h1 h2 h3 h4
  have h5 := badN_at l _ (by simpa using h4)
  have h3' : l.getD 0 d2 = d2 := by simpa using h3
  refine ⟨by omega, by omega, h3', fun k hk => ?_, fun k hk => ?_⟩
  · have := h5 k (by omega)
    unfold badC at this
    simp at this
    have := this.1
    simpa using this
  · cases k with
    | zero => rw [h3']; decide
    | succ k =>
      have := h5 k (by omega)
      unfold badC at this
      simp at this
      have := this.2
      simpa using this
theorem Rt.nn {l : List C2} (h : Rt l) : ∀ k, k < l.length → 0 ≤ (l.getD k d2).1
  | 0, _ => by rw [h.z]; decide
  | k + 1, hk => by have := h.u k hk; have := h.nn k (by omega); omega
theorem Rt.mono {l : List C2} (h : Rt l) : ∀ k j, k < j → j < l.length → (l.getD k d2).1 < (l.getD j d2).1
  | k, 0, h1, h2 => by omega
  | k, j + 1, h1, h2 => by
    have h3 := h.u j h2
    rcases Nat.lt_or_ge k j with h4 | h4
    · have := h.mono k j h4 (by omega); omega
    · obtain rfl : k = j := by omega
      exact h3
theorem Rt.inj {l : List C2} (h : Rt l) {k j : Nat} (hk : k < l.length) (hj : j < l.length) (e : (l.getD k d2).1 = (l.getD j d2).1) : k = j := by
  rcases Nat.lt_trichotomy k j with h1 | h1 | h1
  · have := h.mono k j h1 hj; omega
  · exact h1
  · have := h.mono j k h1 hk; omega
structure Rts (L : List (List C2)) : Prop where
  m : L.length ≤ 100
  r : ∀ i, i < L.length → Rt (L.getD i [])
theorem rowsN_zero (L : List (List C2)) : ∀ n, rowsN L n = 0 → ∀ i, i < n → rowE (L.getD i []) = 0
  | 0, _, i, hi => by omega
  | n + 1, h, i, hi => by
    rw [rowsN] at h
    by_cases h0 : rowsN L n = 0
    · rw [if_neg (by simp [h0])] at h
      rcases Nat.lt_or_ge i n with h1 | h1
      · exact rowsN_zero L n h0 i h1
      · obtain rfl : i = n := by omega
        exact h
    · rw [if_pos h0] at h
      exact absurd h h0
theorem chkE_rts {L : List (List C2)} (h : chkE L = 0) : Rts L := by
  unfold chkE at h
  split at h
  · omega
  exact ⟨by omega, fun i hi => rowE_rt (rowsN_zero L _ h i hi)⟩
/-- a place: its row, and its number there. -/
abbrev Pl := Nat × Nat
def st (L : List (List C2)) (p : Pl) : Int := ((L.getD p.1 []).getD p.2 d2).1
def wt (L : List (List C2)) (p : Pl) : Bool := ((L.getD p.1 []).getD p.2 d2).2
/-- the last one of the first n cells whose stage is at most s, or 0. -/
def upTo (l : List C2) (s : Int) : Nat → Nat
  | 0 => 0
  | n + 1 => if (l.getD n d2).1 ≤ s then n else upTo l s n
theorem upTo_le (l : List C2) (s : Int) : ∀ n, upTo l s n ≤ n
  | 0 => Nat.le_refl _
  | n + 1 => by
    rw [upTo]
    split
    · omega
    · have := upTo_le l s n; omega
theorem upTo_lt (l : List C2) (s : Int) {n : Nat} (h : 0 < n) : upTo l s n < n := by
  cases n with
  | zero => omega
  | succ n =>
    rw [upTo]
    split
    · omega
    · have := upTo_le l s n; omega
theorem upTo_st {l : List C2} {s : Int} (h0 : (l.getD 0 d2).1 ≤ s) : ∀ n, 0 < n → (l.getD (upTo l s n) d2).1 ≤ s
  | 0, h => by omega
  | 1, _ => by rw [upTo, if_pos h0]; exact h0
  | n + 2, _ => by
    rw [upTo]
    split
    · assumption
    · exact upTo_st h0 (n + 1) (by omega)
def ahd (L : List (List C2)) (p : Pl) : List Pl :=
  if p.2 = 0 then (if p.1 = 0 then [] else [(p.1 - 1, 0)])
  else (p.1, p.2 - 1) :: (if wt L p = true ∧ 0 < p.1 then [(p.1 - 1, upTo (L.getD (p.1 - 1) []) (st L p) (L.getD (p.1 - 1) []).length)] else [])
def In (L : List (List C2)) (p : Pl) : Prop := p.1 < L.length ∧ p.2 < (L.getD p.1 []).length
theorem ahd_in {L : List (List C2)} (hL : Rts L) {p q : Pl} (hp : In L p) (hq : q ∈ ahd L p) : In L q := by
  obtain ⟨i, k⟩ := p
  obtain ⟨h1, h2⟩ := hp
  simp only at h1 h2
  unfold ahd at hq
  simp only at hq
  split at hq
  · split at hq
    · simp at hq
    · simp at hq
      subst hq
      have := (hL.r (i - 1) (by omega)).p
      exact ⟨by simp only; omega, by simpa using this⟩
  · simp only [List.mem_cons] at hq
    rcases hq with rfl | hq
    · exact ⟨h1, by simp only; omega⟩
    · split at hq
      · simp at hq
        subst hq
        have := (hL.r (i - 1) (by omega)).p
        exact ⟨by simp only; omega, upTo_lt _ _ this⟩
      · simp at hq
theorem ahd_len (L : List (List C2)) (p : Pl) : (ahd L p).length ≤ 2 := by
  unfold ahd
  split
  · split <;> simp
  · split <;> simp
/-- a way leads from f to the place. -/
inductive Way (L : List (List C2)) (f : Pl) : Pl → Prop
  | here : Way L f f
  | on {p q : Pl} : q ∈ ahd L p → Way L f q → Way L f p
abbrev Q4 := Int × Int × Int × Int
def q4 (L : List (List C2)) (p f : Pl) : Q4 := (f.1, st L f, p.1, st L p)
def cellE (L : List (List C2)) (p : Pl) : List Q4 := (ahd L p).map (q4 L p)
def rowEd (L : List (List C2)) (i : Nat) : Nat → List Q4
  | 0 => []
  | k + 1 => rowEd L i k ++ cellE L (i, k)
def edsN (L : List (List C2)) : Nat → List Q4
  | 0 => []
  | i + 1 => edsN L i ++ rowEd L i (L.getD i []).length
def eds (L : List (List C2)) : List Q4 := edsN L L.length
def cnt (L : List (List C2)) : Nat → Nat
  | 0 => 0
  | i + 1 => cnt L i + (L.getD i []).length
theorem rowEd_len (L : List (List C2)) (i : Nat) : ∀ k, (rowEd L i k).length ≤ 2 * k
  | 0 => by simp [rowEd]
  | k + 1 => by
    rw [rowEd, List.length_append]
    have := rowEd_len L i k
    have := ahd_len L (i, k)
    unfold cellE
    rw [List.length_map]
    omega
theorem edsN_len (L : List (List C2)) : ∀ i, (edsN L i).length ≤ 2 * cnt L i
  | 0 => by simp [edsN]
  | i + 1 => by
    rw [edsN, List.length_append, cnt]
    have := edsN_len L i
    have := rowEd_len L i (L.getD i []).length
    omega
theorem cnt_le {L : List (List C2)} (hL : Rts L) : ∀ i, i ≤ L.length → cnt L i ≤ 100 * i
  | 0, _ => by simp [cnt]
  | i + 1, h => by
    have := cnt_le hL i (by omega)
    have := (hL.r i (by omega)).m
    rw [cnt]
    omega
/-- the element of a row of edges. -/
def enE (q : Q4) : List Value := [cx q.1 q.2.1, cx q.2.2.1 q.2.2.2]
theorem recE : Rec 2 enE := ⟨by omega, fun _ => rfl, fun x u hu => by simp [enE, cx] at hu; rcases hu with rfl | rfl <;> rfl⟩
def enP (p : Pl) : List Value := [.int .i64 p.1, .int .i64 p.2]
theorem recP : Rec 2 enP := ⟨by omega, fun _ => rfl, fun x u hu => by simp [enP] at hu; rcases hu with rfl | rfl <;> rfl⟩
end Go.Proofs.Ytgbeghaojkhiaaa.gr
