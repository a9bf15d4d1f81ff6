/- Plain facts on what lies ahead of what (layer 31). No Go in sight. -/
namespace Go.Proofs.Ytpflimnngilhnaa.rh
set_option linter.unusedVariables false
/-- x is a predecessor of b, or of one that is before b. -/
inductive P (L : List (List Int)) (x : Nat) : Nat → Prop
  | one (b : Nat) (h : (x : Int) ∈ L.getD b []) : P L x b
  | two (a b : Nat) (h : (a : Int) ∈ L.getD b []) (hp : P L x a) : P L x b
def Valid (L : List (List Int)) : Prop := ∀ b, ∀ a ∈ L.getD b [], 0 ≤ a ∧ a < (b : Int)
theorem P.unf {L : List (List Int)} {x b : Nat} : P L x b ↔ (x : Int) ∈ L.getD b [] ∨ ∃ a : Nat, (a : Int) ∈ L.getD b [] ∧ P L x a := by
  constructor
  · intro h
    cases h with
    | one _ h => exact .inl h
    | two a _ h hp => exact .inr ⟨a, h, hp⟩
  · rintro (h | ⟨a, h, hp⟩)
    · exact .one _ h
    · exact .two a _ h hp
theorem P.lt {L : List (List Int)} (hv : Valid L) {x b : Nat} (h : P L x b) : x < b := by
  induction h with
  | one b h => have := (hv b _ h).2; omega
  | two a b h _ ih => have := (hv b _ h).2; omega
theorem P.trans {L : List (List Int)} {x a b : Nat} (h1 : P L x a) (h2 : P L a b) : P L x b := by
  induction h2 with
  | one b h => exact .two a _ h h1
  | two c b h _ ih => exact .two c _ h ih
open Classical in
noncomputable def pB (L : List (List Int)) (x b : Nat) : Bool := decide (P L x b)
theorem pB_true {L : List (List Int)} {x b : Nat} : pB L x b = true ↔ P L x b := by unfold pB; simp
theorem pB_false {L : List (List Int)} {x b : Nat} : pB L x b = false ↔ ¬ P L x b := by unfold pB; simp
theorem pB_lt {L : List (List Int)} (hv : Valid L) {x b : Nat} (h : b ≤ x) : pB L x b = false := pB_false.2 fun hp => by have := hp.lt hv; omega
/-- is each predecessor below whose it is, and not below 0? -/
def okR (b : Nat) (l : List Int) : Bool := l.all fun a => decide (0 ≤ a ∧ a < (b : Int))
def okB (L : List (List Int)) : Nat → Bool
  | 0 => true
  | k + 1 => okB L k && okR k (L.getD k [])
theorem okB_iff (L : List (List Int)) (n : Nat) : okB L n = true ↔ ∀ b, b < n → ∀ a ∈ L.getD b [], 0 ≤ a ∧ a < (b : Int) := by
  induction n with
  | zero => simp [okB]
  | succ n ih =>
    simp only [okB, Bool.and_eq_true, ih]
    constructor
    · rintro ⟨h1, h2⟩ b hb a ha
      by_cases e : b = n
      · subst e; simpa using (List.all_eq_true.1 h2) a ha
      · exact h1 b (by omega) a ha
    · intro h
      exact ⟨fun b hb => h b (by omega), List.all_eq_true.2 fun a ha => by simpa using h n (by omega) a ha⟩
theorem valid_of {L : List (List Int)} (h : okB L L.length = true) : Valid L := by
  intro b a ha
  by_cases hb : b < L.length
  · exact (okB_iff L _).1 h b hb a ha
  · rw [List.getD_eq_getElem?_getD, List.getElem?_eq_none (by omega)] at ha; cases ha
theorem okB_mono (L : List (List Int)) (n m : Nat) (h : m ≤ n) (hn : okB L n = true) : okB L m = true :=
  (okB_iff L m).2 fun b hb => (okB_iff L n).1 hn b (by omega)
theorem okR_take (b : Nat) (l : List Int) (k : Nat) (hk : k < l.length) : okR b (l.take (k + 1)) = (okR b (l.take k) && decide (0 ≤ l.getD k 0 ∧ l.getD k 0 < (b : Int))) := by
  unfold okR
  rw [List.take_add_one, List.all_append, List.getElem?_eq_getElem hk]
  simp [List.getD_eq_getElem?_getD, List.getElem?_eq_getElem hk]
/-- the greatest one of what they are. -/
def mx (l : List Int) (f : Nat → Nat) : Nat := l.foldl (fun m a => max m (f a.toNat)) 0
theorem mx_take (l : List Int) (f : Nat → Nat) (k : Nat) (hk : k < l.length) : mx (l.take (k + 1)) f = max (mx (l.take k) f) (f (l.getD k 0).toNat) := by
  unfold mx
  rw [List.take_add_one, List.foldl_append, List.getElem?_eq_getElem hk]
  simp [List.getD_eq_getElem?_getD, List.getElem?_eq_getElem hk]
theorem foldl_max_congr (l : List Int) (f g : Nat → Nat) (h : ∀ a ∈ l, f a.toNat = g a.toNat) (m : Nat) : l.foldl (fun m a => max m (f a.toNat)) m = l.foldl (fun m a => max m (g a.toNat)) m := by
  induction l generalizing m with
  | nil => rfl
  | cons x l ih => simp only [List.foldl_cons]; rw [h x (by simp)]; exact ih (fun a ha => h a (by simp [ha])) _
theorem mx_congr (l : List Int) (f g : Nat → Nat) (h : ∀ a ∈ l, f a.toNat = g a.toNat) : mx l f = mx l g := foldl_max_congr l f g h 0
theorem foldl_max_le (l : List Int) (f : Nat → Nat) (m : Nat) : m ≤ l.foldl (fun m a => max m (f a.toNat)) m ∧ ∀ a ∈ l, f a.toNat ≤ l.foldl (fun m a => max m (f a.toNat)) m := by
  induction l generalizing m with
  | nil => exact ⟨Nat.le_refl _, fun a h => by cases h⟩
  | cons x l ih =>
    simp only [List.foldl_cons]
    obtain ⟨h1, h2⟩ := ih (max m (f x.toNat))
    refine ⟨by omega, fun a ha => ?_⟩
    rcases List.mem_cons.1 ha with rfl | ha
    · omega
    · exact h2 a ha
theorem le_mx (l : List Int) (f : Nat → Nat) (a : Int) (h : a ∈ l) : f a.toNat ≤ mx l f := (foldl_max_le l f 0).2 a h
theorem foldl_max_mem (l : List Int) (f : Nat → Nat) (m : Nat) : l.foldl (fun m a => max m (f a.toNat)) m = m ∨ ∃ a ∈ l, l.foldl (fun m a => max m (f a.toNat)) m = f a.toNat := by
  induction l generalizing m with
  | nil => exact .inl rfl
  | cons x l ih =>
    simp only [List.foldl_cons]
    rcases ih (max m (f x.toNat)) with h | ⟨a, ha, h⟩
    · by_cases e : f x.toNat ≤ m
      · exact .inl (by rw [h]; omega)
      · exact .inr ⟨x, by simp, by rw [h]; omega⟩
    · exact .inr ⟨a, by simp [ha], h⟩
theorem mx_mem (l : List Int) (f : Nat → Nat) : mx l f = 0 ∨ ∃ a ∈ l, mx l f = f a.toNat := foldl_max_mem l f 0
def hf (L : List (List Int)) : Nat → Nat → Nat
  | 0, _ => 0
  | k + 1, b => 1 + mx (L.getD b []) (hf L k)
theorem hf_stable {L : List (List Int)} (hv : Valid L) : ∀ b k, b < k → hf L k b = hf L (b + 1) b := by
  intro b
  induction b using Nat.strongRecOn with
  | _ b ih =>
    intro k hk
    obtain ⟨k, rfl⟩ : ∃ j, k = j + 1 := ⟨k - 1, by omega⟩
    simp only [hf]
    rw [mx_congr _ (hf L k) (hf L b)]
    intro a ha
    have h := hv b a ha
    rw [ih a.toNat (by omega) k (by omega), ih a.toNat (by omega) b (by omega)]
/-- how many things the longest row that ends with one has. -/
def ht (L : List (List Int)) (b : Nat) : Nat := hf L (b + 1) b
theorem ht_unf {L : List (List Int)} (hv : Valid L) (b : Nat) : ht L b = 1 + mx (L.getD b []) (ht L) := by
  show 1 + mx (L.getD b []) (hf L b) = _
  rw [mx_congr _ (hf L b) (ht L)]
  intro a ha
  have h := hv b a ha
  exact hf_stable hv a.toNat b (by omega)
theorem ht_pos {L : List (List Int)} (hv : Valid L) (b : Nat) : 1 ≤ ht L b := by rw [ht_unf hv]; omega
theorem ht_le {L : List (List Int)} (hv : Valid L) : ∀ b, ht L b ≤ b + 1 := by
  intro b
  induction b using Nat.strongRecOn with
  | _ b ih =>
    rw [ht_unf hv]
    rcases mx_mem (L.getD b []) (ht L) with h | ⟨a, ha, h⟩
    · omega
    · have h1 := hv b a ha
      have h2 := ih a.toNat (by omega)
      omega
/-- the longest row of the first ones. -/
def tp (L : List (List Int)) : Nat → Nat
  | 0 => 0
  | k + 1 => max (tp L k) (ht L k)
theorem tp_le {L : List (List Int)} (hv : Valid L) (n : Nat) : tp L n ≤ n := by
  induction n with
  | zero => exact Nat.le_refl _
  | succ n ih => have := ht_le hv n; simp only [tp]; omega
theorem tp_mono (L : List (List Int)) (m n : Nat) (h : m ≤ n) : tp L m ≤ tp L n := by
  induction n with
  | zero => have : m = 0 := by omega
            subst this; exact Nat.le_refl _
  | succ n ih =>
    by_cases e : m = n + 1
    · subst e; exact Nat.le_refl _
    · have := ih (by omega); simp only [tp]; omega
theorem tp_mem (L : List (List Int)) (n : Nat) : tp L n = 0 ∨ ∃ b, b < n ∧ tp L n = ht L b := by
  induction n with
  | zero => exact .inl rfl
  | succ n ih =>
    by_cases e : tp L n ≤ ht L n
    · exact .inr ⟨n, by omega, by simp only [tp]; omega⟩
    · rcases ih with h | ⟨b, hb, h⟩
      · omega
      · exact .inr ⟨b, by omega, by simp only [tp]; omega⟩
theorem ht_tp (L : List (List Int)) (n b : Nat) (h : b < n) : ht L b ≤ tp L n := by
  have := tp_mono L (b + 1) n h
  simp only [tp] at this
  omega
theorem tp_zero {L : List (List Int)} (hv : Valid L) (n : Nat) : tp L n = 0 ↔ n = 0 := by
  constructor
  · intro h
    rcases Nat.eq_zero_or_pos n with e | e
    · exact e
    · have := ht_tp L n 0 e; have := ht_pos hv 0; omega
  · rintro rfl; rfl
/-- how many of the first ones are so. -/
def cnt (p : Nat → Bool) : Nat → Nat
  | 0 => 0
  | k + 1 => cnt p k + if p k then 1 else 0
theorem cnt_le (p : Nat → Bool) (n : Nat) : cnt p n ≤ n := by
  induction n with
  | zero => exact Nat.le_refl _
  | succ n ih => simp only [cnt]; split <;> omega
theorem cnt_congr (p q : Nat → Bool) (n : Nat) (h : ∀ i, i < n → p i = q i) : cnt p n = cnt q n := by
  induction n with
  | zero => rfl
  | succ n ih => simp only [cnt]; rw [ih fun i hi => h i (by omega), h n (by omega)]
theorem cnt_add (p : Nat → Bool) (m n : Nat) : cnt p (m + n) = cnt p m + cnt (fun i => p (m + i)) n := by
  induction n with
  | zero => rfl
  | succ n ih => rw [← Nat.add_assoc]; simp only [cnt]; rw [ih]; omega
theorem cnt_zero (p : Nat → Bool) (n : Nat) (h : ∀ i, i < n → p i = false) : cnt p n = 0 := by
  induction n with
  | zero => rfl
  | succ n ih => simp only [cnt]; rw [ih fun i hi => h i (by omega), h n (by omega)]; rfl
theorem cnt_mono (p q : Nat → Bool) (n : Nat) (h : ∀ i, i < n → p i = true → q i = true) : cnt p n ≤ cnt q n := by
  induction n with
  | zero => exact Nat.le_refl _
  | succ n ih =>
    have h1 := ih fun i hi => h i (by omega)
    have h2 := h n (by omega)
    simp only [cnt]
    cases e : p n
    · simp; omega
    · rw [h2 e]; simp; omega
theorem cnt_more (p q : Nat → Bool) (n x : Nat) (hx : x < n) (h : ∀ i, i < n → p i = true → q i = true) (hp : p x = false) (hq : q x = true) : cnt p n + 1 ≤ cnt q n := by
  induction n with
  | zero => omega
  | succ n ih =>
    simp only [cnt]
    by_cases e : x = n
    · subst e
      have h1 := cnt_mono p q x fun i hi => h i (by omega)
      rw [hp, hq]; simp; omega
    · have h1 := ih (by omega) fun i hi => h i (by omega)
      have h2 := h n (by omega)
      cases e : p n
      · simp; omega
      · rw [h2 e]; simp; omega
theorem ht_cnt {L : List (List Int)} (hv : Valid L) (N : Nat) : ∀ b, b ≤ N → ht L b ≤ cnt (fun x => pB L x b) N + 1 := by
  intro b
  induction b using Nat.strongRecOn with
  | _ b ih =>
    intro hb
    rw [ht_unf hv]
    rcases mx_mem (L.getD b []) (ht L) with h | ⟨a, ha, h⟩
    · omega
    · have h1 := hv b a ha
      have h2 := ih a.toNat (by omega) (by omega)
      have hm : ((a.toNat : Nat) : Int) ∈ L.getD b [] := by rw [show ((a.toNat : Nat) : Int) = a by omega]; exact ha
      have h3 := cnt_more (fun x => pB L x a.toNat) (fun x => pB L x b) N a.toNat (by omega) (fun i _ hi => pB_true.2 (.two _ _ hm (pB_true.1 hi))) (pB_lt hv (Nat.le_refl _)) (pB_true.2 (.one _ hm))
      omega
/-- each thing before the next one. -/
noncomputable def chB (L : List (List Int)) : Nat → Bool
  | 0 => true
  | k + 1 => (k == 0) || (chB L k && pB L (k - 1) k)
theorem chB_iff (L : List (List Int)) (n : Nat) : chB L n = true ↔ ∀ i, 1 ≤ i → i < n → P L (i - 1) i := by
  induction n with
  | zero => simp [chB]
  | succ n ih =>
    unfold chB
    by_cases e : n = 0
    · subst e
      simp
      intro i h1 h2; omega
    · rw [show (n == 0) = false from beq_eq_false_iff_ne.2 e, Bool.false_or, Bool.and_eq_true, ih, pB_true]
      constructor
      · rintro ⟨h1, h2⟩ i hi hn
        by_cases e : i = n
        · subst e; exact h2
        · exact h1 i hi (by omega)
      · intro h
        exact ⟨fun i h1 h2 => h i h1 (by omega), h n (by omega) (by omega)⟩
theorem direct {L : List (List Int)} (hv : Valid L) (i : Nat) (h1 : 1 ≤ i) (h : P L (i - 1) i) : ((i - 1 : Nat) : Int) ∈ L.getD i [] := by
  rcases P.unf.1 h with h | ⟨a, ha, hp⟩
  · exact h
  · have := hp.lt hv
    have := (hv i _ ha).2
    omega
theorem full_down {L : List (List Int)} (hv : Valid L) : ∀ b, ht L b = b + 1 → ∀ i, 1 ≤ i → i ≤ b → P L (i - 1) i := by
  intro b
  induction b with
  | zero => intro _ i h1 h2; omega
  | succ b ih =>
    intro h i h1 h2
    rw [ht_unf hv] at h
    rcases mx_mem (L.getD (b + 1) []) (ht L) with h3 | ⟨a, ha, h3⟩
    · omega
    · have h4 := hv (b + 1) a ha
      have h5 := ht_le hv a.toNat
      have e : a.toNat = b := by omega
      have hm : ((b : Nat) : Int) ∈ L.getD (b + 1) [] := by rw [show ((b : Nat) : Int) = a by omega]; exact ha
      by_cases e2 : i = b + 1
      · subst e2; exact .one _ hm
      · exact ih (by rw [e] at h3; omega) i h1 (by omega)
theorem full_up {L : List (List Int)} (hv : Valid L) (n : Nat) (h : ∀ i, 1 ≤ i → i < n → P L (i - 1) i) : ∀ i, i < n → ht L i = i + 1 := by
  intro i
  induction i with
  | zero => intro _; have := ht_pos hv 0; have := ht_le hv 0; omega
  | succ i ih =>
    intro hi
    have h1 := direct hv (i + 1) (by omega) (h (i + 1) (by omega) hi)
    have h2 := le_mx _ (ht L) _ h1
    have h3 := ht_le hv (i + 1)
    rw [ht_unf hv] at h3 ⊢
    have h4 := ih (by omega)
    have e : (((i + 1 - 1 : Nat) : Int)).toNat = i := by omega
    rw [e] at h2
    omega
theorem full_iff {L : List (List Int)} (hv : Valid L) (n : Nat) : tp L n = n ↔ chB L n = true := by
  rw [chB_iff]
  constructor
  · intro h i h1 h2
    rcases tp_mem L n with h3 | ⟨b, hb, h3⟩
    · omega
    · have := ht_le hv b
      exact full_down hv b (by omega) i h1 (by omega)
  · intro h
    rcases Nat.eq_zero_or_pos n with e | e
    · subst e; rfl
    · have h1 := full_up hv n h (n - 1) (by omega)
      have h2 := ht_tp L n (n - 1) (by omega)
      have h3 := tp_le hv n
      omega
theorem getD_take (L : List (List Int)) (k b : Nat) (h : b < k) : (L.take k).getD b [] = L.getD b [] := by
  rw [List.getD_eq_getElem?_getD, List.getElem?_take_of_lt h, ← List.getD_eq_getElem?_getD]
theorem valid_take {L : List (List Int)} (hv : Valid L) (k : Nat) : Valid (L.take k) := by
  intro b a ha
  by_cases h : b < k
  · rw [getD_take L k b h] at ha; exact hv b a ha
  · rw [List.getD_eq_getElem?_getD, List.getElem?_eq_none (by rw [List.length_take]; omega)] at ha; cases ha
theorem ht_take {L : List (List Int)} (hv : Valid L) (k : Nat) : ∀ b, b < k → ht (L.take k) b = ht L b := by
  intro b
  induction b using Nat.strongRecOn with
  | _ b ih =>
    intro hb
    rw [ht_unf hv, ht_unf (valid_take hv k), getD_take L k b hb]
    rw [mx_congr _ (ht (L.take k)) (ht L)]
    intro a ha
    have h := hv b a ha
    exact ih a.toNat (by omega) (by omega)
theorem tp_take {L : List (List Int)} (hv : Valid L) (k : Nat) : ∀ n, n ≤ k → tp (L.take k) n = tp L n := by
  intro n
  induction n with
  | zero => intro _; rfl
  | succ n ih => intro h; simp only [tp]; rw [ih (by omega), ht_take hv k n (by omega)]
theorem okB_take (L : List (List Int)) (k : Nat) : ∀ n, n ≤ k → okB (L.take k) n = okB L n := by
  intro n
  induction n with
  | zero => intro _; rfl
  | succ n ih => intro h; simp only [okB]; rw [ih (by omega), getD_take L k n (by omega)]
end Go.Proofs.Ytpflimnngilhnaa.rh
