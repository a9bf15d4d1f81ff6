/- The document's search along edges, edges one behind the other (layer 33): pure. -/
import Derived.Test.YtagcgffofddcnaaGrJ
namespace Go.Proofs.Ytagcgffofddcnaa.gr
set_option linter.unusedVariables false
set_option linter.unusedSimpArgs false
abbrev P2 := Int × Int
abbrev q0 : Q4 := (0, 0, 0, 0)
/-- does a way of the first n edges lead from a to b? -/
def befN (E : List Q4) (a : P2) : Nat → P2 → Bool
  | 0, _ => false
  | n + 1, b =>
    if (E.getD n q0).2.2.1 = b.1 ∧ (E.getD n q0).2.2.2 = b.2 ∧ (((E.getD n q0).1 = a.1 ∧ (E.getD n q0).2.1 = a.2) ∨ befN E a n ((E.getD n q0).1, (E.getD n q0).2.1) = true)
    then true else befN E a n b
theorem befN_up (E : List Q4) (a b : P2) {n : Nat} (h : befN E a n b = true) : befN E a (n + 1) b = true := by
  rw [befN]
  split
  · rfl
  · exact h
theorem befN_mono (E : List Q4) (a b : P2) {n : Nat} (h : befN E a n b = true) : ∀ m, n ≤ m → befN E a m b = true := by
  intro m hm
  induction m with
  | zero => obtain rfl : n = 0 := by omega
            exact h
  | succ m ih =>
    rcases Nat.lt_or_ge m n with h1 | h1
    · obtain rfl : n = m + 1 := by omega
      exact h
    · exact befN_up E a b (ih h1)
def nd (L : List (List C2)) (p : Pl) : P2 := ((p.1 : Int), st L p)
theorem nd_inj {L : List (List C2)} (hL : Rts L) {p q : Pl} (hp : In L p) (hq : In L q) (h : nd L p = nd L q) : p = q := by
  obtain ⟨i, k⟩ := p
  obtain ⟨j, m⟩ := q
  unfold nd st at h
  simp only [Prod.mk.injEq] at h
  obtain ⟨h1, h2⟩ := h
  obtain rfl : i = j := by omega
  have := (hL.r i hp.1).inj hp.2 hq.2 h2
  subst this
  rfl
theorem rowEd_mem {L : List (List C2)} {i : Nat} {e : Q4} : ∀ k, e ∈ rowEd L i k → ∃ m, m < k ∧ ∃ q, q ∈ ahd L (i, m) ∧ e = q4 L (i, m) q
  | 0, h => by simp [rowEd] at h
  | k + 1, h => by
    rw [rowEd, List.mem_append] at h
    rcases h with h | h
    · obtain ⟨m, hm, h⟩ := rowEd_mem k h
      exact ⟨m, by omega, h⟩
    · unfold cellE at h
      rw [List.mem_map] at h
      obtain ⟨q, hq, e1⟩ := h
      exact ⟨k, by omega, q, hq, e1.symm⟩
theorem edsN_mem {L : List (List C2)} {e : Q4} : ∀ i, e ∈ edsN L i → ∃ j m, j < i ∧ m < (L.getD j []).length ∧ ∃ q, q ∈ ahd L (j, m) ∧ e = q4 L (j, m) q
  | 0, h => by simp [edsN] at h
  | i + 1, h => by
    rw [edsN, List.mem_append] at h
    rcases h with h | h
    · obtain ⟨j, m, hj, h⟩ := edsN_mem i h
      exact ⟨j, m, by omega, h⟩
    · obtain ⟨m, hm, h⟩ := rowEd_mem _ h
      exact ⟨i, m, by omega, hm, h⟩
theorem eds_mem {L : List (List C2)} {e : Q4} (h : e ∈ eds L) : ∃ p, In L p ∧ ∃ q, q ∈ ahd L p ∧ e = q4 L p q := by
  obtain ⟨j, m, hj, hm, h⟩ := edsN_mem _ h
  exact ⟨(j, m), ⟨hj, hm⟩, h⟩
theorem rowEd_pre (L : List (List C2)) (i : Nat) {k : Nat} : ∀ m, k ≤ m → ∃ T, rowEd L i m = rowEd L i k ++ T := by
  intro m hm
  induction m with
  | zero => obtain rfl : k = 0 := by omega
            exact ⟨[], by simp⟩
  | succ m ih =>
    rcases Nat.lt_or_ge m k with h1 | h1
    · obtain rfl : k = m + 1 := by omega
      exact ⟨[], by simp⟩
    · obtain ⟨T, hT⟩ := ih h1
      exact ⟨T ++ cellE L (i, m), by rw [rowEd, hT, List.append_assoc]⟩
theorem edsN_pre (L : List (List C2)) {i : Nat} : ∀ m, i ≤ m → ∃ T, edsN L m = edsN L i ++ T := by
  intro m hm
  induction m with
  | zero => obtain rfl : i = 0 := by omega
            exact ⟨[], by simp⟩
  | succ m ih =>
    rcases Nat.lt_or_ge m i with h1 | h1
    · obtain rfl : i = m + 1 := by omega
      exact ⟨[], by simp⟩
    · obtain ⟨T, hT⟩ := ih h1
      exact ⟨T ++ rowEd L m (L.getD m []).length, by rw [edsN, hT, List.append_assoc]⟩
def upP (L : List (List C2)) (p : Pl) : List Q4 := edsN L p.1 ++ rowEd L p.1 p.2
theorem eds_at {L : List (List C2)} {p : Pl} (hp : In L p) : ∃ T, eds L = upP L p ++ cellE L p ++ T := by
  obtain ⟨i, k⟩ := p
  obtain ⟨h1, h2⟩ := hp
  simp only at h1 h2
  obtain ⟨T, hT⟩ := edsN_pre L (i := i + 1) L.length (by omega)
  obtain ⟨T2, hT2⟩ := rowEd_pre L i (k := k + 1) (L.getD i []).length (by omega)
  refine ⟨T2 ++ T, ?_⟩
  unfold eds
  rw [hT, edsN, hT2, rowEd]
  unfold upP
  simp only [List.append_assoc]
theorem eds_get {L : List (List C2)} {p : Pl} (hp : In L p) {j : Nat} {e : Q4} (h : (cellE L p)[j]? = some e) : (eds L).getD ((upP L p).length + j) q0 = e := by
  obtain ⟨T, hT⟩ := eds_at hp
  have hj := (List.getElem?_eq_some_iff.1 h).1
  rw [hT, List.getD_eq_getElem?_getD, List.append_assoc, List.getElem?_append_right (by omega), Nat.add_sub_cancel_left, List.getElem?_append_left hj, h]
  rfl
theorem endP_le {L : List (List C2)} (hL : Rts L) {p q : Pl} (hp : In L p) (hq : q ∈ ahd L p) : (upP L q ++ cellE L q).length ≤ (upP L p).length := by
  have hqi := ahd_in hL hp hq
  obtain ⟨i, k⟩ := p
  obtain ⟨j, m⟩ := q
  have hlast : ∀ r, r < (L.getD (i - 1) []).length → 0 < i → (upP L (i - 1, r) ++ cellE L (i - 1, r)).length ≤ (upP L (i, k)).length := by
    intro r hr hi
    obtain ⟨T, hT⟩ := rowEd_pre L (i - 1) (k := r + 1) (L.getD (i - 1) []).length (by omega)
    have e : edsN L i = edsN L (i - 1) ++ rowEd L (i - 1) (L.getD (i - 1) []).length := by
      obtain ⟨i', rfl⟩ : ∃ i', i = i' + 1 := ⟨i - 1, by omega⟩
      rw [edsN, Nat.add_sub_cancel]
    unfold upP
    simp only
    rw [e, hT, rowEd]
    simp only [List.length_append]
    omega
  unfold ahd at hq
  simp only at hq
  split at hq
  · split at hq
    · simp at hq
    · simp at hq
      obtain ⟨rfl, rfl⟩ := hq
      exact hlast 0 hqi.2 (by omega)
  · simp only [List.mem_cons] at hq
    rcases hq with hq | hq
    · obtain ⟨rfl, rfl⟩ := Prod.mk.inj hq
      obtain ⟨k', rfl⟩ : ∃ k', k = k' + 1 := ⟨k - 1, by omega⟩
      unfold upP
      simp only
      rw [Nat.add_sub_cancel, rowEd]
      simp only [List.length_append]
      omega
    · split at hq
      · rename_i hw
        simp at hq
        obtain ⟨rfl, rfl⟩ := hq
        exact hlast _ hqi.2 hw.2
      · simp at hq
theorem bef_sound {L : List (List C2)} (hL : Rts L) (a : P2) : ∀ n b, n ≤ (eds L).length → befN (eds L) a n b = true → ∃ f z, In L f ∧ In L z ∧ nd L f = a ∧ nd L z = b ∧ Way L f z
  | 0, b, _, h => by simp [befN] at h
  | n + 1, b, hn, h => by
    rw [befN] at h
    split at h
    · rename_i hc
      obtain ⟨e1, e2, h3⟩ := hc
      have hmem : (eds L).getD n q0 ∈ eds L := by
        rw [List.getD_eq_getElem?_getD, List.getElem?_eq_getElem (by omega)]
        exact List.getElem_mem _
      obtain ⟨p, hp, q, hq, e⟩ := eds_mem hmem
      have hqi := ahd_in hL hp hq
      rw [e] at e1 e2 h3
      unfold q4 at e1 e2 h3
      simp only at e1 e2 h3
      have hb : nd L p = b := Prod.ext e1 e2
      rcases h3 with h3 | h3
      · exact ⟨q, p, hqi, hp, Prod.ext h3.1 h3.2, hb, .on hq .here⟩
      · obtain ⟨f, z, hf, hz, ef, ez, hw⟩ := bef_sound hL a n _ (by omega) h3
        have : z = q := nd_inj hL hz hqi ez
        subst this
        exact ⟨f, p, hf, hp, ef, hb, .on hq hw⟩
    · exact bef_sound hL a n b (by omega) h
theorem bef_whole {L : List (List C2)} (hL : Rts L) {f z : Pl} (h : Way L f z) : In L z → f ≠ z → befN (eds L) (nd L f) (upP L z ++ cellE L z).length (nd L z) = true := by
  induction h with
  | here => intro _ h; exact absurd rfl h
  | @on p q hq hw ih =>
    intro hp hne
    have hqi := ahd_in hL hp hq
    obtain ⟨j, hj⟩ := List.getElem?_of_mem hq
    have hc : (cellE L p)[j]? = some (q4 L p q) := by
      unfold cellE
      rw [List.getElem?_map, hj]
      rfl
    have hg := eds_get hp hc
    have hjl := (List.getElem?_eq_some_iff.1 hc).1
    refine befN_mono _ _ _ (n := (upP L p).length + j + 1) ?_ _ (by rw [List.length_append]; omega)
    rw [befN, hg, if_pos]
    refine ⟨rfl, rfl, ?_⟩
    by_cases e : f = q
    · subst e
      exact .inl ⟨rfl, rfl⟩
    · refine .inr ?_
      exact befN_mono _ _ _ (ih hqi e) _ (by have := endP_le hL hp hq; omega)
theorem way_in {L : List (List C2)} (hL : Rts L) {f z : Pl} (h : Way L f z) : In L z → In L f := by
  induction h with
  | here => exact fun h => h
  | on hq _ ih => exact fun hp => ih (ahd_in hL hp hq)
theorem ahd_lt {L : List (List C2)} {p q : Pl} (hq : q ∈ ahd L p) : q.1 < p.1 ∨ (q.1 = p.1 ∧ q.2 < p.2) := by
  obtain ⟨i, k⟩ := p
  unfold ahd at hq
  simp only at hq
  split at hq
  · split at hq
    · simp at hq
    · simp at hq
      subst hq
      simp only
      omega
  · simp only [List.mem_cons] at hq
    rcases hq with rfl | hq
    · exact .inr ⟨rfl, by show k - 1 < k; omega⟩
    · split at hq
      · simp at hq
        subst hq
        simp only
        omega
      · simp at hq
theorem way_lt {L : List (List C2)} {f z : Pl} (h : Way L f z) : f = z ∨ f.1 < z.1 ∨ (f.1 = z.1 ∧ f.2 < z.2) := by
  induction h with
  | here => exact .inl rfl
  | on hq _ ih =>
    have := ahd_lt hq
    rcases ih with rfl | ih
    · exact .inr this
    · right; omega
theorem st_rng {L : List (List C2)} (hL : Rts L) {p : Pl} (hp : In L p) : 0 ≤ st L p ∧ st L p ≤ 1048575 :=
  ⟨(hL.r p.1 hp.1).nn p.2 hp.2, (hL.r p.1 hp.1).t p.2 hp.2⟩
theorem fnd_nd {L : List (List C2)} (hL : Rts L) {i s : Nat} {p : Pl} (h : fndP L i s = some p) : In L p ∧ nd L p = ((i : Int), (s : Int)) := by
  obtain ⟨hp, h1, h2⟩ := fndP_some h
  have h3 := st_rng hL hp
  refine ⟨hp, Prod.ext ?_ ?_⟩
  · unfold nd
    simp only
    omega
  · unfold nd
    simp only
    rw [← h2]
    exact (hd_of h3.1 (by omega)).symm
theorem nd_fnd {L : List (List C2)} (hL : Rts L) {i s : Nat} {p : Pl} (hp : In L p) (h : nd L p = ((i : Int), (s : Int))) : fndP L i s = some p := by
  have e := Prod.mk.inj (show ((p.1 : Int), st L p) = _ from h)
  have h3 := st_rng hL hp
  have h4 : hd (st L p) = s := by
    have := hd_of h3.1 (by omega)
    omega
  cases e5 : fndP L i s with
  | none => exact absurd h4 (fndP_none e5 hp (by omega))
  | some q =>
    have := fnd_nd hL e5
    rw [nd_inj hL this.1 hp (this.2.trans h.symm)]
theorem bef_iff {L : List (List C2)} (h0 : chkE L = 0) {a1 b1 a2 b2 : Int} (hne : ¬ (hd a1 = hd a2 ∧ hd b1 = hd b2)) :
    befN (eds L) ((hd a1 : Nat), (hd b1 : Nat)) (eds L).length ((hd a2 : Nat), (hd b2 : Nat)) = true ↔ BefP L a1 b1 a2 b2 := by
  have hL := chkE_rts h0
  constructor
  · intro h
    obtain ⟨f, z, hf, hz, ef, ez, hw⟩ := bef_sound hL _ _ _ (Nat.le_refl _) h
    exact ⟨h0, hne, f, z, nd_fnd hL hf ef, nd_fnd hL hz ez, hw⟩
  · rintro ⟨_, _, f, z, h1, h2, hw⟩
    obtain ⟨hf, ef⟩ := fnd_nd hL h1
    obtain ⟨hz, ez⟩ := fnd_nd hL h2
    rw [← ef, ← ez]
    obtain ⟨T, hT⟩ := eds_at hz
    refine befN_mono _ _ _ (bef_whole hL hw hz ?_) _ (by rw [hT]; simp only [List.length_append]; omega)
    rintro rfl
    rw [ef] at ez
    have := Prod.mk.inj ez
    exact hne ⟨by omega, by omega⟩
theorem bef_back {L : List (List C2)} {a1 b1 a2 b2 : Int} (h : BefP L a1 b1 a2 b2) (h2 : BefP L a2 b2 a1 b1) : False := by
  obtain ⟨h0, hne, f, z, h3, h4, hw⟩ := h
  obtain ⟨_, _, f', z', h5, h6, hw'⟩ := h2
  rw [h3] at h6
  rw [h4] at h5
  cases h5
  cases h6
  have hL := chkE_rts h0
  have k1 := way_lt hw
  have k2 := way_lt hw'
  have : f = z := by
    rcases k1 with k1 | k1
    · exact k1
    · rcases k2 with k2 | k2
      · exact k2.symm
      · omega
  subst this
  have e1 := (fnd_nd hL h3).2
  have e2 := (fnd_nd hL h4).2
  rw [e1] at e2
  have := Prod.mk.inj e2
  exact hne ⟨by omega, by omega⟩
/-- of edges, those that lead elsewhere than the one ahead of them. -/
def tgt (e : Q4) : P2 := (e.2.2.1, e.2.2.2)
def led (E : List Q4) : Nat → Nat
  | 0 => 0
  | n + 1 => led E n + (if n = 0 ∨ tgt (E.getD (n - 1) q0) ≠ tgt (E.getD n q0) then 1 else 0)
theorem led_pre (A B : List Q4) : ∀ n, n ≤ A.length → led (A ++ B) n = led A n
  | 0, _ => rfl
  | n + 1, h => by
    have g : ∀ m, m ≤ n → (A ++ B).getD m q0 = A.getD m q0 := fun m hm => by
      rw [List.getD_eq_getElem?_getD, List.getElem?_append_left (by omega), ← List.getD_eq_getElem?_getD]
    rw [led, led, led_pre A B n (by omega), g n (Nat.le_refl _), g (n - 1) (by omega)]
theorem led_le (E : List Q4) : ∀ n, led E n ≤ n
  | 0 => Nat.le_refl _
  | n + 1 => by
    rw [led]
    have := led_le E n
    split <;> omega
/-- one edge more. -/
theorem led_snoc (A : List Q4) (e : Q4) : led (A ++ [e]) (A.length + 1) = led A A.length + (if A.length = 0 ∨ tgt (A.getD (A.length - 1) q0) ≠ tgt e then 1 else 0) := by
  rw [led, led_pre A [e] _ (Nat.le_refl _)]
  have g : (A ++ [e]).getD A.length q0 = e := by simp [List.getD_eq_getElem?_getD]
  rw [g]
  by_cases h : A.length = 0
  · rw [if_pos (.inl h), if_pos (.inl h)]
  · have g2 : (A ++ [e]).getD (A.length - 1) q0 = A.getD (A.length - 1) q0 := by
      rw [List.getD_eq_getElem?_getD, List.getElem?_append_left (by omega), ← List.getD_eq_getElem?_getD]
    rw [g2]
theorem ahd_cases (L : List (List C2)) (p : Pl) (h : p ≠ (0, 0)) : (∃ q, ahd L p = [q]) ∨ ∃ q r, ahd L p = [q, r] := by
  obtain ⟨i, k⟩ := p
  unfold ahd
  simp only
  split
  · split
    · rename_i h1 h2
      subst h1
      subst h2
      exact absurd rfl h
    · exact .inl ⟨_, rfl⟩
  · split
    · exact .inr ⟨_, _, rfl⟩
    · exact .inl ⟨_, rfl⟩
theorem led_cell {L : List (List C2)} {A : List Q4} {p : Pl} (hp : p ≠ (0, 0)) (h : A.length = 0 ∨ tgt (A.getD (A.length - 1) q0) ≠ nd L p) : led (A ++ cellE L p) (A ++ cellE L p).length = led A A.length + 1 := by
  have ht : ∀ q, tgt (q4 L p q) = nd L p := fun q => rfl
  rcases ahd_cases L p hp with ⟨q, e⟩ | ⟨q, r, e⟩
  · unfold cellE
    rw [e]
    simp only [List.map_cons, List.map_nil, List.length_append, List.length_cons, List.length_nil]
    rw [led_snoc, ht, if_pos h]
  · unfold cellE
    rw [e]
    simp only [List.map_cons, List.map_nil]
    rw [show A ++ [q4 L p q, q4 L p r] = (A ++ [q4 L p q]) ++ [q4 L p r] by simp]
    have hl : (A ++ [q4 L p q] ++ [q4 L p r]).length = (A ++ [q4 L p q]).length + 1 := by simp
    rw [hl]
    rw [led_snoc, if_neg]
    · rw [List.length_append]
      simp only [List.length_cons, List.length_nil, Nat.zero_add, Nat.add_zero]
      rw [led_snoc, ht, if_pos h]
    · rw [List.length_append]
      simp only [List.length_cons, List.length_nil, Nat.zero_add, Nat.add_sub_cancel]
      rw [show (A ++ [q4 L p q]).getD A.length q0 = q4 L p q by simp [List.getD_eq_getElem?_getD], ht, ht]
      simp
theorem upP_mem {L : List (List C2)} (hL : Rts L) {p : Pl} (hp : p.1 < L.length) (h2 : p.2 < (L.getD p.1 []).length) {e : Q4} (he : e ∈ upP L p) : tgt e ≠ nd L p := by
  obtain ⟨i, k⟩ := p
  unfold upP at he
  simp only at he hp h2
  rw [List.mem_append] at he
  have key : ∃ j m, (j < i ∨ (j = i ∧ m < k)) ∧ m < (L.getD j []).length ∧ ∃ q, q ∈ ahd L (j, m) ∧ e = q4 L (j, m) q := by
    rcases he with he | he
    · obtain ⟨j, m, hj, hm, h⟩ := edsN_mem _ he
      exact ⟨j, m, .inl hj, hm, h⟩
    · obtain ⟨m, hm, h⟩ := rowEd_mem _ he
      exact ⟨i, m, .inr ⟨rfl, hm⟩, by omega, h⟩
  obtain ⟨j, m, hjm, hm, q, hq, rfl⟩ := key
  intro e
  have := nd_inj hL (p := (j, m)) (q := (i, k)) ⟨by simp only; omega, hm⟩ ⟨hp, h2⟩ e
  cases this
  omega
theorem led_row {L : List (List C2)} (hL : Rts L) (i : Nat) (hi : i < L.length) (h : led (edsN L i) (edsN L i).length = cnt L i - 1) : ∀ k, k ≤ (L.getD i []).length → led (edsN L i ++ rowEd L i k) (edsN L i ++ rowEd L i k).length = cnt L i + k - 1 := by
  intro k hk
  induction k with
  | zero => rw [rowEd, List.append_nil]; exact h
  | succ k ih =>
    have ih' := ih (by omega)
    rw [rowEd, ← List.append_assoc]
    by_cases h0 : (i, k) = ((0, 0) : Pl)
    · cases h0
      have e : cellE L (0, 0) = [] := by unfold cellE ahd; rfl
      rw [e, List.append_nil, ih']
      simp [cnt]
    · rw [led_cell (L := L) (p := (i, k)) h0, ih']
      · have : 0 < cnt L i + k := by
          rcases Nat.eq_zero_or_pos i with h1 | h1
          · subst h1
            have : k ≠ 0 := by rintro rfl; exact h0 rfl
            omega
          · obtain ⟨i', rfl⟩ : ∃ i', i = i' + 1 := ⟨i - 1, by omega⟩
            have := (hL.r i' (by omega)).p
            rw [cnt]
            omega
        omega
      · by_cases hz : (edsN L i ++ rowEd L i k).length = 0
        · exact .inl hz
        · refine .inr (upP_mem hL (p := (i, k)) hi (by simp only; omega) ?_)
          unfold upP
          simp only
          rw [List.getD_eq_getElem?_getD, List.getElem?_eq_getElem (by omega)]
          exact List.getElem_mem _
theorem led_all {L : List (List C2)} (hL : Rts L) : ∀ i, i ≤ L.length → led (edsN L i) (edsN L i).length = cnt L i - 1
  | 0, _ => by simp [edsN, led, cnt]
  | i + 1, h => by
    have h1 := led_row hL i (by omega) (led_all hL i (by omega)) _ (Nat.le_refl _)
    rw [edsN, cnt]
    exact h1
theorem led_eds {L : List (List C2)} (hL : Rts L) : led (eds L) (eds L).length = cnt L L.length - 1 := led_all hL _ (Nat.le_refl _)
/-- never back. -/
theorem eds_forth {L : List (List C2)} (hL : Rts L) {e : Q4} (he : e ∈ eds L) : (0 ≤ e.1 ∧ 0 ≤ e.2.1 ∧ 0 ≤ e.2.2.1 ∧ 0 ≤ e.2.2.2 ∧ e.1 ≤ 100 ∧ e.2.1 ≤ 1048575 ∧ e.2.2.1 ≤ 100 ∧ e.2.2.2 ≤ 1048575) ∧ ((e.1 = e.2.2.1 ∧ e.2.1 < e.2.2.2) ∨ (e.1 + 1 = e.2.2.1 ∧ e.2.1 ≤ e.2.2.2)) := by
  obtain ⟨p, hp, q, hq, rfl⟩ := eds_mem he
  have hqi := ahd_in hL hp hq
  have r1 := st_rng hL hp
  have r2 := st_rng hL hqi
  have m := hL.m
  have p1 := hp.1
  have p2 := hqi.1
  unfold q4
  simp only
  refine ⟨⟨by omega, by omega, by omega, by omega, by omega, by omega, by omega, by omega⟩, ?_⟩
  obtain ⟨i, k⟩ := p
  unfold ahd at hq
  simp only at hq p1
  split at hq
  · rename_i h0
    subst h0
    split at hq
    · simp at hq
    · simp at hq
      subst hq
      right
      simp only at *
      have z := (hL.r (i - 1) (by omega)).z
      have e2 : st L (i - 1, 0) = 0 := by unfold st; simp only; rw [z]; rfl
      omega
  · simp only [List.mem_cons] at hq
    rcases hq with rfl | hq
    · left
      simp only at *
      have u := (hL.r i p1).u (k - 1) (by rw [Nat.sub_add_cancel (by omega)]; exact hp.2)
      rw [Nat.sub_add_cancel (by omega)] at u
      exact ⟨by first | rfl | trivial, u⟩
    · split at hq
      · rename_i hw
        simp at hq
        subst hq
        right
        simp only at *
        refine ⟨by omega, ?_⟩
        have hr := hL.r (i - 1) (by omega)
        have := upTo_st (l := L.getD (i - 1) []) (s := st L (i, k)) (by rw [hr.z]; exact r1.1) _ hr.p
        exact this
      · simp at hq
end Go.Proofs.Ytagcgffofddcnaa.gr
