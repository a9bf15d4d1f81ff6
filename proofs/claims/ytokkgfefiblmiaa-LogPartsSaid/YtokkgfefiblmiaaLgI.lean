/- The pure part of the law: all loops' events are all events, each at its place, just once (layer 24). -/
import Derived.Test.YtokkgfefiblmiaaLgE
namespace Go.Proofs.Ytokkgfefiblmiaa.lg
set_option linter.unusedVariables false
set_option linter.unusedSimpArgs false
/-- One more at a place. -/
def bump (S : List Int) (p : Nat) : List Int := S.set p (S.getD p 0 + 1)
theorem bump_len (S : List Int) (p : Nat) : (bump S p).length = S.length := by simp [bump]
theorem bumps_len (ps : List Nat) : ∀ S : List Int, (ps.foldl bump S).length = S.length := by
  induction ps with
  | nil => intro S; rfl
  | cons p l ih => intro S; rw [List.foldl_cons, ih, bump_len]
theorem bump_at (S : List Int) (p j : Nat) (hj : j < S.length) : (bump S p).getD j 0 = S.getD j 0 + (if p = j then 1 else 0) := by
  unfold bump
  rw [List.getD_eq_getElem?_getD, List.getElem?_set]
  by_cases h : p = j
  · subst h
    rw [if_pos rfl, if_pos hj, if_pos rfl]
    rfl
  · rw [if_neg h, if_neg h, ← List.getD_eq_getElem?_getD]
    omega
theorem bumps_at (ps : List Nat) (j : Nat) : ∀ S : List Int, j < S.length → (ps.foldl bump S).getD j 0 = S.getD j 0 + (ps.count j : Nat) := by
  induction ps with
  | nil => intro S _; simp
  | cons p l ih =>
    intro S hj
    rw [List.foldl_cons, ih (bump S p) (by rw [bump_len]; exact hj), bump_at S p j hj, List.count_cons]
    by_cases h : p = j
    · subst h; simp; omega
    · rw [if_neg h, if_neg (by simpa using h)]; omega
/-- The places of a loop's events among the first k. -/
def plc (y : Int) (es : List I4) : Nat → List Nat
  | 0 => []
  | k + 1 => if (es.getD k (0, 0, 0, 0)).2.1 == y then plc y es k ++ [k] else plc y es k
theorem plc_tel (y : Int) (es : List I4) : ∀ k, (tel (ql y) es k) = (plc y es k).map fun p : Nat => ((p : Int), es.getD p (0, 0, 0, 0))
  | 0 => rfl
  | k + 1 => by
    rw [tel_s]
    unfold plc ql
    by_cases h : ((es.getD k (0, 0, 0, 0)).2.1 == y) = true
    · rw [if_pos h, if_pos h, List.map_append, ← plc_tel y es k]
      rfl
    · rw [if_neg h, if_neg h, ← plc_tel y es k]
      rfl
theorem plc_lt (y : Int) (es : List I4) : ∀ k, ∀ p ∈ plc y es k, p < k
  | 0 => by intro p hp; cases hp
  | k + 1 => by
    intro p hp
    unfold plc at hp
    split at hp
    · rcases List.mem_append.1 hp with h | h
      · have := plc_lt y es k p h; omega
      · simp at h; omega
    · have := plc_lt y es k p hp; omega
theorem plc_count (y : Int) (es : List I4) (j : Nat) : ∀ k, (plc y es k).count j = if j < k ∧ (es.getD j (0, 0, 0, 0)).2.1 = y then 1 else 0
  | 0 => by simp [plc]
  | k + 1 => by
    have ih := plc_count y es j k
    unfold plc
    by_cases h : (es.getD k (0, 0, 0, 0)).2.1 = y
    · rw [if_pos (by simpa using h), List.count_append, ih]
      by_cases hj : j = k
      · subst hj
        rw [if_neg (fun e => by omega), if_pos ⟨by omega, h⟩]
        simp
      · have : List.count j [k] = 0 := by rw [List.count_eq_zero]; simp; exact hj
        rw [this, Nat.add_zero]
        by_cases h2 : j < k ∧ (es.getD j (0, 0, 0, 0)).2.1 = y
        · rw [if_pos h2, if_pos ⟨by omega, h2.2⟩]
        · rw [if_neg h2, if_neg (fun e => h2 ⟨by omega, e.2⟩)]
    · rw [if_neg (by simpa using h), ih]
      by_cases h2 : j < k ∧ (es.getD j (0, 0, 0, 0)).2.1 = y
      · rw [if_pos h2, if_pos ⟨by omega, h2.2⟩]
      · rw [if_neg h2, if_neg (fun e => h2 ⟨by
          have : j ≠ k := fun e2 => h (by rw [← e2]; exact e.2)
          omega, e.2⟩)]
/-- The places rise. -/
theorem plc_up (y : Int) (es : List I4) : ∀ k, (plc y es k).Pairwise (· < ·)
  | 0 => List.Pairwise.nil
  | k + 1 => by
    unfold plc
    split
    · refine List.pairwise_append.2 ⟨plc_up y es k, List.pairwise_singleton _ _, fun a ha b hb => ?_⟩
      simp at hb
      rw [hb]
      exact plc_lt y es k a ha
    · exact plc_up y es k
theorem dst_count (acc : List Int) (x z : Int) (h : acc.count z ≤ 1) : (dst acc x).count z ≤ 1 ∧ (z ∈ acc ∨ z = x → z ∈ dst acc x) := by
  unfold dst
  by_cases hx : acc.contains x = true
  · rw [if_pos hx]
    exact ⟨h, fun e => by rcases e with e | rfl; exact e; exact List.contains_iff_mem.1 hx⟩
  · rw [if_neg hx]
    refine ⟨?_, fun e => by rcases e with e | rfl <;> simp [*]⟩
    rw [List.count_append]
    by_cases hz : z = x
    · subst hz
      have : acc.count z = 0 := List.count_eq_zero.2 (fun e => hx (List.contains_iff_mem.2 e))
      rw [this]
      simp
    · have : List.count z [x] = 0 := by rw [List.count_eq_zero]; simp; exact hz
      omega
theorem dds_count (z : Int) : ∀ (xs acc : List Int), acc.count z ≤ 1 → (xs.foldl dst acc).count z ≤ 1 ∧ (z ∈ acc ∨ z ∈ xs → z ∈ xs.foldl dst acc) := by
  intro xs
  induction xs with
  | nil => intro acc h; exact ⟨h, fun e => by rcases e with e | e; exact e; cases e⟩
  | cons x l ih =>
    intro acc h
    obtain ⟨h1, h2⟩ := dst_count acc x z h
    obtain ⟨h3, h4⟩ := ih (dst acc x) h1
    refine ⟨h3, fun e => h4 ?_⟩
    rcases e with e | e
    · exact .inl (h2 (.inl e))
    · rcases List.mem_cons.1 e with rfl | e
      · exact .inl (h2 (.inr rfl))
      · exact .inr e
theorem dds_one (xs : List Int) (z : Int) (h : z ∈ xs) : (dds xs).count z = 1 := by
  obtain ⟨h1, h2⟩ := dds_count z xs [] (by simp)
  have := List.count_pos_iff.2 (h2 (.inr h))
  unfold dds
  omega
/-- All places, loop by loop. -/
def allp (es : List I4) (L : List Int) : List Nat := L.flatMap fun y => plc y es es.length
theorem allp_count (es : List I4) (j : Nat) (hj : j < es.length) : ∀ L : List Int, (allp es L).count j = L.count (es.getD j (0, 0, 0, 0)).2.1
  | [] => rfl
  | y :: L => by
    show (plc y es es.length ++ allp es L).count j = _
    rw [List.count_append, allp_count es j hj L, plc_count, List.count_cons]
    by_cases h : (es.getD j (0, 0, 0, 0)).2.1 = y
    · rw [if_pos ⟨hj, h⟩, if_pos (by rw [h]; simp)]; omega
    · rw [if_neg (fun e => h e.2), if_neg (by simpa using fun e => h e.symm)]; omega
theorem parts (es : List I4) (j : Nat) (hj : j < es.length) : ((allp es (dds (es.map fun x => x.2.1))).foldl bump (List.replicate es.length 0)).getD j 0 = 1 := by
  rw [bumps_at _ _ _ (by simpa using hj), allp_count es j hj, dds_one]
  · simp [List.getD_eq_getElem?_getD, List.getElem?_replicate, hj]
  · refine List.mem_map.2 ⟨es[j], List.getElem_mem hj, ?_⟩
    rw [List.getD_eq_getElem?_getD, List.getElem?_eq_getElem hj]
    rfl
end Go.Proofs.Ytokkgfefiblmiaa.lg
