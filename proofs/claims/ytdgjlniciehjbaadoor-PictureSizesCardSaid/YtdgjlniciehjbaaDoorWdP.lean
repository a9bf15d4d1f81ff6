/- Pure: numbers in writing (layer 5). -/
import Derived.Lib.ItoaNum
import Derived.Lib.AtoiAll
import Derived.Lib.AtoiBound
import Derived.Lib.ItoaLen
import Derived.RowKit
namespace Go.Proofs.YtdgjlniciehjbaaDoor.wd
open Go.Lib Go.RowKit
set_option linter.unusedVariables false
set_option linter.unusedSimpArgs false
/-- a whole number that an int holds -/
def I64 (v : Int) : Prop := -9223372036854775808 ≤ v ∧ v ≤ 9223372036854775807
theorem dig_val (d : Nat) (h : d < 10) : (UInt8.ofNat (48 + d)).toNat = 48 + d := by
  rw [UInt8.toNat_ofNat']; omega
theorem dec_rec (u : Nat) (h : ¬ u < 10) : decDigits u = decDigits (u / 10) ++ [UInt8.ofNat (48 + u % 10)] := by
  rw [decDigits, dif_neg h]
theorem dec_one (u : Nat) (h : u < 10) : decDigits u = [UInt8.ofNat (48 + u)] := by rw [decDigits, dif_pos h]
theorem dec_ind {P : Nat → Prop} (h1 : ∀ u, u < 10 → P u) (h2 : ∀ u, ¬ u < 10 → P (u / 10) → P u) : ∀ u, P u := by
  intro u
  induction u using Nat.strongRecOn with
  | _ u ih =>
    by_cases h : u < 10
    · exact h1 u h
    · exact h2 u h (ih (u / 10) (by omega))
def Dg (c : UInt8) : Prop := 48 ≤ c.toNat ∧ c.toNat ≤ 57
theorem dec_digits : ∀ u, ∀ c ∈ decDigits u, Dg c := by
  refine dec_ind ?_ ?_
  · intro u h c hc
    rw [dec_one u h, List.mem_singleton] at hc
    subst hc
    unfold Dg
    rw [dig_val u h]; omega
  · intro u h ih c hc
    rw [dec_rec u h, List.mem_append, List.mem_singleton] at hc
    rcases hc with hc | rfl
    · exact ih c hc
    · unfold Dg
      rw [dig_val _ (Nat.mod_lt _ (by decide))]; omega
theorem dec_ne : ∀ u, decDigits u ≠ [] := by
  refine dec_ind ?_ ?_
  · intro u h; rw [dec_one u h]; simp
  · intro u h _; rw [dec_rec u h]; simp
theorem dec_len : ∀ (k u : Nat), u < 10 ^ (k + 1) → (decDigits u).length ≤ k + 1 := by
  intro k
  induction k with
  | zero => intro u h; rw [dec_one u (by omega)]; simp
  | succ k ih =>
    intro u h
    by_cases h1 : u < 10
    · rw [dec_one u h1]; simp
    · rw [dec_rec u h1, List.length_append]
      have := ih (u / 10) (by rw [Nat.pow_succ] at h; omega)
      simp; omega
/-- what a row of digits spells -/
def dv (a : Int) : List UInt8 → Int
  | [] => a
  | c :: r => dv (10 * a + c.toNat - 48) r
theorem dv_snoc : ∀ (l : List UInt8) (a : Int) (c : UInt8), dv a (l ++ [c]) = 10 * dv a l + c.toNat - 48 := by
  intro l
  induction l with
  | nil => intro a c; rfl
  | cons x l ih => intro a c; exact ih _ c
theorem dv_dec : ∀ u : Nat, dv 0 (decDigits u) = u := by
  refine dec_ind ?_ ?_
  · intro u h
    rw [dec_one u h, dv, dv, dig_val u h]; omega
  · intro u h ih
    rw [dec_rec u h, dv_snoc, ih, dig_val _ (Nat.mod_lt _ (by decide))]; omega
theorem parse_snoc : ∀ (l : List UInt8) (a b : Nat) (c : UInt8), parseUint10 a l = .ok b → Dg c → b < 1844674407370955162 → b * 10 + (c.toNat - 48) < 18446744073709551616 → parseUint10 a (l ++ [c]) = .ok (b * 10 + (c.toNat - 48)) := by
  intro l
  induction l with
  | nil =>
    intro a b c h hc h1 h2
    rw [parseUint10] at h
    injection h with h
    subst h
    rw [List.nil_append, parseUint10, if_pos (show 48 ≤ c.toNat ∧ c.toNat ≤ 57 from hc), if_neg (by omega), if_neg (by omega), parseUint10]
  | cons x l ih =>
    intro a b c h hc h1 h2
    rw [parseUint10] at h
    rw [List.cons_append, parseUint10]
    by_cases hx : 48 ≤ x.toNat ∧ x.toNat ≤ 57
    · rw [if_pos hx] at h ⊢
      by_cases ha : 1844674407370955162 ≤ a
      · rw [if_pos ha] at h; cases h
      · rw [if_neg ha] at h ⊢
        by_cases hb : 18446744073709551616 ≤ a * 10 + (x.toNat - 48)
        · rw [if_pos hb] at h; cases h
        · rw [if_neg hb] at h ⊢
          exact ih _ _ _ h hc h1 h2
    · rw [if_neg hx] at h; cases h
theorem parse_dec : ∀ u : Nat, u < 18446744073709551616 → parseUint10 0 (decDigits u) = .ok u := by
  refine dec_ind ?_ ?_
  · intro u h _
    have hd : Dg (UInt8.ofNat (48 + u)) := by unfold Dg; rw [dig_val u h]; omega
    have := parse_snoc [] 0 0 _ rfl hd (by omega) (by rw [dig_val u h]; omega)
    rw [List.nil_append] at this
    rw [dec_one u h, this, dig_val u h]
    congr 1; omega
  · intro u h ih hu
    have hm := Nat.mod_lt u (show 0 < 10 by decide)
    have hd : Dg (UInt8.ofNat (48 + u % 10)) := by unfold Dg; rw [dig_val _ hm]; omega
    have := parse_snoc _ 0 _ _ (ih (by omega)) hd (by omega) (by rw [dig_val _ hm]; omega)
    rw [dec_rec u h, this, dig_val _ hm]
    congr 1; omega
theorem dec_cons (u : Nat) : ∃ c r, decDigits u = c :: r ∧ Dg c := by
  cases h : decDigits u with
  | nil => exact absurd h (dec_ne u)
  | cons c r => exact ⟨c, r, rfl, dec_digits u c (by rw [h]; simp)⟩
theorem itoa_pos {v : Int} (h : 0 ≤ v) : itoa v = decDigits v.toNat := by unfold itoa; rw [if_neg (by omega)]
theorem itoa_negv {v : Int} (h : v < 0) : itoa v = 45 :: decDigits v.natAbs := by unfold itoa; rw [if_pos h]
theorem atoi_itoa {v : Int} (h : I64 v) : atoiAll (itoa v) = .ok v := by
  obtain ⟨h0, h1⟩ := h
  by_cases hv : 0 ≤ v
  · obtain ⟨c, r, hc, hd⟩ := dec_cons v.toNat
    have hp := parse_dec v.toNat (by omega)
    rw [itoa_pos hv, hc]
    rw [hc] at hp
    unfold Dg at hd
    simp only [atoiAll]
    rw [if_neg (by omega)]
    unfold parseMag
    rw [if_neg (by simp), hp]
    simp only
    rw [if_neg (by omega), if_neg (by omega), if_neg (by omega)]
    congr 1; omega
  · have hp := parse_dec v.natAbs (by omega)
    rw [itoa_negv (by omega)]
    have h45 : (45 : UInt8).toNat = 45 := rfl
    simp only [atoiAll, h45]
    rw [if_pos (Or.inr trivial)]
    unfold parseMag
    rw [if_neg (dec_ne _), hp]
    simp only
    rw [if_neg (fun h => h.1 trivial), if_neg (fun h => by have := h.2; omega), if_pos trivial]
    congr 1; omega
theorem itoa_len {v : Int} (h : I64 v) : (itoa v).length ≤ 20 := by
  obtain ⟨h0, h1⟩ := h
  by_cases hv : 0 ≤ v
  · rw [itoa_pos hv]
    have := dec_len 18 v.toNat (by omega)
    omega
  · rw [itoa_negv (by omega), List.length_cons]
    have := dec_len 18 v.natAbs (by omega)
    omega
/-- what the program answers of a text -/
def numV (l : List UInt8) : Int × Bool := match atoiAll l with
  | .ok v => if itoa v = l then (v, true) else (0, false)
  | _ => (0, false)
theorem atoi_I {l : List UInt8} {v : Int} (h : atoiAll l = .ok v) : I64 v := by
  unfold atoiAll at h
  split at h
  · cases h
  · simp only at h
    split at h
    · cases h
    · cases h
    · rename_i u hu
      split at h
      · cases h
      · split at h
        · cases h
        · injection h with h
          subst h
          unfold I64
          split <;> omega
theorem numV_itoa {v : Int} (h : I64 v) : numV (itoa v) = (v, true) := by unfold numV; rw [atoi_itoa h]; simp
theorem numV_cases (l : List UInt8) : (∃ v, I64 v ∧ itoa v = l ∧ numV l = (v, true)) ∨ ((∀ v, I64 v → itoa v ≠ l) ∧ numV l = (0, false)) := by
  by_cases h : ∃ v, I64 v ∧ itoa v = l
  · obtain ⟨v, h1, h2⟩ := h
    exact .inl ⟨v, h1, h2, by rw [← h2]; exact numV_itoa h1⟩
  · refine .inr ⟨fun v h1 h2 => h ⟨v, h1, h2⟩, ?_⟩
    unfold numV
    split
    · rename_i v hv
      rw [if_neg fun h2 => h ⟨v, atoi_I hv, h2⟩]
    · rfl
/-- the document's loop over the digits -/
def rnF (a : Int) : List UInt8 → Option Int
  | [] => some a
  | c :: r => if 48 ≤ c.toNat ∧ c.toNat ≤ 57 then rnF (wrap64 (10 * a + c.toNat - 48)) r else none
def rnV (l : List UInt8) : Int × Bool :=
  if 20 < l.length then (0, false) else
  match rnF 0 (if l.head? = some 45 then l.drop 1 else l) with
  | none => (0, false)
  | some n => if itoa (if l.head? = some 45 then wrap64 (-n) else n) = l then ((if l.head? = some 45 then wrap64 (-n) else n), true) else (0, false)
theorem wrap_I (v : Int) : I64 (wrap64 v) := by unfold I64 wrap64; omega
theorem wrap_id {v : Int} (h : I64 v) : wrap64 v = v := by unfold I64 at h; unfold wrap64; omega
theorem rnF_dv : ∀ (l : List UInt8) (a : Int), (∀ c ∈ l, Dg c) → rnF (wrap64 a) l = some (wrap64 (dv a l)) := by
  intro l
  induction l with
  | nil => intro a _; rfl
  | cons c l ih =>
    intro a h
    have hc : 48 ≤ c.toNat ∧ c.toNat ≤ 57 := h c (by simp)
    rw [rnF, if_pos hc, dv, ← ih _ (fun x hx => h x (List.mem_cons_of_mem _ hx))]
    congr 1
    unfold wrap64; omega
theorem rnF_I : ∀ (l : List UInt8) (a n : Int), I64 a → rnF a l = some n → I64 n := by
  intro l
  induction l with
  | nil => intro a n h h1; rw [rnF] at h1; injection h1 with h1; exact h1 ▸ h
  | cons c l ih =>
    intro a n h h1
    rw [rnF] at h1
    by_cases hc : 48 ≤ c.toNat ∧ c.toNat ≤ 57
    · rw [if_pos hc] at h1
      exact ih _ _ (wrap_I _) h1
    · rw [if_neg hc] at h1; cases h1
theorem rnV_itoa {v : Int} (h : I64 v) : rnV (itoa v) = (v, true) := by
  have hl := itoa_len h
  obtain ⟨h0, h1⟩ := h
  unfold rnV
  rw [if_neg (by omega)]
  by_cases hv : 0 ≤ v
  · obtain ⟨c, r, hc, hd⟩ := dec_cons v.toNat
    have hh : (itoa v).head? ≠ some 45 := by
      rw [itoa_pos hv, hc]
      simp only [List.head?_cons, ne_eq, Option.some.injEq]
      rintro rfl
      unfold Dg at hd
      have : (45 : UInt8).toNat = 45 := rfl
      omega
    have hr : rnF 0 (itoa v) = some v := by
      have := rnF_dv (decDigits v.toNat) 0 (dec_digits _)
      rw [dv_dec, show wrap64 0 = 0 by decide, wrap_id (v := ((v.toNat : Nat) : Int)) (by unfold I64; omega)] at this
      rw [itoa_pos hv, this]
      congr 1; omega
    rw [if_neg hh, hr]
    simp only [if_neg hh, if_true]
  · have hh : (itoa v).head? = some 45 := by rw [itoa_negv (by omega)]; rfl
    have hr : rnF 0 ((itoa v).drop 1) = some (wrap64 (-v)) := by
      have := rnF_dv (decDigits v.natAbs) 0 (dec_digits _)
      rw [dv_dec, show wrap64 0 = 0 by decide] at this
      rw [itoa_negv (by omega)]
      show rnF 0 (decDigits v.natAbs) = _
      rw [this]
      congr 2; omega
    have hw : wrap64 (-wrap64 (-v)) = v := by unfold wrap64; omega
    rw [if_pos hh, hr]
    simp only [if_pos hh, hw, if_true]
theorem rnV_eq (l : List UInt8) : rnV l = numV l := by
  rcases numV_cases l with ⟨v, h1, h2, h3⟩ | ⟨h1, h2⟩
  · rw [h3, ← h2]; exact rnV_itoa h1
  · rw [h2]
    unfold rnV
    split
    · rfl
    · split
      · rfl
      · rename_i n hn
        have hI : I64 (if l.head? = some 45 then wrap64 (-n) else n) := by
          split
          · exact wrap_I _
          · exact rnF_I _ _ _ (by unfold I64; omega) hn
        rw [if_neg (h1 _ hI)]
/-- the digits from the last one on -/
theorem dec_step (m n : Nat) (s : List UInt8) (h : (if m = 0 then s else decDigits m ++ s) = decDigits n) (hm : m ≠ 0) : (if m / 10 = 0 then UInt8.ofNat (48 + m % 10) :: s else decDigits (m / 10) ++ (UInt8.ofNat (48 + m % 10) :: s)) = decDigits n := by
  rw [if_neg hm] at h
  rw [← h]
  by_cases h1 : m < 10
  · rw [if_pos (by omega), dec_one m h1, Nat.mod_eq_of_lt h1]; rfl
  · rw [if_neg (by omega), dec_rec m h1, List.append_assoc]; rfl
end Go.Proofs.YtdgjlniciehjbaaDoor.wd
