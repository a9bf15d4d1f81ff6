/- Plain facts on numbers that are taken and given back: what is free lies among those given back, once (layer 10). -/
import Derived.Test.YtajmmglfdinahaaArW
namespace Go.Proofs.Ytajmmglfdinahaa.ar
open Go.ChangeShapes Go.WideShapes Go.ChangeAt Go.RowKit
set_option linter.unusedVariables false
set_option linter.unusedSimpArgs false
theorem cnt_true : ∀ (hs : List Bool) (j : Nat), hs[j]? = some false → (hs.set j true).count true = hs.count true + 1 := by
  intro hs
  induction hs with
  | nil => intro j h; simp at h
  | cons b l ih =>
    intro j h
    cases j with
    | zero => simp at h; subst h; simp
    | succ j =>
      have h' : l[j]? = some false := by simpa using h
      simp only [List.set_cons_succ, List.count_cons, ih j h']
      omega
theorem cnt_false : ∀ (hs : List Bool) (j : Nat), hs[j]? = some true → (hs.set j false).count true + 1 = hs.count true := by
  intro hs
  induction hs with
  | nil => intro j h; simp at h
  | cons b l ih =>
    intro j h
    cases j with
    | zero => simp at h; subst h; simp
    | succ j =>
      have h' : l[j]? = some true := by simpa using h
      have := ih j h'
      simp only [List.set_cons_succ, List.count_cons]
      omega
theorem cnt_lt : ∀ (hs : List Bool) (j : Nat), hs[j]? = some false → hs.count true < hs.length := by
  intro hs j h
  have h1 := cnt_true hs j h
  have h2 := List.count_le_length (a := true) (l := hs.set j true)
  rw [List.length_set] at h2
  omega
theorem cnt_all : ∀ hs : List Bool, (∀ j : Nat, hs[j]? ≠ some false) → hs.count true = hs.length := by
  intro hs
  induction hs with
  | nil => intro _; rfl
  | cons b l ih =>
    intro h
    have h0 := h 0
    simp at h0
    subst h0
    have := ih (fun j e => h (j + 1) (by simpa using e))
    simp [this]
theorem app_at (hs : List Bool) : (hs ++ [false])[hs.length]? = some false := by simp
theorem cnt_app (hs : List Bool) : ((hs ++ [false]).set hs.length true).count true = hs.count true + 1 := by
  rw [cnt_true _ _ (app_at hs)]; simp
/-- What is free lies among those given back, once. -/
structure Gd (M : Nat) (hs : List Bool) (bk : List Int) : Prop where
  le : hs.length ≤ M
  nd : bk.Nodup
  a : ∀ x ∈ bk, ∃ j : Nat, x = (j : Int) + 1 ∧ hs[j]? = some false
  b : ∀ j : Nat, hs[j]? = some false → ((j : Int) + 1) ∈ bk
theorem Gd.nil (M : Nat) : Gd M [] [] := ⟨by simp, by simp, by simp, by simp⟩
theorem Gd.back {M : Nat} {hs : List Bool} {l : List Int} {x : Int} (h : Gd M hs (l ++ [x])) : ∃ j : Nat, x = (j : Int) + 1 ∧ hs[j]? = some false ∧ Gd M (hs.set j true) l := by
  obtain ⟨j, hx, hj⟩ := h.a x (by simp)
  refine ⟨j, hx, hj, by rw [List.length_set]; exact h.le, (List.nodup_append.1 h.nd).1, ?_, ?_⟩
  · intro y hy
    obtain ⟨i, hyi, hi⟩ := h.a y (by simp [hy])
    refine ⟨i, hyi, ?_⟩
    have hne : j ≠ i := by
      intro e
      have := (List.nodup_append.1 h.nd).2.2 y hy x (by simp)
      exact this (by rw [hyi, hx, e])
    rw [List.getElem?_set_ne hne]; exact hi
  · intro i hi
    have hjl : j < hs.length := (List.getElem?_eq_some_iff.1 hj).1
    have hne : j ≠ i := by
      intro e
      subst e
      rw [List.getElem?_set_self hjl] at hi
      simp at hi
    rw [List.getElem?_set_ne hne] at hi
    have := h.b i hi
    rcases List.mem_append.1 this with h1 | h1
    · exact h1
    · simp at h1; omega
theorem Gd.new {M : Nat} {hs : List Bool} (h : Gd M hs []) (hlt : hs.length < M) : Gd M ((hs ++ [false]).set hs.length true) [] := by
  refine ⟨by simp; omega, by simp, by simp, ?_⟩
  intro i hi
  by_cases e : hs.length = i
  · subst e
    rw [List.getElem?_set_self (by simp)] at hi
    simp at hi
  · rw [List.getElem?_set_ne e] at hi
    rcases Nat.lt_or_ge i hs.length with h1 | h1
    · rw [List.getElem?_append_left h1] at hi
      exact h.b i hi
    · rw [List.getElem?_eq_none (by simp; omega)] at hi
      cases hi
theorem Gd.full {M : Nat} {hs : List Bool} (h : Gd M hs []) (he : hs.length = M) : hs.count true = M := by
  rw [cnt_all hs (fun j e => by have := h.b j e; simp at this), he]
theorem Gd.give {M : Nat} {hs : List Bool} {bk : List Int} {j : Nat} (h : Gd M hs bk) (hj : hs[j]? = some true) : Gd M (hs.set j false) (bk ++ [(j : Int) + 1]) := by
  have hjl : j < hs.length := (List.getElem?_eq_some_iff.1 hj).1
  refine ⟨by rw [List.length_set]; exact h.le, ?_, ?_, ?_⟩
  · refine List.nodup_append.2 ⟨h.nd, by simp, ?_⟩
    intro y hy z hz e
    simp at hz
    obtain ⟨i, hyi, hi⟩ := h.a y hy
    have : i = j := by omega
    subst this
    rw [hj] at hi
    cases hi
  · intro y hy
    rcases List.mem_append.1 hy with h1 | h1
    · obtain ⟨i, hyi, hi⟩ := h.a y h1
      refine ⟨i, hyi, ?_⟩
      by_cases e : j = i
      · subst e; rw [List.getElem?_set_self hjl]
      · rw [List.getElem?_set_ne e]; exact hi
    · simp at h1
      exact ⟨j, h1, by rw [List.getElem?_set_self hjl]⟩
  · intro i hi
    by_cases e : j = i
    · subst e; simp
    · rw [List.getElem?_set_ne e] at hi
      exact List.mem_append.2 (.inl (h.b i hi))
theorem heldB_nat (hs : List Bool) (q : Nat) : heldB hs (q : Int) = (if q = 0 then false else hs.getD (q - 1) false) := by
  unfold heldB
  by_cases h0 : q = 0
  · subst h0; simp
  · rw [if_neg h0, show ((q : Int) - 1).toNat = q - 1 by omega]
    by_cases h1 : q ≤ hs.length
    · rw [decide_eq_true ⟨by omega, by omega⟩]; simp
    · rw [decide_eq_false (by omega), List.getD_eq_getElem?_getD, List.getElem?_eq_none (by omega)]; rfl
theorem held_set (hs : List Bool) (j : Nat) (b : Bool) (hj : j < hs.length) (q : Nat) : (if q = j + 1 then Value.bool b else .bool (heldB hs (q : Int))) = .bool (heldB (hs.set j b) (q : Int)) := by
  rw [heldB_nat, heldB_nat]
  by_cases e : q = j + 1
  · subst e
    rw [if_pos rfl, if_neg (by omega), List.getD_eq_getElem?_getD, show j + 1 - 1 = j by omega, List.getElem?_set_self hj]; rfl
  · rw [if_neg e]
    by_cases h0 : q = 0
    · rw [if_pos h0, if_pos h0]
    · rw [if_neg h0, if_neg h0, List.getD_eq_getElem?_getD, List.getD_eq_getElem?_getD, List.getElem?_set_ne (by omega)]
theorem held_new (hs : List Bool) (q : Nat) : (if q = hs.length + 1 then Value.bool true else .bool (heldB hs (q : Int))) = .bool (heldB ((hs ++ [false]).set hs.length true) (q : Int)) := by
  rw [← held_set (hs ++ [false]) hs.length true (by simp) q]
  by_cases e : q = hs.length + 1
  · rw [if_pos e, if_pos e]
  · rw [if_neg e, if_neg e, heldB_nat, heldB_nat]
    by_cases h0 : q = 0
    · rw [if_pos h0, if_pos h0]
    · rw [if_neg h0, if_neg h0, List.getD_eq_getElem?_getD, List.getD_eq_getElem?_getD]
      rcases Nat.lt_or_ge (q - 1) hs.length with h1 | h1
      · rw [List.getElem?_append_left h1]
      · rw [List.getElem?_eq_none (by omega), List.getElem?_eq_none (by simp; omega)]
theorem heldB_true {hs : List Bool} {n : Int} (h : heldB hs n = true) : ∃ j : Nat, n = (j : Int) + 1 ∧ hs[j]? = some true ∧ j < hs.length := by
  unfold heldB at h
  simp only [Bool.and_eq_true, decide_eq_true_eq] at h
  obtain ⟨⟨h1, h2⟩, h3⟩ := h
  refine ⟨(n - 1).toNat, by omega, ?_, by omega⟩
  rw [List.getD_eq_getElem?_getD, List.getElem?_eq_getElem (by omega)] at h3
  rw [List.getElem?_eq_getElem (by omega)]
  simpa using h3
end Go.Proofs.Ytajmmglfdinahaa.ar
