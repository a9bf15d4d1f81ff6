/- A program as bytes (layer 4). -/
import Derived.Test.YtbmndjedgedbdaaPrD
namespace Go.Proofs.Ytbmndjedgedbdaa.pr
open Go.ChangeShapes Go.WideShapes Go.ChangeAt Go.RowKit
open Go.Proofs.Ytbmndjedgedbdaa.bin Go.Proofs.Ytbmndjedgedbdaa.bits Go.Proofs.Ytbmndjedgedbdaa.ins
set_option linter.unusedVariables false
set_option linter.unusedSimpArgs false
def enc4 (x : I4) : List UInt8 := encI x.1 x.2.1 x.2.2.1 x.2.2.2
def fnB (l : List I4) : List UInt8 := putB l.length 2 ++ l.flatMap enc4
def hdB (m : Int) (n : Nat) : List UInt8 := (([72, 82, 1] : List UInt8) ++ putB n 1) ++ putB m 2
def prB (m : Int) (L : List (List I4)) : List UInt8 := hdB m L.length ++ L.flatMap fnB
def prS (m : Int) (L : List (List I4)) : List UInt8 := if prE m L = 0 then prB m L else []
theorem enc4_len (x : I4) : (enc4 x).length = 4 := encI_len _ _ _ _
theorem encs_len (l : List I4) : (l.flatMap enc4).length = 4 * l.length := by
  induction l with
  | nil => rfl
  | cons x l ih => rw [List.flatMap_cons, List.length_append, enc4_len, ih, List.length_cons]; omega
theorem fnB_len (l : List I4) : (fnB l).length = 2 + 4 * l.length := by unfold fnB; rw [List.length_append, putB_len, encs_len]
theorem hdB_len (m : Int) (n : Nat) : (hdB m n).length = 6 := by unfold hdB; rw [List.length_append, List.length_append, putB_len, putB_len]; rfl
theorem take_flat {α β : Type} (f : α → List β) (d : α) (l : List α) (k : Nat) (h : k < l.length) : (l.take (k + 1)).flatMap f = (l.take k).flatMap f ++ f (l.getD k d) := by
  rw [List.take_add_one, List.flatMap_append, List.getD_eq_getElem?_getD, List.getElem?_eq_getElem h]; simp
theorem str_join (s t : List UInt8) : (⟨s.toArray⟩ : ByteArray) ++ ⟨t.toArray⟩ = ⟨(s ++ t).toArray⟩ := by
  apply ByteArray.ext
  simp
theorem cntE_0 {m : Int} {n : Nat} (h : cntE m n = 0) : 0 ≤ m ∧ m ≤ 256 ∧ 1 ≤ n ∧ n ≤ 16 := by
  unfold cntE at h
  by_cases h0 : m < 0 ∨ 256 < m
  · rw [if_pos h0] at h; omega
  · rw [if_neg h0] at h
    by_cases h2 : n = 0
    · rw [if_pos h2] at h; omega
    · rw [if_neg h2] at h
      by_cases h3 : 16 < n
      · rw [if_pos h3] at h; omega
      · omega
theorem lenE_0 {n : Nat} (h : lenE n = 0) : 1 ≤ n ∧ n ≤ 200 := by
  unfold lenE at h
  by_cases h2 : n = 0
  · rw [if_pos h2] at h; omega
  · rw [if_neg h2] at h
    by_cases h3 : 200 < n
    · rw [if_pos h3] at h; omega
    · omega
theorem fnE_0 {l : List I4} {q : Nat} (h : fnE l q = 0) : lenE l.length = 0 ∧ insR l q l.length = 0 ∧ okEnd (l.getD (l.length - 1) d4).1 = true := by
  unfold fnE at h
  by_cases h1 : lenE l.length = 0
  · rw [if_neg (by omega)] at h
    by_cases h2 : insR l q l.length = 0
    · rw [if_neg (by omega)] at h
      refine ⟨h1, h2, ?_⟩
      cases he : okEnd (l.getD (l.length - 1) d4).1 with
      | true => rfl
      | false => rw [he] at h; simp at h
    · rw [if_pos h2] at h; exact absurd h h2
  · rw [if_pos h1] at h; exact absurd h h1
theorem insR_0 {l : List I4} {q : Nat} (h : insR l q l.length = 0) (k : Nat) (hk : k < l.length) : ck4 (l.getD k d4) = 0 ∧ ld4 (l.getD k d4) l.length q = true := by
  by_cases h1 : insR l q (k + 1) = 0
  · rw [insR] at h1
    by_cases h0 : insR l q k = 0
    · rw [if_neg (by omega)] at h1
      by_cases h2 : ck4 (l.getD k d4) = 0
      · rw [if_neg (by omega)] at h1
        refine ⟨h2, ?_⟩
        cases he : ld4 (l.getD k d4) l.length q with
        | true => rfl
        | false => rw [he] at h1; simp at h1
      · rw [if_pos h2] at h1; exact absurd h1 h2
    · rw [if_pos h0] at h1; exact absurd h1 h0
  · exact absurd (insR_stay l q (k + 1) l.length (by omega) h1 ▸ h) h1
theorem fnR_0 {L : List (List I4)} (h : fnR L L.length = 0) (k : Nat) (hk : k < L.length) : fnE (L.getD k []) L.length = 0 := by
  by_cases h1 : fnR L (k + 1) = 0
  · rw [fnR] at h1
    by_cases h0 : fnR L k = 0
    · rw [if_neg (by omega)] at h1
      exact h1
    · rw [if_pos h0] at h1; exact absurd h1 h0
  · exact absurd (fnR_stay L (k + 1) L.length (by omega) h1 ▸ h) h1
theorem prE_0 {m : Int} {L : List (List I4)} (h : prE m L = 0) : cntE m L.length = 0 ∧ fnR L L.length = 0 := by
  unfold prE at h
  by_cases h1 : cntE m L.length = 0
  · rw [if_neg (by omega)] at h
    exact ⟨h1, h⟩
  · rw [if_pos h1] at h; exact absurd h h1

end Go.Proofs.Ytbmndjedgedbdaa.pr
