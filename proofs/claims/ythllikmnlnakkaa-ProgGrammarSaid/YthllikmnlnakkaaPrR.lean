/- What is put is got; one byte more, one byte fewer: whole programs (layer 4). Pure. -/
import Derived.Test.YthllikmnlnakkaaPrQ
namespace Go.Proofs.Ythllikmnlnakkaa.pr
open Go.ChangeShapes Go.WideShapes Go.ChangeAt Go.RowKit
open Go.Proofs.Ythllikmnlnakkaa.bin Go.Proofs.Ythllikmnlnakkaa.bits Go.Proofs.Ythllikmnlnakkaa.ins
set_option linter.unusedVariables false
set_option linter.unusedSimpArgs false
theorem gd_of {m : Int} {L : List (List I4)} (h : prE m L = 0) : ∀ l ∈ L, Gd l := by
  intro l hl
  obtain ⟨h1, h2⟩ := prE_0 h
  obtain ⟨i, hi⟩ := List.getElem?_of_mem hl
  have hlt := (List.getElem?_eq_some_iff.1 hi).1
  have hf := fnR_0 h2 i hlt
  rw [List.getD_eq_getElem?_getD, hi, Option.getD_some] at hf
  obtain ⟨h3, h4, _⟩ := fnE_0 hf
  refine ⟨h3, fun x hx => ?_⟩
  obtain ⟨j, hj⟩ := List.getElem?_of_mem hx
  have hjt := (List.getElem?_eq_some_iff.1 hj).1
  have := (insR_0 h4 j hjt).1
  rw [List.getD_eq_getElem?_getD, hj, Option.getD_some] at this
  exact this
theorem ofB_putM (m : Int) (h0 : 0 ≤ m) (h : m ≤ 65535) : (ofB (putB m 2) : Int) = m := by
  rw [putB2, ofB2, byte0, byte1]
  omega
theorem hd_facts (m : Int) (n : Nat) (z : List UInt8) (h0 : 0 ≤ m) (h1 : m ≤ 256) (hn : n ≤ 16) : (hdB m n ++ z).take 3 = [72, 82, 1] ∧ (gM (hdB m n ++ z) : Int) = m ∧ gN (hdB m n ++ z) = n ∧ (hdB m n ++ z).drop 6 = z := by
  have p1 : (putB n 1).length = 1 := putB_len _ _
  have p2 : (putB m 2).length = 2 := putB_len _ _
  have p3 : (([72, 82, 1] : List UInt8)).length = 3 := rfl
  have e : hdB m n ++ z = ([72, 82, 1] : List UInt8) ++ (putB n 1 ++ (putB m 2 ++ z)) := by unfold hdB; rw [List.append_assoc, List.append_assoc]
  have d3 : (hdB m n ++ z).drop 3 = putB n 1 ++ (putB m 2 ++ z) := by rw [e, drop_app p3]
  have d4 : (hdB m n ++ z).drop 4 = putB m 2 ++ z := by
    rw [show (4 : Nat) = 3 + 1 from rfl, ← List.drop_drop, d3, drop_app p1]
  refine ⟨by rw [e, take_app p3], ?_, ?_, ?_⟩
  · unfold gM
    rw [d4, take_app p2]
    exact ofB_putM m h0 (by omega)
  · unfold gN
    rw [d3, take_app p1]
    exact ofB_put1 n (by omega)
  · rw [show (6 : Nat) = 4 + 2 from rfl, ← List.drop_drop, d4, drop_app p2]
/-- what Get says of the head of a program and what follows it -/
theorem getP_hd (m : Int) (n : Nat) (z : List UInt8) (h : cntE m n = 0) : getP (hdB m n ++ z) = stF m n [] z := by
  obtain ⟨h0, h1, h2, h3⟩ := cntE_0 h
  obtain ⟨e1, e2, e3, e4⟩ := hd_facts m n z h0 h1 h3
  unfold getP
  rw [if_neg (by rw [List.length_append, hdB_len]; omega), e1, if_neg (by simp), e2, e3, h, if_neg (by simp), e4]
theorem getP_more (m : Int) (L : List (List I4)) (z : List UInt8) (h : prE m L = 0) : getP (prB m L ++ z) = if z ≠ [] then bad 2 else (0, m, L) := by
  unfold prB
  rw [List.append_assoc, getP_hd m _ _ (prE_0 h).1, stF_enc m L [] z (gd_of h), List.nil_append, stF, h]
  simp
theorem getP_put (m : Int) (L : List (List I4)) (h : prE m L = 0) : getP (prB m L) = (0, m, L) := by
  have := getP_more m L [] h
  simpa using this
theorem getP_cut (m : Int) (L : List (List I4)) (r : List UInt8) (b : UInt8) (h : prE m L = 0) (hr : prB m L = r ++ [b]) : getP r = bad 1 := by
  obtain ⟨hc, _⟩ := prE_0 h
  obtain ⟨_, _, hn, _⟩ := cntE_0 hc
  have hg := gd_of h
  have hL : L ≠ [] := fun e => by rw [e] at hn; simp at hn
  have hne : L.flatMap fnB ≠ [] := by
    cases L with
    | nil => exact absurd rfl hL
    | cons l' L' =>
      intro e
      have := congrArg List.length e
      rw [List.flatMap_cons, List.length_append, fnB_len] at this
      simp at this
  have hd := List.dropLast_concat_getLast hne
  unfold prB at hr
  rw [← hd, ← List.append_assoc] at hr
  obtain ⟨e1, e2⟩ := List.append_inj' hr rfl
  simp only [List.cons.injEq, and_true] at e2
  rw [← e1, getP_hd m _ _ hc]
  exact stF_cut m L [] _ b hL hg (by rw [← e2]; exact hd.symm)
theorem prB_len (m : Int) (L : List (List I4)) : (prB m L).length = 6 + (L.map (fun l => 2 + 4 * l.length)).sum := by
  unfold prB
  rw [List.length_append, hdB_len]
  congr 1
  induction L with
  | nil => rfl
  | cons l L ih => rw [List.flatMap_cons, List.length_append, fnB_len, ih, List.map_cons, List.sum_cons]
end Go.Proofs.Ythllikmnlnakkaa.pr
