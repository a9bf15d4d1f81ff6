/- What is put is got; one byte more, one byte fewer (layer 4). Pure. -/
import Derived.Test.YthllikmnlnakkaaPrN
namespace Go.Proofs.Ythllikmnlnakkaa.pr
open Go.ChangeShapes Go.WideShapes Go.ChangeAt Go.RowKit
open Go.Proofs.Ythllikmnlnakkaa.bin Go.Proofs.Ythllikmnlnakkaa.bits Go.Proofs.Ythllikmnlnakkaa.ins
set_option linter.unusedVariables false
set_option linter.unusedSimpArgs false
theorem take_app {s t : List UInt8} {n : Nat} (h : s.length = n) : (s ++ t).take n = s := by rw [← h, List.take_left]
theorem drop_app {s t : List UInt8} {n : Nat} (h : s.length = n) : (s ++ t).drop n = t := by rw [← h, List.drop_left]
theorem enc_got (x : I4) (h : ck4 x = 0) : getE (enc4 x) = 0 ∧ gI (enc4 x) = x := by
  obtain ⟨op, A, B, C⟩ := x
  have := get_put op A B C h
  unfold GV at this
  simp only [Value.tuple.injEq, Array.mk.injEq, List.cons.injEq, Value.agg.injEq, Value.int.injEq, true_and, and_true] at this
  obtain ⟨⟨h0, h1, h2, h3⟩, h4⟩ := this
  refine ⟨h4, ?_⟩
  show (getV (encI op A B C) 0, getV (encI op A B C) 1, getV (encI op A B C) 2, getV (encI op A B C) 3) = _
  rw [h0, h1, h2, h3]
theorem stI_enc (F : List I4 → List UInt8 → R3) : ∀ (xs c : List I4) (z : List UInt8), (∀ x ∈ xs, ck4 x = 0) → stI F xs.length c (xs.flatMap enc4 ++ z) = F (c ++ xs) z := by
  intro xs
  induction xs with
  | nil => intro c z _; simp [stI]
  | cons x xs ih =>
    intro c z h
    obtain ⟨g1, g2⟩ := enc_got x (h x (by simp))
    have hl := enc4_len x
    have ht : ((x :: xs).flatMap enc4 ++ z).take 4 = enc4 x := by
      rw [List.flatMap_cons, List.append_assoc, ← hl, List.take_left]
    have hd : ((x :: xs).flatMap enc4 ++ z).drop 4 = xs.flatMap enc4 ++ z := by
      rw [List.flatMap_cons, List.append_assoc, ← hl, List.drop_left]
    rw [List.length_cons, stI, ht, hd, g1, if_neg (by simp), g2, ih _ _ (fun y hy => h y (List.mem_cons_of_mem _ hy)), List.append_assoc]
    rfl
/-- one byte is missing -/
theorem stI_cut (F : List I4 → List UInt8 → R3) : ∀ (xs c : List I4) (r : List UInt8) (b : UInt8), xs ≠ [] → (∀ x ∈ xs, ck4 x = 0) → xs.flatMap enc4 = r ++ [b] → stI F xs.length c r = bad 1 := by
  intro xs
  induction xs with
  | nil => intro c r b h; exact absurd rfl h
  | cons x xs ih =>
    intro c r b _ h hr
    obtain ⟨g1, g2⟩ := enc_got x (h x (by simp))
    have hl := enc4_len x
    by_cases h0 : xs = []
    · subst h0
      have hrl : r.length = 3 := by
        have := congrArg List.length hr
        simp [hl] at this
        omega
      have hs : getE (r.take 4) = 1 := by
        unfold getE
        rw [if_pos (by rw [List.length_take]; omega)]
      rw [List.length_cons, stI, hs, if_pos (by decide)]
    · have hle : 4 ≤ r.length := by
        have h1 := congrArg List.length hr
        rw [encs_len, List.length_append, List.length_cons] at h1
        have : 0 < xs.length := List.length_pos_iff.2 h0
        simp at h1
        omega
      rw [List.flatMap_cons] at hr
      have ht : r.take 4 = enc4 x := by
        have := congrArg (List.take 4) hr
        rw [← hl, List.take_left, hl, List.take_append_of_le_length hle] at this
        exact this.symm
      have hd : xs.flatMap enc4 = r.drop 4 ++ [b] := by
        have := congrArg (List.drop 4) hr
        rw [← hl, List.drop_left, hl, List.drop_append_of_le_length hle] at this
        exact this
      rw [List.length_cons, stI, ht, g1, if_neg (by simp)]
      exact ih _ _ b h0 (fun y hy => h y (List.mem_cons_of_mem _ hy)) hd
theorem ofB_put2 (n : Nat) (h : n ≤ 65535) : ofB (putB n 2) = n := by
  have h1 : ((ofB (putB n 2) : Nat) : Int) = n := by
    rw [putB2, ofB2, byte0, byte1]
    omega
  omega
theorem ofB_put1 (n : Nat) (h : n ≤ 255) : ofB (putB n 1) = n := by
  have h1 : ((ofB (putB n 1) : Nat) : Int) = n := by
    rw [putB1, ofB_one, byte0]
    omega
  omega
/-- a function that may be written -/
def Gd (l : List I4) : Prop := lenE l.length = 0 ∧ ∀ x ∈ l, ck4 x = 0
theorem fn_head (l : List I4) (z : List UInt8) (h : Gd l) : ¬ (fnB l ++ z).length < 2 ∧ ofB ((fnB l ++ z).take 2) = l.length ∧ (fnB l ++ z).drop 2 = l.flatMap enc4 ++ z := by
  obtain ⟨h1, h2⟩ := lenE_0 h.1
  have hp : (putB l.length 2).length = 2 := putB_len _ _
  refine ⟨by rw [List.length_append, fnB_len]; omega, ?_, ?_⟩
  · unfold fnB
    rw [List.append_assoc, take_app hp]
    exact ofB_put2 _ (by omega)
  · unfold fnB
    rw [List.append_assoc, drop_app hp]
theorem stF_enc (m : Int) : ∀ (L acc : List (List I4)) (z : List UInt8), (∀ l ∈ L, Gd l) → stF m L.length acc (L.flatMap fnB ++ z) = stF m 0 (acc ++ L) z := by
  intro L
  induction L with
  | nil => intro acc z _; simp
  | cons l L ih =>
    intro acc z h
    have hg := h l (by simp)
    obtain ⟨h1, h2, h3⟩ := fn_head l (L.flatMap fnB ++ z) hg
    rw [List.length_cons, List.flatMap_cons, List.append_assoc]
    conv => lhs; rw [stF, if_neg h1, h2, hg.1, if_neg (by simp), h3, stI_enc _ _ _ _ hg.2, List.nil_append, ih _ _ (fun y hy => h y (List.mem_cons_of_mem _ hy)), List.append_assoc]
    rfl
theorem stF_cut (m : Int) : ∀ (L acc : List (List I4)) (r : List UInt8) (b : UInt8), L ≠ [] → (∀ l ∈ L, Gd l) → L.flatMap fnB = r ++ [b] → stF m L.length acc r = bad 1 := by
  intro L
  induction L with
  | nil => intro acc r b h; exact absurd rfl h
  | cons l L ih =>
    intro acc r b _ h hr
    have hg := h l (by simp)
    obtain ⟨n1, n2⟩ := lenE_0 hg.1
    have hll : (l.flatMap enc4).length = 4 * l.length := encs_len l
    have hln : l ≠ [] := fun e => by rw [e] at n1; simp at n1
    by_cases h0 : L = []
    · subst h0
      rw [List.flatMap_cons, List.flatMap_nil, List.append_nil] at hr
      have hlen := congrArg List.length hr
      rw [fnB_len, List.length_append, List.length_singleton] at hlen
      have hp : (putB l.length 2).length = 2 := putB_len _ _
      have hr' := hr
      unfold fnB at hr'
      have ht : r.take 2 = putB l.length 2 := by
        have := congrArg (List.take 2) hr'
        rw [take_app hp, List.take_append_of_le_length (by omega)] at this
        exact this.symm
      have hd : l.flatMap enc4 = r.drop 2 ++ [b] := by
        have := congrArg (List.drop 2) hr'
        rw [drop_app hp, List.drop_append_of_le_length (by omega)] at this
        exact this
      rw [List.length_cons, stF, if_neg (by omega), ht, ofB_put2 _ (by omega), hg.1, if_neg (by simp)]
      exact stI_cut _ _ _ _ b hln hg.2 hd
    · rw [List.flatMap_cons] at hr
      obtain ⟨q, hq⟩ : ∃ q, L.flatMap fnB = q ++ [b] ∧ r = fnB l ++ q := by
        have hne : L.flatMap fnB ≠ [] := by
          cases L with
          | nil => exact absurd rfl h0
          | cons l' L' =>
            intro e
            have := congrArg List.length e
            rw [List.flatMap_cons, List.length_append, fnB_len] at this
            simp at this
        have hd := List.dropLast_concat_getLast hne
        refine ⟨(L.flatMap fnB).dropLast, ?_⟩
        rw [← hd, ← List.append_assoc] at hr
        obtain ⟨e1, e2⟩ := List.append_inj' hr rfl
        simp only [List.cons.injEq, and_true] at e2
        refine ⟨?_, e1.symm⟩
        rw [← e2]
        exact hd.symm
      obtain ⟨hq1, rfl⟩ := hq
      obtain ⟨h1, h2, h3⟩ := fn_head l q hg
      rw [List.length_cons, stF, if_neg h1, h2, hg.1, if_neg (by simp), h3, stI_enc _ _ _ _ hg.2]
      exact ih _ _ b h0 (fun y hy => h y (List.mem_cons_of_mem _ hy)) hq1
end Go.Proofs.Ythllikmnlnakkaa.pr
