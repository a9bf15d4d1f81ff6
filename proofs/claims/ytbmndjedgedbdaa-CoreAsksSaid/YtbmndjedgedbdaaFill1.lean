/- Fill of a store, whoever looks at it. -/
import Derived.Test.YtbmndjedgedbdaaKeep
namespace Go.Proofs.Ytbmndjedgedbdaa
open Go.ChangeShapes Go.WideShapes Go.ChangeAt Go.RowKit
set_option linter.unusedVariables false
set_option linter.unusedSimpArgs false
def StoreH (w : World) (S g : Nat) (xs : List Int) (hv : Value) : Prop :=
  w.heap[S]? = some (.cells #[.slice (some ⟨g, 0, none⟩) xs.length xs.length, hv] 101 (0, 0)) ∧ w.heap[g]? = some (.cells (xs.map (Value.int .i64)).toArray 3 (0, 0)) ∧ S ≠ g
theorem StoreAt.h {w : World} {S g : Nat} {xs : List Int} (h : StoreAt w S g xs) : StoreH w S g xs .nilFunc := h
theorem StoreH.facts {w : World} {S g : Nat} {xs : List Int} {hv : Value} (h : StoreH w S g xs hv) :
    w.cell? ⟨S, 0, none⟩ = some (.slice (some ⟨g, 0, none⟩) xs.length xs.length) ∧ w.cell? ⟨S, 1, none⟩ = some hv ∧ (∀ i, i < xs.length → w.cell? ⟨g, i, none⟩ = some (.int .i64 (xs.getD i 0))) ∧ (∀ i, w.frozen? ⟨g, i, none⟩ = false) ∧ S < w.heap.size ∧ g < w.heap.size ∧ w.frozen? ⟨S, 1, none⟩ = false := by
  obtain ⟨h1, h2, h3⟩ := h
  refine ⟨by simp [World.cell?, h1], by simp [World.cell?, h1], fun i hi => ?_, fun i => by simp [World.frozen?, h2], lt_of_heap h1, lt_of_heap h2, by simp [World.frozen?, h1]⟩
  simp [World.cell?, h2, hi]
theorem StoreH.set {w : World} {S g : Nat} {xs : List Int} {hv : Value} (h : StoreH w S g xs hv) (i : Nat) (x : Int) : StoreH (w.setCell ⟨g, i, none⟩ (.int .i64 x)) S g (xs.set i x) hv := by
  obtain ⟨h1, h2, h3⟩ := h
  refine ⟨?_, ?_, h3⟩
  · rw [List.length_set]
    show (w.heap.modify g _)[S]? = _
    rw [Array.getElem?_modify, if_neg (fun e => h3 e.symm)]
    exact h1
  · obtain ⟨hlt, hk⟩ := Array.getElem?_eq_some_iff.1 h2
    show (w.heap.modify g _)[g]? = _
    rw [Array.getElem?_eq_getElem (by rw [Array.size_modify]; exact hlt), Array.getElem_modify_self, hk]
    simp
theorem StoreH.below {w w' : World} {S g : Nat} {xs : List Int} {hv : Value} (h : StoreH w S g xs hv) (hb : Below w.heap.size w w') : StoreH w' S g xs hv :=
  ⟨(hb.block S (lt_of_heap h.1)).trans h.1, (hb.block g (lt_of_heap h.2.1)).trans h.2.1, h.2.2⟩
theorem size_h (S g : Nat) (xs : List Int) (hv : Value) (w : World) (h : StoreH w S g xs hv) : Calls Try.prog 68 #[.pointer (some ⟨S, 0, none⟩)] w fun e w' => e = .returned (.int .i64 xs.length) ∧ w = w' := by
  obtain ⟨h0, h1, _, _, _, _, _⟩ := h.facts
  clear h
  generalize xs.length = n at *
  go_enter Try.func68, Try.ntmps68
  go_wp2
  go_ret
  exact ⟨rfl, rfl⟩
def fl (xs : List Int) (A : Nat) (n : Int) : Nat → List Int
  | 0 => xs
  | k + 1 => (fl xs A n k).set (A + k) n
theorem fl_len (xs : List Int) (A : Nat) (n : Int) : ∀ k, (fl xs A n k).length = xs.length
  | 0 => rfl
  | k + 1 => by show ((fl xs A n k).set (A + k) n).length = _; rw [List.length_set]; exact fl_len xs A n k
theorem fl_get (xs : List Int) (A : Nat) (n : Int) (j : Nat) (hj : j < xs.length) : ∀ k, (fl xs A n k).getD j 0 = if A ≤ j ∧ j < A + k then n else xs.getD j 0
  | 0 => by rw [if_neg (by omega)]; rfl
  | k + 1 => by
    have ih := fl_get xs A n j hj k
    have hl := fl_len xs A n k
    show ((fl xs A n k).set (A + k) n).getD j 0 = _
    by_cases e : j = A + k
    · subst e
      rw [if_pos (by omega), List.getD_eq_getElem?_getD, List.getElem?_set_self (by omega)]
      rfl
    · rw [List.getD_eq_getElem?_getD, List.getElem?_set_ne (by omega), ← List.getD_eq_getElem?_getD, ih]
      by_cases h : A ≤ j ∧ j < A + k
      · rw [if_pos h, if_pos (by omega)]
      · rw [if_neg h, if_neg (by omega)]
set_option maxHeartbeats 1000000 in
set_option maxRecDepth 20000 in
theorem fill_pp (S g A M : Nat) (xs : List Int) (hv : Value) (n : Int) (w0 w : World) (h : StoreH w S g xs hv) (hB : Below w0.heap.size w0 w) (hg0 : w0.heap.size ≤ g) (hA : A ≤ 4398046511104) (hM : M ≤ 4398046511104) (hl : xs.length ≤ 300) :
    Calls Try.prog 59 #[.pointer (some ⟨S, 0, none⟩), .int .i64 A, .int .i64 M, .int .i64 n] w fun e w' => e = .returned (.tuple #[]) ∧ ∃ k, StoreH w' S g (fl xs A n k) hv ∧ Keep g w w' ∧ Below w0.heap.size w0 w' ∧ (∀ j : Nat, A ≤ j → j < xs.length → (j < A + k ↔ (j : Int) < ((A : Nat) : Int) + ((M : Int)))) := by
  have hA0 : (0 : Int) ≤ A := by omega
  have hM0 : (0 : Int) ≤ M := by omega
  have hdA : decide ((A : Int) < 0) = false := by simp
  go_enter Try.func59, Try.ntmps59
  go_wp2_with fail
  go_loopw [8] (fun i wr => ∃ k : Nat, i = .int .i64 ((A + k : Nat) : Int) ∧ k ≤ 300 ∧ (k = 0 ∨ (k : Int) ≤ (M : Int)) ∧ StoreH wr S g (fl xs A n k) hv ∧ Keep g w wr ∧ Below w0.heap.size w0 wr) (fun i _ => A + 301 - (intOf i).toNat)
  case atStart => exact ⟨0, by first | rfl | (simp; done), by omega, .inl rfl, h, Keep.refl g w, hB⟩
  case round =>
    clear h hB
    obtain ⟨k, rfl, hk3, hkM, h, hkp, hbb⟩ := hrel
    have hlen : (fl xs A n k).length = xs.length := fl_len xs A n k
    by_cases hin : A + k < xs.length
    · have hi1 : ((A + k : Nat) : Int) < (xs.length : Int) := by omega
      by_cases hm : (k : Int) < (M : Int)
      · obtain ⟨s0, s1, hc, hf, _, _, _⟩ := h.facts
        have cc := hc (A + k) (by rw [hlen]; exact hin)
        have ff := hf (A + k)
        rw [hlen] at s0
        have hm2 : ((A + k : Nat) : Int) - ((A : Nat) : Int) < (M : Int) := by omega
        have hH := Lib.hid h
        have hS := size_h S g _ hv wr h
        rw [hlen] at hS
        generalize xs.length = L at *
        clear hc hf h
        go_wp2_with (first | (go_at_call 68; refine hS.mono ?_; rintro e wx ⟨rfl, rfl⟩))
        go_roundw
        case rel => exact ⟨k + 1, by go_num, by omega, .inr (by omega), hH.out.set _ _, hkp.trans (Keep.set rfl), hbb.setCell hg0 _⟩
        case measure => simp [intOf]; omega
      · have hm2 : ¬ ((A + k : Nat) : Int) - ((A : Nat) : Int) < (M : Int) := by omega
        have hH := Lib.hid h
        have hS := size_h S g _ hv wr h
        rw [hlen] at hS
        have HL := Lib.hid (rfl : xs.length = xs.length)
        clear h
        go_wp2_with (first | (go_at_call 68; refine hS.mono ?_; rintro e wx ⟨rfl, rfl⟩))
        go_end0
        exact ⟨rfl, k, hH.out, hkp, hbb, fun j hj hjl => by omega⟩
    · have hi1 : ¬ ((A + k : Nat) : Int) < (xs.length : Int) := by omega
      have hH := Lib.hid h
      have hS := size_h S g _ hv wr h
      rw [hlen] at hS
      clear h
      go_wp2_with (first | (go_at_call 68; refine hS.mono ?_; rintro e wx ⟨rfl, rfl⟩))
      go_end0
      exact ⟨rfl, k, hH.out, hkp, hbb, fun j hj hjl => by omega⟩
theorem fill_j (S g A M : Nat) (xs : List Int) (n : Int) (w0 w : World) (h : J w0 w S g xs) (hAM : A + M ≤ xs.length) (hl : xs.length ≤ 300) :
    Calls Try.prog 59 #[.pointer (some ⟨S, 0, none⟩), .int .i64 A, .int .i64 M, .int .i64 n] w fun e w' => e = .returned (.tuple #[]) ∧ J w0 w' S g (fl xs A n M) ∧ Keep g w w' := by
  refine (fill_pp S g A M xs .nilFunc n w0 w h.1.h h.2.1 h.2.2 (by omega) (by omega) hl).mono ?_
  rintro e w' ⟨he, k, h1, h2, h3, h4⟩
  have e2 : fl xs A n k = fl xs A n M := by
    apply List.ext_getElem (by rw [fl_len, fl_len])
    intro j hj1 hj2
    rw [fl_len] at hj1
    have a1 := fl_get xs A n j hj1 k
    have a2 := fl_get xs A n j hj1 M
    have hk : (A ≤ j ∧ j < A + k) ↔ (A ≤ j ∧ j < A + M) := by
      constructor
      · rintro ⟨b1, b2⟩; exact ⟨b1, by have := (h4 j b1 hj1).1 b2; omega⟩
      · rintro ⟨b1, b2⟩; exact ⟨b1, (h4 j b1 hj1).2 (by omega)⟩
    rw [List.getD_eq_getElem?_getD, List.getElem?_eq_getElem (by rw [fl_len]; exact hj1)] at a1 a2
    simp only [Option.getD_some] at a1 a2
    rw [a1, a2]
    by_cases hc : A ≤ j ∧ j < A + M
    · rw [if_pos (hk.2 hc), if_pos hc]
    · rw [if_neg (fun e => hc (hk.1 e)), if_neg hc]
  rw [e2] at h1
  exact ⟨he, ⟨h1, h3, h.2.2⟩, h2⟩
end Go.Proofs.Ytbmndjedgedbdaa
