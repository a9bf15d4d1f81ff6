/- Fill of a store, whoever looks at it. -/
import Derived.Test.YtfigabjcmpakeaaKeep
namespace Go.Proofs.Ytfigabjcmpakeaa.fx
open Go.ChangeShapes Go.WideShapes Go.ChangeAt Go.RowKit
set_option linter.unusedVariables false
set_option linter.unusedSimpArgs false
def StoreH (w : World) (S g : Nat) (xs : List Int) (hv : Value) : Prop :=
  w.heap[S]? = some (.cells #[.slice (some ⟨g, 0, none⟩) xs.length xs.length, hv] 91 (0, 0)) ∧ w.heap[g]? = some (.cells (xs.map (Value.int .i64)).toArray 3 (0, 0)) ∧ S ≠ g
theorem StoreAt.h {w : World} {S g : Nat} {xs : List Int} (h : StoreAt w S g xs) : StoreH w S g xs .nilFunc := h
theorem StoreH.facts {w : World} {S g : Nat} {xs : List Int} {hv : Value} (h : StoreH w S g xs hv) :
    w.cell? ⟨S, 0, none⟩ = some (.slice (some ⟨g, 0, none⟩) xs.length xs.length) ∧ w.cell? ⟨S, 1, none⟩ = some hv ∧ (∀ i, i < xs.length → w.cell? ⟨g, i, none⟩ = some (.int .i64 (xs.getD i 0))) ∧ (∀ i, w.frozen? ⟨g, i, none⟩ = false) ∧ S < w.heap.size ∧ g < w.heap.size ∧ w.frozen? ⟨S, 1, none⟩ = false := by
  obtain ⟨h1, h2, h3⟩ := h
  refine ⟨by simp [World.cell?, h1], by simp [World.cell?, h1], fun i hi => ?_, fun i => by simp [World.frozen?, h2], lt_of_heap h1, lt_of_heap h2, by simp [World.frozen?, h1]⟩
  simp [World.cell?, h2, hi]
theorem StoreH.set {w : World} {S g : Nat} {xs : List Int} {hv : Value} (h : StoreH w S g xs hv) (i : Nat) (x : Int) : StoreH (w.setCell ⟨g, i, none⟩ (.int .i64 x)) S g (xs.set i x) hv := by
  obtain ⟨h1, h2, h3⟩ := h
  refine ⟨?_, ?_, h3⟩
  · rw [List.length_set]
    show (w.heap.modify g _)[S]? = _
    rw [Array.getElem?_modify, if_neg (fun e => h3 e.symm)]
    exact h1
  · obtain ⟨hlt, hk⟩ := Array.getElem?_eq_some_iff.1 h2
    show (w.heap.modify g _)[g]? = _
    rw [Array.getElem?_eq_getElem (by rw [Array.size_modify]; exact hlt), Array.getElem_modify_self, hk]
    simp
theorem StoreH.below {w w' : World} {S g : Nat} {xs : List Int} {hv : Value} (h : StoreH w S g xs hv) (hb : Below w.heap.size w w') : StoreH w' S g xs hv :=
  ⟨(hb.block S (lt_of_heap h.1)).trans h.1, (hb.block g (lt_of_heap h.2.1)).trans h.2.1, h.2.2⟩
theorem size_h (S g : Nat) (xs : List Int) (hv : Value) (w : World) (h : StoreH w S g xs hv) : Calls Try.prog 23 #[.pointer (some ⟨S, 0, none⟩)] w fun e w' => e = .returned (.int .i64 xs.length) ∧ w = w' := by
  obtain ⟨h0, h1, _, _, _, _, _⟩ := h.facts
  clear h
  generalize xs.length = n at *
  go_enter Try.func23, Try.ntmps23
  go_wp2
  go_ret
  exact ⟨rfl, rfl⟩
def fl (xs : List Int) (A : Nat) (n : Int) : Nat → List Int
  | 0 => xs
  | k + 1 => (fl xs A n k).set (A + k) n
theorem fl_len (xs : List Int) (A : Nat) (n : Int) : ∀ k, (fl xs A n k).length = xs.length
  | 0 => rfl
  | k + 1 => by show ((fl xs A n k).set (A + k) n).length = _; rw [List.length_set]; exact fl_len xs A n k
theorem fl_get (xs : List Int) (A : Nat) (n : Int) (j : Nat) (hj : j < xs.length) : ∀ k, (fl xs A n k).getD j 0 = if A ≤ j ∧ j < A + k then n else xs.getD j 0
  | 0 => by rw [if_neg (by omega)]; rfl
  | k + 1 => by
    have ih := fl_get xs A n j hj k
    have hl := fl_len xs A n k
    show ((fl xs A n k).set (A + k) n).getD j 0 = _
    by_cases e : j = A + k
    · subst e
      rw [if_pos (by omega), List.getD_eq_getElem?_getD, List.getElem?_set_self (by omega)]
      rfl
    · rw [List.getD_eq_getElem?_getD, List.getElem?_set_ne (by omega), ← List.getD_eq_getElem?_getD, ih]
      by_cases h : A ≤ j ∧ j < A + k
      · rw [if_pos h, if_pos (by omega)]
      · rw [if_neg h, if_neg (by omega)]
set_option maxHeartbeats 1000000 in
set_option maxRecDepth 20000 in
theorem fill_pp (S g A M : Nat) (xs : List Int) (hv : Value) (n : Int) (w0 w : World) (h : StoreH w S g xs hv) (hB : Below w0.heap.size w0 w) (hg0 : w0.heap.size ≤ g) (hA : A ≤ 9223372036854775807) (hM : M ≤ 9223372036854775807) (hl : xs.length ≤ 300) :
    Calls Try.prog 28 #[.pointer (some ⟨S, 0, none⟩), .int .i64 A, .int .i64 M, .int .i64 n] w fun e w' => e = .returned (.tuple #[]) ∧ ∃ k, StoreH w' S g (fl xs A n k) hv ∧ Keep g w w' ∧ Below w0.heap.size w0 w' ∧ (∀ j : Nat, A ≤ j → j < xs.length → (j < A + k ↔ (j : Int) < ((A : Nat) : Int) + ((M : Int)))) := by
  have hA0 : (0 : Int) ≤ A := by omega
  have hM0 : (0 : Int) ≤ M := by omega
  have hdA : decide ((A : Int) < 0) = false := by simp
  go_enter Try.func28, Try.ntmps28
  go_wp2_with fail
  go_loopw [8] (fun i wr => ∃ k : Nat, i = .int .i64 ((A + k : Nat) : Int) ∧ k ≤ 300 ∧ (k = 0 ∨ (k : Int) ≤ (M : Int)) ∧ StoreH wr S g (fl xs A n k) hv ∧ Keep g w wr ∧ Below w0.heap.size w0 wr) (fun i _ => A + 301 - (intOf i).toNat)
  case atStart => exact ⟨0, by first | rfl | (simp; done), by omega, .inl rfl, h, Keep.refl g w, hB⟩
  case round =>
    clear h hB
    obtain ⟨k, rfl, hk3, hkM, h, hkp, hbb⟩ := hrel
    have hlen : (fl xs A n k).length = xs.length := fl_len xs A n k
    by_cases hin : A + k < xs.length
    · have hi1 : ((A + k : Nat) : Int) < (xs.length : Int) := by omega
      by_cases hm : (k : Int) < (M : Int)
      · obtain ⟨s0, s1, hc, hf, _, _, _⟩ := h.facts
        have cc := hc (A + k) (by rw [hlen]; exact hin)
        have ff := hf (A + k)
        rw [hlen] at s0
        have hm2 : ((A + k : Nat) : Int) - ((A : Nat) : Int) < (M : Int) := by omega
        have hH := Lib.hid h
        have hS := size_h S g _ hv wr h
        rw [hlen] at hS
        generalize xs.length = L at *
        clear hc hf h
        go_wp2_with (first | (go_at_call 23; refine hS.mono ?_; rintro e wx ⟨rfl, rfl⟩))
        go_roundw
        case rel => exact ⟨k + 1, by go_num, by omega, .inr (by omega), hH.out.set _ _, hkp.trans (Keep.set rfl), hbb.setCell hg0 _⟩
        case measure => simp [intOf]; omega
      · have hm2 : ¬ ((A + k : Nat) : Int) - ((A : Nat) : Int) < (M : Int) := by omega
        have hH := Lib.hid h
        have hS := size_h S g _ hv wr h
        rw [hlen] at hS
        have HL := Lib.hid (rfl : xs.length = xs.length)
        clear h
        go_wp2_with (first | (go_at_call 23; refine hS.mono ?_; rintro e wx ⟨rfl, rfl⟩))
        go_end0
        exact ⟨rfl, k, hH.out, hkp, hbb, fun j hj hjl => by omega⟩
    · have hi1 : ¬ ((A + k : Nat) : Int) < (xs.length : Int) := by omega
      have hH := Lib.hid h
      have hS := size_h S g _ hv wr h
      rw [hlen] at hS
      clear h
      go_wp2_with (first | (go_at_call 23; refine hS.mono ?_; rintro e wx ⟨rfl, rfl⟩))
      go_end0
      exact ⟨rfl, k, hH.out, hkp, hbb, fun j hj hjl => by omega⟩
set_option maxHeartbeats 1000000 in
set_option maxRecDepth 20000 in
theorem fill_pn (S g A : Nat) (m : Int) (xs : List Int) (hv : Value) (n : Int) (w0 w : World) (h : StoreH w S g xs hv) (hB : Below w0.heap.size w0 w) (hg0 : w0.heap.size ≤ g) (hA : A ≤ 9223372036854775807) (hm0 : m < 0) (hl : xs.length ≤ 300) :
    Calls Try.prog 28 #[.pointer (some ⟨S, 0, none⟩), .int .i64 A, .int .i64 m, .int .i64 n] w fun e w' => e = .returned (.tuple #[]) ∧ ∃ k, StoreH w' S g (fl xs A n k) hv ∧ Keep g w w' ∧ Below w0.heap.size w0 w' ∧ (∀ j : Nat, A ≤ j → j < xs.length → (j < A + k ↔ (j : Int) < ((A : Nat) : Int) + (0))) := by
  have hA0 : (0 : Int) ≤ A := by omega
  have hdA : decide ((A : Int) < 0) = false := by simp
  go_enter Try.func28, Try.ntmps28
  go_wp2_with fail
  go_loopw [8] (fun i wr => ∃ k : Nat, i = .int .i64 ((A + k : Nat) : Int) ∧ k ≤ 300 ∧ (k = 0 ∨ (k : Int) ≤ 0) ∧ StoreH wr S g (fl xs A n k) hv ∧ Keep g w wr ∧ Below w0.heap.size w0 wr) (fun i _ => A + 301 - (intOf i).toNat)
  case atStart => exact ⟨0, by first | rfl | (simp; done), by omega, .inl rfl, h, Keep.refl g w, hB⟩
  case round =>
    clear h hB
    obtain ⟨k, rfl, hk3, hkM, h, hkp, hbb⟩ := hrel
    have hlen : (fl xs A n k).length = xs.length := fl_len xs A n k
    by_cases hin : A + k < xs.length
    · have hi1 : ((A + k : Nat) : Int) < (xs.length : Int) := by omega
      by_cases hm : (k : Int) < 0
      · exact absurd hm (by omega)
      · have hm2 : ¬ ((A + k : Nat) : Int) - ((A : Nat) : Int) < 0 := by omega
        have hH := Lib.hid h
        have hS := size_h S g _ hv wr h
        rw [hlen] at hS
        have HL := Lib.hid (rfl : xs.length = xs.length)
        clear h
        go_wp2_with (first | (go_at_call 23; refine hS.mono ?_; rintro e wx ⟨rfl, rfl⟩))
        go_end0
        exact ⟨rfl, k, hH.out, hkp, hbb, fun j hj hjl => by omega⟩
    · have hi1 : ¬ ((A + k : Nat) : Int) < (xs.length : Int) := by omega
      have hH := Lib.hid h
      have hS := size_h S g _ hv wr h
      rw [hlen] at hS
      clear h
      go_wp2_with (first | (go_at_call 23; refine hS.mono ?_; rintro e wx ⟨rfl, rfl⟩))
      go_end0
      exact ⟨rfl, k, hH.out, hkp, hbb, fun j hj hjl => by omega⟩
set_option maxHeartbeats 1000000 in
set_option maxRecDepth 20000 in
theorem fill_np (S g M : Nat) (a : Int) (xs : List Int) (hv : Value) (n : Int) (w0 w : World) (h : StoreH w S g xs hv) (hB : Below w0.heap.size w0 w) (hg0 : w0.heap.size ≤ g) (hM : M ≤ 9223372036854775807) (ha : a < 0) (ha2 : -9223372036854775808 ≤ a) (hl : xs.length ≤ 300) :
    Calls Try.prog 28 #[.pointer (some ⟨S, 0, none⟩), .int .i64 a, .int .i64 M, .int .i64 n] w fun e w' => e = .returned (.tuple #[]) ∧ ∃ k, StoreH w' S g (fl xs 0 n k) hv ∧ Keep g w w' ∧ Below w0.heap.size w0 w' ∧ (∀ j : Nat, j < xs.length → (j < k ↔ (j : Int) < ((M : Int) + a))) := by
  have hM0 : (0 : Int) ≤ M := by omega
  have hda : decide (a < 0) = true := by simpa using ha
  have hw1 : wrap64 ((M : Int) + a) = (M : Int) + a := by unfold wrap64; omega
  go_enter Try.func28, Try.ntmps28
  go_wp2_with fail
  go_loopw [8] (fun i wr => ∃ k : Nat, i = .int .i64 ((k : Nat) : Int) ∧ k ≤ 300 ∧ (k = 0 ∨ (k : Int) ≤ (M : Int) + a) ∧ StoreH wr S g (fl xs 0 n k) hv ∧ Keep g w wr ∧ Below w0.heap.size w0 wr) (fun i _ => 301 - (intOf i).toNat)
  case atStart => exact ⟨0, by first | rfl | (simp; done), by omega, .inl rfl, h, Keep.refl g w, hB⟩
  case round =>
    clear h hB
    obtain ⟨k, rfl, hk3, hkM, h, hkp, hbb⟩ := hrel
    have hlen : (fl xs 0 n k).length = xs.length := fl_len xs 0 n k
    by_cases hin : k < xs.length
    · have hi1 : ((k : Nat) : Int) < (xs.length : Int) := by omega
      by_cases hm : (k : Int) < (M : Int) + a
      · obtain ⟨s0, s1, hc, hf, _, _, _⟩ := h.facts
        have cc := hc k (by rw [hlen]; exact hin)
        have ff := hf (k)
        rw [hlen] at s0
        have hm2 : ((k : Nat) : Int) < (M : Int) + a := by omega
        have hH := Lib.hid h
        have hS := size_h S g _ hv wr h
        rw [hlen] at hS
        generalize xs.length = L at *
        clear hc hf h
        go_wp2_with (first | (go_at_call 23; refine hS.mono ?_; rintro e wx ⟨rfl, rfl⟩))
        go_roundw
        case rel => exact ⟨k + 1, by go_num, by omega, .inr (by omega), by show StoreH _ S g ((fl xs 0 n k).set (0 + k) n) hv; rw [Nat.zero_add]; exact hH.out.set k n, hkp.trans (Keep.set rfl), hbb.setCell hg0 _⟩
        case measure => simp [intOf]; omega
      · have hm2 : ¬ ((k : Nat) : Int) < (M : Int) + a := by omega
        have hH := Lib.hid h
        have hS := size_h S g _ hv wr h
        rw [hlen] at hS
        have HL := Lib.hid (rfl : xs.length = xs.length)
        clear h
        go_wp2_with (first | (go_at_call 23; refine hS.mono ?_; rintro e wx ⟨rfl, rfl⟩))
        go_end0
        exact ⟨rfl, k, hH.out, hkp, hbb, fun j hjl => by omega⟩
    · have hi1 : ¬ ((k : Nat) : Int) < (xs.length : Int) := by omega
      have hH := Lib.hid h
      have hS := size_h S g _ hv wr h
      rw [hlen] at hS
      clear h
      go_wp2_with (first | (go_at_call 23; refine hS.mono ?_; rintro e wx ⟨rfl, rfl⟩))
      go_end0
      exact ⟨rfl, k, hH.out, hkp, hbb, fun j hjl => by omega⟩
set_option maxHeartbeats 1000000 in
set_option maxRecDepth 20000 in
theorem fill_nn (S g X : Nat) (a m : Int) (xs : List Int) (hv : Value) (n : Int) (w0 w : World) (h : StoreH w S g xs hv) (hB : Below w0.heap.size w0 w) (hg0 : w0.heap.size ≤ g) (ha : a < 0) (ha2 : -9223372036854775808 ≤ a) (hm0 : m < 0) (hl : xs.length ≤ 300) :
    Calls Try.prog 28 #[.pointer (some ⟨S, 0, none⟩), .int .i64 a, .int .i64 m, .int .i64 n] w fun e w' => e = .returned (.tuple #[]) ∧ ∃ k, StoreH w' S g (fl xs 0 n k) hv ∧ Keep g w w' ∧ Below w0.heap.size w0 w' ∧ (∀ j : Nat, j < xs.length → (j < k ↔ (j : Int) < (a))) := by
  have hda : decide (a < 0) = true := by simpa using ha
  have hw1 : wrap64 (0 + a) = a := by unfold wrap64; omega
  go_enter Try.func28, Try.ntmps28
  go_wp2_with fail
  go_loopw [8] (fun i wr => ∃ k : Nat, i = .int .i64 ((k : Nat) : Int) ∧ k ≤ 300 ∧ (k = 0 ∨ (k : Int) ≤ a) ∧ StoreH wr S g (fl xs 0 n k) hv ∧ Keep g w wr ∧ Below w0.heap.size w0 wr) (fun i _ => 301 - (intOf i).toNat)
  case atStart => exact ⟨0, by first | rfl | (simp; done), by omega, .inl rfl, h, Keep.refl g w, hB⟩
  case round =>
    clear h hB
    obtain ⟨k, rfl, hk3, hkM, h, hkp, hbb⟩ := hrel
    have hlen : (fl xs 0 n k).length = xs.length := fl_len xs 0 n k
    by_cases hin : k < xs.length
    · have hi1 : ((k : Nat) : Int) < (xs.length : Int) := by omega
      by_cases hm : (k : Int) < a
      · exact absurd hm (by omega)
      · have hm2 : ¬ ((k : Nat) : Int) < a := by omega
        have hH := Lib.hid h
        have hS := size_h S g _ hv wr h
        rw [hlen] at hS
        have HL := Lib.hid (rfl : xs.length = xs.length)
        clear h
        go_wp2_with (first | (go_at_call 23; refine hS.mono ?_; rintro e wx ⟨rfl, rfl⟩))
        go_end0
        exact ⟨rfl, k, hH.out, hkp, hbb, fun j hjl => by omega⟩
    · have hi1 : ¬ ((k : Nat) : Int) < (xs.length : Int) := by omega
      have hH := Lib.hid h
      have hS := size_h S g _ hv wr h
      rw [hlen] at hS
      clear h
      go_wp2_with (first | (go_at_call 23; refine hS.mono ?_; rintro e wx ⟨rfl, rfl⟩))
      go_end0
      exact ⟨rfl, k, hH.out, hkp, hbb, fun j hjl => by omega⟩
theorem fill_any (S g : Nat) (a m : Int) (xs : List Int) (hv : Value) (n : Int) (w0 w : World) (h : StoreH w S g xs hv) (hB : Below w0.heap.size w0 w) (hg0 : w0.heap.size ≤ g) (ha1 : -9223372036854775808 ≤ a) (ha2 : a ≤ 9223372036854775807) (hm2 : m ≤ 9223372036854775807) (hl : xs.length ≤ 300) :
    Calls Try.prog 28 #[.pointer (some ⟨S, 0, none⟩), .int .i64 a, .int .i64 m, .int .i64 n] w fun e w' => e = .returned (.tuple #[]) ∧ ∃ xs', StoreH w' S g xs' hv ∧ Keep g w w' ∧ Below w0.heap.size w0 w' ∧ xs'.length = xs.length ∧ ∀ j : Nat, j < xs.length → xs'.getD j 0 = if a ≤ j ∧ (j : Int) < a + m then n else xs.getD j 0 := by
  by_cases ha : a < 0
  · by_cases hm : m < 0
    · refine (fill_nn S g 0 a m xs hv n w0 w h hB hg0 ha ha1 hm hl).mono ?_
      rintro e w' ⟨he, k, h1, h2, h3, h4⟩
      refine ⟨he, _, h1, h2, h3, fl_len _ _ _ _, fun j hj => ?_⟩
      have := h4 j hj
      rw [fl_get xs 0 n j hj k]
      by_cases hc : a ≤ (j : Int) ∧ (j : Int) < a + m
      · omega
      · rw [if_neg hc, if_neg (by omega)]
    · obtain ⟨M, rfl⟩ := Int.eq_ofNat_of_zero_le (show 0 ≤ m by omega)
      refine (fill_np S g M a xs hv n w0 w h hB hg0 (by omega) ha ha1 hl).mono ?_
      rintro e w' ⟨he, k, h1, h2, h3, h4⟩
      refine ⟨he, _, h1, h2, h3, fl_len _ _ _ _, fun j hj => ?_⟩
      have := h4 j hj
      rw [fl_get xs 0 n j hj k]
      by_cases hc : a ≤ (j : Int) ∧ (j : Int) < a + M
      · rw [if_pos hc, if_pos (by omega)]
      · rw [if_neg hc, if_neg (by omega)]
  · obtain ⟨A, rfl⟩ := Int.eq_ofNat_of_zero_le (show 0 ≤ a by omega)
    by_cases hm : m < 0
    · refine (fill_pn S g A m xs hv n w0 w h hB hg0 (by omega) hm hl).mono ?_
      rintro e w' ⟨he, k, h1, h2, h3, h4⟩
      refine ⟨he, _, h1, h2, h3, fl_len _ _ _ _, fun j hj => ?_⟩
      have := fun hh => h4 j hh hj
      rw [fl_get xs A n j hj k]
      by_cases hc : (A : Int) ≤ (j : Int) ∧ (j : Int) < A + m
      · omega
      · rw [if_neg hc, if_neg (by omega)]
    · obtain ⟨M, rfl⟩ := Int.eq_ofNat_of_zero_le (show 0 ≤ m by omega)
      refine (fill_pp S g A M xs hv n w0 w h hB hg0 (by omega) (by omega) hl).mono ?_
      rintro e w' ⟨he, k, h1, h2, h3, h4⟩
      refine ⟨he, _, h1, h2, h3, fl_len _ _ _ _, fun j hj => ?_⟩
      have := fun hh => h4 j hh hj
      rw [fl_get xs A n j hj k]
      by_cases hc : (A : Int) ≤ (j : Int) ∧ (j : Int) < A + M
      · rw [if_pos hc, if_pos (by omega)]
      · rw [if_neg hc, if_neg (by omega)]
theorem StoreH.view {w : World} {S g : Nat} {xs : List Int} {hv : Value} (h : StoreH w S g xs hv) (hm : xs.length ≤ maxLen) : View w (.slice (some ⟨g, 0, none⟩) xs.length xs.length) xs := by
  obtain ⟨_, _, h2, _, _, hg, _⟩ := h.facts
  exact ⟨_, _, rfl, ⟨Nat.le_refl _, hm⟩, (fun h => by cases h), fun _ => ⟨g, 0, rfl, hg, Nat.le_refl _, fun i hi => by rw [Nat.zero_add]; exact h2 i hi⟩⟩
theorem all_h (S g : Nat) (xs : List Int) (hv : Value) (w : World) (h : StoreH w S g xs hv) (hsm : xs.length ≤ 100000) : Calls Try.prog 21 #[.pointer (some ⟨S, 0, none⟩)] w (RowPost w.heap.size xs w) := by
  obtain ⟨h0, _, _, _, _, _, _⟩ := h.facts
  have hV := h.view (by unfold maxLen; omega)
  clear h
  go_enter Try.func21, Try.ntmps21
  go_wp2_with fail
  refine (clone_any _ xs _ hV hsm).mono ?_
  rintro e w' ⟨v', rfl, h1, h2⟩
  clear hV h0
  go_wp2_with fail
  go_ret
  exact ⟨_, rfl, h1, h2⟩
theorem hook_h (S g : Nat) (xs : List Int) (hv : Value) (q : Nat) (w0 w : World) (h : StoreH w S g xs hv) (hB : Below w0.heap.size w0 w) (hS0 : w0.heap.size ≤ S) : Calls Try.prog 22 #[.pointer (some ⟨S, 0, none⟩), .func (.func 29) #[] #[.pointer (some ⟨q, 0, none⟩)]] w fun e w' => e = .returned (.tuple #[]) ∧ StoreH w' S g xs (.func (.func 29) #[] #[.pointer (some ⟨q, 0, none⟩)]) ∧ Keep S w w' ∧ Below w0.heap.size w0 w' := by
  obtain ⟨h0, h1, _, _, _, _, hf⟩ := h.facts
  have hH := Lib.hid h
  clear h
  go_enter Try.func22, Try.ntmps22
  go_wp2_with fail
  go_end0
  refine ⟨rfl, ⟨?_, ?_, hH.out.2.2⟩, Keep.set rfl, hB.setCell hS0 _⟩
  · obtain ⟨hlt, hk⟩ := Array.getElem?_eq_some_iff.1 hH.out.1
    show (w.heap.modify S _)[S]? = _
    rw [Array.getElem?_eq_getElem (by rw [Array.size_modify]; exact hlt), Array.getElem_modify_self, hk]
    simp
  · show (w.heap.modify S _)[g]? = _
    rw [Array.getElem?_modify, if_neg hH.out.2.2]
    exact hH.out.2.1
end Go.Proofs.Ytfigabjcmpakeaa.fx
