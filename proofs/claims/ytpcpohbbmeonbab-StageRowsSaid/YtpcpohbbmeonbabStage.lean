/- The contracts of the functions of layer 21 (stage). -/
import Derived.Test.YtpcpohbbmeonbabKit
namespace Go.Proofs.Ytpcpohbbmeonbab
open Go.ChangeShapes Go.WideShapes Go.ChangeAt Go.RowKit
theorem go_bad (a b : Int) (w : World) (h : b ≤ a ∨ 1048575 < b) : Calls Try.prog 12 #[.int .i64 a, .int .i64 b] w fun e w' => e = .returned (.int .i64 3) ∧ w = w' := by
  by_cases h1 : b ≤ a
  · go_enter Try.func12, Try.ntmps12
    go_wp2
    go_ret
    exact ⟨rfl, rfl⟩
  · have h2 : 1048575 < b := by omega
    clear h
    go_enter Try.func12, Try.ntmps12
    go_wp2
    go_ret
    exact ⟨rfl, rfl⟩
theorem go_good (a b : Int) (w : World) (h1 : a < b) (h2 : b ≤ 1048575) : Calls Try.prog 12 #[.int .i64 a, .int .i64 b] w fun e w' => e = .returned (.int .i64 0) ∧ w = w' := by
  go_enter Try.func12, Try.ntmps12
  go_wp2
  go_ret
  exact ⟨rfl, rfl⟩
theorem past_any (c s : Int) (w : World) : Calls Try.prog 13 #[.int .i64 c, .int .i64 s] w fun e w' => e = .returned (.bool (decide (s < c))) ∧ w = w' := by
  go_enter Try.func13, Try.ntmps13
  go_wp2
  go_ret
  exact ⟨rfl, rfl⟩

/-- How many of the first stages are below a counter. -/
def rowOf (c : Int) : List Int → Nat
  | [] => 0
  | s :: r => if s < c then rowOf c r + 1 else 0
theorem rowOf_all (c : Int) (l : List Int) (k : Nat) (h : ∀ i, i < k → l.getD i 0 < c) (hk : k ≤ l.length) : k ≤ rowOf c l := by
  induction l generalizing k with
  | nil => simp at hk; omega
  | cons s r ih =>
    cases k with
    | zero => omega
    | succ k =>
      have h0 := h 0 (by omega)
      simp at h0
      unfold rowOf
      rw [if_pos h0]
      have := ih k (fun i hi => by have := h (i + 1) (by omega); simpa using this) (by simp at hk; omega)
      omega
theorem rowOf_le (c : Int) (l : List Int) : rowOf c l ≤ l.length := by
  induction l with
  | nil => simp [rowOf]
  | cons s r ih => unfold rowOf; split <;> simp <;> omega
theorem rowOf_stop (c : Int) (l : List Int) (k : Nat) (h : ∀ i, i < k → l.getD i 0 < c) (hk : k < l.length) (hs : ¬ l.getD k 0 < c) : rowOf c l = k := by
  induction l generalizing k with
  | nil => simp at hk
  | cons s r ih =>
    cases k with
    | zero => simp at hs; unfold rowOf; rw [if_neg (by omega)]
    | succ k =>
      have h0 := h 0 (by omega)
      simp at h0
      unfold rowOf
      rw [if_pos h0, ih k (fun i hi => by have := h (i + 1) (by omega); simpa using this) (by simp at hk; omega) (by simpa using hs)]

set_option maxHeartbeats 400000 in
theorem row_any (b off : Nat) (len cap : Nat) (st : List Int) (bs : List Bool) (c : Int) (w : World) (hl : st.length = len) (hm : len ≤ maxLen)
    (hb : b < w.heap.size)
    (hc : ∀ i, i < len → w.cell? ⟨b, off + i * 2, none⟩ = some (.int .i64 (st.getD i 0)) ∧ w.cell? ⟨b, off + i * 2 + 1, none⟩ = some (.bool (bs.getD i false))) :
    Calls Try.prog 17 #[.slice (some ⟨b, off, none⟩) len cap, .int .i64 c] w fun e w' => e = .returned (.int .i64 (rowOf c st)) ∧ Below w.heap.size w w' := by
  unfold maxLen at hm
  have HL := Lib.hid hl; clear hl
  have HC := Lib.hid hc; clear hc
  go_enter Try.func17, Try.ntmps17
  go_wp2
  go_loopw [9] (fun i wr => ∃ k : Nat, k ≤ len ∧ i = .int .i64 k ∧ Below w.heap.size w wr ∧ Hid (∀ i, i < k → st.getD i 0 < c)) (fun i _ => len - (intOf i).toNat)
  case atStart => exact ⟨0, Nat.zero_le _, rfl, Below.refl _ _, fun i hi => absurd hi (by omega)⟩
  case round =>
    obtain ⟨k, hk, rfl, hbw, hall⟩ := hrel
    by_cases hlt : k < len
    · have h1 : wr.cell? ⟨b, off + k * 2, none⟩ = some (.int .i64 (st.getD k 0)) := (hbw.cell (p := ⟨b, off + k * 2, none⟩) hb).trans (HC.out k hlt).1
      have h2 : wr.cell? ⟨b, off + k * 2 + 1, none⟩ = some (.bool (bs.getD k false)) := (hbw.cell (p := ⟨b, off + k * 2 + 1, none⟩) hb).trans (HC.out k hlt).2
      go_wp2_with (go_at_call 13; refine (past_any _ _ _).mono ?_; rintro e w' ⟨rfl, rfl⟩)
      · have ht : (!decide (st[k]?.getD 0 < c)) = true := by assumption
        go_ret
        refine ⟨?_, hbw.alloc hbw.size _⟩
        have hs : ¬ st.getD k 0 < c := by simpa using ht
        rw [rowOf_stop c st k hall (by rw [HL.out]; exact hlt) hs]
        rfl
      · have ht : (!decide (st[k]?.getD 0 < c)) = false := by assumption
        have hs : st.getD k 0 < c := by simpa using ht
        refine ⟨⟨k + 1, by omega, by go_num, hbw.alloc hbw.size _, ?_⟩, by simp [intOf]; omega⟩
        intro i hi
        by_cases hik : i = k
        · rw [hik]; exact hs
        · exact hall i (by omega)
    · go_wp2
      go_ret
      refine ⟨?_, hbw⟩
      have e1 := rowOf_all c st k hall (by rw [HL.out]; exact hk)
      have e2 := rowOf_le c st
      rw [HL.out] at e2
      rw [show rowOf c st = len from by omega]
      rfl

def sMax (a c : Int) : Int := if a < c then c else a
theorem saw_any (a c m : Int) (w : World) (hm : sMax a c = m) : Calls Try.prog 16 #[.agg #[.int .i64 a], .int .i64 c] w fun e w' => e = .returned (.agg #[.int .i64 m]) ∧ (w.alloc (.cells #[.int .i64 a] 28)).alloc (.cells #[.int .i64 m] 28) = w' := by
  unfold sMax at hm
  rcases Int.lt_trichotomy a c with h | h | h
  · rw [if_pos h] at hm
    subst hm
    go_enter Try.func16, Try.ntmps16
    go_wp2
    exact bodyPost_ret (v := .agg #[.int .i64 c]) (by simp [results, Try.results16, go_sem]) rfl ⟨rfl, rfl⟩
  · subst h
    rw [if_neg (by omega)] at hm
    subst hm
    go_enter Try.func16, Try.ntmps16
    go_wp2
    all_goals exact bodyPost_ret (v := .agg #[.int .i64 a]) (by simp [results, Try.results16, go_sem]) rfl ⟨rfl, rfl⟩
  · rw [if_neg (by omega)] at hm
    subst hm
    go_enter Try.func16, Try.ntmps16
    go_wp2
    exact bodyPost_ret (v := .agg #[.int .i64 a]) (by simp [results, Try.results16, go_sem]) rfl ⟨rfl, rfl⟩
theorem knows_any (a s : Int) (w : World) : Calls Try.prog 14 #[.agg #[.int .i64 a], .int .i64 s] w fun e w' => e = .returned (.bool (decide (s < a))) ∧ w.alloc (.cells #[.int .i64 a] 28) = w' := by
  go_enter Try.func14, Try.ntmps14
  go_wp2_with (go_at_call 13; refine (past_any _ _ _).mono ?_; rintro e w' ⟨rfl, rfl⟩)
  go_ret
  exact ⟨rfl, rfl⟩
theorem known_any (a : Int) (w : World) : Calls Try.prog 15 #[.agg #[.int .i64 a]] w fun e w' => e = .returned (.int .i64 a) ∧ w.alloc (.cells #[.int .i64 a] 28) = w' := by
  go_enter Try.func15, Try.ntmps15
  go_wp2
  go_ret
  exact ⟨rfl, rfl⟩
set_option maxHeartbeats 400000 in
theorem works21 (w : World) : Calls Try.prog 11 #[] w fun e w' => e = .returned (.bool true) ∧ Below w.heap.size w w' := by
  go_enter Try.func11, Try.ntmps11
  go_wp2_with (first | (go_at_call_of 12 (Value.int IntKind.i64 4); refine (go_good 3 4 _ (by decide) (by decide)).mono ?_; rintro e w' ⟨rfl, rfl⟩) | (go_at_call 12; refine (go_bad 3 3 _ (by decide)).mono ?_; rintro e w' ⟨rfl, rfl⟩) | (go_at_call 13; go_in) | (go_at_call 14; refine (knows_any _ _ _).mono ?_; rintro e w' ⟨rfl, rfl⟩) | (go_at_call 15; refine (known_any _ _).mono ?_; rintro e w' ⟨rfl, rfl⟩) | (go_at_call 16; refine (saw_any 0 4 4 _ (by decide)).mono ?_; rintro e w' ⟨rfl, rfl⟩))
  refine (row_any _ 0 2 2 [0, 5] [false, false] 5 _ rfl (by decide) (by simp) ?_).mono ?_
  · intro i hi
    match i, hi with
    | 0, _ => exact ⟨by go_simp, by go_simp⟩
    | 1, _ => exact ⟨by go_simp, by go_simp⟩
  rintro e w' ⟨rfl, hb⟩
  rw [show rowOf 5 [0, 5] = 1 from by decide]
  go_wp2
  go_ret
  refine ⟨rfl, Below.trans ?_ (hb.mono ?_)⟩
  · repeat (first | exact Below.refl _ _ | refine below_drewN ?_ _ | refine Below.alloc ?_ (by first | exact Nat.le_refl _ | (simp; done) | (simp; omega)) _)
  · simp; omega
end Go.Proofs.Ytpcpohbbmeonbab
