/- Where each word of a plan stands in the reference's list, and the nearer end of a range (layer 11). -/
import Derived.Test.YtfigabjcmpakeaaWordsT
import Derived.Test.YtfigabjcmpakeaaLtCl
import Derived.Test.YtfigabjcmpakeaaLtNo
namespace Go.Proofs.Ytfigabjcmpakeaa
open Go.ChangeShapes Go.WideShapes Go.ChangeAt Go.RowKit
set_option linter.unusedVariables false
set_option linter.unusedSimpArgs false
def pl (a c d : Int) (t : T3) : Int :=
  if t.1 ≤ 3 then t.2.1 * (4 + d) + t.1 else if t.1 = 4 then t.2.1 * (4 + d) + 4 + t.2.2
  else if t.1 = 5 then a * (4 + d) + (t.2.1 - 1) * (2 + (c + 1) * 4) else if t.1 = 6 then a * (4 + d) + (t.2.1 - 1) * (2 + (c + 1) * 4) + 1
  else a * (4 + d) + (t.2.1 - 1) * (2 + (c + 1) * 4) + 2 + t.2.2 * 4 + (t.1 - 7)
def Good (a c d : Int) (s : Int) (xs : List T3) : Prop := ∀ (i : Nat) (t : T3), xs[i]? = some t → pl a c d t = s + (i : Int)
theorem Good.add {a c d s : Int} {xs ys : List T3} (h : Good a c d s xs) (h2 : Good a c d (s + xs.length) ys) : Good a c d s (xs ++ ys) := by
  intro i t hi
  by_cases hl : i < xs.length
  · rw [List.getElem?_append_left hl] at hi; exact h i t hi
  · rw [List.getElem?_append_right (by omega)] at hi
    rw [h2 _ t hi]; omega
theorem good_h4 (a c d : Int) (k j : Nat) (hj : j ≤ 4) : Good a c d (k * (4 + d)) (h4 k j) := by
  intro i t hi
  simp only [h4, List.getElem?_map, List.getElem?_range', Option.map_eq_some_iff] at hi
  obtain ⟨u, hu, rfl⟩ := hi
  have hlt := (List.getElem?_eq_some_iff.1 hu).1
  simp at hlt
  obtain rfl : i = u := by simpa [hlt] using hu
  unfold pl
  rw [if_pos (by show (i : Int) ≤ 3; omega)]
theorem good_s4 (a c d : Int) (k j : Nat) : Good a c d (k * (4 + d) + 4) (s4 k j) := by
  intro i t hi
  simp only [s4, List.getElem?_map, Option.map_eq_some_iff] at hi
  obtain ⟨u, hu, rfl⟩ := hi
  have hlt := (List.getElem?_eq_some_iff.1 hu).1
  simp at hlt
  obtain rfl : i = u := by simpa [hlt] using hu
  unfold pl
  rw [if_neg (by show ¬ (4 : Int) ≤ 3; omega), if_pos rfl]
theorem good_f4 (a c d : Int) (f q : Nat) : Good a c d (a * (4 + d) + ((f : Int) - 1) * (2 + (c + 1) * 4) + 2) (f4 f q) := by
  induction q with
  | zero => intro i t hi; simp [f4] at hi
  | succ q ih =>
    rw [f4_succ]
    refine ih.add ?_
    rw [f4_len]
    intro i t hi
    match i, hi with
    | 0, hi => simp at hi; subst hi; simp [pl] <;> omega
    | 1, hi => simp at hi; subst hi; simp [pl] <;> omega
    | 2, hi => simp at hi; subst hi; simp [pl] <;> omega
    | 3, hi => simp at hi; subst hi; simp [pl] <;> omega
theorem good_W1 (a c : Int) (d k : Nat) : Good a c d 0 (W1 d k) := by
  induction k with
  | zero => intro i t hi; simp [W1] at hi
  | succ k ih =>
    rw [W1_succ]
    refine (ih.add ?_).add ?_
    · have := good_h4 a c d k 4 (by omega)
      rw [W1_len]
      simpa using this
    · have := good_s4 a c d k d
      rw [List.length_append, W1_len, h4_len]
      simpa [← Int.add_assoc] using this
theorem good_W2 (a c : Nat) (d : Int) (k : Nat) : Good a c d (a * (4 + d)) (W2 c k) := by
  induction k with
  | zero => intro i t hi; simp [W2] at hi
  | succ k ih =>
    rw [W2_succ]
    refine (ih.add ?_).add ?_
    · rw [W2_len]
      intro i t hi
      match i, hi with
      | 0, hi => simp at hi; subst hi; simp [pl]
      | 1, hi => simp at hi; subst hi; simp [pl] <;> omega
    · have := good_f4 a c d (k + 1) (c + 1)
      rw [List.length_append, W2_len]
      rw [show ((a : Int) * (4 + d) + ((k * (2 + (c + 1) * 4) + List.length [((5 : Int), ((k + 1 : Nat) : Int), (0 : Int)), ((6 : Int), ((k + 1 : Nat) : Int), (0 : Int))] : Nat) : Int)) = (a : Int) * (4 + d) + (((k + 1 : Nat) : Int) - 1) * (2 + ((c : Int) + 1) * 4) + 2 from by
        rw [show (((k + 1 : Nat) : Int) - 1) = (k : Int) from by omega]
        push_cast [List.length_cons, List.length_nil]
        omega]
      exact this
theorem good_words (a b c d : Nat) : Good a c d 0 (words a b c d) := by
  refine (good_W1 a c d a).add ?_
  have := good_W2 a c d b
  rw [W1_len]
  simpa using this
theorem word_at (a b c d j : Nat) (t : T3) (hm : t ∈ words a b c d) (hj : pl a c d t = j) : (words a b c d)[j]? = some t ∧ ∀ i, i < j → (words a b c d)[i]? ≠ some t := by
  have hg := good_words a b c d
  obtain ⟨i, hi⟩ := List.getElem?_of_mem hm
  have := hg i t hi
  obtain rfl : i = j := by omega
  refine ⟨hi, fun q hq e => ?_⟩
  have := hg q t e
  omega
theorem words_len (a b c d : Nat) : (words a b c d).length = a * (4 + d) + b * (2 + (c + 1) * 4) := by
  unfold words; rw [List.length_append, W1_len, W2_len]
theorem words_small (a b c d : Nat) (hO : Okay a b c d) : (words a b c d).length ≤ 100000 := by
  obtain ⟨a0, a1, b0, b1, c0, c1, d0, d1⟩ := hO
  rw [words_len]
  have h1 : a * (4 + d) ≤ 64 * (4 + d) := Nat.mul_le_mul_right _ (by omega)
  have h2 : b * (2 + (c + 1) * 4) ≤ 256 * (2 + (c + 1) * 4) := Nat.mul_le_mul_right _ (by omega)
  omega
theorem mem_1 (a b c d k x : Nat) (hk : k < a) (hx : x < 4) : ((x : Int), (k : Int), (0 : Int)) ∈ words a b c d := by
  refine List.mem_append_left _ (List.mem_flatMap.2 ⟨k, List.mem_range.2 hk, List.mem_append_left _ (List.mem_map.2 ⟨x, List.mem_range.2 hx, rfl⟩)⟩)
theorem mem_2 (a b c d k n : Nat) (hk : k < a) (hx : n < d) : ((4 : Int), (k : Int), (n : Int)) ∈ words a b c d := by
  refine List.mem_append_left _ (List.mem_flatMap.2 ⟨k, List.mem_range.2 hk, List.mem_append_right _ (List.mem_map.2 ⟨n, List.mem_range.2 hx, rfl⟩)⟩)
theorem mem_3 (a b c d f : Nat) (hf : f < b) : ((5 : Int), ((f + 1 : Nat) : Int), (0 : Int)) ∈ words a b c d ∧ ((6 : Int), ((f + 1 : Nat) : Int), (0 : Int)) ∈ words a b c d := by
  refine ⟨List.mem_append_right _ (List.mem_flatMap.2 ⟨f, List.mem_range.2 hf, List.mem_append_left _ (by simp)⟩), List.mem_append_right _ (List.mem_flatMap.2 ⟨f, List.mem_range.2 hf, List.mem_append_left _ (by simp)⟩)⟩
theorem mem_4 (a b c d f q : Nat) (x : Int) (hf : f < b) (hq : q < c + 1) (hx : x = 7 ∨ x = 8 ∨ x = 9 ∨ x = 10) : (x, ((f + 1 : Nat) : Int), (q : Int)) ∈ words a b c d := by
  refine List.mem_append_right _ (List.mem_flatMap.2 ⟨f, List.mem_range.2 hf, List.mem_append_right _ (List.mem_flatMap.2 ⟨q, List.mem_range.2 hq, ?_⟩)⟩)
  rcases hx with rfl | rfl | rfl | rfl <;> simp
theorem held_of (n lo hi r : Int) (w : World) (h : (n < lo ∧ r = lo) ∨ (¬ n < lo ∧ hi < n ∧ r = hi) ∨ (¬ n < lo ∧ ¬ hi < n ∧ r = n)) :
    Calls Try.prog 57 #[.int .i64 n, .int .i64 lo, .int .i64 hi] w fun e w' => e = .returned (.int .i64 r) ∧ w = w' := by
  rcases h with ⟨h1, rfl⟩ | ⟨h1, h2, rfl⟩ | ⟨h1, h2, rfl⟩
  all_goals
    go_enter Try.func57, Try.ntmps57
    go_wp2_with fail
    go_ret
    exact ⟨rfl, rfl⟩
theorem right_yes (a b c d : Int) (w : World) (h : Hid (Okay a b c d)) : Calls Try.prog 44 #[.agg #[.int .i64 a, .int .i64 b, .int .i64 c, .int .i64 d]] w fun e w' => e = .returned (.bool true) ∧ Below w.heap.size w w' := by
  obtain ⟨a0, a1, b0, b1, c0, c1, d0, d1⟩ := h.out
  go_enter Try.func44, Try.ntmps44
  go_wp2_with fail
  go_ret
  exact ⟨by simp [*], by go_grown⟩
theorem right_no (a b c d : Int) (w : World) (h : Hid (¬ Okay a b c d)) : Calls Try.prog 44 #[.agg #[.int .i64 a, .int .i64 b, .int .i64 c, .int .i64 d]] w fun e w' => e = .returned (.bool false) ∧ Below w.heap.size w w' := by
  by_cases x0 : 1 ≤ a
  rotate_left
  · clear h
    go_enter Try.func44, Try.ntmps44
    go_wp2_with fail
    go_ret
    exact ⟨by simp [*], by go_grown⟩
  by_cases x1 : a ≤ 64
  rotate_left
  · clear h
    go_enter Try.func44, Try.ntmps44
    go_wp2_with fail
    go_ret
    exact ⟨by simp [*], by go_grown⟩
  by_cases x2 : 1 ≤ b
  rotate_left
  · clear h
    go_enter Try.func44, Try.ntmps44
    go_wp2_with fail
    go_ret
    exact ⟨by simp [*], by go_grown⟩
  by_cases x3 : b ≤ 256
  rotate_left
  · clear h
    go_enter Try.func44, Try.ntmps44
    go_wp2_with fail
    go_ret
    exact ⟨by simp [*], by go_grown⟩
  by_cases x4 : 1 ≤ c
  rotate_left
  · clear h
    go_enter Try.func44, Try.ntmps44
    go_wp2_with fail
    go_ret
    exact ⟨by simp [*], by go_grown⟩
  by_cases x5 : c ≤ 64
  rotate_left
  · clear h
    go_enter Try.func44, Try.ntmps44
    go_wp2_with fail
    go_ret
    exact ⟨by simp [*], by go_grown⟩
  by_cases x6 : 2 ≤ d
  rotate_left
  · clear h
    go_enter Try.func44, Try.ntmps44
    go_wp2_with fail
    go_ret
    exact ⟨by simp [*], by go_grown⟩
  by_cases x7 : d ≤ 256
  rotate_left
  · clear h
    go_enter Try.func44, Try.ntmps44
    go_wp2_with fail
    go_ret
    exact ⟨by simp [*], by go_grown⟩
  exact absurd ⟨x0, x1, x2, x3, x4, x5, x6, x7⟩ h.out
end Go.Proofs.Ytfigabjcmpakeaa
