/- The reference's list of all words of a plan (layer 11). -/
import Derived.Test.YtfigabjcmpakeaaTripAt
import Derived.Test.YtfigabjcmpakeaaKeep
import Derived.Test.YtfigabjcmpakeaaLayout2
import Derived.Deep.RegionHeld3
import Derived.Deep.Cut
import Derived.Deep.DrawnRows
import Derived.Deep.DeepCutAuto
import Derived.Outline
namespace Go.Proofs.Ytfigabjcmpakeaa
open Go.ChangeShapes Go.WideShapes Go.ChangeAt Go.RowKit
attribute [local go_sem ↓] Go.wp_at_zero Go.wp_at_succ
set_option linter.unusedVariables false
set_option linter.unusedSimpArgs false
def h4 (k j : Nat) : List T3 := (List.range j).map fun (i : Nat) => ((i : Int), (k : Int), (0 : Int))
def s4 (k n : Nat) : List T3 := (List.range n).map fun (i : Nat) => ((4 : Int), (k : Int), (i : Int))
def f4 (f q : Nat) : List T3 := (List.range q).flatMap fun (i : Nat) => [((7 : Int), (f : Int), (i : Int)), ((8 : Int), (f : Int), (i : Int)), ((9 : Int), (f : Int), (i : Int)), ((10 : Int), (f : Int), (i : Int))]
def W1 (d k : Nat) : List T3 := (List.range k).flatMap fun w => h4 w 4 ++ s4 w d
def W2 (c k : Nat) : List T3 := (List.range k).flatMap fun f => [((5 : Int), ((f + 1 : Nat) : Int), (0 : Int)), ((6 : Int), ((f + 1 : Nat) : Int), (0 : Int))] ++ f4 (f + 1) (c + 1)
theorem h4_succ (k j : Nat) : h4 k (j + 1) = h4 k j ++ [((j : Int), (k : Int), (0 : Int))] := by simp [h4, List.range_succ]
theorem s4_succ (k j : Nat) : s4 k (j + 1) = s4 k j ++ [((4 : Int), (k : Int), (j : Int))] := by simp [s4, List.range_succ]
theorem f4_succ (f q : Nat) : f4 f (q + 1) = f4 f q ++ [((7 : Int), (f : Int), (q : Int)), ((8 : Int), (f : Int), (q : Int)), ((9 : Int), (f : Int), (q : Int)), ((10 : Int), (f : Int), (q : Int))] := by simp [f4, List.range_succ]
theorem W1_succ (d k : Nat) : W1 d (k + 1) = W1 d k ++ h4 k 4 ++ s4 k d := by simp [W1, List.range_succ]
theorem W2_succ (c k : Nat) : W2 c (k + 1) = W2 c k ++ [((5 : Int), ((k + 1 : Nat) : Int), (0 : Int)), ((6 : Int), ((k + 1 : Nat) : Int), (0 : Int))] ++ f4 (k + 1) (c + 1) := by simp [W2, List.range_succ]
theorem h4_len (k j : Nat) : (h4 k j).length = j := by simp [h4]
theorem s4_len (k j : Nat) : (s4 k j).length = j := by simp [s4]
theorem f4_len (f q : Nat) : (f4 f q).length = q * 4 := by
  induction q with
  | zero => rfl
  | succ q ih => rw [f4_succ, List.length_append, ih]; simp; omega
theorem W1_len (d k : Nat) : (W1 d k).length = k * (4 + d) := by
  induction k with
  | zero => simp [W1]
  | succ k ih => rw [W1_succ, List.length_append, List.length_append, ih, h4_len, s4_len, Nat.add_mul]; omega
theorem W2_len (c k : Nat) : (W2 c k).length = k * (2 + (c + 1) * 4) := by
  induction k with
  | zero => simp [W2]
  | succ k ih => rw [W2_succ, List.length_append, List.length_append, ih, f4_len, Nat.succ_mul k]; simp only [List.length_cons, List.length_nil]; omega
theorem row_keptT {w w' : World} {base : Nat} {v : Value} {n : Nat} {xs : List Value} (h : w.ownsRow base 84 3 v n xs) (hk : ∀ k, v.ownBlock = some k → w'.heap[k]? = w.heap[k]?) : w'.ownsRow base 84 3 v n xs := by
  obtain ⟨hl, h⟩ := h
  refine ⟨hl, ?_⟩
  rcases h with h | ⟨g, cap, cur, rfl, hg, hh, h1, h2, h3, h4⟩
  · exact .inl h
  · exact .inr ⟨g, cap, cur, rfl, hg, (hk g rfl).trans hh, h1, h2, h3, h4⟩
structure LT (w0 w : World) (P B : Nat) (a b c d : Int) (va : Value) (xs : List T3) : Prop where
  bl : Below w0.heap.size w0 w
  c0 : w.cell? ⟨P, 0, none⟩ = some (.int .i64 a)
  c1 : w.cell? ⟨P, 1, none⟩ = some (.int .i64 b)
  c2 : w.cell? ⟨P, 2, none⟩ = some (.int .i64 c)
  c3 : w.cell? ⟨P, 3, none⟩ = some (.int .i64 d)
  v : w.ownsRow B 84 3 va xs.length (trips xs)
  lt : P < B ∧ w0.heap.size ≤ B ∧ B ≤ w.heap.size
theorem cellT {w w' : World} {B X i : Nat} {v : Value} (h : w.cell? ⟨X, i, none⟩ = some v) (hb : Below B w w') (hX : X < B) : w'.cell? ⟨X, i, none⟩ = some v :=
  (cell_heap (hb.block X hX)).trans h
variable {w0 w w' : World} {P B : Nat} {a b c d : Int} {va va' : Value} {xs us : List T3}
theorem LT.grow (h : LT w0 w P B a b c d va xs) (hb : Below B w w') (hr : w'.ownsRow B 84 3 va' us.length (trips us)) : LT w0 w' P B a b c d va' us := by
  obtain ⟨h0, h1, h2, h3, h4, h6, l1, l2, l3⟩ := h
  exact ⟨h0.trans (hb.mono l2), cellT h1 hb l1, cellT h2 hb l1, cellT h3 hb l1, cellT h4 hb l1, hr, l1, l2, Nat.le_trans l3 hb.size⟩
theorem LT.below (h : LT w0 w P B a b c d va xs) (hb : Below w.heap.size w w') : LT w0 w' P B a b c d va xs :=
  h.grow (hb.mono h.lt.2.2) (row_keptT h.v fun k e => hb.block k (h.v.lt k e).2)
theorem LT.app (h : LT w0 w P B a b c d va xs) (o : Obj) (hr : w'.ownsRow B 84 3 va' us.length (trips us)) (hg : (w.alloc o).grownBy w' va.ownBlock) : LT w0 w' P B a b c d va' us := by
  have h2 : LT w0 (w.alloc o) P B a b c d va xs := h.below ((Below.refl _ _).alloc (Nat.le_refl _) _)
  exact h2.grow ((Below.refl _ _).grown hg h2.lt.2.2 (fun k e => (h2.v.lt k e).1)) hr
def words (a b c d : Nat) : List T3 := W1 d a ++ W2 c b
set_option maxRecDepth 20000 in
set_option maxHeartbeats 4000000 in
theorem words_of (a b c d : Nat) (w : World) (hO : Hid (Okay a b c d)) :
    Calls Try.prog 56 #[.agg #[.int .i64 a, .int .i64 b, .int .i64 c, .int .i64 d]] w fun e w' => ∃ v', e = .returned v' ∧ w'.ownsRow (w.heap.size + 1) 84 3 v' (words a b c d).length (trips (words a b c d)) ∧ Below w.heap.size w w' ∧ w.heap.size + 1 ≤ w'.heap.size := by
  obtain ⟨a0, a1, b0, b1, c0, c1, d0, d1⟩ := hO.out
  have m1 : ∀ k : Nat, k ≤ a → k * (4 + d) ≤ 16640 := fun k hk => by
    have h1 : k * (4 + d) ≤ 64 * (4 + d) := Nat.mul_le_mul_right _ (by omega)
    omega
  have m2 : ∀ k : Nat, k ≤ b → k * (2 + (c + 1) * 4) ≤ 67072 := fun k hk => by
    have h1 : k * (2 + (c + 1) * 4) ≤ 256 * (2 + (c + 1) * 4) := Nat.mul_le_mul_right _ (by omega)
    omega
  have M1 := Lib.hid m1
  have M2 := Lib.hid m2
  clear m1 m2
  go_enter Try.func56, Try.ntmps56
  go_wp2
  obtain ⟨W, hW⟩ : ∃ W, W = w.alloc (Obj.cells #[Value.int .i64 a, .int .i64 b, .int .i64 c, .int .i64 d] 74) := ⟨_, rfl⟩
  have hA0 : LT w W w.heap.size (w.heap.size + 1) a b c d (.slice none 0 0) (W1 d 0) := by
    rw [hW]
    exact ⟨by go_grown, by go_simp, by go_simp, by go_simp, by go_simp, ⟨rfl, .inl ⟨rfl, rfl⟩⟩, by omega, by omega, by simp⟩
  rw [← hW]
  clear hW
  obtain ⟨B, hB⟩ : ∃ B, B = w.heap.size + 1 := ⟨_, rfl⟩
  rw [← hB] at hA0
  obtain ⟨P, hP⟩ : ∃ P, P = w.heap.size := ⟨_, rfl⟩
  rw [← hP] at hA0 ⊢
  have AA := Lib.hid hA0
  have HB := Lib.hid hB
  clear hA0 hB hP
  go_loopw [3, 4] (fun va i wr => ∃ (k : Nat) (va' : Value), va' = va ∧ k ≤ a ∧ i = .int .i64 k ∧ LT w wr P B a b c d va' (W1 d k)) (fun _ i _ => a - (intOf i).toNat)
  case atStart => exact ⟨0, _, rfl, Nat.zero_le _, rfl, AA.out⟩
  case round =>
    clear AA
    obtain ⟨k, va, rfl, hk, rfl, hA⟩ := hrel
    have p0 := hA.c0
    have p1 := hA.c1
    have p2 := hA.c2
    have p3 := hA.c3
    have A1 := Lib.hid hA
    have mk := M1.out k hk
    by_cases hlt : k < a
    · clear hA
      go_wp2_with fail
      go_loopw [3, 5] (fun va i wr => ∃ (j : Nat) (va' : Value), va' = va ∧ j ≤ 4 ∧ i = .int .i64 j ∧ LT w wr P B a b c d va' (W1 d k ++ h4 k j)) (fun _ i _ => 4 - (intOf i).toNat)
      case atStart => exact ⟨0, _, rfl, Nat.zero_le _, rfl, by have := A1.out; simpa [h4] using this⟩
      case round =>
        clear A1 p0 p1 p2 p3
        obtain ⟨j, va, rfl, hj, rfl, hA⟩ := hrel
        have A1 := Lib.hid hA
        clear hA
        by_cases hlj : j < 4
        · go_wp2_with (at_builtin; refine wpList_appT rfl _ _ rfl B va (W1 d k ++ h4 k j) [((j : Int), (k : Int), (0 : Int))] rfl wr.heap.size 1 1 84 #[.int .i64 (j : Int), .int .i64 (k : Int), .int .i64 0] (0, 0) rfl ?a1 ?a2 rfl rfl ?a3 ?a4 ?_)
          case a1 => exact A1.out.v.alloc _
          case a2 => exact heap_made wr _
          case a3 => simp only [List.length_append, List.length_cons, List.length_nil, W1_len, W2_len, h4_len, s4_len, f4_len]; omega
          case a4 => exact (A1.out.below (w' := wr.alloc (.cells #[.int .i64 (j : Int), .int .i64 (k : Int), .int .i64 0] 84)) ((Below.refl _ _).alloc (Nat.le_refl _) _)).lt.2.2
          intro va2 w6 hr6 hg6
          have hA6 := A1.out.app (us := W1 d k ++ h4 k (j + 1)) _ (by simpa [h4_succ] using hr6) hg6
          have A6 := Lib.hid hA6
          clear hr6 hg6 hA6
          go_wp2_with fail
          go_roundw
          case rel => exact ⟨j + 1, _, rfl, by omega, by go_num, A6.out⟩
          case measure => simp [intOf]; omega
        · obtain rfl : j = 4 := by omega
          go_wp2_with fail
          go_loopw [3, 6] (fun va i wr => ∃ (j : Nat) (va' : Value), va' = va ∧ j ≤ d ∧ i = .int .i64 j ∧ LT w wr P B a b c d va' (W1 d k ++ h4 k 4 ++ s4 k j)) (fun _ i _ => d - (intOf i).toNat)
          case atStart => exact ⟨0, _, rfl, Nat.zero_le _, rfl, by have := A1.out; simpa [s4] using this⟩
          case round =>
            clear A1
            obtain ⟨j, va, rfl, hj, rfl, hA⟩ := hrel
            have p0 := hA.c0
            have p1 := hA.c1
            have p2 := hA.c2
            have p3 := hA.c3
            have A1 := Lib.hid hA
            clear hA
            by_cases hlj : j < d
            · go_wp2_with (at_builtin; refine wpList_appT rfl _ _ rfl B va (W1 d k ++ h4 k 4 ++ s4 k j) [((4 : Int), (k : Int), (j : Int))] rfl wr.heap.size 1 1 84 #[.int .i64 4, .int .i64 (k : Int), .int .i64 (j : Int)] (0, 0) rfl ?b1 ?b2 rfl rfl ?b3 ?b4 ?_)
              case b1 => exact A1.out.v.alloc _
              case b2 => exact heap_made wr _
              case b3 => simp only [List.length_append, List.length_cons, List.length_nil, W1_len, W2_len, h4_len, s4_len, f4_len]; omega
              case b4 => exact (A1.out.below (w' := wr.alloc (.cells #[.int .i64 4, .int .i64 (k : Int), .int .i64 (j : Int)] 84)) ((Below.refl _ _).alloc (Nat.le_refl _) _)).lt.2.2
              intro va2 w6 hr6 hg6
              have hA6 := A1.out.app (us := W1 d k ++ h4 k 4 ++ s4 k (j + 1)) _ (by simpa [s4_succ] using hr6) hg6
              have A6 := Lib.hid hA6
              clear hr6 hg6 hA6
              go_wp2_with fail
              go_roundw
              case rel =>
                refine ⟨_, _, _, _, _, _, _, _, _, _, _, _, _, _, ?_, rfl⟩
                exact ⟨j + 1, _, rfl, by omega, by go_num, A6.out⟩
              case measure => simp [intOf]; omega
            · obtain rfl : j = d := by omega
              go_wp2_with fail
              go_roundw
              case rel => exact ⟨k + 1, _, rfl, by omega, by go_num, by rw [W1_succ]; exact A1.out⟩
              case measure => simp [intOf]; omega
    · obtain rfl : k = a := by omega
      clear hA
      go_wp2_with fail
      go_loopw [3, 7] (fun va i wr => ∃ (n : Nat) (va' : Value), va' = va ∧ n ≤ b ∧ i = .int .i64 ((n + 1 : Nat) : Int) ∧ LT w wr P B k b c d va' (W1 d k ++ W2 c n)) (fun _ i _ => b + 1 - (intOf i).toNat)
      case atStart => exact ⟨0, _, rfl, Nat.zero_le _, rfl, by have := A1.out; simpa [W2] using this⟩
      case round =>
        clear A1 p0 p1 p2 p3
        obtain ⟨n, va, rfl, hn, rfl, hA⟩ := hrel
        have p0 := hA.c0
        have p1 := hA.c1
        have p2 := hA.c2
        have p3 := hA.c3
        have A1 := Lib.hid hA
        have mn := M2.out n hn
        clear hA
        by_cases hlt : n < b
        · go_wp2_with (at_builtin; refine wpList_appT rfl _ _ rfl B va (W1 d k ++ W2 c n) [((5 : Int), ((n + 1 : Nat) : Int), (0 : Int)), ((6 : Int), ((n + 1 : Nat) : Int), (0 : Int))] rfl wr.heap.size 2 2 84 #[.int .i64 5, .int .i64 ((n + 1 : Nat) : Int), .int .i64 0, .int .i64 6, .int .i64 ((n + 1 : Nat) : Int), .int .i64 0] (0, 0) rfl ?c1 ?c2 rfl rfl ?c3 ?c4 ?_)
          case c1 => exact A1.out.v.alloc _
          case c2 => exact heap_made wr _
          case c3 => simp only [List.length_append, List.length_cons, List.length_nil, W1_len, W2_len, h4_len, s4_len, f4_len]; omega
          case c4 => exact (A1.out.below (w' := wr.alloc (.cells #[.int .i64 5, .int .i64 ((n + 1 : Nat) : Int), .int .i64 0, .int .i64 6, .int .i64 ((n + 1 : Nat) : Int), .int .i64 0] 84)) ((Below.refl _ _).alloc (Nat.le_refl _) _)).lt.2.2
          intro va2 w6 hr6 hg6
          have hA6 := A1.out.app (us := W1 d k ++ W2 c n ++ [((5 : Int), ((n + 1 : Nat) : Int), (0 : Int)), ((6 : Int), ((n + 1 : Nat) : Int), (0 : Int))]) _ (by simpa [] using hr6) hg6
          have A6 := Lib.hid hA6
          clear hr6 hg6 hA6
          go_wp2_with fail
          go_loopw [3, 8] (fun va i wr => ∃ (j : Nat) (va' : Value), va' = va ∧ j ≤ c + 1 ∧ i = .int .i64 j ∧ LT w wr P B k b c d va' (W1 d k ++ W2 c n ++ [((5 : Int), ((n + 1 : Nat) : Int), (0 : Int)), ((6 : Int), ((n + 1 : Nat) : Int), (0 : Int))] ++ f4 (n + 1) j)) (fun _ i _ => c + 1 - (intOf i).toNat)
          case atStart => exact ⟨0, _, rfl, Nat.zero_le _, rfl, by have := A6.out; simpa [f4] using this⟩
          case round =>
            clear A1 A6 p0 p1 p2 p3
            obtain ⟨j, va, rfl, hj, rfl, hA⟩ := hrel
            have p0 := hA.c0
            have p1 := hA.c1
            have p2 := hA.c2
            have p3 := hA.c3
            have A1 := Lib.hid hA
            clear hA
            by_cases hlj : j < c + 1
            · go_wp2_with (at_builtin; refine wpList_appT rfl _ _ rfl B va (W1 d k ++ W2 c n ++ [((5 : Int), ((n + 1 : Nat) : Int), (0 : Int)), ((6 : Int), ((n + 1 : Nat) : Int), (0 : Int))] ++ f4 (n + 1) j) [((7 : Int), ((n + 1 : Nat) : Int), (j : Int)), ((8 : Int), ((n + 1 : Nat) : Int), (j : Int)), ((9 : Int), ((n + 1 : Nat) : Int), (j : Int)), ((10 : Int), ((n + 1 : Nat) : Int), (j : Int))] rfl wr.heap.size 4 4 84 #[.int .i64 7, .int .i64 ((n + 1 : Nat) : Int), .int .i64 (j : Int), .int .i64 8, .int .i64 ((n + 1 : Nat) : Int), .int .i64 (j : Int), .int .i64 9, .int .i64 ((n + 1 : Nat) : Int), .int .i64 (j : Int), .int .i64 10, .int .i64 ((n + 1 : Nat) : Int), .int .i64 (j : Int)] (0, 0) rfl ?d1 ?d2 rfl rfl ?d3 ?d4 ?_)
              case d1 => exact A1.out.v.alloc _
              case d2 => exact heap_made wr _
              case d3 => simp only [List.length_append, List.length_cons, List.length_nil, W1_len, W2_len, h4_len, s4_len, f4_len]; omega
              case d4 => exact (A1.out.below (w' := wr.alloc (.cells #[.int .i64 7, .int .i64 ((n + 1 : Nat) : Int), .int .i64 (j : Int), .int .i64 8, .int .i64 ((n + 1 : Nat) : Int), .int .i64 (j : Int), .int .i64 9, .int .i64 ((n + 1 : Nat) : Int), .int .i64 (j : Int), .int .i64 10, .int .i64 ((n + 1 : Nat) : Int), .int .i64 (j : Int)] 84)) ((Below.refl _ _).alloc (Nat.le_refl _) _)).lt.2.2
              intro va2 w6 hr6 hg6
              have hA6 := A1.out.app (us := W1 d k ++ W2 c n ++ [((5 : Int), ((n + 1 : Nat) : Int), (0 : Int)), ((6 : Int), ((n + 1 : Nat) : Int), (0 : Int))] ++ f4 (n + 1) (j + 1)) _ (by simpa [f4_succ] using hr6) hg6
              have A6 := Lib.hid hA6
              clear hr6 hg6 hA6
              go_wp2_with fail
              go_roundw
              case rel => exact ⟨j + 1, _, rfl, by omega, by go_num, A6.out⟩
              case measure => simp [intOf]; omega
            · obtain rfl : j = c + 1 := by omega
              go_wp2_with fail
              go_roundw
              case rel => exact ⟨n + 1, _, rfl, by omega, by go_num, by rw [W2_succ, ← List.append_assoc, ← List.append_assoc]; exact A1.out⟩
              case measure => simp [intOf]; omega
        · obtain rfl : n = b := by omega
          go_wp2_with fail
          go_ret
          exact ⟨_, rfl, by rw [← HB.out]; exact A1.out.v, A1.out.bl, by rw [← HB.out]; exact A1.out.lt.2.2⟩
end Go.Proofs.Ytfigabjcmpakeaa
