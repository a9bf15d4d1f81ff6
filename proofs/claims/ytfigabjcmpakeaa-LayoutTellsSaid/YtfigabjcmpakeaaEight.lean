/- What the plan's functions tell, and what the reference's At tells of the same words: the same (layer 11). -/
import Derived.Test.YtfigabjcmpakeaaPlace
namespace Go.Proofs.Ytfigabjcmpakeaa
open Go.ChangeShapes Go.WideShapes Go.ChangeAt Go.RowKit
set_option linter.unusedVariables false
set_option linter.unusedSimpArgs false
theorem at_word (a b c d : Nat) (x y z Z : Int) (hO : Okay a b c d) (hm : (x, y, z) ∈ words a b c d) (hZ : pl a c d (x, y, z) = Z) (B : Nat) (v : Value) (w : World) (hv : w.ownsRow B 84 3 v (words a b c d).length (trips (words a b c d))) :
    Calls Try.prog 58 #[v, .agg #[.int .i64 x, .int .i64 y, .int .i64 z]] w fun e w' => e = .returned (.int .i64 Z) ∧ Below w.heap.size w w' := by
  obtain ⟨i, hi⟩ := List.getElem?_of_mem hm
  have hg := good_words a b c d i _ hi
  obtain rfl : Z = (i : Int) := by omega
  have h := word_at a b c d i _ hm hZ
  exact at_own B v _ i x y z w hv (words_small a b c d hO) h.1 h.2
structure Eight (a b c d : Nat) (wk n id it k f q i n1 i1 z0 z1 z2 z3 z4 z5 z6 z7 : Int) : Prop where
  H1 : ∀ w : World, Calls Try.prog 57 #[.int .i64 wk, .int .i64 0, .int .i64 ((a : Int) - 1)] w fun e w' => e = .returned (.int .i64 k) ∧ w = w'
  H2 : ∀ w : World, Calls Try.prog 57 #[.int .i64 id, .int .i64 1, .int .i64 b] w fun e w' => e = .returned (.int .i64 f) ∧ w = w'
  H3 : ∀ w : World, Calls Try.prog 57 #[.int .i64 n, .int .i64 0, .int .i64 n] w fun e w' => e = .returned (.int .i64 n1) ∧ w = w'
  H4 : ∀ w : World, Calls Try.prog 57 #[.int .i64 it, .int .i64 0, .int .i64 it] w fun e w' => e = .returned (.int .i64 i1) ∧ w = w'
  q1 : n1.tmod d = q
  q2 : i1.tmod ((c : Int) + 1) = i
  n0 : 0 ≤ n1
  i0 : 0 ≤ i1
  L0 : ∀ w : World, Calls Try.prog 48 #[.agg #[.int .i64 a, .int .i64 b, .int .i64 c, .int .i64 d], .int .i64 wk] w fun e w' => e = .returned (.int .i64 z0) ∧ Below w.heap.size w w'
  A0 : ∀ (B : Nat) (v : Value) (w : World), w.ownsRow B 84 3 v (words a b c d).length (trips (words a b c d)) → Calls Try.prog 58 #[v, .agg #[.int .i64 0, .int .i64 k, .int .i64 0]] w fun e w' => e = .returned (.int .i64 z0) ∧ Below w.heap.size w w'
  L1 : ∀ w : World, Calls Try.prog 49 #[.agg #[.int .i64 a, .int .i64 b, .int .i64 c, .int .i64 d], .int .i64 wk, .int .i64 n] w fun e w' => e = .returned (.int .i64 z1) ∧ Below w.heap.size w w'
  A1 : ∀ (B : Nat) (v : Value) (w : World), w.ownsRow B 84 3 v (words a b c d).length (trips (words a b c d)) → Calls Try.prog 58 #[v, .agg #[.int .i64 4, .int .i64 k, .int .i64 q]] w fun e w' => e = .returned (.int .i64 z1) ∧ Below w.heap.size w w'
  L2 : ∀ w : World, Calls Try.prog 50 #[.agg #[.int .i64 a, .int .i64 b, .int .i64 c, .int .i64 d], .int .i64 id] w fun e w' => e = .returned (.int .i64 z2) ∧ Below w.heap.size w w'
  A2 : ∀ (B : Nat) (v : Value) (w : World), w.ownsRow B 84 3 v (words a b c d).length (trips (words a b c d)) → Calls Try.prog 58 #[v, .agg #[.int .i64 5, .int .i64 f, .int .i64 0]] w fun e w' => e = .returned (.int .i64 z2) ∧ Below w.heap.size w w'
  L3 : ∀ w : World, Calls Try.prog 51 #[.agg #[.int .i64 a, .int .i64 b, .int .i64 c, .int .i64 d], .int .i64 id] w fun e w' => e = .returned (.int .i64 z3) ∧ Below w.heap.size w w'
  A3 : ∀ (B : Nat) (v : Value) (w : World), w.ownsRow B 84 3 v (words a b c d).length (trips (words a b c d)) → Calls Try.prog 58 #[v, .agg #[.int .i64 6, .int .i64 f, .int .i64 0]] w fun e w' => e = .returned (.int .i64 z3) ∧ Below w.heap.size w w'
  L4 : ∀ w : World, Calls Try.prog 52 #[.agg #[.int .i64 a, .int .i64 b, .int .i64 c, .int .i64 d], .int .i64 id, .int .i64 it] w fun e w' => e = .returned (.int .i64 z4) ∧ Below w.heap.size w w'
  A4 : ∀ (B : Nat) (v : Value) (w : World), w.ownsRow B 84 3 v (words a b c d).length (trips (words a b c d)) → Calls Try.prog 58 #[v, .agg #[.int .i64 7, .int .i64 f, .int .i64 i]] w fun e w' => e = .returned (.int .i64 z4) ∧ Below w.heap.size w w'
  L5 : ∀ w : World, Calls Try.prog 53 #[.agg #[.int .i64 a, .int .i64 b, .int .i64 c, .int .i64 d], .int .i64 id, .int .i64 it] w fun e w' => e = .returned (.int .i64 z5) ∧ Below w.heap.size w w'
  A5 : ∀ (B : Nat) (v : Value) (w : World), w.ownsRow B 84 3 v (words a b c d).length (trips (words a b c d)) → Calls Try.prog 58 #[v, .agg #[.int .i64 8, .int .i64 f, .int .i64 i]] w fun e w' => e = .returned (.int .i64 z5) ∧ Below w.heap.size w w'
  L6 : ∀ w : World, Calls Try.prog 54 #[.agg #[.int .i64 a, .int .i64 b, .int .i64 c, .int .i64 d], .int .i64 id, .int .i64 it] w fun e w' => e = .returned (.int .i64 z6) ∧ Below w.heap.size w w'
  A6 : ∀ (B : Nat) (v : Value) (w : World), w.ownsRow B 84 3 v (words a b c d).length (trips (words a b c d)) → Calls Try.prog 58 #[v, .agg #[.int .i64 9, .int .i64 f, .int .i64 i]] w fun e w' => e = .returned (.int .i64 z6) ∧ Below w.heap.size w w'
  L7 : ∀ w : World, Calls Try.prog 55 #[.agg #[.int .i64 a, .int .i64 b, .int .i64 c, .int .i64 d], .int .i64 id, .int .i64 it] w fun e w' => e = .returned (.int .i64 z7) ∧ Below w.heap.size w w'
  A7 : ∀ (B : Nat) (v : Value) (w : World), w.ownsRow B 84 3 v (words a b c d).length (trips (words a b c d)) → Calls Try.prog 58 #[v, .agg #[.int .i64 10, .int .i64 f, .int .i64 i]] w fun e w' => e = .returned (.int .i64 z7) ∧ Below w.heap.size w w'
theorem eight (a b c d : Nat) (wk n id it : Int) (hO : Hid (Okay a b c d)) : ∃ k f q i n1 i1 z0 z1 z2 z3 z4 z5 z6 z7 : Int, Eight a b c d wk n id it k f q i n1 i1 z0 z1 z2 z3 z4 z5 z6 z7 := by
  have hok := hO.out
  obtain ⟨a0, a1, b0, b1, c0, c1, d0, d1⟩ := hO.out
  obtain ⟨mw, hmw⟩ : ∃ m, (if wk < 0 then (0 : Int) else wk) = m := ⟨_, rfl⟩
  obtain ⟨k, hk⟩ : ∃ m, (if (a : Int) - 1 < mw then (a : Int) - 1 else mw) = m := ⟨_, rfl⟩
  obtain ⟨mi, hmi⟩ : ∃ m, (if id < 1 then (1 : Int) else id) = m := ⟨_, rfl⟩
  obtain ⟨f, hf⟩ : ∃ m, (if (b : Int) < mi then (b : Int) else mi) = m := ⟨_, rfl⟩
  obtain ⟨n1, hn⟩ : ∃ m, (if n < 0 then (0 : Int) else n) = m := ⟨_, rfl⟩
  obtain ⟨i1, hi⟩ : ∃ m, (if it < 0 then (0 : Int) else it) = m := ⟨_, rfl⟩
  have k1 : (wk < 0 ∧ k = 0) ∨ (¬ wk < 0 ∧ (a : Int) - 1 < wk ∧ k = (a : Int) - 1) ∨ (¬ wk < 0 ∧ ¬ (a : Int) - 1 < wk ∧ k = wk) := by
    split at hmw <;> split at hk <;> omega
  have k2 : 0 ≤ k ∧ k < a := by omega
  have f1 : (id < 1 ∧ f = 1) ∨ (¬ id < 1 ∧ (b : Int) < id ∧ f = b) ∨ (¬ id < 1 ∧ ¬ (b : Int) < id ∧ f = id) := by
    split at hmi <;> split at hf <;> omega
  have f2 : 1 ≤ f ∧ f ≤ b := by omega
  have n2 : (n < 0 ∧ n1 = 0) ∨ (¬ n < 0 ∧ n < n ∧ n1 = n) ∨ (¬ n < 0 ∧ ¬ n < n ∧ n1 = n) := by
    split at hn <;> omega
  have n3 : 0 ≤ n1 := by omega
  have i2 : (it < 0 ∧ i1 = 0) ∨ (¬ it < 0 ∧ it < it ∧ i1 = it) ∨ (¬ it < 0 ∧ ¬ it < it ∧ i1 = it) := by
    split at hi <;> omega
  have i3 : 0 ≤ i1 := by omega
  obtain ⟨q, hq⟩ : ∃ q, n1.tmod d = q := ⟨_, rfl⟩
  obtain ⟨i, hii⟩ : ∃ i, i1.tmod ((c : Int) + 1) = i := ⟨_, rfl⟩
  have q0 : 0 ≤ q ∧ q < d := ⟨by rw [← hq]; exact Int.tmod_nonneg _ n3, by rw [← hq]; exact Int.tmod_lt_of_pos _ (by omega)⟩
  have i0 : 0 ≤ i ∧ i < (c : Int) + 1 := ⟨by rw [← hii]; exact Int.tmod_nonneg _ i3, by rw [← hii]; exact Int.tmod_lt_of_pos _ (by omega)⟩
  obtain ⟨P, hP⟩ : ∃ P, k * (4 + (d : Int)) = P := ⟨_, rfl⟩
  obtain ⟨F, hF⟩ : ∃ F, (a : Int) * (4 + (d : Int)) + (f - 1) * (2 + ((c : Int) + 1) * 4) = F := ⟨_, rfl⟩
  obtain ⟨kn, hkn⟩ : ∃ kn : Nat, k = kn := ⟨k.toNat, by omega⟩
  obtain ⟨fn, hfn⟩ : ∃ fn : Nat, f = ((fn + 1 : Nat) : Int) := ⟨(f - 1).toNat, by omega⟩
  obtain ⟨qn, hqn⟩ : ∃ qn : Nat, q = qn := ⟨q.toNat, by omega⟩
  obtain ⟨im, him⟩ : ∃ im : Nat, i = im := ⟨i.toNat, by omega⟩
  have e0 : (0, k, 0) ∈ words a b c d := by rw [hkn]; exact mem_1 a b c d kn 0 (by omega) (by decide)
  have e1 : (4, k, q) ∈ words a b c d := by rw [hkn, hqn]; exact mem_2 a b c d kn qn (by omega) (by omega)
  have e2 : (5, f, 0) ∈ words a b c d := by rw [hfn]; exact (mem_3 a b c d fn (by omega)).1
  have e3 : (6, f, 0) ∈ words a b c d := by rw [hfn]; exact (mem_3 a b c d fn (by omega)).2
  have e4 : ∀ x : Int, (x = 7 ∨ x = 8 ∨ x = 9 ∨ x = 10) → (x, f, i) ∈ words a b c d := fun x hx => by rw [hfn, him]; exact mem_4 a b c d fn im x (by omega) (by omega) hx
  have hHP := Lib.hid hP
  have hHF := Lib.hid hF
  have hHq := Lib.hid hq
  have hHi := Lib.hid hii
  refine ⟨k, f, q, i, n1, i1, P, P + 4 + q, F, F + 1, F + 2 + i * 4 + 0, F + 2 + i * 4 + 1, F + 2 + i * 4 + 2, F + 2 + i * 4 + 3, ?_⟩
  exact {
    H1 := fun w => held_of _ _ _ _ w k1
    H2 := fun w => held_of _ _ _ _ w f1
    H3 := fun w => held_of _ _ _ _ w n2
    H4 := fun w => held_of _ _ _ _ w i2
    q1 := hq
    q2 := hii
    n0 := n3
    i0 := i3
    L0 := fun w => base_cl a b c d wk mw k P w hO hmw hk k2.1 k2.2 hHP
    A0 := fun B v w => at_word a b c d 0 k 0 P hok e0 (by simp [pl]; omega) B v w
    L1 := fun w => slot_cl a b c d wk mw k n n1 P q w hO hmw hk hn k2.1 k2.2 hHP n3 hHq
    A1 := fun B v w => at_word a b c d 4 k q _ hok e1 (by simp [pl]; omega) B v w
    L2 := fun w => frame_cl a b c d id mi f F w hO hmi hf f2.1 f2.2 hHF
    A2 := fun B v w => at_word a b c d 5 f 0 _ hok e2 (by simp [pl]; omega) B v w
    L3 := fun w => nap_cl a b c d id mi f F w hO hmi hf f2.1 f2.2 hHF
    A3 := fun B v w => at_word a b c d 6 f 0 _ hok e3 (by simp [pl]; omega) B v w
    L4 := fun w => counter_cl a b c d id mi f it i1 F i w hO hmi hf hi f2.1 f2.2 hHF i3 hHi
    A4 := fun B v w => at_word a b c d 7 f i _ hok (e4 7 (by simp)) (by simp [pl]; omega) B v w
    L5 := fun w => status_cl a b c d id mi f it i1 F i w hO hmi hf hi f2.1 f2.2 hHF i3 hHi
    A5 := fun B v w => at_word a b c d 8 f i _ hok (e4 8 (by simp)) (by simp [pl]; omega) B v w
    L6 := fun w => link_cl a b c d id mi f it i1 F i w hO hmi hf hi f2.1 f2.2 hHF i3 hHi
    A6 := fun B v w => at_word a b c d 9 f i _ hok (e4 9 (by simp)) (by simp [pl]; omega) B v w
    L7 := fun w => done_cl a b c d id mi f it i1 F i w hO hmi hf hi f2.1 f2.2 hHF i3 hHi
    A7 := fun B v w => at_word a b c d 10 f i _ hok (e4 10 (by simp)) (by simp [pl]; omega) B v w }
end Go.Proofs.Ytfigabjcmpakeaa
