/- Powers that go round, sums of views, and append of a view as a step of a drawn region. -/
import Derived.Test.YtiinicdhpicchaaView
import Derived.Test.YtiinicdhpicchaaBase
import Derived.Deep.RegionHeld3
namespace Go.Proofs.Ytiinicdhpicchaa
open Go.ChangeShapes Go.WideShapes Go.ChangeAt Go.RowKit
set_option linter.unusedVariables false
set_option linter.unusedSimpArgs false
def powW (a : Int) : Nat → Int
  | 0 => 1
  | k + 1 => wrap64 (powW a k * a)
theorem wrap64_mul_left (a b : Int) : wrap64 (wrap64 a * b) = wrap64 (a * b) := by
  rw [wrap64_bv (wrap64 a * b), wrap64_bv a, wrap64_bv (a * b), BitVec.ofInt_mul, BitVec.ofInt_toInt, BitVec.ofInt_mul]
theorem powW_eq (a : Int) (k : Nat) : powW a k = wrap64 (a ^ k) := by
  induction k with
  | zero => simp [powW]; unfold wrap64; omega
  | succ k ih => rw [powW, ih, wrap64_mul_left, Int.pow_succ]
theorem wrap64_mul_both (a b : Int) : wrap64 (wrap64 a * wrap64 b) = wrap64 (a * b) := by
  rw [wrap64_mul_left, Int.mul_comm, wrap64_mul_left, Int.mul_comm]
theorem powW_add (a : Int) (m n : Nat) : wrap64 (powW a m * powW a n) = powW a (m + n) := by
  rw [powW_eq, powW_eq, powW_eq, wrap64_mul_both, Int.pow_add]
theorem powW_one (a : Int) (h1 : -9223372036854775808 ≤ a) (h2 : a ≤ 9223372036854775807) : powW a 1 = a := by
  rw [powW_eq]; simp only [Int.pow_succ, Int.pow_zero, Int.one_mul]; exact wrap64_id a h1 h2
theorem sum_app (xs ys : List Int) : wrap64 (sumW xs + sumW ys) = sumW (xs ++ ys) := by
  rw [sumW_eq, sumW_eq, sumW_eq, List.sum_append]; unfold wrap64; omega
theorem sum_comm (xs ys : List Int) : sumW (xs ++ ys) = sumW (ys ++ xs) := by
  rw [sumW_eq, sumW_eq, List.sum_append, List.sum_append, Int.add_comm]
theorem pow_mm (a n : Int) (k : Nat) (w : World) (hk : k ≤ 1000) (m1 : Int) (h1 : (if n < 0 then (0 : Int) else n) = m1) (h2 : (if 1000 < m1 then (1000 : Int) else m1) = k) : Calls Try.prog 13 #[.int .i64 a, .int .i64 n] w fun e w' => e = .returned (.int .i64 (powW a k)) ∧ w = w' := by
  go_enter Try.func13, Try.ntmps13
  go_wp2
  clear h1 h2
  go_loop [5, 9] (fun p i => ∃ j : Nat, j ≤ k ∧ i = .int .i64 j ∧ p = .int .i64 (powW a j)) (fun _ i => k - (intOf i).toNat)
  case atStart => exact ⟨0, Nat.zero_le _, rfl, rfl⟩
  case round =>
    obtain ⟨j, hj, rfl, rfl⟩ := hrel
    by_cases hlt : j < k
    · have HS : Hid (powW a (j + 1) = wrap64 (powW a j * a)) := Lib.hid rfl
      go_wp2
      go_round
      case rel => exact ⟨j + 1, by omega, by go_num, by rw [HS.out]⟩
      case measure => simp [intOf]; omega
    · obtain rfl : j = k := by omega
      go_wp2
      go_ret
      exact ⟨rfl, rfl⟩
theorem pow_k (a : Int) (k : Nat) (w : World) (hk : k ≤ 1000) : Calls Try.prog 13 #[.int .i64 a, .int .i64 k] w fun e w' => e = .returned (.int .i64 (powW a k)) ∧ w = w' :=
  pow_mm a k k w hk k (by rw [if_neg (by omega)]) (by rw [if_neg (by omega)])
theorem sum_empty (ad : Option Addr) (cap : Nat) (w : World) : Calls Try.prog 12 #[.slice ad 0 cap] w fun e w' => e = .returned (.int .i64 0) ∧ w = w' := by
  go_enter Try.func12, Try.ntmps12
  go_wp2
  go_loop [3, 8] (fun s i => s = .int .i64 0 ∧ i = .int .i64 ((0 : Nat) : Int)) (fun _ i => 0)
  case atStart => exact ⟨rfl, rfl⟩
  case round =>
    obtain ⟨rfl, rfl⟩ := hrel
    go_wp2
    go_ret
    exact ⟨rfl, rfl⟩
theorem sum_v (v : Value) (xs : List Int) (w : World) (h : View w v xs) : Calls Try.prog 12 #[v] w fun e w' => e = .returned (.int .i64 (sumW xs)) ∧ w = w' := by
  rcases h.cases with ⟨rfl, ad, cap, rfl, _, _⟩ | ⟨hne, b, off, cap, rfl, hle, hlt, hm, hc⟩
  · exact sum_empty ad cap w
  · exact (sum_any ⟨b, off, none⟩ xs.length cap xs w rfl hm (fun i hi => by rw [Go.WideShapes.add_plain]; exact hc i hi)).mono fun e w' h => ⟨h.1, h.2.symm⟩
theorem View.drop {w : World} {b off n c : Nat} {xs : List Int} (h : View w (.slice (some ⟨b, off, none⟩) n c) xs) (k : Nat) (hk : k ≤ xs.length) : View w (.slice (some ⟨b, off + k, none⟩) (n - k) (c - k)) (xs.drop k) := by
  obtain ⟨a', c', hv, hm, hn, hc⟩ := h
  simp only [Value.slice.injEq] at hv
  obtain ⟨rfl, rfl, rfl⟩ := hv
  have hlen : (xs.drop k).length = xs.length - k := by rw [List.length_drop]
  refine ⟨_, _, by rw [hlen], ⟨by rw [hlen]; omega, by omega⟩, (fun h => by cases h), fun hne => ?_⟩
  have hy : xs ≠ [] := by intro h; rw [h] at hne; simp at hne
  obtain ⟨b, o, e, hlt, hle, hcc⟩ := hc hy
  cases e
  refine ⟨b, off + k, rfl, hlt, by rw [hlen]; omega, fun i hi => ?_⟩
  rw [hlen] at hi
  rw [show off + k + i = off + (k + i) by omega, hcc (k + i) (by omega)]
  simp
theorem run_copy_view {w : World} (ty B : Nat) (v x : Value) (ys xs : List Int) (hrow : w.ownsRow B 3 1 v ys.length (ys.map (Value.int .i64))) (hx : View w x xs) (hsm : ys.length + xs.length ≤ 100000) (hB : B ≤ w.heap.size) :
    ∃ v' w', (Builtin.append_ #[28, 28] ty #[v, x]).run Try.prog w = .ok v' w' ∧ w'.ownsRow B 3 1 v' (ys ++ xs).length ((ys ++ xs).map (Value.int .i64)) ∧ Below B w w' := by
  obtain ⟨i0, hi, hz0, hz1, hz2⟩ := info_parts info3
  rcases hx.cases with ⟨rfl, ad, cap, rfl, hn, _⟩ | ⟨hne, b, off, cap, rfl, hle, hlt, hm, hc⟩
  · cases ad with
    | none =>
      obtain rfl := hn rfl
      exact ⟨v, w, run_append_owned_none (P := Try.prog) (w := w) B 28 ty 3 i0 1 Try.underlying28 hi v ys.length _ hrow, by simpa using hrow, Below.refl _ _⟩
    | some ad =>
      obtain ⟨v', w', h1, h2, h3, _⟩ := run_append_own (P := Try.prog) (w := w) B 28 ty 3 i0 (.int .i64 0) 1 8 Try.underlying28 hi hz0 hz1 hz2 rfl (by decide) v ys.length _ hrow ad 0 cap [] rfl (by simp) (by simp) (by simp [maxLen]; omega) (by omega) hB
      exact ⟨v', w', h1, by simpa using h2, (Below.refl _ _).grown h3 (by omega) (fun k hk => (hrow.lt k hk).1)⟩
  · obtain ⟨v', w', h1, h2, h3, _⟩ := run_append_own (P := Try.prog) (w := w) B 28 ty 3 i0 (.int .i64 0) 1 8 Try.underlying28 hi hz0 hz1 hz2 rfl (by decide) v ys.length _ hrow ⟨b, off, none⟩ xs.length cap (xs.map (Value.int .i64)) (by simp) (by
        intro j u hj
        have hj' : j < xs.length := by
          rcases Nat.lt_or_ge j xs.length with h | h
          · exact h
          · rw [List.getElem?_eq_none (by simpa using h)] at hj; cases hj
        have e : u = Value.int .i64 (xs.getD j 0) := by
          rw [List.getElem?_map, List.getElem?_eq_getElem hj'] at hj
          simp [hj'] at hj ⊢
          exact hj.symm
        subst e
        rw [Go.WideShapes.add_plain]
        exact hc j hj') (by intro u hu; obtain ⟨n, _, rfl⟩ := List.mem_map.1 hu; rfl) (by unfold maxLen; omega) (by omega) hB
    exact ⟨v', w', h1, by simpa using h2, (Below.refl _ _).grown h3 (by omega) (fun k hk => (hrow.lt k hk).1)⟩
theorem wp_copy_view {o : Oper} {a : Act} {w : World} {K : Act → World → Prop} {Q : Exit → Act → World → Prop} (s x : Operand)
    (ho : o.op = .call { callee := .builtin .append, args := #[s, x], argTypes := #[28, 28] })
    (B : Nat) (v : Value) (ys : List Int) (hs : a.eval s = v) (hrow : w.ownsRow B 3 1 v ys.length (ys.map (Value.int .i64)))
    (xv : Value) (xs : List Int) (hx : a.eval x = xv) (hv : View w xv xs) (hsm : ys.length + xs.length ≤ 100000) (hB : B ≤ w.heap.size)
    (h : ∀ v' w', w'.ownsRow B 3 1 v' (ys ++ xs).length ((ys ++ xs).map (Value.int .i64)) → Below B w w' → K (a.put o.dst v') w') : o.wp Try.prog a w K Q := by
  obtain ⟨v', w', hr, h2, h3⟩ := run_copy_view o.type B v xv ys xs hrow hv hsm hB
  unfold Oper.wp execOp
  simp only [ho, resolve, invoke, builtin, Sem.run_bind, Sem.run_pure, Result.andThen_ok, List.map_toArray, List.map_cons, List.map_nil, hs, hx, hr]
  exact h v' w' h2 h3
theorem step_copy_view {ops : Array Oper} {o : Oper} {a : Act} {w : World} {K : Act → World → Prop} {Q : Exit → Act → World → Prop} {E : Prop} (hgd : o.guard = none) (s x : Operand)
    (ho : o.op = .call { callee := .builtin .append, args := #[s, x], argTypes := #[28, 28] })
    (B : Nat) (v : Value) (ys : List Int) (hs : a.eval s = v) (hrow : w.ownsRow B 3 1 v ys.length (ys.map (Value.int .i64)))
    (xv : Value) (xs : List Int) (hx : a.eval x = xv) (hv : View w xv xs) (hsm : ys.length + xs.length ≤ 100000) (hB : B ≤ w.heap.size)
    (h : ∀ v' w', w'.ownsRow B 3 1 v' (ys ++ xs).length ((ys ++ xs).map (Value.int .i64)) → Below B w w' → K (a.put o.dst v') w') :
    if Region.wanted o (yielded ops a.tmps) = true then Oper.wp Try.prog o a w K Q else E := by
  have hw : Region.wanted o (yielded ops a.tmps) = true := by simp [Region.wanted, hgd]
  rw [if_pos hw]
  exact wp_copy_view s x ho B v ys hs hrow xv xs hx hv hsm hB h
end Go.Proofs.Ytiinicdhpicchaa
