/- Walks at a deque to their ends, alone; what they leave in its words (layer 13). -/
import Derived.Test.YtegbifphekhgkaaDqI
namespace Go.Proofs.Ytegbifphekhgkaa
open Go.ChangeShapes Go.WideShapes Go.ChangeAt Go.RowKit
set_option linter.unusedVariables false
set_option linter.unusedSimpArgs false
theorem dqset_eq {xs : List Int} {i : Nat} (v : Int) (h : i < xs.length) : (xs.set i v).getD i 0 = v := by
  rw [List.getD_eq_getElem?_getD, List.getElem?_set_self h]; rfl
theorem dqset_ne {xs : List Int} {i j : Nat} (v : Int) (h : i ≠ j) : (xs.set i v).getD j 0 = xs.getD j 0 := by
  rw [List.getD_eq_getElem?_getD, List.getElem?_set_ne h, List.getD_eq_getElem?_getD]
def updI (f : Nat → Int) (r : Nat) (x : Int) : Nat → Int := fun i => if i = r then x else f i
/-- The words of a deque at P: head, tail, the lock's two, slots. -/
structure Dq (P D : Nat) (xs : List Int) (h t k s : Int) (f : Nat → Int) : Prop where
  hd : xs.getD (P + 0) 0 = h
  tl : xs.getD (P + 1) 0 = t
  ka : xs.getD (P + 2) 0 = k
  sv : xs.getD (P + 3) 0 = s
  sl : ∀ i, i < D → xs.getD (P + 4 + i) 0 = f i
  ln : P + 4 + D ≤ xs.length
section
variable {P D : Nat} {xs : List Int} {h t k s : Int} {f : Nat → Int}
theorem Dq.set0 (v : Int) (q : Dq P D xs h t k s f) : Dq P D (xs.set (P + 0) v) v t k s f :=
  ⟨dqset_eq v (by have := q.ln; omega), (dqset_ne v (by omega)).trans q.tl, (dqset_ne v (by omega)).trans q.ka, (dqset_ne v (by omega)).trans q.sv, fun i hi => (dqset_ne v (by omega)).trans (q.sl i hi), by rw [List.length_set]; exact q.ln⟩
theorem Dq.set1 (v : Int) (q : Dq P D xs h t k s f) : Dq P D (xs.set (P + 1) v) h v k s f :=
  ⟨(dqset_ne v (by omega)).trans q.hd, dqset_eq v (by have := q.ln; omega), (dqset_ne v (by omega)).trans q.ka, (dqset_ne v (by omega)).trans q.sv, fun i hi => (dqset_ne v (by omega)).trans (q.sl i hi), by rw [List.length_set]; exact q.ln⟩
theorem Dq.set2 (v : Int) (q : Dq P D xs h t k s f) : Dq P D (xs.set (P + 2) v) h t v s f :=
  ⟨(dqset_ne v (by omega)).trans q.hd, (dqset_ne v (by omega)).trans q.tl, dqset_eq v (by have := q.ln; omega), (dqset_ne v (by omega)).trans q.sv, fun i hi => (dqset_ne v (by omega)).trans (q.sl i hi), by rw [List.length_set]; exact q.ln⟩
theorem Dq.set3 (v : Int) (q : Dq P D xs h t k s f) : Dq P D (xs.set (P + 3) v) h t k v f :=
  ⟨(dqset_ne v (by omega)).trans q.hd, (dqset_ne v (by omega)).trans q.tl, (dqset_ne v (by omega)).trans q.ka, dqset_eq v (by have := q.ln; omega), fun i hi => (dqset_ne v (by omega)).trans (q.sl i hi), by rw [List.length_set]; exact q.ln⟩
theorem Dq.setS (r : Nat) (x : Int) (hr : r < D) (q : Dq P D xs h t k s f) : Dq P D (xs.set (P + 4 + r) x) h t k s (updI f r x) :=
  ⟨(dqset_ne x (by omega)).trans q.hd, (dqset_ne x (by omega)).trans q.tl, (dqset_ne x (by omega)).trans q.ka, (dqset_ne x (by omega)).trans q.sv, fun i hi => by
    unfold updI
    by_cases e : i = r
    · subst e; rw [if_pos rfl]; exact dqset_eq x (by have := q.ln; omega)
    · rw [if_neg e]; exact (dqset_ne x (by omega)).trans (q.sl i hi), by rw [List.length_set]; exact q.ln⟩
theorem tmod_nat (T D : Nat) : ((T : Int)).tmod (D : Int) = ((T % D : Nat) : Int) := by
  rw [Int.tmod_eq_emod_of_nonneg (by omega)]; rfl
end
section
variable {S g A P D kk : Nat} {xs : List Int} {h t k s : Int} {f : Nat → Int}
theorem push_run (T : Nat) (x : Int) (hO : ∀ o : Wk, o.D = D → o.k = kk → WOk o P xs.length) (q : Dq P D xs h t k s f) (b : T ≤ 999998) (hc : ¬ h ≤ (T : Int) - ((D : Int) - 1)) :
    ∃ xs', RunC S g A 3 xs ⟨D, kk, (T : Int), x, 0, 0, 0, 0, false, false, fnV A 51⟩ xs' ⟨D, kk, (T : Int) + 1, x, 0, 0, 0, 0, false, false, .nilFunc⟩ ∧ Dq P D xs' h ((T : Int) + 1) k s (updI f (T % D) x) ∧ xs'.length = xs.length := by
  have d2 : 2 ≤ D := (hO ⟨D, kk, 0, 0, 0, 0, 0, 0, false, false, .nilFunc⟩ rfl rfl).1
  have hm : T % D < D := Nat.mod_lt _ (by omega)
  refine ⟨_, .more (s_pushLook_no S g A P xs _ h (hO _ rfl rfl) (by dsimp only; omega) (by dsimp only; omega) (Lib.hid q.hd) hc rfl) ⟨_, rfl⟩
    (.more (s_pushPut S g A P (T % D) xs _ (hO _ rfl rfl) (by dsimp only; omega) (by dsimp only; omega) (Lib.hid (tmod_nat T D)) hm rfl) ⟨_, rfl⟩
      (.one (s_pushShow S g A P _ _ ((T : Int) + 1) (WOk.set (hO _ rfl rfl)) (by dsimp only; omega) (by dsimp only; omega) (Lib.hid rfl) rfl) rfl)), (q.setS _ _ hm).set1 _, by simp⟩
theorem push_full (T : Nat) (x : Int) (hO : ∀ o : Wk, o.D = D → o.k = kk → WOk o P xs.length) (q : Dq P D xs h t k s f) (b : T ≤ 999998) (hc : h ≤ (T : Int) - ((D : Int) - 1)) :
    RunC S g A 1 xs ⟨D, kk, (T : Int), x, 0, 0, 0, 0, false, false, fnV A 51⟩ xs ⟨D, kk, (T : Int), x, 0, 0, 0, 0, false, true, .nilFunc⟩ :=
  .one (s_pushLook_yes S g A P xs _ h (hO _ rfl rfl) (by dsimp only; omega) (by dsimp only; omega) (Lib.hid q.hd) hc rfl) rfl
theorem pop_run (T : Nat) (v : Int) (hO : ∀ o : Wk, o.D = D → o.k = kk → WOk o P xs.length) (q : Dq P D xs h t k s f) (b : T ≤ 999998) (hc : h ≤ (T : Int)) (hv : f (T % D) = v) :
    ∃ xs', RunC S g A 3 xs ⟨D, kk, (T : Int) + 1, 0, 0, 0, 0, 0, false, false, fnV A 52⟩ xs' ⟨D, kk, (T : Int), 0, 0, 0, 0, v, true, false, .nilFunc⟩ ∧ Dq P D xs' h (T : Int) k s f ∧ xs'.length = xs.length := by
  have d2 : 2 ≤ D := (hO ⟨D, kk, 0, 0, 0, 0, 0, 0, false, false, .nilFunc⟩ rfl rfl).1
  have hm : T % D < D := Nat.mod_lt _ (by omega)
  have q1 := q.set1 (T : Int)
  refine ⟨_, .more (s_popClaim S g A P xs _ (T : Int) (hO _ rfl rfl) (by dsimp only; omega) (by dsimp only; omega) (Lib.hid (by dsimp only; omega)) rfl) ⟨_, rfl⟩
    (.more (s_popLook_yes S g A P _ _ h (WOk.set (hO _ rfl rfl)) (by dsimp only; omega) (by dsimp only; omega) (Lib.hid q1.hd) (by dsimp only; omega) rfl) ⟨_, rfl⟩
      (.one (s_popTake S g A P _ _ (T % D) (T : Int) v (WOk.set (hO _ rfl rfl)) (by dsimp only; omega) (by dsimp only; omega) (Lib.hid (by dsimp only; omega)) (Lib.hid (tmod_nat T D)) hm (Lib.hid (by rw [q1.sl _ hm, hv])) rfl) rfl)), q1, by simp⟩
theorem pop_run' (T : Nat) (tl v : Int) (hO : ∀ o : Wk, o.D = D → o.k = kk → WOk o P xs.length) (q : Dq P D xs h t k s f) (b : T ≤ 999998) (hc : h ≤ (T : Int)) (hv : f (T % D) = v) (ht : (T : Int) + 1 = tl) :
    ∃ xs', RunC S g A 3 xs ⟨D, kk, tl, 0, 0, 0, 0, 0, false, false, fnV A 52⟩ xs' ⟨D, kk, (T : Int), 0, 0, 0, 0, v, true, false, .nilFunc⟩ ∧ Dq P D xs' h (T : Int) k s f ∧ xs'.length = xs.length := by
  subst ht; exact pop_run T v hO q b hc hv
theorem pop_none (T : Nat) (hO : ∀ o : Wk, o.D = D → o.k = kk → WOk o P xs.length) (q : Dq P D xs h t k k f) (b : T ≤ 999998) (hc : ¬ h ≤ (T : Int) - 1) :
    ∃ xs' o', RunC S g A 9 xs ⟨D, kk, (T : Int), 0, 0, 0, 0, 0, false, false, fnV A 52⟩ xs' o' ∧ o'.tl = T ∧ o'.hs = false ∧ o'.nx = .nilFunc ∧ Dq P D xs' h (T : Int) (wrap64 (k + 1)) (wrap64 (k + 1)) f ∧ xs'.length = xs.length := by
  have q1 := q.set1 ((T : Int) - 1)
  have q2 := q1.set1 (T : Int)
  have q3 := q2.set2 (wrap64 (k + 1))
  have q4 := q3.set1 ((T : Int) - 1)
  have q5 := q4.set1 (T : Int)
  have q6 := q5.set3 (wrap64 (k + 1))
  refine ⟨_, _, .more (s_popClaim S g A P xs _ ((T : Int) - 1) (hO _ rfl rfl) (by dsimp only; omega) (by dsimp only; omega) (Lib.hid rfl) rfl) ⟨_, rfl⟩
    (.more (s_popLook_no S g A P _ _ h (WOk.set (hO _ rfl rfl)) (by dsimp only; omega) (by dsimp only; omega) (Lib.hid q1.hd) hc rfl) ⟨_, rfl⟩
    (.more (s_popYield S g A P _ _ (T : Int) (WOk.set (hO _ rfl rfl)) (by dsimp only; omega) (by dsimp only; omega) (Lib.hid rfl) rfl) ⟨_, rfl⟩
    (.more (s_popAsk S g A P _ _ k (WOk.set (WOk.set (hO _ rfl rfl))) (Lib.hid q2.ka) rfl) ⟨_, rfl⟩
    (.more (s_popWait S g A P _ _ (WOk.set (WOk.set (WOk.set (hO _ rfl rfl)))) rfl (Lib.hid q3.sv) rfl) ⟨_, rfl⟩
    (.more (s_popClaimAgain S g A P _ _ ((T : Int) - 1) (WOk.set (WOk.set (WOk.set (hO _ rfl rfl)))) (by dsimp only; omega) (by dsimp only; omega) (Lib.hid rfl) rfl) ⟨_, rfl⟩
    (.more (s_popLookAgain_no S g A P _ _ h (WOk.set (WOk.set (WOk.set (WOk.set (hO _ rfl rfl))))) (by dsimp only; omega) (by dsimp only; omega) (Lib.hid q4.hd) hc rfl) ⟨_, rfl⟩
    (.more (s_popYieldAgain S g A P _ _ (T : Int) (WOk.set (WOk.set (WOk.set (WOk.set (hO _ rfl rfl))))) (by dsimp only; omega) (by dsimp only; omega) (Lib.hid rfl) rfl) ⟨_, rfl⟩
    (.one (s_popGiveUp S g A P _ _ (wrap64 (k + 1)) (WOk.set (WOk.set (WOk.set (WOk.set (WOk.set (hO _ rfl rfl)))))) rfl (Lib.hid rfl) rfl) rfl)))))))), rfl, rfl, rfl, q6, by simp⟩
theorem steal_run (H : Nat) (v : Int) (hO : ∀ o : Wk, o.D = D → o.k = kk → WOk o P xs.length) (q : Dq P D xs (H : Int) t k k f) (b : H ≤ 999998) (hc : ¬ t ≤ (H : Int)) (hv : f (H % D) = v) :
    ∃ xs' o', RunC S g A 7 xs ⟨D, kk, 0, 0, 0, 0, 0, 0, false, false, fnV A 53⟩ xs' o' ∧ o'.gt = v ∧ o'.hs = true ∧ o'.nx = .nilFunc ∧ Dq P D xs' ((H : Int) + 1) t (wrap64 (k + 1)) (wrap64 (k + 1)) f ∧ xs'.length = xs.length := by
  have d2 : 2 ≤ D := (hO ⟨D, kk, 0, 0, 0, 0, 0, 0, false, false, .nilFunc⟩ rfl rfl).1
  have hm : H % D < D := Nat.mod_lt _ (by omega)
  have q1 := q.set2 (wrap64 (k + 1))
  have q2 := q1.set0 ((H : Int) + 1)
  have q3 := q2.set3 (wrap64 (k + 1))
  refine ⟨_, _, .more (s_stealAsk S g A P xs _ k (hO _ rfl rfl) (Lib.hid q.ka) rfl) ⟨_, rfl⟩
    (.more (s_stealWait S g A P _ _ (WOk.set (hO _ rfl rfl)) rfl (Lib.hid q1.sv) rfl) ⟨_, rfl⟩
    (.more (s_stealLook S g A P _ _ (H : Int) (WOk.set (hO _ rfl rfl)) (Lib.hid q1.hd) rfl) ⟨_, rfl⟩
    (.more (s_stealClaim S g A P _ _ ((H : Int) + 1) (WOk.set (hO _ rfl rfl)) (by dsimp only; omega) (by dsimp only; omega) (Lib.hid rfl) rfl) ⟨_, rfl⟩
    (.more (s_stealCheck_no S g A P _ _ t (WOk.set (WOk.set (hO _ rfl rfl))) (by dsimp only; omega) (by dsimp only; omega) (Lib.hid q2.tl) hc rfl) ⟨_, rfl⟩
    (.more (s_stealTake S g A P _ _ (H % D) v (WOk.set (WOk.set (hO _ rfl rfl))) (by dsimp only; omega) (Lib.hid (tmod_nat H D)) hm (Lib.hid (by rw [q2.sl _ hm, hv])) rfl) ⟨_, rfl⟩
    (.one (s_stealLeave S g A P _ _ (wrap64 (k + 1)) (WOk.set (WOk.set (hO _ rfl rfl))) rfl (Lib.hid rfl) rfl) rfl)))))), rfl, rfl, rfl, q3, by simp⟩
theorem steal_none (H : Nat) (hO : ∀ o : Wk, o.D = D → o.k = kk → WOk o P xs.length) (q : Dq P D xs (H : Int) t k k f) (b : H ≤ 999998) (hc : t ≤ (H : Int)) :
    ∃ xs' o', RunC S g A 7 xs ⟨D, kk, 0, 0, 0, 0, 0, 0, false, false, fnV A 53⟩ xs' o' ∧ o'.hs = false ∧ o'.nx = .nilFunc ∧ Dq P D xs' (H : Int) t (wrap64 (k + 1)) (wrap64 (k + 1)) f ∧ xs'.length = xs.length := by
  have q1 := q.set2 (wrap64 (k + 1))
  have q2 := q1.set0 ((H : Int) + 1)
  have q3 := q2.set0 (H : Int)
  have q4 := q3.set3 (wrap64 (k + 1))
  refine ⟨_, _, .more (s_stealAsk S g A P xs _ k (hO _ rfl rfl) (Lib.hid q.ka) rfl) ⟨_, rfl⟩
    (.more (s_stealWait S g A P _ _ (WOk.set (hO _ rfl rfl)) rfl (Lib.hid q1.sv) rfl) ⟨_, rfl⟩
    (.more (s_stealLook S g A P _ _ (H : Int) (WOk.set (hO _ rfl rfl)) (Lib.hid q1.hd) rfl) ⟨_, rfl⟩
    (.more (s_stealClaim S g A P _ _ ((H : Int) + 1) (WOk.set (hO _ rfl rfl)) (by dsimp only; omega) (by dsimp only; omega) (Lib.hid rfl) rfl) ⟨_, rfl⟩
    (.more (s_stealCheck_yes S g A P _ _ t (WOk.set (WOk.set (hO _ rfl rfl))) (by dsimp only; omega) (by dsimp only; omega) (Lib.hid q2.tl) hc rfl) ⟨_, rfl⟩
    (.more (s_stealYield S g A P _ _ (H : Int) (WOk.set (WOk.set (hO _ rfl rfl))) (by dsimp only; omega) (by dsimp only; omega) (Lib.hid rfl) rfl) ⟨_, rfl⟩
    (.one (s_stealLeave S g A P _ _ (wrap64 (k + 1)) (WOk.set (WOk.set (WOk.set (hO _ rfl rfl)))) rfl (Lib.hid rfl) rfl) rfl)))))), rfl, rfl, q4, by simp⟩
end
end Go.Proofs.Ytegbifphekhgkaa
