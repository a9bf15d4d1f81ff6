/- With how many picks a script repeats itself: the document (layer 43). -/
import Derived.Test.YtokkgfefiblmiaaRpF
namespace Go.Proofs.Ytokkgfefiblmiaa.rp
open Go.ChangeShapes Go.WideShapes Go.ChangeAt Go.RowKit
set_option linter.unusedVariables false
set_option linter.unusedSimpArgs false
def PerU (l : List P2) (p q : Nat) : Prop := ∀ i, p ≤ i → i < q → l[i]? = l[i - p]?
theorem PerU.step {l : List P2} {p q : Nat} (h : PerU l p q) (he : l[q]? = l[q - p]?) : PerU l p (q + 1) := fun i h1 h2 => by
  by_cases e : i = q
  · rw [e]; exact he
  · exact h i h1 (by omega)
set_option maxRecDepth 20000 in
set_option maxHeartbeats 4000000 in
theorem rloops_v (a : Option Addr) (n c : Nat) (l : List P2) (w : World) (h : RV 2 enQ w (.slice a n c) l) (hn : n ≤ 6000) :
    Calls Try.prog 18 #[.slice a n c] w fun e w' => ∃ v : Nat, e = .returned (.int .i64 (v : Int)) ∧ RL l v ∧ Below w.heap.size w w' := by
  obtain ⟨hnl, hnc, hcm⟩ := h.len
  unfold maxLen at hcm
  have HR0 := Lib.hid h
  have HNL := Lib.hid hnl
  clear h hnl
  go_enter Try.func18, Try.ntmps18
  go_wp2_with fail
  go_loopw [3] (fun pv wr => ∃ (p : Nat), 1 ≤ p ∧ p ≤ n + 1 ∧ pv = .int .i64 (p : Int) ∧ Hid (∀ p', 1 ≤ p' → p' < p → p' < n → ¬ Per l p') ∧ Hid (Below w.heap.size w wr)) (fun pv _ => n + 1 - (intOf pv).toNat)
  case atStart => exact ⟨1, Nat.le_refl _, by omega, rfl, Lib.hid (fun p' h1 h2 => by omega), Lib.hid (Below.refl _ _)⟩
  case round =>
    obtain ⟨p, hp1, hpn, rfl, HN, HB⟩ := hrel
    by_cases hlt : p < n
    · have hltI : (p : Int) < (n : Int) := by omega
      obtain ⟨X, HX⟩ : ∃ X, Hid (wr = X) := ⟨_, Lib.hid rfl⟩
      have HBX : Hid (Below w.heap.size w X) := Lib.hid (by rw [← HX.out]; exact HB.out)
      go_wp2_with fail
      go_loopw [4, 5] (fun bv iv wr' => ∃ (q : Nat) (bb : Bool), p ≤ q ∧ q ≤ n ∧ bv = .bool bb ∧ iv = .int .i64 (q : Int) ∧ Hid (bb = true ↔ PerU l p q) ∧ Hid (Below X.heap.size X wr')) (fun bv iv _ => n - (intOf iv).toNat)
      case atStart => exact ⟨p, true, Nat.le_refl _, by omega, rfl, rfl, Lib.hid ⟨fun _ i h1 h2 => by omega, fun _ => rfl⟩, Lib.hid (by rw [← HX.out]; exact Below.refl _ _)⟩
      case round =>
        obtain ⟨q, bb, hpq, hqn, rfl, rfl, HQ, HBi⟩ := hrel
        by_cases hql : q < n
        · have hqlI : (q : Int) < (n : Int) := by omega
          cases bb with
          | false =>
            have HQN : Hid (false = true ↔ PerU l p (q + 1)) := Lib.hid ⟨fun h => (by cases h), fun h => HQ.out.2 (fun i h1 h2 => h i h1 (by omega))⟩
            go_wp2_with fail
            go_quiet (fail)
            go_wp2_with fail
            go_roundw
            case rel => exact ⟨q + 1, false, by omega, by omega, rfl, by go_num, HQN, Lib.hid (tr3 HBi.out (below_drewN wr nq))⟩
            case measure => simp [intOf]; omega
          | true =>
            obtain ⟨⟨x1, x2⟩, hx⟩ : ∃ x, l[q]? = some x := ⟨_, List.getElem?_eq_getElem (by rw [← HNL.out]; exact hql)⟩
            obtain ⟨m, hm⟩ : ∃ m, q - p = m := ⟨_, rfl⟩
            obtain ⟨⟨y1, y2⟩, hy⟩ : ∃ y, l[m]? = some y := ⟨_, List.getElem?_eq_getElem (by rw [← HNL.out]; omega)⟩
            obtain ⟨b, f, e1, hbl, c0, c1⟩ := RV.two (HR0.out.below (tr3 HBX.out HBi.out)) q _ hx
            subst e1
            obtain ⟨b', f', e', _, d0, d1⟩ := RV.two (HR0.out.below (tr3 HBX.out HBi.out)) m _ hy
            rw [Option.some.injEq, Addr.mk.injEq] at e'
            obtain ⟨rfl, rfl, _⟩ := e'
            dsimp only at c0 c1 d0 d1
            have hmI : IntKind.i64.wrap ((q : Int) - (p : Int)) = (m : Int) := by rw [IntKind.wrap_i64]; omega
            have hmI2 : (q : Int) - (p : Int) = (m : Int) := by omega
            have hmn : m < n := by omega
            have hmnI : (m : Int) < (n : Int) := by omega
            obtain ⟨v, hv⟩ : ∃ v, (x1 == y1 && x2 == y2) = v := ⟨_, rfl⟩
            have hvi := pk_iff (x := (x1, x2)) (y := (y1, y2)) hv
            have heq := pk_eq x1 x2 y1 y2 v hv
            have HQN : Hid (v = true ↔ PerU l p (q + 1)) := Lib.hid ⟨fun h => (HQ.out.1 rfl).step (by rw [hm, hx, hy, hvi.1 h]), fun h => hvi.2 (by
              have := h q hpq (by omega)
              rw [hm, hx, hy] at this
              exact Option.some.inj this)⟩
            clear hx hy hv hvi hm
            go_wp2_with fail
            go_quiet (fail)
            go_wp2_with fail
            go_roundw
            case rel => exact ⟨q + 1, v, by omega, by omega, rfl, by go_num, HQN, Lib.hid (tr3 HBi.out (below_drewN wr nq))⟩
            case measure => simp [intOf]; omega
        · obtain rfl : q = n := by omega
          have HBB := Lib.hid (tr3 HBX.out HBi.out)
          cases bb with
          | true =>
            have HE : Hid (RL l p) := Lib.hid (RL.per hp1 (by rw [← HNL.out]; exact hlt) (fun i h1 h2 => (HQ.out.1 rfl) i h1 (by rw [HNL.out]; exact h2)) (fun n' h1 h2 => HN.out n' h1 h2 (by omega)))
            go_wp2_with fail
            go_ret
            exact ⟨p, rfl, HE.out, HBB.out⟩
          | false =>
            have HN1 : Hid (∀ p', 1 ≤ p' → p' < p + 1 → p' < q → ¬ Per l p') := Lib.hid (fun p' h1 h2 h3 => by
              by_cases e : p' = p
              · intro hper
                subst e
                have := HQ.out.2 (fun i h1 h2 => hper i h1 (by rw [← HNL.out]; exact h2))
                cases this
              · exact HN.out p' h1 (by omega) h3)
            go_wp2_with fail
            go_roundw
            case rel => exact ⟨p + 1, by omega, by omega, by go_num, HN1, HBB⟩
            case measure => simp [intOf]; omega
    · have HE : Hid (RL l n) := Lib.hid (by
        rw [HNL.out]
        exact RL.none (fun n' h1 h2 => HN.out n' h1 (by rw [← HNL.out] at h2; omega) (by rw [HNL.out]; exact h2)))
      have hnltI : ¬ (p : Int) < (n : Int) := by omega
      go_wp2_with fail
      go_ret
      exact ⟨n, rfl, HE.out, HB.out⟩
end Go.Proofs.Ytokkgfefiblmiaa.rp
