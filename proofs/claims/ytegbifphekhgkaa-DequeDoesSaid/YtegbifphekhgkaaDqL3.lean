/- The law DequeDoes: one step of one walk, both sides side by side; walks that begin (layer 13). -/
import Derived.Test.YtegbifphekhgkaaDqL2
namespace Go.Proofs.Ytegbifphekhgkaa.dqd
open Go.ChangeShapes Go.WideShapes Go.ChangeAt Go.RowKit
open Go.Proofs.Ytegbifphekhgkaa.ro (Ro KX ext)
set_option linter.unusedVariables false
set_option linter.unusedSimpArgs false
/-- the numbers of one walk. -/
def Num (D who P c k : Nat) (A : Nat) (o : Wk) (r : Rk) : Prop :=
  o.D = D ∧ o.k = who ∧ Both A P o r ∧ 0 ≤ o.hd ∧ o.hd ≤ (c : Int) ∧ (k = 0 → (r.kd = 0 ∨ r.kd = 1 ∨ r.at_ = -1) ∧ o.tl ≤ (c : Int)) ∧ (k ≠ 0 → (r.kd = 2 ∨ r.at_ = -1) ∧ o.tl = 0)
/-- what a step of both sides gives. -/
structure Step1 (S g A D who P c k n : Nat) (xs : List Int) (o : Wk) (r : Rk) (xs' : List Int) (o' : Wk) (r' : Rk) (b : Bool) : Prop where
  st : StepC S g A xs o xs' o'
  rf : RefS r r' xs xs'
  num : Num D who P (c + 1) k A o' r'
  en : EndB A o' b
  at_ : (b = true ∧ r'.at_ = -1) ∨ (b = false ∧ 0 ≤ r'.at_)
  len : xs'.length = n
  wd : 0 ≤ xs'.getD (P + 0) 0 ∧ xs'.getD (P + 0) 0 ≤ ((c + 1 : Nat) : Int)
theorem atU_nx {A P : Nat} {o : Wk} {r : Rk} (h : AtU A P o r) : (∃ f, o.nx = fnV A f) ∧ 0 ≤ r.at_ := by
  rcases h with h | h | h <;> exact ⟨⟨_, h.2.1⟩, by omega⟩
theorem atU_nx' {A P : Nat} {o : Wk} {r : Rk} (h : AtU A P o r) : (∃ f, o.nx = fnV A f) ∧ 0 ≤ r.at_ := atU_nx h
theorem atP_nx {A P : Nat} {o : Wk} {r : Rk} (h : AtP A P o r) : (∃ f, o.nx = fnV A f) ∧ 0 ≤ r.at_ := by
  rcases h with ⟨h1, h2⟩ | ⟨h1, h2⟩ | ⟨h1, h2⟩ | ⟨h1, h2⟩ | ⟨h1, h2, _⟩ | ⟨h1, h2, _⟩ | ⟨h1, h2, _⟩ | ⟨h1, h2, _⟩ | ⟨h1, h2, _⟩ | ⟨h1, h2, _⟩ | ⟨h1, h2, _⟩ <;> exact ⟨⟨_, h2⟩, by omega⟩
theorem atS_nx {A P : Nat} {o : Wk} {r : Rk} (h : AtS A P o r) : (∃ f, o.nx = fnV A f) ∧ 0 ≤ r.at_ := by
  rcases h with ⟨h1, h2⟩ | ⟨h1, h2, _⟩ | ⟨h1, h2, _⟩ | ⟨h1, h2, _⟩ | ⟨h1, h2, _⟩ | ⟨h1, h2, _⟩ | ⟨h1, h2, _⟩ | ⟨h1, h2, _⟩ <;> exact ⟨⟨_, h2⟩, by omega⟩
theorem fn_nil {A f : Nat} : fnV A f ≠ .nilFunc := by unfold fnV; intro h; cases h
/-- a walk that stands at a step: its next step. -/
theorem step1 (S g A D who P c k n : Nat) (xs : List Int) (o : Wk) (r : Rk) (h2 : 2 ≤ D) (h8 : D ≤ 8) (hk : who < 2) (hP : who * (4 + D) = P) (hn : 2 * (4 + D) + 10 = n) (hl : xs.length = n) (hc : c ≤ 400)
    (hw : 0 ≤ xs.getD (P + 0) 0 ∧ xs.getD (P + 0) 0 ≤ (c : Int)) (h : Num D who P c k A o r) (he : ∃ f, o.nx = fnV A f) : ∃ xs' o' r' b, Step1 S g A D who P c k n xs o r xs' o' r' b := by
  obtain ⟨hD, hK, ⟨hR, hB⟩, hh0, hh1, ho, ht⟩ := h
  obtain ⟨f, he⟩ := he
  have hWO : WOk o P xs.length := by rw [hl]; exact wok D who P n h2 (by omega) hk hP hn o hD hK
  have hP2 : P ≤ 1000 := by
    have : who * (4 + D) ≤ 1 * (4 + D) := Nat.mul_le_mul_right _ (by omega)
    omega
  rcases hB with ⟨hd, ha⟩ | ⟨hd, ha⟩ | ⟨hd, ha⟩ | ⟨ha, hx⟩
  · -- Push
    have hk0 : k = 0 := by
      by_cases e : k = 0
      · exact e
      · have := (ht e).1; have := (atU_nx ha).2; omega
    obtain ⟨xs', o', r', q, hE⟩ := pair_push push1_of S g A P c xs o r hWO hP2 (by omega) hR (by have := (ho hk0).2; omega) hd ha hw
    have hkd : r'.kd = 0 := q.kd.trans hd
    have hnum : Both A P o' r' → Num D who P (c + 1) k A o' r' := fun hb => ⟨q.oD.trans hD, q.ok.trans hK, hb, by rw [q.hd]; exact hh0, by rw [q.hd]; omega, fun e => ⟨.inl hkd, by have := q.tl; have := (ho e).2; omega⟩, fun e => absurd hk0 e⟩
    rcases hE with hE | ⟨hE, hx⟩
    · obtain ⟨f', hf'⟩ := (atU_nx hE).1
      exact ⟨xs', o', r', false, q.st, q.rf, hnum ⟨q.rc, .inl ⟨hkd, hE⟩⟩, .inr ⟨f', hf', rfl⟩, .inr ⟨rfl, (atU_nx hE).2⟩, q.len.trans hl, by have := q.wd; omega⟩
    · exact ⟨xs', o', r', true, q.st, q.rf, hnum ⟨q.rc, .inr (.inr (.inr ⟨hE, hx⟩))⟩, .inl ⟨hx, rfl⟩, .inl ⟨rfl, hE⟩, q.len.trans hl, by have := q.wd; omega⟩
  · -- Pop
    have hk0 : k = 0 := by
      by_cases e : k = 0
      · exact e
      · have := (ht e).1; have := (atP_nx ha).2; omega
    obtain ⟨xs', o', r', q, hE⟩ := pair_pop S g A P c xs o r hWO hP2 (by omega) hR hd ha hw
    have hkd : r'.kd = 1 := q.kd.trans hd
    have hnum : Both A P o' r' → Num D who P (c + 1) k A o' r' := fun hb => ⟨q.oD.trans hD, q.ok.trans hK, hb, by rw [q.hd]; exact hh0, by rw [q.hd]; omega, fun e => ⟨.inr (.inl hkd), by have := q.tl; have := (ho e).2; omega⟩, fun e => absurd hk0 e⟩
    rcases hE with hE | ⟨hE, hx⟩
    · obtain ⟨f', hf'⟩ := (atP_nx hE).1
      exact ⟨xs', o', r', false, q.st, q.rf, hnum ⟨q.rc, .inr (.inl ⟨hkd, hE⟩)⟩, .inr ⟨f', hf', rfl⟩, .inr ⟨rfl, (atP_nx hE).2⟩, q.len.trans hl, by have := q.wd; omega⟩
    · exact ⟨xs', o', r', true, q.st, q.rf, hnum ⟨q.rc, .inr (.inr (.inr ⟨hE, hx⟩))⟩, .inl ⟨hx, rfl⟩, .inl ⟨rfl, hE⟩, q.len.trans hl, by have := q.wd; omega⟩
  · -- Steal
    have hk0 : k ≠ 0 := by
      intro e
      have := (ho e).1; have := (atS_nx ha).2; omega
    obtain ⟨xs', o', r', q, hE⟩ := pair_steal S g A P c xs o r hWO hP2 (by omega) hR hd ha hw ⟨hh0, hh1⟩
    have hkd : r'.kd = 2 := q.kd.trans hd
    have hnum : Both A P o' r' → Num D who P (c + 1) k A o' r' := fun hb => ⟨q.oD.trans hD, q.ok.trans hK, hb, q.hb.1, by have := q.hb.2; omega, fun e => absurd e hk0, fun e => ⟨.inl hkd, q.tl.trans (ht e).2⟩⟩
    rcases hE with hE | ⟨hE, hx⟩
    · obtain ⟨f', hf'⟩ := (atS_nx hE).1
      exact ⟨xs', o', r', false, q.st, q.rf, hnum ⟨q.rc, .inr (.inr (.inl ⟨hkd, hE⟩))⟩, .inr ⟨f', hf', rfl⟩, .inr ⟨rfl, (atS_nx hE).2⟩, q.len.trans hl, by have := q.wd; omega⟩
    · exact ⟨xs', o', r', true, q.st, q.rf, hnum ⟨q.rc, .inr (.inr (.inr ⟨hE, hx⟩))⟩, .inl ⟨hx, rfl⟩, .inl ⟨rfl, hE⟩, q.len.trans hl, by have := q.wd; omega⟩
  · exact absurd (he.symm.trans hx) fn_nil
end Go.Proofs.Ytegbifphekhgkaa.dqd
