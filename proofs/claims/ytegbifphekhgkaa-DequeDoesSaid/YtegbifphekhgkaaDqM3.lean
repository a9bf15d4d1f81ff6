/- The owner's steps of Push: the program's and the reference's side by side (layer 13); of the reference's second step what it does is a premise here. -/
import Derived.Test.YtegbifphekhgkaaDqM2
namespace Go.Proofs.Ytegbifphekhgkaa
open Go.ChangeShapes Go.WideShapes Go.ChangeAt Go.RowKit
set_option linter.unusedVariables false
set_option linter.unusedSimpArgs false
/-- where an owner that pushes stands, on both sides. -/
def AtU (A P : Nat) (o : Wk) (r : Rk) : Prop :=
  (r.at_ = 0 ∧ o.nx = fnV A 51 ∧ r.x = o.x ∧ r.got = false) ∨
  (r.at_ = 1 ∧ o.nx = fnV A 76 ∧ r.x = o.x ∧ r.got = false) ∨
  (r.at_ = 2 ∧ o.nx = fnV A 96 ∧ r.got = false)
/-- the reference's second step of Push. -/
def Push1 : Prop := ∀ (r : Rk) (B n : Nat) (ad : Option Addr) (cp : Nat) (xs : List Int) (m : Nat) (w : World), xs.length = n → B ≤ w.heap.size → n ≤ 100000 → r.at_ = 1 → r.P ≤ 1000 → 2 ≤ r.D → r.D ≤ 256 → 0 ≤ r.t → Hid (r.t.tmod (r.D : Int) = (m : Int)) → m < r.D → r.P + 4 + m < n → OI w B (.slice ad n cp) xs →
    Calls Try.prog 54 #[.agg r.cs, .slice ad n cp] w (RPost B n w { r with at_ := 2 } (xs.set (r.P + 4 + m) r.x))
theorem pair_push (H1 : Push1) (S g A P : Nat) (c : Int) (xs : List Int) (o : Wk) (r : Rk) (hO : WOk o P xs.length) (hP : P ≤ 1000) (hc : 0 ≤ c ∧ c ≤ 1000) (hr : RelC P o r) (htl : o.tl ≤ 999) (hk : r.kd = 0) (ha : AtU A P o r) (hw : 0 ≤ xs.getD (P + 0) 0 ∧ xs.getD (P + 0) 0 ≤ c) :
    ∃ xs' o' r', PairP S g A P c xs o r xs' o' r' ∧ (AtU A P o' r' ∨ (r'.at_ = -1 ∧ o'.nx = .nilFunc)) := by
  obtain ⟨e1, e2, e3, e4, e5, e6, e7, e8⟩ := hr
  subst e1
  obtain ⟨d1, d2, d3, d4, d5, d6⟩ := id hO
  have hstep : ∀ r' xs', 0 ≤ r.at_ → (∀ (B n : Nat) (ad : Option Addr) (cp : Nat) (w : World), xs.length = n → B ≤ w.heap.size → n ≤ 100000 → OI w B (.slice ad n cp) xs → Calls Try.prog 54 #[.agg r.cs, .slice ad n cp] w (RPost B n w r' xs')) → RefS r r' xs xs' := fun r' xs' h0 H B n ad cp w hl hB hn ho =>
    rstep_push r r' B n ad cp xs xs' w hk h0 fun W hb => H B n ad cp W hl (Nat.le_trans hB hb.size) hn (OI.below ho hb)
  rcases ha with ⟨h1, h2, h3, h4⟩ | ⟨h1, h2, h3, h4⟩ | ⟨h1, h2, h4⟩
  · -- is there room
    by_cases he : xs.getD (r.P + 0) 0 ≤ o.tl - ((o.D : Int) - 1)
    · refine ⟨_, _, { r with full := true, at_ := -1 }, ⟨s_pushLook_yes S g A r.P xs o _ hO (by omega) (by omega) (Lib.hid rfl) he h2, hstep _ _ (by omega) (fun B n ad cp w hl hB hn ho => ?_), ⟨rfl, e2, e3, e4, e5, rfl, e7, e8⟩, rfl, rfl, rfl, ⟨hw.1, by omega⟩, rfl, rfl, (by first | (show o.tl ≤ o.tl + 1; omega) | (show r.t + 1 ≤ o.tl + 1; omega))⟩, .inr ⟨rfl, rfl⟩⟩
      exact rpush0_yes r B n ad cp xs (xs.getD (r.P + 0) 0) w hl hn (by omega) (by omega) (by rw [e2]; omega) h1 (Lib.hid rfl) (by omega) (by omega) (by omega) (by omega) (by rw [e2, e3]; omega) ho
    · refine ⟨_, _, { r with at_ := 1 }, ⟨s_pushLook_no S g A r.P xs o _ hO (by omega) (by omega) (Lib.hid rfl) he h2, hstep _ _ (by omega) (fun B n ad cp w hl hB hn ho => ?_), ⟨rfl, e2, e3, e4, e5, e6, e7, e8⟩, rfl, rfl, rfl, ⟨hw.1, by omega⟩, rfl, rfl, (by first | (show o.tl ≤ o.tl + 1; omega) | (show r.t + 1 ≤ o.tl + 1; omega))⟩, .inl (.inr (.inl ⟨rfl, rfl, h3, h4⟩))⟩
      exact rpush0_no r B n ad cp xs (xs.getD (r.P + 0) 0) w hl (by omega) (by omega) (by rw [e2]; omega) h1 (by omega) (by omega) (Lib.hid rfl) (by omega) (by omega) (by rw [e2, e3]; omega) ho
  · -- the slot
    obtain ⟨m, hm, hmD⟩ : ∃ m : Nat, o.tl.tmod (o.D : Int) = (m : Int) ∧ m < o.D := by
      obtain ⟨H, hH⟩ : ∃ H : Nat, o.tl = (H : Int) := ⟨o.tl.toNat, by omega⟩
      rw [hH, tmod_nat]
      exact ⟨_, rfl, Nat.mod_lt _ (by omega)⟩
    refine ⟨_, _, { r with at_ := 2 }, ⟨s_pushPut S g A r.P m xs o hO e4 (by omega) (Lib.hid hm) hmD h2, hstep _ _ (by omega) (fun B n ad cp w hl hB hn ho => ?_), ⟨rfl, e2, e3, e4, e5, e6, e7, e8⟩, rfl, rfl, by simp, ?_, rfl, rfl, (by first | (show o.tl ≤ o.tl + 1; omega) | (show r.t + 1 ≤ o.tl + 1; omega))⟩, .inl (.inr (.inr ⟨rfl, rfl, h4⟩))⟩
    · have := H1 r B n ad cp xs m w hl hB hn h1 (by omega) (by omega) (by omega) (by omega) (Lib.hid (by rw [e3, e2]; exact hm)) (by omega) (by omega) ho
      rw [h3] at this
      have e : ({ r with at_ := 2, x := o.x } : Rk) = { r with at_ := 2 } := by rw [← h3]
      simpa [e] using this
    · rw [dqset_ne _ (by omega)]
      omega
  · -- Tail
    refine ⟨_, _, { r with at_ := -1, t := r.t + 1 }, ⟨s_pushShow S g A r.P xs o (r.t + 1) hO (by omega) (by omega) (Lib.hid (by rw [e3])) h2, hstep _ _ (by omega) (fun B n ad cp w hl hB hn ho => ?_), ⟨rfl, e2, rfl, by show 0 ≤ r.t + 1; omega, by show r.t + 1 ≤ 1000; omega, e6, e7, e8⟩, rfl, rfl, by simp, ?_, rfl, rfl, (by first | (show o.tl ≤ o.tl + 1; omega) | (show r.t + 1 ≤ o.tl + 1; omega))⟩, .inr ⟨rfl, rfl⟩⟩
    · exact rpush2 r B n ad cp xs w hl hB hn (by omega) h1 (by omega) (by omega) ho
    · rw [dqset_ne _ (by omega)]
      omega
end Go.Proofs.Ytegbifphekhgkaa
