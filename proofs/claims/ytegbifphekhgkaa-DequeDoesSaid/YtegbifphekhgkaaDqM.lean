/- A thief's steps: the program's and the reference's side by side (layer 13). -/
import Derived.Test.YtegbifphekhgkaaDqV
import Derived.Test.YtegbifphekhgkaaDqV2
import Derived.Test.YtegbifphekhgkaaDqW
import Derived.Test.YtegbifphekhgkaaDqX
import Derived.Test.YtegbifphekhgkaaDqY
import Derived.Test.YtegbifphekhgkaaDqT2
import Derived.Test.YtegbifphekhgkaaDqN
import Derived.Test.YtegbifphekhgkaaDqI
import Derived.Test.YtegbifphekhgkaaDqJ
namespace Go.Proofs.Ytegbifphekhgkaa
open Go.ChangeShapes Go.WideShapes Go.ChangeAt Go.RowKit
set_option linter.unusedVariables false
set_option linter.unusedSimpArgs false
/-- the reference's Step, from any world where the words are a row. -/
def RefS (r r' : Rk) (xs xs' : List Int) : Prop := ∀ (B n : Nat) (ad : Option Addr) (cp : Nat) (w : World), xs.length = n → B ≤ w.heap.size → n ≤ 100000 → OI w B (.slice ad n cp) xs →
  Calls Try.prog 21 #[.agg r.cs, .slice ad n cp] w (RPost B n w r' xs')
/-- what both sides of a walk have in common. -/
structure RelC (P : Nat) (o : Wk) (r : Rk) : Prop where
  P : r.P = P
  D : r.D = o.D
  t : r.t = o.tl
  t0 : 0 ≤ o.tl
  t1 : o.tl ≤ 1000
  fl : r.full = o.fl
  got : r.got = o.hs
  x : r.got = true → r.x = o.gt
/-- where a thief stands, on both sides. -/
def AtS (A P : Nat) (o : Wk) (r : Rk) : Prop :=
  (r.at_ = 0 ∧ o.nx = fnV A 53) ∨
  (r.at_ = 1 ∧ o.nx = fnV A 80 ∧ o.ta = ((P + 2 : Nat) : Int) ∧ r.tn = o.tn) ∨
  (r.at_ = 2 ∧ o.nx = fnV A 101 ∧ o.ta = ((P + 2 : Nat) : Int) ∧ r.tn = o.tn) ∨
  (r.at_ = 3 ∧ o.nx = fnV A 113 ∧ o.ta = ((P + 2 : Nat) : Int) ∧ r.tn = o.tn ∧ r.h = o.hd) ∨
  (r.at_ = 4 ∧ o.nx = fnV A 116 ∧ o.ta = ((P + 2 : Nat) : Int) ∧ r.tn = o.tn ∧ r.h = o.hd) ∨
  (r.at_ = 5 ∧ o.nx = fnV A 118 ∧ o.ta = ((P + 2 : Nat) : Int) ∧ r.tn = o.tn ∧ r.h = o.hd) ∨
  (r.at_ = 6 ∧ o.nx = fnV A 121 ∧ o.ta = ((P + 2 : Nat) : Int) ∧ r.tn = o.tn) ∨
  (r.at_ = 7 ∧ o.nx = fnV A 119 ∧ o.ta = ((P + 2 : Nat) : Int) ∧ r.tn = o.tn ∧ r.h = o.hd)
structure PairQ (S g A P : Nat) (c : Int) (xs : List Int) (o : Wk) (r : Rk) (xs' : List Int) (o' : Wk) (r' : Rk) : Prop where
  st : StepC S g A xs o xs' o'
  rf : RefS r r' xs xs'
  rc : RelC P o' r'
  oD : o'.D = o.D
  ok : o'.k = o.k
  len : xs'.length = xs.length
  wd : 0 ≤ xs'.getD (P + 0) 0 ∧ xs'.getD (P + 0) 0 ≤ c + 1
  hb : 0 ≤ o'.hd ∧ o'.hd ≤ c + 1
  kd : r'.kd = r.kd
  tl : o'.tl = o.tl
theorem pair_steal (S g A P : Nat) (c : Int) (xs : List Int) (o : Wk) (r : Rk) (hO : WOk o P xs.length) (hP : P ≤ 1000) (hc : 0 ≤ c ∧ c ≤ 1000) (hr : RelC P o r) (hk : r.kd = 2) (ha : AtS A P o r) (hw : 0 ≤ xs.getD (P + 0) 0 ∧ xs.getD (P + 0) 0 ≤ c) (hh : 0 ≤ o.hd ∧ o.hd ≤ c) :
    ∃ xs' o' r', PairQ S g A P c xs o r xs' o' r' ∧ (AtS A P o' r' ∨ (r'.at_ = -1 ∧ o'.nx = .nilFunc)) := by
  obtain ⟨e1, e2, e3, e4, e5, e6, e7, e8⟩ := hr
  subst e1
  obtain ⟨d1, d2, d3, d4, d5, d6⟩ := id hO
  have hstep : ∀ r' xs', 0 ≤ r.at_ → (∀ (B n : Nat) (ad : Option Addr) (cp : Nat) (w : World), xs.length = n → B ≤ w.heap.size → n ≤ 100000 → OI w B (.slice ad n cp) xs → Calls Try.prog 56 #[.agg r.cs, .slice ad n cp] w (RPost B n w r' xs')) → RefS r r' xs xs' := fun r' xs' h0 H B n ad cp w hl hB hn ho =>
    rstep_steal r r' B n ad cp xs xs' w hk h0 fun W hb => H B n ad cp W hl (Nat.le_trans hB hb.size) hn (OI.below ho hb)
  rcases ha with ⟨h1, h2⟩ | ⟨h1, h2, h3, h4⟩ | ⟨h1, h2, h3, h4⟩ | ⟨h1, h2, h3, h4, h5⟩ | ⟨h1, h2, h3, h4, h5⟩ | ⟨h1, h2, h3, h4, h5⟩ | ⟨h1, h2, h3, h4⟩ | ⟨h1, h2, h3, h4, h5⟩
  · -- a turn is asked for
    refine ⟨_, _, { r with at_ := 1, tn := xs.getD (r.P + 2) 0 }, ⟨s_stealAsk S g A r.P xs o _ hO (Lib.hid rfl) h2, hstep _ _ (by omega) (fun B n ad cp w hl hB hn ho => ?_), ⟨rfl, e2, e3, e4, e5, e6, e7, e8⟩, rfl, rfl, by simp, ?_, ⟨hh.1, by show o.hd ≤ c + 1; omega⟩, rfl, rfl⟩, .inl (.inr (.inl ⟨rfl, rfl, rfl, rfl⟩))⟩
    · have := rsteal0 r B n ad cp xs (xs.getD (r.P + 2) 0) (wrap64 (xs.getD (r.P + 2) 0 + 1)) w hl hB hn (by omega) h1 (by omega) (Lib.hid rfl) (Lib.hid (by rw [IntKind.wrap_i64]; first | rfl | (unfold wrap64; rfl) | (unfold wrap64; omega))) ho
      exact this
    · rw [dqset_ne _ (by omega)]
      omega
  · -- is it its turn
    by_cases he : xs.getD (r.P + 3) 0 = o.tn
    · refine ⟨_, _, { r with at_ := 2 }, ⟨s_stealWait S g A r.P xs o hO h3 (Lib.hid he) h2, hstep _ _ (by omega) (fun B n ad cp w hl hB hn ho => ?_), ⟨rfl, e2, e3, e4, e5, e6, e7, e8⟩, rfl, rfl, rfl, ⟨hw.1, by omega⟩, ⟨hh.1, by show o.hd ≤ c + 1; omega⟩, rfl, rfl⟩, .inl (.inr (.inr (.inl ⟨rfl, rfl, h3, h4⟩)))⟩
      exact rsteal1_yes r B n ad cp xs (xs.getD (r.P + 3) 0) w hl hn (by omega) (by omega) (by rw [e2]; omega) h1 (Lib.hid rfl) (by rw [he, h4]) ho
    · refine ⟨_, _, r, ⟨s_stealWait_no S g A r.P xs o _ hO h3 (Lib.hid rfl) he h2, hstep _ _ (by omega) (fun B n ad cp w hl hB hn ho => ?_), ⟨rfl, e2, e3, e4, e5, e6, e7, e8⟩, rfl, rfl, rfl, ⟨hw.1, by omega⟩, ⟨hh.1, by show o.hd ≤ c + 1; omega⟩, rfl, rfl⟩, .inl (.inr (.inl ⟨h1, h2, h3, h4⟩))⟩
      exact rsteal1_no r B n ad cp xs (xs.getD (r.P + 3) 0) w hl hn (by omega) (by omega) (by rw [e2]; omega) h1 (Lib.hid rfl) (by rw [h4]; exact he) ho
  · -- Head
    refine ⟨_, _, { r with at_ := 3, h := xs.getD (r.P + 0) 0 }, ⟨s_stealLook S g A r.P xs o _ hO (Lib.hid rfl) h2, hstep _ _ (by omega) (fun B n ad cp w hl hB hn ho => ?_), ⟨rfl, e2, e3, e4, e5, e6, e7, e8⟩, rfl, rfl, rfl, ⟨hw.1, by omega⟩, ⟨hw.1, by show xs.getD (r.P + 0) 0 ≤ c + 1; omega⟩, rfl, rfl⟩, .inl (.inr (.inr (.inr (.inl ⟨rfl, rfl, h3, h4, rfl⟩))))⟩
    exact rsteal2 r B n ad cp xs (xs.getD (r.P + 0) 0) w hl hn (by omega) (by omega) (by rw [e2]; omega) h1 (Lib.hid rfl) ho
  · -- Head and 1
    refine ⟨_, _, { r with at_ := 4 }, ⟨s_stealClaim S g A r.P xs o (r.h + 1) hO (by omega) (by omega) (Lib.hid (by rw [h5])) h2, hstep _ _ (by omega) (fun B n ad cp w hl hB hn ho => ?_), ⟨rfl, e2, e3, e4, e5, e6, e7, e8⟩, rfl, rfl, by simp, ?_, ⟨hh.1, by show o.hd ≤ c + 1; omega⟩, rfl, rfl⟩, .inl (.inr (.inr (.inr (.inr (.inl ⟨rfl, rfl, h3, h4, h5⟩)))))⟩
    · have := rsteal3 r B n ad cp xs w hl hB hn (by omega) h1 (by omega) (by omega) (by omega) ho
      exact this
    · rw [dqset_eq _ (by omega)]
      omega
  · -- Tail
    by_cases he : xs.getD (r.P + 1) 0 ≤ o.hd
    · refine ⟨_, _, { r with at_ := 5 }, ⟨s_stealCheck_yes S g A r.P xs o _ hO (by omega) (by omega) (Lib.hid rfl) he h2, hstep _ _ (by omega) (fun B n ad cp w hl hB hn ho => ?_), ⟨rfl, e2, e3, e4, e5, e6, e7, e8⟩, rfl, rfl, rfl, ⟨hw.1, by omega⟩, ⟨hh.1, by show o.hd ≤ c + 1; omega⟩, rfl, rfl⟩, .inl (.inr (.inr (.inr (.inr (.inr (.inl ⟨rfl, rfl, h3, h4, h5⟩))))))⟩
      exact rsteal4_yes r B n ad cp xs (xs.getD (r.P + 1) 0) w hl hn (by omega) (by omega) (by rw [e2]; omega) h1 (Lib.hid rfl) (by omega) (by omega) (by omega) ho
    · refine ⟨_, _, { r with at_ := 7 }, ⟨s_stealCheck_no S g A r.P xs o _ hO (by omega) (by omega) (Lib.hid rfl) he h2, hstep _ _ (by omega) (fun B n ad cp w hl hB hn ho => ?_), ⟨rfl, e2, e3, e4, e5, e6, e7, e8⟩, rfl, rfl, rfl, ⟨hw.1, by omega⟩, ⟨hh.1, by show o.hd ≤ c + 1; omega⟩, rfl, rfl⟩, .inl (.inr (.inr (.inr (.inr (.inr (.inr (.inr ⟨rfl, rfl, h3, h4, h5⟩)))))))⟩
      exact rsteal4_no r B n ad cp xs (xs.getD (r.P + 1) 0) w hl hn (by omega) (by omega) (by rw [e2]; omega) h1 (Lib.hid rfl) (by omega) (by omega) (by omega) ho
  · -- Head back
    refine ⟨_, _, { r with at_ := 6 }, ⟨s_stealYield S g A r.P xs o r.h hO (by omega) (by omega) (Lib.hid h5.symm) h2, hstep _ _ (by omega) (fun B n ad cp w hl hB hn ho => ?_), ⟨rfl, e2, e3, e4, e5, e6, e7, e8⟩, rfl, rfl, by simp, ?_, ⟨hh.1, by show o.hd ≤ c + 1; omega⟩, rfl, rfl⟩, .inl (.inr (.inr (.inr (.inr (.inr (.inr (.inl ⟨rfl, rfl, h3, h4⟩)))))))⟩
    · have := rsteal5 r B n ad cp xs w hl hB hn (by omega) h1 (by omega) (by omega) (by omega) ho
      exact this
    · rw [dqset_eq _ (by omega)]
      omega
  · -- the turn is left
    refine ⟨_, _, { r with at_ := -1 }, ⟨s_stealLeave S g A r.P xs o _ hO h3 (Lib.hid rfl) h2, hstep _ _ (by omega) (fun B n ad cp w hl hB hn ho => ?_), ⟨rfl, e2, e3, e4, e5, e6, e7, e8⟩, rfl, rfl, by simp, ?_, ⟨hh.1, by show o.hd ≤ c + 1; omega⟩, rfl, rfl⟩, .inr ⟨rfl, rfl⟩⟩
    · have := rsteal6 r B n ad cp xs (wrap64 (o.tn + 1)) w hl hB hn (by omega) h1 (by omega) (Lib.hid (by rw [h4, IntKind.wrap_i64]; first | rfl | (unfold wrap64; rfl) | (unfold wrap64; omega))) ho
      exact this
    · rw [dqset_ne _ (by omega)]
      omega
  · -- the slot
    obtain ⟨m, hm, hmD⟩ : ∃ m : Nat, o.hd.tmod (o.D : Int) = (m : Int) ∧ m < o.D := by
      obtain ⟨H, hH⟩ : ∃ H : Nat, o.hd = (H : Int) := ⟨o.hd.toNat, by omega⟩
      rw [hH, tmod_nat]
      exact ⟨_, rfl, Nat.mod_lt _ (by omega)⟩
    refine ⟨_, _, { r with x := xs.getD (r.P + 4 + m) 0, got := true, at_ := 6 }, ⟨s_stealTake S g A r.P xs o m _ hO hh.1 (Lib.hid hm) hmD (Lib.hid rfl) h2, hstep _ _ (by omega) (fun B n ad cp w hl hB hn ho => ?_), ⟨rfl, e2, e3, e4, e5, e6, rfl, fun _ => rfl⟩, rfl, rfl, rfl, ⟨hw.1, by omega⟩, ⟨hh.1, by show o.hd ≤ c + 1; omega⟩, rfl, rfl⟩, .inl (.inr (.inr (.inr (.inr (.inr (.inr (.inl ⟨rfl, rfl, h3, h4⟩)))))))⟩
    exact rsteal7 r B n ad cp xs m (xs.getD (r.P + 4 + m) 0) w hl hB hn (by omega) (by rw [e2]; omega) (by rw [e2]; omega) h1 (by omega) (by omega) (Lib.hid (by rw [h5, e2]; exact hm)) (by rw [e2]; exact hmD) (by omega) (Lib.hid rfl) ho
end Go.Proofs.Ytegbifphekhgkaa
