/- The owner's steps of Pop: the program's and the reference's side by side (layer 13). -/
import Derived.Test.YtegbifphekhgkaaDqM
namespace Go.Proofs.Ytegbifphekhgkaa
open Go.ChangeShapes Go.WideShapes Go.ChangeAt Go.RowKit
set_option linter.unusedVariables false
set_option linter.unusedSimpArgs false
structure PairP (S g A P : Nat) (c : Int) (xs : List Int) (o : Wk) (r : Rk) (xs' : List Int) (o' : Wk) (r' : Rk) : Prop where
  st : StepC S g A xs o xs' o'
  rf : RefS r r' xs xs'
  rc : RelC P o' r'
  oD : o'.D = o.D
  ok : o'.k = o.k
  len : xs'.length = xs.length
  wd : 0 ≤ xs'.getD (P + 0) 0 ∧ xs'.getD (P + 0) 0 ≤ c + 1
  hd : o'.hd = o.hd
  kd : r'.kd = r.kd
  tl : o'.tl ≤ o.tl + 1
/-- where an owner that pops stands, on both sides. -/
def AtP (A P : Nat) (o : Wk) (r : Rk) : Prop :=
  (r.at_ = 0 ∧ o.nx = fnV A 52) ∨
  (r.at_ = 1 ∧ o.nx = fnV A 78) ∨
  (r.at_ = 2 ∧ o.nx = fnV A 98) ∨
  (r.at_ = 3 ∧ o.nx = fnV A 110) ∨
  (r.at_ = 4 ∧ o.nx = fnV A 115 ∧ o.ta = ((P + 2 : Nat) : Int) ∧ r.tn = o.tn) ∨
  (r.at_ = 5 ∧ o.nx = fnV A 117 ∧ o.ta = ((P + 2 : Nat) : Int) ∧ r.tn = o.tn) ∨
  (r.at_ = 6 ∧ o.nx = fnV A 120 ∧ o.ta = ((P + 2 : Nat) : Int) ∧ r.tn = o.tn) ∨
  (r.at_ = 7 ∧ o.nx = fnV A 122 ∧ o.ta = ((P + 2 : Nat) : Int) ∧ r.tn = o.tn ∧ 1 ≤ o.tl) ∨
  (r.at_ = 8 ∧ o.nx = fnV A 123 ∧ o.ta = ((P + 2 : Nat) : Int) ∧ r.tn = o.tn) ∨
  (r.at_ = 9 ∧ o.nx = fnV A 125 ∧ o.ta = ((P + 2 : Nat) : Int) ∧ r.tn = o.tn) ∨
  (r.at_ = 10 ∧ o.nx = fnV A 97 ∧ 1 ≤ o.tl)
theorem pair_pop (S g A P : Nat) (c : Int) (xs : List Int) (o : Wk) (r : Rk) (hO : WOk o P xs.length) (hP : P ≤ 1000) (hc : 0 ≤ c ∧ c ≤ 1000) (hr : RelC P o r) (hk : r.kd = 1) (ha : AtP A P o r) (hw : 0 ≤ xs.getD (P + 0) 0 ∧ xs.getD (P + 0) 0 ≤ c) :
    ∃ xs' o' r', PairP S g A P c xs o r xs' o' r' ∧ (AtP A P o' r' ∨ (r'.at_ = -1 ∧ o'.nx = .nilFunc)) := by
  obtain ⟨e1, e2, e3, e4, e5, e6, e7, e8⟩ := hr
  subst e1
  obtain ⟨d1, d2, d3, d4, d5, d6⟩ := id hO
  have hstep : ∀ r' xs', 0 ≤ r.at_ → (∀ (B n : Nat) (ad : Option Addr) (cp : Nat) (w : World), xs.length = n → B ≤ w.heap.size → n ≤ 100000 → OI w B (.slice ad n cp) xs → Calls Try.prog 55 #[.agg r.cs, .slice ad n cp] w (RPost B n w r' xs')) → RefS r r' xs xs' := fun r' xs' h0 H B n ad cp w hl hB hn ho =>
    rstep_pop r r' B n ad cp xs xs' w hk h0 fun W hb => H B n ad cp W hl (Nat.le_trans hB hb.size) hn (OI.below ho hb)
  rcases ha with ⟨h1, h2⟩ | ⟨h1, h2⟩ | ⟨h1, h2⟩ | ⟨h1, h2⟩ | ⟨h1, h2, h3, h4⟩ | ⟨h1, h2, h3, h4⟩ | ⟨h1, h2, h3, h4⟩ | ⟨h1, h2, h3, h4, h5⟩ | ⟨h1, h2, h3, h4⟩ | ⟨h1, h2, h3, h4⟩ | ⟨h1, h2, h5⟩
  · -- (a)
    refine ⟨_, _, { r with at_ := 1 }, ⟨s_popClaim S g A r.P xs o (r.t - 1) hO (by omega) (by omega) (Lib.hid (by rw [e3])) h2, hstep _ _ (by omega) (fun B n ad cp w hl hB hn ho => ?_), ⟨rfl, e2, e3, e4, e5, e6, e7, e8⟩, rfl, rfl, by simp, ?_, rfl, rfl, (by first | (show o.tl ≤ o.tl + 1; omega) | (show o.tl - 1 ≤ o.tl + 1; omega))⟩, .inl (.inr (.inl ⟨rfl, rfl⟩))⟩
    · exact rpop0 r B n ad cp xs w hl hB hn (by omega) h1 (by omega) (by omega) (by omega) ho
    · rw [dqset_ne _ (by omega)]
      omega
  · -- (b)
    by_cases he : xs.getD (r.P + 0) 0 ≤ o.tl - 1
    · refine ⟨_, _, { r with at_ := 10 }, ⟨s_popLook_yes S g A r.P xs o _ hO (by omega) (by omega) (Lib.hid rfl) he h2, hstep _ _ (by omega) (fun B n ad cp w hl hB hn ho => ?_), ⟨rfl, e2, e3, e4, e5, e6, e7, e8⟩, rfl, rfl, rfl, ⟨hw.1, by omega⟩, rfl, rfl, (by first | (show o.tl ≤ o.tl + 1; omega) | (show o.tl - 1 ≤ o.tl + 1; omega))⟩, .inl (.inr (.inr (.inr (.inr (.inr (.inr (.inr (.inr (.inr (.inr ⟨rfl, rfl, (by show 1 ≤ o.tl; omega)⟩))))))))))⟩
      exact rpop1_yes r B n ad cp xs (xs.getD (r.P + 0) 0) w hl hn (by omega) (by omega) (by rw [e2]; omega) h1 (Lib.hid rfl) (by omega) (by omega) (by rw [e3]; exact he) ho
    · refine ⟨_, _, { r with at_ := 2 }, ⟨s_popLook_no S g A r.P xs o _ hO (by omega) (by omega) (Lib.hid rfl) he h2, hstep _ _ (by omega) (fun B n ad cp w hl hB hn ho => ?_), ⟨rfl, e2, e3, e4, e5, e6, e7, e8⟩, rfl, rfl, rfl, ⟨hw.1, by omega⟩, rfl, rfl, (by first | (show o.tl ≤ o.tl + 1; omega) | (show o.tl - 1 ≤ o.tl + 1; omega))⟩, .inl (.inr (.inr (.inl ⟨rfl, rfl⟩)))⟩
      exact rpop1_no r B n ad cp xs (xs.getD (r.P + 0) 0) w hl hn (by omega) (by omega) (by rw [e2]; omega) h1 (Lib.hid rfl) (by omega) (by omega) (by rw [e3]; exact he) ho
  · -- (c)
    refine ⟨_, _, { r with at_ := 3 }, ⟨s_popYield S g A r.P xs o r.t hO (by omega) (by omega) (Lib.hid e3.symm) h2, hstep _ _ (by omega) (fun B n ad cp w hl hB hn ho => ?_), ⟨rfl, e2, e3, e4, e5, e6, e7, e8⟩, rfl, rfl, by simp, ?_, rfl, rfl, (by first | (show o.tl ≤ o.tl + 1; omega) | (show o.tl - 1 ≤ o.tl + 1; omega))⟩, .inl (.inr (.inr (.inr (.inl ⟨rfl, rfl⟩))))⟩
    · exact rpop2 r B n ad cp xs w hl hB hn (by omega) h1 (by omega) (by omega) (by omega) ho
    · rw [dqset_ne _ (by omega)]
      omega
  · -- (d)
    refine ⟨_, _, { r with at_ := 4, tn := xs.getD (r.P + 2) 0 }, ⟨s_popAsk S g A r.P xs o _ hO (Lib.hid rfl) h2, hstep _ _ (by omega) (fun B n ad cp w hl hB hn ho => ?_), ⟨rfl, e2, e3, e4, e5, e6, e7, e8⟩, rfl, rfl, by simp, ?_, rfl, rfl, (by first | (show o.tl ≤ o.tl + 1; omega) | (show o.tl - 1 ≤ o.tl + 1; omega))⟩, .inl (.inr (.inr (.inr (.inr (.inl ⟨rfl, rfl, rfl, rfl⟩)))))⟩
    · exact rpop3 r B n ad cp xs (xs.getD (r.P + 2) 0) (wrap64 (xs.getD (r.P + 2) 0 + 1)) w hl hB hn (by omega) h1 (by omega) (Lib.hid rfl) (Lib.hid (by rw [IntKind.wrap_i64]; first | rfl | (unfold wrap64; rfl) | (unfold wrap64; omega))) ho
    · rw [dqset_ne _ (by omega)]
      omega
  · -- (e)
    by_cases he : xs.getD (r.P + 3) 0 = o.tn
    · refine ⟨_, _, { r with at_ := 5 }, ⟨s_popWait S g A r.P xs o hO h3 (Lib.hid he) h2, hstep _ _ (by omega) (fun B n ad cp w hl hB hn ho => ?_), ⟨rfl, e2, e3, e4, e5, e6, e7, e8⟩, rfl, rfl, rfl, ⟨hw.1, by omega⟩, rfl, rfl, (by first | (show o.tl ≤ o.tl + 1; omega) | (show o.tl - 1 ≤ o.tl + 1; omega))⟩, .inl (.inr (.inr (.inr (.inr (.inr (.inl ⟨rfl, rfl, h3, h4⟩))))))⟩
      exact rpop4_yes r B n ad cp xs (xs.getD (r.P + 3) 0) w hl hn (by omega) (by omega) (by rw [e2]; omega) h1 (Lib.hid rfl) (by rw [he, h4]) ho
    · refine ⟨_, _, r, ⟨s_popWait_no S g A r.P xs o _ hO h3 (Lib.hid rfl) he h2, hstep _ _ (by omega) (fun B n ad cp w hl hB hn ho => ?_), ⟨rfl, e2, e3, e4, e5, e6, e7, e8⟩, rfl, rfl, rfl, ⟨hw.1, by omega⟩, rfl, rfl, (by first | (show o.tl ≤ o.tl + 1; omega) | (show o.tl - 1 ≤ o.tl + 1; omega))⟩, .inl (.inr (.inr (.inr (.inr (.inl ⟨h1, h2, h3, h4⟩)))))⟩
      exact rpop4_no r B n ad cp xs (xs.getD (r.P + 3) 0) w hl hn (by omega) (by omega) (by rw [e2]; omega) h1 (Lib.hid rfl) (by rw [h4]; exact he) ho
  · -- (f)
    refine ⟨_, _, { r with at_ := 6 }, ⟨s_popClaimAgain S g A r.P xs o (r.t - 1) hO (by omega) (by omega) (Lib.hid (by rw [e3])) h2, hstep _ _ (by omega) (fun B n ad cp w hl hB hn ho => ?_), ⟨rfl, e2, e3, e4, e5, e6, e7, e8⟩, rfl, rfl, by simp, ?_, rfl, rfl, (by first | (show o.tl ≤ o.tl + 1; omega) | (show o.tl - 1 ≤ o.tl + 1; omega))⟩, .inl (.inr (.inr (.inr (.inr (.inr (.inr (.inl ⟨rfl, rfl, h3, h4⟩)))))))⟩
    · exact rpop5 r B n ad cp xs w hl hB hn (by omega) h1 (by omega) (by omega) (by omega) ho
    · rw [dqset_ne _ (by omega)]
      omega
  · -- (f) again
    by_cases he : xs.getD (r.P + 0) 0 ≤ o.tl - 1
    · refine ⟨_, _, { r with at_ := 7 }, ⟨s_popLookAgain_yes S g A r.P xs o _ hO (by omega) (by omega) (Lib.hid rfl) he h2, hstep _ _ (by omega) (fun B n ad cp w hl hB hn ho => ?_), ⟨rfl, e2, e3, e4, e5, e6, e7, e8⟩, rfl, rfl, rfl, ⟨hw.1, by omega⟩, rfl, rfl, (by first | (show o.tl ≤ o.tl + 1; omega) | (show o.tl - 1 ≤ o.tl + 1; omega))⟩, .inl (.inr (.inr (.inr (.inr (.inr (.inr (.inr (.inl ⟨rfl, rfl, h3, h4, (by show 1 ≤ o.tl; omega)⟩))))))))⟩
      exact rpop6_yes r B n ad cp xs (xs.getD (r.P + 0) 0) w hl hn (by omega) (by omega) (by rw [e2]; omega) h1 (Lib.hid rfl) (by omega) (by omega) (by rw [e3]; exact he) ho
    · refine ⟨_, _, { r with at_ := 8 }, ⟨s_popLookAgain_no S g A r.P xs o _ hO (by omega) (by omega) (Lib.hid rfl) he h2, hstep _ _ (by omega) (fun B n ad cp w hl hB hn ho => ?_), ⟨rfl, e2, e3, e4, e5, e6, e7, e8⟩, rfl, rfl, rfl, ⟨hw.1, by omega⟩, rfl, rfl, (by first | (show o.tl ≤ o.tl + 1; omega) | (show o.tl - 1 ≤ o.tl + 1; omega))⟩, .inl (.inr (.inr (.inr (.inr (.inr (.inr (.inr (.inr (.inl ⟨rfl, rfl, h3, h4⟩)))))))))⟩
      exact rpop6_no r B n ad cp xs (xs.getD (r.P + 0) 0) w hl hn (by omega) (by omega) (by rw [e2]; omega) h1 (Lib.hid rfl) (by omega) (by omega) (by rw [e3]; exact he) ho
  · -- the turn is left
    refine ⟨_, _, { r with at_ := 10 }, ⟨s_popLeave S g A r.P xs o _ hO h3 (Lib.hid rfl) h2, hstep _ _ (by omega) (fun B n ad cp w hl hB hn ho => ?_), ⟨rfl, e2, e3, e4, e5, e6, e7, e8⟩, rfl, rfl, by simp, ?_, rfl, rfl, (by first | (show o.tl ≤ o.tl + 1; omega) | (show o.tl - 1 ≤ o.tl + 1; omega))⟩, .inl (.inr (.inr (.inr (.inr (.inr (.inr (.inr (.inr (.inr (.inr ⟨rfl, rfl, h5⟩))))))))))⟩
    · exact rpop7 r B n ad cp xs (wrap64 (o.tn + 1)) w hl hB hn (by omega) h1 (by omega) (Lib.hid (by rw [h4, IntKind.wrap_i64]; first | rfl | (unfold wrap64; rfl) | (unfold wrap64; omega))) ho
    · rw [dqset_ne _ (by omega)]
      omega
  · -- Tail back
    refine ⟨_, _, { r with at_ := 9 }, ⟨s_popYieldAgain S g A r.P xs o r.t hO (by omega) (by omega) (Lib.hid e3.symm) h2, hstep _ _ (by omega) (fun B n ad cp w hl hB hn ho => ?_), ⟨rfl, e2, e3, e4, e5, e6, e7, e8⟩, rfl, rfl, by simp, ?_, rfl, rfl, (by first | (show o.tl ≤ o.tl + 1; omega) | (show o.tl - 1 ≤ o.tl + 1; omega))⟩, .inl (.inr (.inr (.inr (.inr (.inr (.inr (.inr (.inr (.inr (.inl ⟨rfl, rfl, h3, h4⟩))))))))))⟩
    · exact rpop8 r B n ad cp xs w hl hB hn (by omega) h1 (by omega) (by omega) (by omega) ho
    · rw [dqset_ne _ (by omega)]
      omega
  · -- the turn is left, nothing is got
    refine ⟨_, _, { r with at_ := -1 }, ⟨s_popGiveUp S g A r.P xs o _ hO h3 (Lib.hid rfl) h2, hstep _ _ (by omega) (fun B n ad cp w hl hB hn ho => ?_), ⟨rfl, e2, e3, e4, e5, e6, e7, e8⟩, rfl, rfl, by simp, ?_, rfl, rfl, (by first | (show o.tl ≤ o.tl + 1; omega) | (show o.tl - 1 ≤ o.tl + 1; omega))⟩, .inr ⟨rfl, rfl⟩⟩
    · exact rpop9 r B n ad cp xs (wrap64 (o.tn + 1)) w hl hB hn (by omega) h1 (by omega) (Lib.hid (by rw [h4, IntKind.wrap_i64]; first | rfl | (unfold wrap64; rfl) | (unfold wrap64; omega))) ho
    · rw [dqset_ne _ (by omega)]
      omega
  · -- (g)
    obtain ⟨m, hm, hmD⟩ : ∃ m : Nat, (o.tl - 1).tmod (o.D : Int) = (m : Int) ∧ m < o.D := by
      obtain ⟨H, hH⟩ : ∃ H : Nat, o.tl - 1 = (H : Int) := ⟨(o.tl - 1).toNat, by omega⟩
      rw [hH, tmod_nat]
      exact ⟨_, rfl, Nat.mod_lt _ (by omega)⟩
    refine ⟨_, _, { r with t := o.tl - 1, x := xs.getD (r.P + 4 + m) 0, got := true, at_ := -1 }, ⟨s_popTake S g A r.P xs o m (o.tl - 1) _ hO h5 (by omega) (Lib.hid rfl) (Lib.hid hm) hmD (Lib.hid rfl) h2, hstep _ _ (by omega) (fun B n ad cp w hl hB hn ho => ?_), ⟨rfl, e2, rfl, by show 0 ≤ o.tl - 1; omega, by show o.tl - 1 ≤ 1000; omega, e6, rfl, fun _ => rfl⟩, rfl, rfl, rfl, ⟨hw.1, by omega⟩, rfl, rfl, (by first | (show o.tl ≤ o.tl + 1; omega) | (show o.tl - 1 ≤ o.tl + 1; omega))⟩, .inr ⟨rfl, rfl⟩⟩
    exact rpop10 r B n ad cp xs (o.tl - 1) m (xs.getD (r.P + 4 + m) 0) w hl hB hn (by omega) (by rw [e2]; omega) (by rw [e2]; omega) h1 (by omega) (by omega) (by rw [e3]) (Lib.hid (by rw [e2]; exact hm)) (by rw [e2]; exact hmD) (by omega) (Lib.hid rfl) ho
end Go.Proofs.Ytegbifphekhgkaa
