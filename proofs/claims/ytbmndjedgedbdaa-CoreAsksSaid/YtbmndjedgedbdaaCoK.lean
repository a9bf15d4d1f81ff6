/- What memory answers, and the document's answer, side by side (layer 25). -/
import Derived.Test.YtbmndjedgedbdaaCoI
import Derived.Test.YtbmndjedgedbdaaRdS
namespace Go.Proofs.Ytbmndjedgedbdaa.co
open Go.ChangeShapes Go.WideShapes Go.ChangeAt Go.RowKit
open Go.Proofs.Ytbmndjedgedbdaa.pr
open Go.Proofs.Ytbmndjedgedbdaa.rds
attribute [local go_sem ↓] Go.wp_at_zero Go.wp_at_succ
attribute [local go_sem] Oper.semAt_some
set_option linter.unusedVariables false
set_option linter.unusedSimpArgs false
theorem store_view {S g : Nat} {xs : List Int} {w : World} (h : StoreAt w S g xs) (hm : xs.length ≤ 1000000) : View w (.slice (some ⟨g, 0, none⟩) xs.length xs.length) xs := by
  obtain ⟨_, _, h2, _, _, h5⟩ := h.facts
  exact view_of_cells h2 h5 (Nat.le_refl _) (by unfold maxLen; omega)
theorem all_any (S g : Nat) (xs : List Int) (w : World) (h : StoreAt w S g xs) (hsm : xs.length ≤ 100000) : Calls Try.prog 14 #[.pointer (some ⟨S, 0, none⟩)] w (RowPost w.heap.size xs w) := by
  obtain ⟨h0, _, _, _, _, _⟩ := h.facts
  have hV := store_view h (by omega)
  clear h
  go_enter Try.func14, Try.ntmps14
  go_wp2_with fail
  refine (clone_any _ xs _ hV hsm).mono ?_
  rintro e w' ⟨v', rfl, h1, h2⟩
  clear hV h0
  go_wp2_with fail
  go_ret
  exact ⟨_, rfl, h1, h2⟩
section
variable {W : World} {a b d o : Int} {cn : Nat} {f l : Bool} {L : List (List I4)} {ws ds : List Int} {C Sw gw Sd gd O Lg St T A Lb n4 n6 : Nat} {fv hv bv : Value} {rows ps : List Value} {se st wy : Int}
/-- one question: what it makes of memory, and what it answers. -/
theorem ask_pair (K : List Int → World → Prop) (hK : K = fun ds V => CoW W V a b d o cn f l L ws ds C Sw gw Sd gd O Lg St T A Lb n4 n6 fv hv bv rows ps se st wy) (ds : List Int) (hm : ds.length ≤ 1000) (k at_ v u : Int) : ∃ (ys : List Int) (x : Int) (ok : Bool), ys.length = ds.length ∧
    Hid (∀ V, K ds V → Calls Try.prog 30 #[.pointer (some ⟨C, 0, none⟩), .agg #[.int .i64 k, .int .i64 at_, .int .i64 v, .int .i64 u, .int .i64 0]] V fun e V' => e = .returned (.tuple #[.int .i64 x, .bool ok]) ∧ Hid (K ys V' ∧ Keep gd V V' ∧ gd < V.heap.size)) ∧
    Hid (1 ≤ k ∧ k ≤ 4 → ∀ V va, View V va ds → Calls Try.prog 31 #[va, .agg #[.int .i64 (k - 1), .int .i64 at_, .int .i64 (if k = 4 then u else v), .int .i64 (if k = 4 then v else 0)]] V (RDo V ys x ok)) ∧
    (¬ (1 ≤ k ∧ k ≤ 4) → ys = ds ∧ x = 0 ∧ ok = false) := by
  have hA : ∀ {V V' : World} {q : List Int}, K q V → Below V.heap.size V V' → Hid (K q V' ∧ Keep gd V V' ∧ gd < V.heap.size) := fun h hb => Lib.hid (by rw [hK] at h ⊢; exact ⟨h.below hb, Keep.of_below hb, h.dd.facts.2.2.2.2.2⟩)
  have hD : ∀ {V : World}, K ds V → CoW W V a b d o cn f l L ws ds C Sw gw Sd gd O Lg St T A Lb n4 n6 fv hv bv rows ps se st wy := fun h => by rw [hK] at h; exact h
  have hS : ∀ {V V' : World} (i : Nat) (y : Int), K ds V → Below V.heap.size V V' → Hid (K (ds.set i y) (V'.setCell ⟨gd, i, none⟩ (.int .i64 y)) ∧ Keep gd V (V'.setCell ⟨gd, i, none⟩ (.int .i64 y)) ∧ gd < V.heap.size) := fun i y h hb => Lib.hid (by rw [hK] at h ⊢; exact ⟨(h.below hb).data i y, (Keep.of_below hb).trans (Keep.set rfl), h.dd.facts.2.2.2.2.2⟩)
  by_cases hin : 0 ≤ at_ ∧ at_ < (ds.length : Int)
  · obtain ⟨i, rfl⟩ : ∃ i : Nat, at_ = (i : Int) := ⟨at_.toNat, by omega⟩
    have hi : i < ds.length := by omega
    obtain ⟨x, hx⟩ : ∃ x, ds.getD i 0 = x := ⟨_, rfl⟩
    by_cases k1 : k = 1
    · subst k1
      refine ⟨ds, x, true, rfl, Lib.hid (fun V h => (ask1 ds x i v u 0 rfl (hD h).oo (hD h).dd hi (by omega) hx).mono (fun e V' h' => ⟨h'.1, hA h h'.2⟩)), Lib.hid (fun _ V va hv => rdo_0 va ds i x (Lib.hid hx) _ _ V hv (by omega) hi), fun h => by omega⟩
    by_cases k2 : k = 2
    · subst k2
      refine ⟨ds.set i v, 0, true, List.length_set, Lib.hid (fun V h => (ask2 ds i v u 0 rfl (hD h).oo (hD h).dd hi (by omega)).mono (fun e V' h' => by obtain ⟨h1, V2, h2, rfl⟩ := h'; exact ⟨h1, hS i v h h2⟩)), Lib.hid (fun _ V va hv => rdo_1 va ds i x (Lib.hid hx) _ _ V hv (by omega) hi), fun h => by omega⟩
    by_cases k3 : k = 3
    · subst k3
      refine ⟨ds.set i (wrap64 (x + v)), x, true, List.length_set, Lib.hid (fun V h => (ask3 ds x i v u 0 rfl (hD h).oo (hD h).dd hi (by omega) hx).mono (fun e V' h' => by obtain ⟨h1, V2, h2, rfl⟩ := h'; exact ⟨h1, hS i _ h h2⟩)), Lib.hid (fun _ V va hv => rdo_2 va ds i x (Lib.hid hx) _ _ V hv (by omega) hi), fun h => by omega⟩
    by_cases k4 : k = 4
    · subst k4
      by_cases hv0 : x = v
      · subst hv0
        refine ⟨ds.set i u, x, true, List.length_set, Lib.hid (fun V h => (ask4y ds i x u 0 rfl (hD h).oo (hD h).dd hi (by omega) hx).mono (fun e V' h' => by obtain ⟨h1, V2, h2, rfl⟩ := h'; exact ⟨h1, hS i u h h2⟩)), Lib.hid (fun _ V va hv => rdo_3y va ds i x (Lib.hid hx) _ _ V hv (by omega) hi (Lib.hid rfl)), fun h => by omega⟩
      · refine ⟨ds, x, true, rfl, Lib.hid (fun V h => (ask4o ds x i v u 0 rfl (hD h).oo (hD h).dd hi (by omega) hx hv0).mono (fun e V' h' => ⟨h'.1, hA h h'.2⟩)), Lib.hid (fun _ V va hv => rdo_3n va ds i x (Lib.hid hx) _ _ V hv (by omega) hi (Lib.hid hv0)), fun h => by omega⟩
    · exact ⟨ds, 0, false, rfl, Lib.hid (fun V h => (ask5 k i v u 0 rfl (hD h).oo k1 (by simpa using k1) (decide_eq_false k1) k2 (by simpa using k2) (decide_eq_false k2) k3 (by simpa using k3) (decide_eq_false k3) k4 (by simpa using k4) (decide_eq_false k4)).mono (fun e V' h' => ⟨h'.1, hA h h'.2⟩)), Lib.hid (fun h => by omega), fun _ => ⟨rfl, rfl, rfl⟩⟩
  · have hat : at_ < 0 ∨ (ds.length : Int) ≤ at_ := by omega
    by_cases k1 : k = 1
    · subst k1
      refine ⟨ds, 0, false, rfl, Lib.hid (fun V h => (ask1n ds at_ v u 0 rfl (hD h).oo (hD h).dd hat).mono (fun e V' h' => ⟨h'.1, hA h h'.2⟩)), Lib.hid (fun _ V va hv => ?_), fun h => by omega⟩
      rcases hat with h | h
      · exact rdo_out_0_lt va ds at_ _ _ V hv (by omega) h
      · exact rdo_out_0_ge va ds at_ _ _ V hv (by omega) h
    by_cases k2 : k = 2
    · subst k2
      refine ⟨ds, 0, false, rfl, Lib.hid (fun V h => (ask2n ds at_ v u 0 rfl (hD h).oo (hD h).dd hat).mono (fun e V' h' => ⟨h'.1, hA h h'.2⟩)), Lib.hid (fun _ V va hv => ?_), fun h => by omega⟩
      rcases hat with h | h
      · exact rdo_out_1_lt va ds at_ _ _ V hv (by omega) h
      · exact rdo_out_1_ge va ds at_ _ _ V hv (by omega) h
    by_cases k3 : k = 3
    · subst k3
      refine ⟨ds, 0, false, rfl, Lib.hid (fun V h => (ask3n ds at_ v u 0 rfl (hD h).oo (hD h).dd hat).mono (fun e V' h' => ⟨h'.1, hA h h'.2⟩)), Lib.hid (fun _ V va hv => ?_), fun h => by omega⟩
      rcases hat with h | h
      · exact rdo_out_2_lt va ds at_ _ _ V hv (by omega) h
      · exact rdo_out_2_ge va ds at_ _ _ V hv (by omega) h
    by_cases k4 : k = 4
    · subst k4
      refine ⟨ds, 0, false, rfl, Lib.hid (fun V h => (ask4n ds at_ v u 0 rfl (hD h).oo (hD h).dd hat).mono (fun e V' h' => ⟨h'.1, hA h h'.2⟩)), Lib.hid (fun _ V va hv => ?_), fun h => by omega⟩
      rcases hat with h | h
      · exact rdo_out_3_lt va ds at_ _ _ V hv (by omega) h
      · exact rdo_out_3_ge va ds at_ _ _ V hv (by omega) h
    · exact ⟨ds, 0, false, rfl, Lib.hid (fun V h => (ask5 k at_ v u 0 rfl (hD h).oo k1 (by simpa using k1) (decide_eq_false k1) k2 (by simpa using k2) (decide_eq_false k2) k3 (by simpa using k3) (decide_eq_false k3) k4 (by simpa using k4) (decide_eq_false k4)).mono (fun e V' h' => ⟨h'.1, hA h h'.2⟩)), Lib.hid (fun h => by omega), fun _ => ⟨rfl, rfl, rfl⟩⟩
end
/-- a core that is none is asked. -/
theorem ask_none (k at_ v u : Int) (V : World) : Calls Try.prog 30 #[.pointer none, .agg #[.int .i64 k, .int .i64 at_, .int .i64 v, .int .i64 u, .int .i64 0]] V fun e V' => e = .returned (.tuple #[.int .i64 0, .bool false]) ∧ Below V.heap.size V V' := by
  by_cases k1 : k = 1
  · subst k1; exact ask1l at_ v u 0
  by_cases k2 : k = 2
  · subst k2; exact ask2l at_ v u 0
  by_cases k3 : k = 3
  · subst k3; exact ask3l at_ v u 0
  by_cases k4 : k = 4
  · subst k4; exact ask4l at_ v u 0
  · exact ask5l k at_ v u 0 k1 (by simpa using k1) (decide_eq_false k1) k2 (by simpa using k2) (decide_eq_false k2) k3 (by simpa using k3) (decide_eq_false k3) k4 (by simpa using k4) (decide_eq_false k4)
end Go.Proofs.Ytbmndjedgedbdaa.co
