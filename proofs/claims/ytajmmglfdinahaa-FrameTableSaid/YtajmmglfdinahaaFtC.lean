/- The law FrameTable: the table and the reference, step by step (layer 16). -/
import Derived.Test.YtajmmglfdinahaaFtB
namespace Go.Proofs.Ytajmmglfdinahaa.ft
open Go.ChangeShapes Go.WideShapes Go.ChangeAt Go.RowKit
open Go.Proofs.Ytajmmglfdinahaa.ar (AS heldB FreeTo Gd row_keep Same heldB_true cnt_true cnt_false cnt_app)
open Go.Proofs.Ytajmmglfdinahaa.rf (RS RPost Pu KN FS hasB snoc_cases)
open Go.Proofs.Ytajmmglfdinahaa.fr
open Go.Proofs.Ytajmmglfdinahaa.ro (Ro KX ext ext_lt ext_ge)
set_option linter.unusedVariables false
set_option linter.unusedSimpArgs false
/-- the play ahead of each step. -/
def LT (w0 w : World) (P S g T A L N Wd Pc n t : Nat) (ob : Option (Nat × Array Value)) : Prop :=
  ∃ ρ xs ps pcl p hv bv vb vt hs bk tk F, FT w0 w ρ P S g T A L N Wd Pc n xs xs ps pcl p hv bv vb vt hs bk (hs.length : Int) p bk tk F ob ∧ Pu n hs bk tk ∧ bk.length ≤ t ∧ ∀ i, hs[i]? = some true → F i = pcl.getD (i + 1) 0
/-- the play behind a Make: the law's words and Pcs are those ahead of it. -/
def MT (w0 w : World) (P S g T A L N Wd Pc n t j : Nat) (pc : Int) (ob : Option (Nat × Array Value)) : Prop :=
  ∃ ρ xs ps pcl p hv bv vb vt hs bk tk F, FT w0 w ρ P S g T A L N Wd Pc n ((fl xs (7 + 14 * j) 0 14).set (7 + 14 * j) 1) xs ps pcl p hv bv vb vt hs bk (hs.length : Int) p bk tk F ob ∧ Pu n hs bk tk ∧ bk.length ≤ t ∧ F j = pc ∧ ∀ i, i ≠ j → hs[i]? = some true → F i = pcl.getD (i + 1) 0
section
variable {w0 w w' : World} {P S g T A L N Wd Pc n t : Nat} {ob : Option (Nat × Array Value)}
theorem LT.below (h : LT w0 w P S g T A L N Wd Pc n t ob) (hb : Below w.heap.size w w') : LT w0 w' P S g T A L N Wd Pc n t ob := by
  obtain ⟨ρ, xs, ps, pcl, p, hv, bv, vb, vt, hs, bk, tk, F, h, h1⟩ := h
  exact ⟨_, xs, ps, pcl, p, hv, bv, vb, vt, hs, bk, tk, F, h.below hb, h1⟩
theorem LT.b (h : LT w0 w P S g T A L N Wd Pc n t ob) : Below w0.heap.size w0 w := by
  obtain ⟨ρ, xs, ps, pcl, p, hv, bv, vb, vt, hs, bk, tk, F, h, h1⟩ := h
  exact h.b
theorem cnt_le : ∀ hs : List Bool, hs.count true ≤ hs.length := fun hs => List.count_le_length
theorem set_true {hs : List Bool} {j i : Nat} (h : (hs.set j true)[i]? = some true) : i = j ∨ (i ≠ j ∧ hs[i]? = some true) := by
  by_cases e : i = j
  · exact .inl e
  · rw [List.getElem?_set_ne (Ne.symm e)] at h
    exact .inr ⟨e, h⟩
theorem app_true {hs : List Bool} {i : Nat} (h : (hs ++ [false])[i]? = some true) : hs[i]? = some true := by
  by_cases hi : i < hs.length
  · rwa [List.getElem?_append_left hi] at h
  · rw [List.getElem?_append_right (by omega)] at h
    rcases Nat.eq_zero_or_pos (i - hs.length) with e | e
    · rw [e] at h; simp at h
    · rw [List.getElem?_eq_none (by simp; omega)] at h; cases h
set_option maxHeartbeats 2000000 in
theorem mk_pair (h : LT w0 w P S g T A L N Wd Pc n t ob) (hn : n ≤ 6) (ht : t ≤ 1000) (pc : Int) : ∃ (id : Int) (ok : Bool) (Mid : World → Prop),
    Hid (Calls Try.prog 49 #[.pointer (some ⟨T, 0, none⟩), (.agg #[.int .i64 1, .int .i64 0, .int .i64 pc, .int .i64 0, .int .i64 0, .int .i64 0, .int .i64 0, .int .i64 0, .int .i64 0, .int .i64 0, .int .i64 0, .int .i64 0, .bool false, .bool false, .int .i64 0, .int .i64 0, .int .i64 0, .int .i64 0, .int .i64 0])] w fun e w' => e = .returned (.tuple #[.int .i64 id, .bool ok]) ∧ Hid (Mid w')) ∧
    Hid (∀ w', Mid w' → Calls Try.prog 15 #[.pointer (some ⟨N, 0, none⟩)] w' fun e w'' => e = .returned (.tuple #[.int .i64 id, .bool ok]) ∧ Hid ((ok = false ∧ LT w0 w'' P S g T A L N Wd Pc n (t + 1) ob) ∨ (ok = true ∧ ∃ j : Nat, id = (j : Int) + 1 ∧ j < n ∧ MT w0 w'' P S g T A L N Wd Pc n (t + 1) j pc ob))) := by
  obtain ⟨ρ, xs, ps, pcl, p, hv, bv, vb, vt, hs, bk, tk, F, h, hp, hbt, hF⟩ := h
  have hle := hp.gd.le
  have hlen := hp.len
  have hcl := cnt_le hs
  have hlx := h.lx
  obtain ⟨p', hp'⟩ : ∃ p', max p ((tk.length + 1 : Nat) : Int) = p' := ⟨_, rfl⟩
  rcases snoc_cases bk with rfl | ⟨l, x, rfl⟩
  · by_cases hM : hs.length = n
    · refine ⟨0, false, fun w' => ∃ ρ, FT w0 w' ρ P S g T A L N Wd Pc n xs xs ps pcl p hv bv vb vt hs [] (hs.length : Int) p [] tk F ob, Lib.hid ?_, Lib.hid fun w' hw' => ?_⟩
      · refine (make_no pc w0 w _ T S g A L n xs ps p hv bv hs h.ts (by rw [hM])).mono ?_
        rintro e w' ⟨rfl, hb⟩
        exact ⟨rfl, Lib.hid ⟨_, h.below hb⟩⟩
      · obtain ⟨ρ1, h1⟩ := hw'
        have hr := h1.r
        rw [hM] at hr
        refine (Go.Proofs.Ytajmmglfdinahaa.rf.take_no N _ _ _ _ _ w' hr).mono ?_
        intro e w'' hq
        rw [← hM] at hq
        obtain ⟨he, ρ2, vb2, vt2, h2⟩ := h1.ref (by rw [← hM]; exact hq)
        exact ⟨he, Lib.hid (.inl ⟨rfl, ρ2, xs, ps, pcl, p, hv, bv, vb2, vt2, hs, [], tk, F, h2, hp, by simp, hF⟩)⟩
    · have hcnt : ((hs ++ [false]).set hs.length true).count true = tk.length + 1 := by rw [cnt_app, hlen]
      have hln : (((hs ++ [false]).set hs.length true).length : Int) = (hs.length : Int) + 1 := by simp
      refine ⟨(hs.length : Int) + 1, true, fun w' => ∃ ρ' ps' hv' bv', FT w0 w' ρ' P S g T A L N Wd Pc n ((fl xs (7 + 14 * hs.length) 0 14).set (7 + 14 * hs.length) 1) xs ps' pcl p' hv' bv' vb vt ((hs ++ [false]).set hs.length true) [] (hs.length : Int) p [] tk (fun i => if i = hs.length then pc else F i) ob, Lib.hid ?_, Lib.hid fun w' hw' => ?_⟩
      · refine (make_yes pc hs.length (hs ++ [false]) [] p' w0 w _ T S g A L n xs ps p hv bv hs [] h.ts hn (by omega) (by omega) (by omega) (.inr ⟨rfl, by omega, rfl, rfl, rfl⟩) (by omega) (by simp) (by simp; omega) (by simp) (by rw [hcnt, ← hp']; split <;> omega)).mono ?_
        rintro e w' ⟨hv', bv', q, rfl, hT, hq, hqs, hk, hs6⟩
        obtain ⟨ρ', h'⟩ := h.tab (q0 := q) (q := q) (j := hs.length) (F' := fun i => if i = hs.length then pc else F i) hT (fun k a b c _ => hk k a b c) hs6 (.inl hqs) (by rw [List.length_set, fl_len]; exact hlx) (fun i hi => by
          rcases set_true hi with rfl | ⟨hne, hi⟩
          · refine .inl ⟨rfl, hqs, ?_, by rw [if_pos rfl]; exact hq⟩
            rw [List.getElem?_set_self (by rw [h.ts.pl]; omega)]
          · exact .inr ⟨hne, app_true hi, List.getElem?_set_ne (Ne.symm hne), if_neg hne⟩)
        exact ⟨rfl, Lib.hid ⟨ρ', _, hv', bv', h'⟩⟩
      · obtain ⟨ρ1, ps1, hv1, bv1, h1⟩ := hw'
        refine (Go.Proofs.Ytajmmglfdinahaa.rf.take_fresh N _ _ ((hs.length : Int) + 1) _ p' _ _ _ w' h1.r (by omega) rfl ⟨by omega, by omega⟩ (by omega) hp').mono ?_
        intro e w'' hq
        obtain ⟨he, ρ2, vb2, vt2, h2⟩ := h1.ref hq
        exact ⟨he, Lib.hid (.inr ⟨rfl, hs.length, rfl, by omega, ρ2, xs, ps1, pcl, p', hv1, bv1, vb2, vt2, _, [], _, _, by rw [hln]; exact h2, hp.fresh (by omega), by simp, if_pos rfl, fun i hne hi => by
          show (if i = hs.length then pc else F i) = _
          rw [if_neg hne]
          rcases set_true hi with rfl | ⟨_, hi⟩
          · exact absurd rfl hne
          · exact hF i (app_true hi)⟩)⟩
  · obtain ⟨j, hx, hj, hg⟩ := hp.gd.back
    subst hx
    have hjl : j < hs.length := (List.getElem?_eq_some_iff.1 hj).1
    have hcnt : (hs.set j true).count true = tk.length + 1 := by rw [cnt_true hs j hj, hlen]
    have hln : ((hs.set j true).length : Int) = (hs.length : Int) := by simp
    simp only [List.length_append, List.length_cons, List.length_nil] at hbt
    refine ⟨(j : Int) + 1, true, fun w' => ∃ ρ' ps' hv' bv', FT w0 w' ρ' P S g T A L N Wd Pc n ((fl xs (7 + 14 * j) 0 14).set (7 + 14 * j) 1) xs ps' pcl p' hv' bv' vb vt (hs.set j true) l (hs.length : Int) p (l ++ [(j : Int) + 1]) tk (fun i => if i = j then pc else F i) ob, Lib.hid ?_, Lib.hid fun w' hw' => ?_⟩
    · refine (make_yes pc j hs l p' w0 w _ T S g A L n xs ps p hv bv hs (l ++ [(j : Int) + 1]) h.ts hn (by omega) (by omega) (by omega) (.inl ⟨l, rfl, rfl, rfl⟩) (by omega) (by simp; omega) (by omega) hjl (by rw [hcnt, ← hp']; split <;> omega)).mono ?_
      rintro e w' ⟨hv', bv', q, rfl, hT, hq, hqs, hk, hs6⟩
      obtain ⟨ρ', h'⟩ := h.tab (q0 := q) (q := q) (j := j) (F' := fun i => if i = j then pc else F i) hT (fun k a b c _ => hk k a b c) hs6 (.inl hqs) (by rw [List.length_set, fl_len]; exact hlx) (fun i hi => by
        rcases set_true hi with rfl | ⟨hne, hi⟩
        · refine .inl ⟨rfl, hqs, ?_, by rw [if_pos rfl]; exact hq⟩
          rw [List.getElem?_set_self (by rw [h.ts.pl]; omega)]
        · exact .inr ⟨hne, hi, List.getElem?_set_ne (Ne.symm hne), if_neg hne⟩)
      exact ⟨rfl, Lib.hid ⟨ρ', _, hv', bv', h'⟩⟩
    · obtain ⟨ρ1, ps1, hv1, bv1, h1⟩ := hw'
      refine (Go.Proofs.Ytajmmglfdinahaa.rf.take_back N _ _ _ p' _ _ l tk _ w' h1.r (by omega) (by omega) hp').mono ?_
      intro e w'' hq
      obtain ⟨he, ρ2, vb2, vt2, h2⟩ := h1.ref hq
      exact ⟨he, Lib.hid (.inr ⟨rfl, j, rfl, by omega, ρ2, xs, ps1, pcl, p', hv1, bv1, vb2, vt2, _, l, _, _, by rw [hln]; exact h2, hp.back hj hg, by omega, if_pos rfl, fun i hne hi => by
        show (if i = j then pc else F i) = _
        rw [if_neg hne]
        rcases set_true hi with rfl | ⟨_, hi⟩
        · exact absurd rfl hne
        · exact hF i hi⟩)⟩
theorem set_false {hs : List Bool} {j i : Nat} (h : (hs.set j false)[i]? = some true) : i ≠ j ∧ hs[i]? = some true := by
  by_cases e : i = j
  · subst e
    by_cases hi : i < hs.length
    · rw [List.getElem?_set_self hi] at h; simp at h
    · rw [List.getElem?_eq_none (by simp; omega)] at h; cases h
  · rw [List.getElem?_set_ne (Ne.symm e)] at h
    exact ⟨e, h⟩
set_option maxHeartbeats 2000000 in
theorem fr_pair (h : LT w0 w P S g T A L N Wd Pc n t ob) (hn : n ≤ 6) (ht : t ≤ 1000) (id : Int) : ∃ (ok : Bool) (Mid : World → Prop),
    Hid (∀ W, Below w.heap.size w W → Calls Try.prog 52 #[.pointer (some ⟨T, 0, none⟩), .int .i64 id] W fun e w' => e = .returned (.bool ok) ∧ Hid (Mid w')) ∧
    Hid (∀ w', Mid w' → ∀ B cs, ob = some (B, cs) → w'.heap[B]? = some (.cells cs 78 (0, 0))) ∧
    Hid (∀ w', Mid w' → Calls Try.prog 17 #[.pointer (some ⟨N, 0, none⟩), .int .i64 id] w' fun e w'' => e = .returned (.bool ok) ∧ Hid (LT w0 w'' P S g T A L N Wd Pc n (t + 1) ob)) := by
  obtain ⟨ρ, xs, ps, pcl, p, hv, bv, vb, vt, hs, bk, tk, F, h, hp, hbt, hF⟩ := h
  have hle := hp.gd.le
  have hlen := hp.len
  have hcl := cnt_le hs
  cases hh : heldB hs id
  · refine ⟨false, fun w' => ∃ ρ, FT w0 w' ρ P S g T A L N Wd Pc n xs xs ps pcl p hv bv vb vt hs bk (hs.length : Int) p bk tk F ob, Lib.hid fun W hW => ?_, Lib.hid fun w' hw' => ?_, Lib.hid fun w' hw' => ?_⟩
    · refine (free_no id w0 W _ T S g A L n xs ps p hv bv hs bk (h.below hW).ts (by omega) hh).mono ?_
      rintro e w' ⟨rfl, rfl⟩
      exact ⟨rfl, Lib.hid ⟨_, h.below hW⟩⟩
    · obtain ⟨ρ1, h1⟩ := hw'
      exact fun B cs e => (h1.o B cs e).1
    · obtain ⟨ρ1, h1⟩ := hw'
      refine (Go.Proofs.Ytajmmglfdinahaa.rf.give_no N _ _ _ _ _ _ _ id w' h1.r (by omega) (by rw [hp.mem]; exact hh)).mono ?_
      rintro e w'' ⟨rfl, rfl⟩
      exact ⟨rfl, Lib.hid ⟨ρ1, xs, ps, pcl, p, hv, bv, vb, vt, hs, bk, tk, F, h1, hp, by omega, hF⟩⟩
  · obtain ⟨j, rfl, hj, hjl⟩ := heldB_true hh
    have hln : ((hs.set j false).length : Int) = (hs.length : Int) := by simp
    refine ⟨true, fun w' => ∃ ρ' ps' hv' bv', FT w0 w' ρ' P S g T A L N Wd Pc n xs xs ps' pcl p hv' bv' vb vt (hs.set j false) (bk ++ [(j : Int) + 1]) (hs.length : Int) p bk tk F ob, Lib.hid fun W hW => ?_, Lib.hid fun w' hw' => ?_, Lib.hid fun w' hw' => ?_⟩
    · have hB := h.below hW
      obtain ⟨q, e1, e2, e3⟩ := hB.f j hj
      have hro := hB.rt
      have ne : ∀ b d, ext ρ w.heap.size 15 b = d → d < 20 → q ≠ b := fun b d hb hd e => by subst e; omega
      refine (free_yes j q (F j) w0 W _ T S g A L n xs ps p hv bv hs bk hB.ts (by omega) (by omega) hj (by omega) (by omega) (Lib.hid e1) e3 (hro.far (lt_of_heap e3) e2 (by omega) (by omega)) (ne L 6 hro.l (by omega)) (ne g 3 hro.g (by omega)) (ne T 4 hro.t (by omega)) (ne S 2 hro.s (by omega)) ?_).mono ?_
      · rcases Nat.lt_or_ge q w0.heap.size with hlt | hge
        · have := hB.z q hlt; omega
        · exact hge
      rintro e w' ⟨hv', bv', rfl, hT, hk, hs6⟩
      obtain ⟨ρ', h'⟩ := hB.tab (q0 := q) (q := q) (j := j) (F' := F) hT hk hs6 (.inr e2) h.lx (fun i hi => by
        obtain ⟨hne, hi⟩ := set_false hi
        exact .inr ⟨hne, hi, List.getElem?_set_ne (Ne.symm hne), rfl⟩)
      exact ⟨rfl, Lib.hid ⟨ρ', _, hv', bv', h'⟩⟩
    · obtain ⟨ρ1, ps1, hv1, bv1, h1⟩ := hw'
      exact fun B cs e => (h1.o B cs e).1
    · obtain ⟨ρ1, ps1, hv1, bv1, h1⟩ := hw'
      refine (Go.Proofs.Ytajmmglfdinahaa.rf.give_yes N _ _ _ _ _ _ _ ((j : Int) + 1) w' h1.r (by omega) (by omega) (by rw [hp.mem]; exact hh)).mono ?_
      intro e w'' hq
      obtain ⟨he, ρ2, vb2, vt2, h2⟩ := h1.ref hq
      exact ⟨he, Lib.hid ⟨ρ2, xs, ps1, pcl, p, hv1, bv1, vb2, vt2, _, _, _, F, by rw [hln]; exact h2, hp.give hj, by simp; omega, fun i hi => hF i (set_false hi).2⟩⟩
end
end Go.Proofs.Ytajmmglfdinahaa.ft
