/- The arena beside the document's (layer 10): their steps agree. -/
import Derived.Test.YtajmmglfdinahaaRfD
import Derived.Test.YtajmmglfdinahaaRfU
namespace Go.Proofs.Ytajmmglfdinahaa.rf
open Go.ChangeShapes Go.WideShapes Go.ChangeAt Go.RowKit Go.Proofs.Ytajmmglfdinahaa.mo
open Go.Proofs.Ytajmmglfdinahaa.ar (AS Same ups heldB heldB_true heldB_nat held_set held_new Gd FreeTo cnt_true cnt_false cnt_app cnt_lt row_keep)
set_option linter.unusedVariables false
set_option linter.unusedSimpArgs false
structure CM (w0 : World) (A N : Nat) (w : World) (m fa pa : Int) (hv bv : Value) (hs : List Bool) (ba : List Int) (fr pr : Int) (vb vt : Value) (br tk : List Int) : Prop where
  a : AS (fun _ => False) w0.heap.size A w m fa pa hv bv hv bv hs ba
  r : RS N w m fr pr vb vt br tk
  an : A < N
  n1 : hv.ownBlock ≠ some N
  n2 : bv.ownBlock ≠ some N
  s1 : ∀ k, vb.ownBlock = some k → k ≠ A ∧ hv.ownBlock ≠ some k ∧ bv.ownBlock ≠ some k
  s2 : ∀ k, vt.ownBlock = some k → k ≠ A ∧ hv.ownBlock ≠ some k ∧ bv.ownBlock ≠ some k
  b : Below w0.heap.size w0 w
def FS (A : Nat) (hv bv : Value) (w : World) : Nat → Prop := fun k => k < w.heap.size ∧ k ≠ A ∧ hv.ownBlock ≠ some k ∧ bv.ownBlock ≠ some k
section
variable {w0 w w' : World} {A N : Nat} {m fa pa fa' pa' fr pr fr' pr' : Int} {hv bv hv' bv' vb vt : Value} {hs hs' : List Bool} {ba ba' br br' tk tk' : List Int} {r : Value} {e : Ending}
theorem CM.far (h : CM w0 A N w m fa pa hv bv hs ba fr pr vb vt br tk) : AS (FS A hv bv w) w0.heap.size A w m fa pa hv bv hv bv hs ba := ⟨h.a.obj, h.a.rh, h.a.rb, h.a.h1, h.a.h2, h.a.h3, h.a.base, fun k hk => hk⟩
theorem CM.arena (h : CM w0 A N w m fa pa hv bv hs ba fr pr vb vt br tk) (ha : AS (FS A hv bv w) w0.heap.size A w' m fa' pa' hv' bv' hv' bv' hs' ba') (hb : Below w0.heap.size w w') (hs2 : Same (FS A hv bv w) w w') : CM w0 A N w' m fa' pa' hv' bv' hs' ba' fr pr vb vt br tk :=
  have hN : FS A hv bv w N := ⟨h.r.ltN, by have := h.an; omega, h.n1, h.n2⟩
  have h1 : ∀ k, vb.ownBlock = some k → FS A hv bv w k := fun k e => ⟨h.r.lb k e, h.s1 k e⟩
  have h2 : ∀ k, vt.ownBlock = some k → FS A hv bv w k := fun k e => ⟨h.r.lt k e, h.s2 k e⟩
  ⟨⟨ha.obj, ha.rh, ha.rb, ha.h1, ha.h2, ha.h3, ha.base, fun k hk => hk.elim⟩, h.r.keep hb.size (hs2 N hN) (fun k e => hs2 k (h1 k e)) (fun k e => hs2 k (h2 k e)), h.an, (ha.sa N hN).2.2.1, (ha.sa N hN).2.2.2, fun k e => (ha.sa k (h1 k e)).2, fun k e => (ha.sa k (h2 k e)).2, h.b.trans hb⟩
theorem CM.below (h : CM w0 A N w m fa pa hv bv hs ba fr pr vb vt br tk) (hb : Below w.heap.size w w') : CM w0 A N w' m fa pa hv bv hs ba fr pr vb vt br tk :=
  ⟨h.a.below hb, h.r.below hb, h.an, h.n1, h.n2, h.s1, h.s2, h.b.trans (hb.mono h.b.size)⟩
theorem CM.ref (h : CM w0 A N w m fa pa hv bv hs ba fr pr vb vt br tk) (hr : RPost N w m fr' pr' vb vt br' tk' r e w') : e = .returned r ∧ ∃ vb' vt', CM w0 A N w' m fa pa hv bv hs ba fr' pr' vb' vt' br' tk' := by
  obtain ⟨he, vb', vt', hR, hk, hb, ob, ot⟩ := hr
  have hA := h.a.lt
  have hr1 := fun k e => (h.a.rh.lt k e).2
  have hr2 := fun k e => (h.a.rb.lt k e).2
  have hbase := h.a.base
  have han := h.an
  have far : ∀ k, w.heap.size ≤ k → k ≠ A ∧ hv.ownBlock ≠ some k ∧ bv.ownBlock ≠ some k := fun k hk => ⟨by omega, fun e => by have := hr1 k e; omega, fun e => by have := hr2 k e; omega⟩
  refine ⟨he, vb', vt', ⟨(hk.2 A hA (by omega)).trans h.a.obj, row_keep h.a.rh fun k e => hk.2 k (hr1 k e) (fun e2 => h.n1 (e2 ▸ e)), row_keep h.a.rb fun k e => hk.2 k (hr2 k e) (fun e2 => h.n2 (e2 ▸ e)), h.a.h1, h.a.h2, h.a.h3, h.a.base, fun k hk => hk.elim⟩, hR, h.an, h.n1, h.n2, fun k e => ?_, fun k e => ?_, h.b.trans (hb.mono (by omega))⟩
  · rcases ob k e with e1 | e1
    · exact h.s1 k e1
    · exact far k e1
  · rcases ot k e with e1 | e1
    · exact h.s2 k e1
    · exact far k e1
end
theorem held_put (hs : List Bool) (j : Nat) (b : Bool) (hj : j < hs.length) (y : Int) : heldB (hs.set j b) y = if y = (j : Int) + 1 then b else heldB hs y := by
  by_cases hy : 0 ≤ y
  · obtain ⟨q, rfl⟩ : ∃ q : Nat, y = (q : Int) := ⟨y.toNat, by omega⟩
    have h := held_set hs j b hj q
    by_cases e : q = j + 1
    · rw [if_pos e] at h; rw [if_pos (by omega)]; injection h with h; exact h.symm
    · rw [if_neg e] at h; rw [if_neg (by omega)]; injection h with h; exact h.symm
  · rw [if_neg (by omega)]
    unfold heldB
    rw [decide_eq_false (by omega), decide_eq_false (by omega)]; rfl
theorem held_more (hs : List Bool) (y : Int) : heldB ((hs ++ [false]).set hs.length true) y = if y = (hs.length : Int) + 1 then true else heldB hs y := by
  by_cases hy : 0 ≤ y
  · obtain ⟨q, rfl⟩ : ∃ q : Nat, y = (q : Int) := ⟨y.toNat, by omega⟩
    have h := held_new hs q
    by_cases e : q = hs.length + 1
    · rw [if_pos e] at h; rw [if_pos (by omega)]; injection h with h; exact h.symm
    · rw [if_neg e] at h; rw [if_neg (by omega)]; injection h with h; exact h.symm
  · rw [if_neg (by omega)]
    unfold heldB
    rw [decide_eq_false (by omega), decide_eq_false (by omega)]; rfl
theorem has_app (tk : List Int) (x y : Int) : hasB (tk ++ [x]) y = if y = x then true else hasB tk y := by
  unfold hasB
  by_cases e : y = x
  · subst e; simp
  · rw [if_neg e]; simp [e]
theorem has_cut (tk : List Int) (x y : Int) : hasB (tk.filter (fun z => z != x)) y = if y = x then false else hasB tk y := by
  unfold hasB
  by_cases e : y = x
  · subst e; simp
  · rw [if_neg e]; simp [e]
structure Pu (M : Nat) (hs : List Bool) (bk tk : List Int) : Prop where
  gd : Gd M hs bk
  mem : ∀ x, hasB tk x = heldB hs x
  nd : tk.Nodup
  len : tk.length = hs.count true
theorem Pu.nil (M : Nat) : Pu M [] [] [] := ⟨Gd.nil M, fun x => by simp [hasB, heldB], List.nodup_nil, rfl⟩
theorem Pu.fresh {M : Nat} {hs : List Bool} {tk : List Int} (h : Pu M hs [] tk) (hlt : hs.length < M) : Pu M ((hs ++ [false]).set hs.length true) [] (tk ++ [(hs.length : Int) + 1]) := by
  have hn : hasB tk ((hs.length : Int) + 1) = false := by
    rw [h.mem]; unfold heldB; rw [decide_eq_false (by omega)]; rfl
  refine ⟨h.gd.new hlt, fun x => by rw [has_app, held_more, h.mem], ?_, by rw [cnt_app, ← h.len]; simp⟩
  refine List.nodup_append.2 ⟨h.nd, by simp, fun a ha b hb e => ?_⟩
  simp at hb
  subst hb; subst e
  unfold hasB at hn
  simp at hn
  exact hn ha
theorem Pu.back {M : Nat} {hs : List Bool} {l tk : List Int} {j : Nat} (h : Pu M hs (l ++ [(j : Int) + 1]) tk) (hj : hs[j]? = some false) (hg : Gd M (hs.set j true) l) : Pu M (hs.set j true) l (tk ++ [(j : Int) + 1]) := by
  have hjl : j < hs.length := (List.getElem?_eq_some_iff.1 hj).1
  have hn : hasB tk ((j : Int) + 1) = false := by
    rw [h.mem]
    have := heldB_nat hs (j + 1)
    push_cast at this
    rw [this, List.getD_eq_getElem?_getD, hj]; rfl
  refine ⟨hg, fun x => by rw [has_app, held_put hs j true hjl, h.mem], ?_, by rw [cnt_true hs j hj, ← h.len]; simp⟩
  refine List.nodup_append.2 ⟨h.nd, by simp, fun a ha b hb e => ?_⟩
  simp at hb
  subst hb; subst e
  unfold hasB at hn
  simp at hn
  exact hn ha
theorem Pu.give {M : Nat} {hs : List Bool} {bk tk : List Int} {j : Nat} (h : Pu M hs bk tk) (hj : hs[j]? = some true) : Pu M (hs.set j false) (bk ++ [(j : Int) + 1]) (tk.filter (fun y => y != (j : Int) + 1)) := by
  have hjl : j < hs.length := (List.getElem?_eq_some_iff.1 hj).1
  have hm : (j : Int) + 1 ∈ tk := by
    have h1 := h.mem ((j : Int) + 1)
    have := heldB_nat hs (j + 1)
    push_cast at this
    rw [this, List.getD_eq_getElem?_getD, hj] at h1
    unfold hasB at h1
    simpa using h1
  refine ⟨h.gd.give hj, fun x => by rw [has_cut, held_put hs j false hjl, h.mem], h.nd.filter _, ?_⟩
  have h1 := List.length_erase_of_mem hm
  rw [h.nd.erase_eq_filter] at h1
  have h2 := cnt_false hs j hj
  have h3 := h.len
  rw [h1]; omega
/-- The state between two steps. -/
structure SR (w0 : World) (A N M T : Nat) (w : World) (hv bv vb vt : Value) (hs : List Bool) (bk tk : List Int) (pk : Int) : Prop where
  c : CM w0 A N w (M : Int) (hs.length : Int) pk hv bv hs bk (hs.length : Int) pk vb vt bk tk
  p : Pu M hs bk tk
  t1 : hs.length ≤ T
  t2 : bk.length ≤ T
  t3 : tk.length ≤ T
def St (w0 : World) (A N M T : Nat) (w : World) : Prop := ∃ hv bv vb vt hs bk tk pk, SR w0 A N M T w hv bv vb vt hs bk tk pk
theorem St.below {w0 w w' : World} {A N M T : Nat} (h : St w0 A N M T w) (hb : Below w.heap.size w w') : St w0 A N M T w' := by
  obtain ⟨hv, bv, vb, vt, hs, bk, tk, pk, h⟩ := h
  exact ⟨hv, bv, vb, vt, hs, bk, tk, pk, h.c.below hb, h.p, h.t1, h.t2, h.t3⟩
theorem St.b {w0 w : World} {A N M T : Nat} (h : St w0 A N M T w) : Below w0.heap.size w0 w := by
  obtain ⟨hv, bv, vb, vt, hs, bk, tk, pk, h⟩ := h
  exact h.c.b
theorem snoc_cases (l : List Int) : l = [] ∨ ∃ l' x, l = l' ++ [x] := by
  rcases List.eq_nil_or_concat l with h | ⟨a, b, h⟩
  · exact .inl h
  · exact .inr ⟨a, b, by simpa using h⟩
theorem take_pair {w0 w : World} {A N M T : Nat} (h : St w0 A N M T w) (hT : T ≤ 1000) : ∃ (x : Int) (ok : Bool) (Mid : World → Prop), Hid (Calls Try.prog 14 #[.pointer (some ⟨A, 0, none⟩)] w fun e w' => e = .returned (.tuple #[.int .i64 x, .bool ok]) ∧ Mid w') ∧ Hid (∀ w', Mid w' → Calls Try.prog 15 #[.pointer (some ⟨N, 0, none⟩)] w' fun e w'' => e = .returned (.tuple #[.int .i64 x, .bool ok]) ∧ Hid (St w0 A N M (T + 1) w'')) := by
  obtain ⟨hv, bv, vb, vt, hs, bk, tk, pk, h⟩ := h
  have hle := h.p.gd.le
  have hl := h.t1
  have hb := h.t2
  have ht := h.t3
  have hlen := h.p.len
  obtain ⟨pk', hpk⟩ : ∃ pk', max pk ((tk.length + 1 : Nat) : Int) = pk' := ⟨_, rfl⟩
  rcases snoc_cases bk with rfl | ⟨l, x, rfl⟩
  · by_cases hM : hs.length = M
    · refine ⟨0, false, fun w' => ∃ hv bv vb vt, CM w0 A N w' (M : Int) (hs.length : Int) pk hv bv hs [] (hs.length : Int) pk vb vt [] tk, Lib.hid ?_, Lib.hid fun w' hw' => ?_⟩
      · have hc := h.c
        rw [hM] at hc
        refine (Go.Proofs.Ytajmmglfdinahaa.ar.take_no w hc.a).mono ?_
        rintro e w' ⟨rfl, _, hb'⟩
        exact ⟨rfl, _, _, _, _, h.c.below hb'⟩
      · obtain ⟨hv1, bv1, vb1, vt1, hc⟩ := hw'
        have hr := hc.r
        rw [hM] at hr
        refine (take_no N _ _ _ _ _ w' hr).mono ?_
        intro e w'' hp
        rw [← hM] at hp
        obtain ⟨he, vb2, vt2, hc2⟩ := hc.ref (by rw [← hM]; exact hp)
        exact ⟨he, Lib.hid ⟨_, _, _, _, hs, [], tk, pk, hc2, h.p, by omega, by simp, by omega⟩⟩
    · have hcnt : ((hs ++ [false]).set hs.length true).count true = tk.length + 1 := by rw [cnt_app, hlen]
      have hln : (((hs ++ [false]).set hs.length true).length : Int) = (hs.length : Int) + 1 := by simp
      refine ⟨(hs.length : Int) + 1, true, fun w' => ∃ hv bv vb vt, CM w0 A N w' (M : Int) ((hs.length : Int) + 1) pk' hv bv ((hs ++ [false]).set hs.length true) [] (hs.length : Int) pk vb vt [] tk, Lib.hid ?_, Lib.hid fun w' hw' => ?_⟩
      · refine (Go.Proofs.Ytajmmglfdinahaa.ar.take_yes w hs.length (hs ++ [false]) [] pk' h.c.far (.inr ⟨rfl, by omega, rfl, rfl, rfl⟩) (by omega) (by simp) (by simp; omega) (by simp) (by rw [hcnt, ← hpk]; split <;> omega)).mono ?_
        rintro e w' ⟨hv', bv', rfl, hA', hb', hS⟩
        rw [hln] at hA'
        exact ⟨rfl, _, _, _, _, h.c.arena hA' hb' hS⟩
      · obtain ⟨hv1, bv1, vb1, vt1, hc⟩ := hw'
        refine (take_fresh N _ _ ((hs.length : Int) + 1) _ pk' _ _ _ w' hc.r (by omega) rfl ⟨by omega, by omega⟩ (by omega) hpk).mono ?_
        intro e w'' hp
        obtain ⟨he, vb2, vt2, hc2⟩ := hc.ref hp
        exact ⟨he, Lib.hid ⟨_, _, _, _, _, [], _, pk', by rw [hln]; exact hc2, h.p.fresh (by omega), by simp; omega, by simp, by simp; omega⟩⟩
  · obtain ⟨j, hx, hj, hg⟩ := h.p.gd.back
    subst hx
    have hjl : j < hs.length := (List.getElem?_eq_some_iff.1 hj).1
    have hcnt : (hs.set j true).count true = tk.length + 1 := by rw [cnt_true hs j hj, hlen]
    have hln : ((hs.set j true).length : Int) = (hs.length : Int) := by simp
    simp only [List.length_append, List.length_cons, List.length_nil] at hb
    refine ⟨(j : Int) + 1, true, fun w' => ∃ hv bv vb vt, CM w0 A N w' (M : Int) (hs.length : Int) pk' hv bv (hs.set j true) l (hs.length : Int) pk vb vt (l ++ [(j : Int) + 1]) tk, Lib.hid ?_, Lib.hid fun w' hw' => ?_⟩
    · refine (Go.Proofs.Ytajmmglfdinahaa.ar.take_yes w j hs l pk' h.c.far (.inl ⟨l, rfl, rfl, rfl⟩) (by omega) (by simp; omega) (by omega) hjl (by rw [hcnt, ← hpk]; split <;> omega)).mono ?_
      rintro e w' ⟨hv', bv', rfl, hA', hb', hS⟩
      rw [hln] at hA'
      exact ⟨rfl, _, _, _, _, h.c.arena hA' hb' hS⟩
    · obtain ⟨hv1, bv1, vb1, vt1, hc⟩ := hw'
      refine (take_back N _ _ _ pk' _ _ l tk _ w' hc.r (by omega) (by omega) hpk).mono ?_
      intro e w'' hp
      obtain ⟨he, vb2, vt2, hc2⟩ := hc.ref hp
      exact ⟨he, Lib.hid ⟨_, _, _, _, _, l, _, pk', by rw [hln]; exact hc2, h.p.back hj hg, by simp; omega, by omega, by simp; omega⟩⟩
theorem give_pair {w0 w : World} {A N M T : Nat} (n : Int) (h : St w0 A N M T w) (hT : T ≤ 1000) : ∃ (ok : Bool) (Mid : World → Prop), Hid (∀ W, Below w.heap.size w W → Calls Try.prog 16 #[.pointer (some ⟨A, 0, none⟩), .int .i64 n] W fun e w' => e = .returned (.bool ok) ∧ Mid w') ∧ Hid (∀ w', Mid w' → Below w0.heap.size w0 w') ∧ Hid (∀ w', Mid w' → Calls Try.prog 17 #[.pointer (some ⟨N, 0, none⟩), .int .i64 n] w' fun e w'' => e = .returned (.bool ok) ∧ Hid (St w0 A N M (T + 1) w'')) := by
  obtain ⟨hv, bv, vb, vt, hs, bk, tk, pk, h⟩ := h
  have hl := h.t1
  have hb := h.t2
  have ht := h.t3
  cases hn : heldB hs n
  · refine ⟨false, fun w' => ∃ hv bv vb vt, CM w0 A N w' (M : Int) (hs.length : Int) pk hv bv hs bk (hs.length : Int) pk vb vt bk tk, Lib.hid fun W hW => ?_, Lib.hid fun w' hw' => ?_, Lib.hid fun w' hw' => ?_⟩
    · refine (Go.Proofs.Ytajmmglfdinahaa.ar.give_no W n (h.c.below hW).a (by omega) hn).mono ?_
      rintro e w' ⟨rfl, rfl⟩
      exact ⟨rfl, _, _, _, _, h.c.below hW⟩
    · obtain ⟨_, _, _, _, hc⟩ := hw'
      exact hc.b
    · obtain ⟨hv1, bv1, vb1, vt1, hc⟩ := hw'
      refine (give_no N _ _ _ _ _ _ _ n w' hc.r (by omega) (by rw [h.p.mem]; exact hn)).mono ?_
      rintro e w'' ⟨rfl, rfl⟩
      exact ⟨rfl, Lib.hid ⟨_, _, _, _, _, _, _, _, hc, h.p, by omega, by omega, by omega⟩⟩
  · obtain ⟨j, rfl, hj, hjl⟩ := heldB_true hn
    have hln : ((hs.set j false).length : Int) = (hs.length : Int) := by simp
    refine ⟨true, fun w' => ∃ hv bv vb vt, CM w0 A N w' (M : Int) (hs.length : Int) pk hv bv (hs.set j false) (bk ++ [(j : Int) + 1]) (hs.length : Int) pk vb vt bk tk, Lib.hid fun W hW => ?_, Lib.hid fun w' hw' => ?_, Lib.hid fun w' hw' => ?_⟩
    · refine (Go.Proofs.Ytajmmglfdinahaa.ar.give_yes W j (h.c.below hW).far (by omega) (by omega) hj).mono ?_
      rintro e w' ⟨hv', bv', rfl, hA', hb', hS⟩
      rw [hln] at hA'
      exact ⟨rfl, _, _, _, _, (h.c.below hW).arena hA' hb' hS⟩
    · obtain ⟨_, _, _, _, hc⟩ := hw'
      exact hc.b
    · obtain ⟨hv1, bv1, vb1, vt1, hc⟩ := hw'
      refine (give_yes N _ _ _ _ _ _ _ ((j : Int) + 1) w' hc.r (by omega) (by omega) (by rw [h.p.mem]; exact hn)).mono ?_
      intro e w'' hp
      obtain ⟨he, vb2, vt2, hc2⟩ := hc.ref hp
      have hfl : (tk.filter (fun y => y != (j : Int) + 1)).length ≤ tk.length := List.length_filter_le _ _
      exact ⟨he, Lib.hid ⟨_, _, _, _, _, _, _, pk, by rw [hln]; exact hc2, h.p.give hj, by simp; omega, by simp; omega, by omega⟩⟩
end Go.Proofs.Ytajmmglfdinahaa.rf
