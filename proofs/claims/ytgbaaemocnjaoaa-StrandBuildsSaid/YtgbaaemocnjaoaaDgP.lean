/- The document's builder: where it stands among the marks (layer 30), without memory. -/
import Derived.Test.YtgbaaemocnjaoaaDgC
namespace Go.Proofs.Ytgbaaemocnjaoaa.dg
open Go.ChangeShapes Go.WideShapes Go.ChangeAt Go.RowKit
open Go.Proofs.Ytgbaaemocnjaoaa.ro Go.Proofs.Ytgbaaemocnjaoaa.sn
set_option linter.unusedVariables false
set_option linter.unusedSimpArgs false
theorem steps_inv : ∀ {l : List Mk} {s s' : PS} {m : Nat}, Inv m s → sn.Steps s l s' → Inv (m + l.length) s'
  | [], s, s', m, h, hs => by
    have e : s = s' := hs
    subst e
    exact h
  | y :: l, s, s', m, h, hs => by
    obtain ⟨f, s1, h1, h2, h3, h4⟩ := hs
    have := steps_inv (h.step h1 h2 h3) h4
    rw [List.length_cons, ← Nat.add_assoc, Nat.add_right_comm]
    exact this
def hd0 (l : List (Int × Int)) : Prop := ∀ p, l[0]? = some p → p.1 = 0
structure Hd (f : Fm) : Prop where
  pa : hd0 f.pa
  ah : hd0 f.ah
  sg : 0 ≤ f.sg
  z : f.pa = [] → f.sg = 0
theorem hd0_nil : hd0 [] := fun p hp => by simp at hp
theorem Hd.of {f g : Fm} (h : Hd f) (h1 : g.pa = f.pa) (h2 : g.ah = f.ah) (h3 : g.sg = f.sg) : Hd g := ⟨h1 ▸ h.pa, h2 ▸ h.ah, h3 ▸ h.sg, by rw [h1, h3]; exact h.z⟩
theorem hd0_snoc {f : Fm} (h : Hd f) (n : Int) : hd0 (f.pa ++ [(f.sg, n)]) := fun p hp => by
  cases hl : f.pa with
  | nil => rw [hl] at hp; simp at hp; subst hp; exact h.z hl
  | cons q l => rw [hl] at hp; simp at hp; subst hp; exact h.pa q (by rw [hl]; rfl)
theorem hd_step {s s' : PS} {k a : Int} {f : Fm} (h : ∀ g ∈ s.S, Hd g) (hf : ∃ T, s.S = T ++ [f]) (he : errC k a f s.P.length = 0) (ht : Tk k a s s') : ∀ g ∈ s'.S, Hd g := by
  obtain ⟨U, hU⟩ := hf
  obtain ⟨k1, k2, hc, hb⟩ := errC_ok he
  cases ht with
  | acc T y hs hk => rw [hs] at h; exact h
  | fork T y hs hk =>
    rw [hs] at h
    obtain ⟨r1, r2⟩ := mem1 h
    exact all2 r1 r2 ⟨hd0_nil, hd0_nil, by simp [kidF], fun _ => rfl⟩
  | ret T z y hs hk =>
    rw [hs] at h
    obtain ⟨r1, r2, r3⟩ := mem2 h
    exact all1 r1 (r2.of rfl rfl rfl)
  | meet T y hs hk =>
    rw [hs] at h
    obtain ⟨r1, r2⟩ := mem1 h
    exact all1 r1 (r2.of rfl rfl rfl)
  | loop T y hs hk =>
    rw [hs] at h
    obtain ⟨r1, r2⟩ := mem1 h
    exact all2 r1 r2 ⟨hd0_nil, hd0_nil, by simp [loopF], fun _ => rfl⟩
  | leave T q l hs hk =>
    rw [hs] at h
    obtain ⟨r1, r2, r3⟩ := mem2 h
    exact all1 r1 (r2.of rfl rfl rfl)
  | iter T q l hs hk =>
    rw [hs] at h
    obtain ⟨r1, r2, r3⟩ := mem2 h
    exact all3 r1 r2 (r3.of rfl rfl rfl) ⟨hd0_nil, r3.ah, by simp, fun _ => rfl⟩
  | done T l y hs hk =>
    rw [hs] at h
    obtain ⟨r1, r2, r3⟩ := mem2 h
    exact all1 r1 ⟨r2.pa, hd0_snoc r3 _, r2.sg, r2.z⟩
  | go T y hs hk =>
    obtain ⟨rfl, rfl⟩ := snoc_inj (hs.symm.trans hU)
    rw [hs] at h
    obtain ⟨r1, r2⟩ := mem1 h
    have hy : y.sg < a := by unfold canB at hc; rcases hk with rfl | rfl <;> simp at hc <;> exact hc.2
    exact all1 r1 ⟨hd0_snoc r2 _, r2.ah, by have := r2.sg; show (0 : Int) ≤ a; omega, fun e => by simp at e⟩
theorem steps_hd : ∀ {l : List Mk} {s s' : PS}, (∀ g ∈ s.S, Hd g) → sn.Steps s l s' → ∀ g ∈ s'.S, Hd g
  | [], s, s', h, hs => by
    have e : s = s' := hs
    subst e
    exact h
  | y :: l, s, s', h, hs => by
    obtain ⟨f, s1, h1, h2, h3, h4⟩ := hs
    exact steps_hd (hd_step h h1 h2 h3) h4
/-- The marks have ended, or something is wrong with one. -/
def Done (L : List Mk) (x : Dx) : Prop := (x.er = 0 ∧ ∃ s, sn.Steps s0 L s ∧ s.P = x.P ∧ s.N = x.N ∧ s.A = x.A) ∨ (x.er ≠ 0 ∧ Fails L x.er)
/-- It stands ahead of a mark, with such frames. -/
structure At (L : List Mk) (x : Dx) (S : List Fm) : Prop where
  ov : x.ov = false
  er : x.er = 0
  le : x.at_ ≤ L.length
  st : sn.Steps s0 (L.take x.at_) ⟨S, x.P, x.N, x.A⟩
section
variable {L : List Mk} {x x' : Dx} {S T : List Fm} {f q l : Fm} {y : Mk} {c a : Int}
theorem At.inv (h : At L x S) : Inv x.at_ ⟨S, x.P, x.N, x.A⟩ := by
  have := steps_inv inv0 h.st
  rw [List.length_take, Nat.min_eq_left h.le, Nat.zero_add] at this
  exact this
theorem At.hd (h : At L x S) : ∀ g ∈ S, Hd g := steps_hd (fun g hg => by simp [s0] at hg; subst hg; exact ⟨hd0_nil, hd0_nil, by simp [rootF], fun _ => rfl⟩) h.st
theorem At.fin (h : At L x S) (he : x.at_ = L.length) (h0 : x'.er = x.er) (hP : x'.P = x.P) (hN : x'.N = x.N) (hA : x'.A = x.A) : Done L x' := by
  have hst := h.st
  rw [he, List.take_of_length_le (Nat.le_refl _)] at hst
  exact .inl ⟨h0.trans h.er, _, hst, hP.symm, hN.symm, hA.symm⟩
theorem At.fail (h : At L x (T ++ [f])) (hy : L[x.at_]? = some y) (hc : errC y.1 y.2.1 f x.P.length = c) (h0 : c ≠ 0) (he : x'.er = c) : Done L x' :=
  .inr ⟨by rw [he]; exact h0, x.at_, f, _, (List.getElem?_eq_some_iff.1 hy).1, h.st, ⟨T, rfl⟩, by rw [List.getD_eq_getElem?_getD, hy, he]; exact hc⟩
theorem At.kind (h : At L x (T ++ [f])) (hy : L[x.at_]? = some y) (hk : y.1 < 1 ∨ 12 < y.1) (he : x'.er = 5) : Done L x' :=
  h.fail hy (by unfold errC; rw [if_pos hk]) (by decide) he
theorem At.form (h : At L x (T ++ [f])) (hy : L[x.at_]? = some y) (h1 : 1 ≤ y.1) (h2 : y.1 ≤ 12) (hk : canB y.1 y.2.1 f = false) (he : x'.er = 4) : Done L x' :=
  h.fail hy (by unfold errC; rw [if_neg (by omega), if_pos hk]) (by decide) he
theorem At.long (h : At L x (T ++ [f])) (hy : L[x.at_]? = some y) (h1 : 1 ≤ y.1) (h2 : y.1 ≤ 12) (hk : canB y.1 y.2.1 f = true) (hb : begB y.1 = true) (hp : x.P.length = 1000) (he : x'.er = 9) : Done L x' :=
  h.fail hy (by unfold errC; rw [if_neg (by omega), if_neg (by rw [hk]; simp), if_pos ⟨hb, by omega⟩]) (by decide) he
theorem At.step (h : At L x (T ++ [f])) (hy : L[x.at_]? = some y) (h1 : 1 ≤ y.1) (h2 : y.1 ≤ 12) (hk : canB y.1 y.2.1 f = true) (hb : begB y.1 = true → ¬ x.P.length = 1000) {s' : PS} (ht : Tk y.1 y.2.1 ⟨T ++ [f], x.P, x.N, x.A⟩ s') (ho : x'.ov = false) (he : x'.er = 0) (ha : x'.at_ = x.at_ + 1) (hP : x'.P = s'.P) (hN : x'.N = s'.N) (hA : x'.A = s'.A) : At L x' s'.S := by
  have hlt := (List.getElem?_eq_some_iff.1 hy).1
  refine ⟨ho, he, by rw [ha]; exact hlt, ?_⟩
  have hpm := h.inv.pm
  have e : L.take (x.at_ + 1) = L.take x.at_ ++ [y] := by
    rw [List.take_succ_eq_append_getElem hlt]
    rw [List.getElem?_eq_getElem hlt] at hy
    simp at hy
    rw [hy]
  rw [ha, e, hP, hN, hA]
  refine Steps.snoc h.st ⟨T, rfl⟩ ?_ ht
  unfold errC
  rw [if_neg (by omega), if_neg (by rw [hk]; simp), if_neg]
  rintro ⟨q1, q2⟩
  have : x.P.length ≤ 1000 := hpm
  exact hb q1 (by show x.P.length = 1000; have : 1000 ≤ x.P.length := q2; omega)
theorem At.loop (h : At L x (T ++ [q, l])) (hl : l.kd = 2) : l.bg = (l.le.length : Int) ∧ (0 < l.bg → l.ah ≠ []) ∧ ¬ q.kd = 2 := by
  have hok := h.inv.ok
  have e : (T ++ [q, l]).reverse = l :: q :: T.reverse := by simp
  simp only [e] at hok
  generalize T.reverse = R at hok
  cases hok with
  | child _ _ _ h hq hf => omega
  | loop _ _ _ h hq hf hb ha => exact ⟨hb, ha, hq⟩
  | iter _ _ q R h hq hl2 hb hf ha => omega
theorem At.iter (h : At L x (T ++ [f])) (hf : f.kd = 3) : 0 < f.it → f.ah ≠ [] := by
  have hok := h.inv.ok
  have e : (T ++ [f]).reverse = f :: T.reverse := by simp
  simp only [e] at hok
  generalize T.reverse = R at hok
  cases hok with
  | root _ h => omega
  | child _ _ _ h hq hf => omega
  | loop _ _ _ h hq hf hb ha => omega
  | iter _ _ q R h hq hl hb hf ha => exact ha
theorem At.bef (h : At L x (T ++ [f])) (hf : f.kd = 3) (hi : 0 < f.it) (hs : f.sg < a) : befP f.ah a = befL a f.ah 0 := by
  have hne := h.iter hf hi
  have hd := h.hd f (by simp)
  cases hl : f.ah with
  | nil => exact absurd hl hne
  | cons p l =>
    have := hd.ah p (by rw [hl]; rfl)
    have hsg := hd.sg
    unfold befP befL
    simp only [List.foldl_cons, List.getD_cons_zero]
    rw [if_pos (by omega), if_pos (by omega)]
end
end Go.Proofs.Ytgbaaemocnjaoaa.dg
