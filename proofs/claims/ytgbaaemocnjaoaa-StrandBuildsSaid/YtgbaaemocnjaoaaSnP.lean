/- Strands, step by step, as plain lists: what holds at each step (layer 30). -/
import Derived.Test.YtgbaaemocnjaoaaSnH
namespace Go.Proofs.Ytgbaaemocnjaoaa.sn
set_option linter.unusedVariables false
set_option linter.unusedSimpArgs false
def errC (k a : Int) (f : Fm) (n : Nat) : Int := if k < 1 ∨ 12 < k then 5 else if canB k a f = false then 4 else if begB k = true ∧ 1000 ≤ n then 9 else 0
def kidF (n : Nat) : Fm := ⟨1, (n : Int), [], 0, 0, 0, [], [], 0, []⟩
def loopF (a : Int) : Fm := ⟨2, 0, [], a, 0, 0, [], [], 0, []⟩
def rootF : Fm := ⟨0, 0, [], 0, 0, 0, [], [], 0, []⟩
def accP (T : List Fm) (y : Fm) (k a : Int) (s : PS) : PS := ⟨T ++ [y], s.P, s.N, s.A ++ [(y.now, if k = 3 then -1 else a, decide (k ≠ 1))]⟩
def forkP (T : List Fm) (y : Fm) (s : PS) : PS := ⟨T ++ [y, kidF s.P.length], s.P ++ [[y.now]], s.N ++ [(0, 0, 0)], s.A⟩
def meetP (T : List Fm) (y : Fm) (s : PS) : PS := ⟨T ++ [{ y with now := (s.P.length : Int), um := [] }], s.P ++ [y.now :: y.um], s.N ++ [nodeOf y], s.A⟩
def loopP (T : List Fm) (y : Fm) (a : Int) (s : PS) : PS := ⟨T ++ [y, loopF a], s.P, s.N, s.A⟩
def leaveP (T : List Fm) (q l : Fm) (s : PS) : PS := ⟨T ++ [{ q with now := (s.P.length : Int) }], s.P ++ [l.le], s.N ++ [nodeOf q], s.A⟩
inductive Tk (k a : Int) (s : PS) : PS → Prop
  | acc (T : List Fm) (y : Fm) (hs : s.S = T ++ [y]) (hk : k = 1 ∨ k = 2 ∨ k = 3) : Tk k a s (accP T y k a s)
  | fork (T : List Fm) (y : Fm) (hs : s.S = T ++ [y]) (hk : k = 4) : Tk k a s (forkP T y s)
  | ret (T : List Fm) (z y : Fm) (hs : s.S = T ++ [z, y]) (hk : k = 5) : Tk k a s (retP T z y s)
  | meet (T : List Fm) (y : Fm) (hs : s.S = T ++ [y]) (hk : k = 6) : Tk k a s (meetP T y s)
  | loop (T : List Fm) (y : Fm) (hs : s.S = T ++ [y]) (hk : k = 7) : Tk k a s (loopP T y a s)
  | leave (T : List Fm) (q l : Fm) (hs : s.S = T ++ [q, l]) (hk : k = 8) : Tk k a s (leaveP T q l s)
  | iter (T : List Fm) (q l : Fm) (hs : s.S = T ++ [q, l]) (hk : k = 9) : Tk k a s (iterP T q l s)
  | done (T : List Fm) (l y : Fm) (hs : s.S = T ++ [l, y]) (hk : k = 10) : Tk k a s (doneP T l y s)
  | go (T : List Fm) (y : Fm) (hs : s.S = T ++ [y]) (hk : k = 11 ∨ k = 12) : Tk k a s (goP T y k a s)
/-- Stacks that may be, the top first. -/
inductive Ok : List Fm → Prop
  | root (f : Fm) (h : f.kd = 0) : Ok [f]
  | child (f q : Fm) (R : List Fm) (h : Ok (q :: R)) (hq : ¬ q.kd = 2) (hf : f.kd = 1) : Ok (f :: q :: R)
  | loop (f q : Fm) (R : List Fm) (h : Ok (q :: R)) (hq : ¬ q.kd = 2) (hf : f.kd = 2) (hb : f.bg = (f.le.length : Int)) (ha : 0 < f.bg → f.ah ≠ []) : Ok (f :: q :: R)
  | iter (f l q : Fm) (R : List Fm) (h : Ok (q :: R)) (hq : ¬ q.kd = 2) (hl : l.kd = 2) (hb : l.bg = (l.le.length : Int) + 1) (hf : f.kd = 3) (ha : 0 < f.it → f.ah ≠ []) : Ok (f :: l :: q :: R)
theorem Ok.ne {R : List Fm} (h : Ok R) : ∃ f Q, R = f :: Q := by cases h <;> exact ⟨_, _, rfl⟩
theorem Ok.top {f f' : Fm} {R : List Fm} (h : Ok (f :: R)) (hn : ¬ f.kd = 2) (h1 : f'.kd = f.kd) (h2 : f'.it = f.it) (h3 : f'.ah = f.ah) : Ok (f' :: R) := by
  cases h with
  | root _ h => exact .root _ (h1.trans h)
  | child _ q R h hq hf => exact .child _ _ _ h hq (h1.trans hf)
  | loop _ q R h hq hf => exact absurd hf hn
  | iter _ l q R h hq hl hb hf ha => exact .iter _ _ _ _ h hq hl hb (h1.trans hf) (by rw [h2, h3]; exact ha)
structure Rg (n m : Nat) (f : Fm) : Prop where
  now : 0 ≤ f.now ∧ f.now < n
  um : ∀ u ∈ f.um, 0 ≤ u ∧ u < n
  pa : ∀ p ∈ f.pa, 0 ≤ p.2 ∧ p.2 < n
  ah : ∀ p ∈ f.ah, 0 ≤ p.2 ∧ p.2 < n
  le : ∀ u ∈ f.le, 0 ≤ u ∧ u < n
  l1 : f.um.length ≤ m
  l2 : f.pa.length ≤ m
  l3 : f.ah.length ≤ m
  l4 : f.le.length ≤ m
  bg : 0 ≤ f.bg ∧ f.bg ≤ m
theorem Rg.mono {n n' m m' : Nat} {f : Fm} (h : Rg n m f) (hn : n ≤ n') (hm : m ≤ m') : Rg n' m' f := by
  obtain ⟨a, b, c, d, e, f1, f2, f3, f4, g⟩ := h
  refine ⟨by omega, fun u hu => ?_, fun u hu => ?_, fun u hu => ?_, fun u hu => ?_, by omega, by omega, by omega, by omega, by omega⟩
  · have := b u hu; omega
  · have := c u hu; omega
  · have := d u hu; omega
  · have := e u hu; omega
structure Inv (m : Nat) (s : PS) : Prop where
  ok : Ok s.S.reverse
  rg : ∀ f ∈ s.S, Rg s.P.length m f
  sl : s.S.length ≤ m + 1
  al : s.A.length ≤ m
  pn : s.N.length = s.P.length
  p1 : 1 ≤ s.P.length
  pm : s.P.length ≤ 1000
  pr : ∀ i, i < s.P.length → (s.P.getD i [] = [] ↔ i = 0) ∧ ∀ u ∈ s.P.getD i [], 0 ≤ u ∧ u < i
  ac : ∀ p ∈ s.A, 0 ≤ p.1 ∧ p.1 < s.P.length
/-- one strand more. -/
theorem pr_snoc {P : List (List Int)} {l : List Int} (h : ∀ i, i < P.length → (P.getD i [] = [] ↔ i = 0) ∧ ∀ u ∈ P.getD i [], 0 ≤ u ∧ u < i) (h1 : 1 ≤ P.length) (hl : l ≠ []) (hr : ∀ u ∈ l, 0 ≤ u ∧ u < (P.length : Int)) :
    ∀ i, i < (P ++ [l]).length → ((P ++ [l]).getD i [] = [] ↔ i = 0) ∧ ∀ u ∈ (P ++ [l]).getD i [], 0 ≤ u ∧ u < i := by
  intro i hi
  simp only [List.length_append, List.length_singleton] at hi
  by_cases e : i < P.length
  · rw [List.getD_eq_getElem?_getD, List.getElem?_append_left e, ← List.getD_eq_getElem?_getD]; exact h i e
  · obtain rfl : i = P.length := by omega
    rw [List.getD_eq_getElem?_getD, List.getElem?_append_right (Nat.le_refl _)]
    simp only [Nat.sub_self, List.getElem?_cons_zero, Option.getD_some]
    exact ⟨⟨fun e => absurd e hl, fun e => by omega⟩, hr⟩
theorem befL_in (st : Int) (n : Nat) : ∀ (l : List (Int × Int)) (z : Int), (∀ p ∈ l, 0 ≤ p.2 ∧ p.2 < (n : Int)) → (0 ≤ z ∧ z < (n : Int)) → 0 ≤ befL st l z ∧ befL st l z < n
  | [], z, _, hz => hz
  | p :: l, z, h, hz => by
    unfold befL
    rw [List.foldl_cons]
    refine befL_in st n l _ (fun q hq => h q (List.mem_cons_of_mem _ hq)) ?_
    split
    · exact h p (List.mem_cons_self ..)
    · exact hz
theorem first_in {l : List (Int × Int)} {n : Nat} (h : ∀ p ∈ l, 0 ≤ p.2 ∧ p.2 < (n : Int)) (hne : l ≠ []) : 0 ≤ (l.getD 0 (0, 0)).2 ∧ (l.getD 0 (0, 0)).2 < n := by
  cases l with
  | nil => exact absurd rfl hne
  | cons p l => exact h p (List.mem_cons_self ..)
theorem canB_o {k a : Int} {f : Fm} (h : canB k a f = true) (h1 : k ≠ 9) (h2 : k ≠ 8) (h3 : k ≠ 5) (h4 : k ≠ 10) (h5 : k ≠ 11) (h6 : k ≠ 12) : ¬ f.kd = 2 := by
  unfold canB at h
  rw [if_neg h1, if_neg h2, if_neg h3, if_neg h4, if_neg (by omega)] at h
  simpa using h
theorem mem2 {T : List Fm} {f g : Fm} : ∀ {P : Fm → Prop}, (∀ x ∈ T ++ [f, g], P x) → (∀ x ∈ T, P x) ∧ P f ∧ P g := fun h => ⟨fun x hx => h x (by simp [hx]), h f (by simp), h g (by simp)⟩
theorem mem1 {T : List Fm} {f : Fm} : ∀ {P : Fm → Prop}, (∀ x ∈ T ++ [f], P x) → (∀ x ∈ T, P x) ∧ P f := fun h => ⟨fun x hx => h x (by simp [hx]), h f (by simp)⟩
theorem all1 {T : List Fm} {f : Fm} {P : Fm → Prop} (h : ∀ x ∈ T, P x) (hf : P f) : ∀ x ∈ T ++ [f], P x := by
  intro x hx; rcases List.mem_append.1 hx with h1 | h1
  · exact h x h1
  · simp at h1; subst h1; exact hf
theorem all2 {T : List Fm} {f g : Fm} {P : Fm → Prop} (h : ∀ x ∈ T, P x) (hf : P f) (hg : P g) : ∀ x ∈ T ++ [f, g], P x := by
  intro x hx; rcases List.mem_append.1 hx with h1 | h1
  · exact h x h1
  · simp at h1; rcases h1 with rfl | rfl
    · exact hf
    · exact hg
theorem all3 {T : List Fm} {e f g : Fm} {P : Fm → Prop} (h : ∀ x ∈ T, P x) (he : P e) (hf : P f) (hg : P g) : ∀ x ∈ T ++ [e, f, g], P x := by
  intro x hx; rcases List.mem_append.1 hx with h1 | h1
  · exact h x h1
  · simp at h1; rcases h1 with rfl | rfl | rfl
    · exact he
    · exact hf
    · exact hg
theorem errC_ok {k a : Int} {f : Fm} {n : Nat} (h : errC k a f n = 0) : 1 ≤ k ∧ k ≤ 12 ∧ canB k a f = true ∧ (begB k = true → n < 1000) := by
  unfold errC at h
  by_cases h1 : k < 1 ∨ 12 < k
  · rw [if_pos h1] at h; cases h
  rw [if_neg h1] at h
  by_cases h2 : canB k a f = false
  · rw [if_pos h2] at h; cases h
  rw [if_neg h2] at h
  by_cases h3 : begB k = true ∧ 1000 ≤ n
  · rw [if_pos h3] at h; cases h
  refine ⟨by omega, by omega, by simpa using h2, fun hb => ?_⟩
  have : ¬ 1000 ≤ n := fun e => h3 ⟨hb, e⟩
  omega
theorem snoc_inj {T U : List Fm} {y f : Fm} (h : T ++ [y] = U ++ [f]) : T = U ∧ y = f := by
  have := congrArg List.reverse h
  simp at this
  exact ⟨this.2, this.1⟩
theorem Inv.step {m : Nat} {s s' : PS} {k a : Int} {f : Fm} (h : Inv m s) (hf : ∃ T, s.S = T ++ [f]) (he : errC k a f s.P.length = 0) (ht : Tk k a s s') : Inv (m + 1) s' := by
  obtain ⟨k1, k2, hc, hb⟩ := errC_ok he
  obtain ⟨U, hU⟩ := hf
  obtain ⟨ok, rg, sl, al, pn, p1, pm, pr, ac⟩ := h
  have up : ∀ x ∈ s.A, 0 ≤ x.1 ∧ x.1 < ((s.P.length + 1 : Nat) : Int) := fun x hx => by have := ac x hx; omega
  cases ht with
  | acc T y hs hk =>
    obtain ⟨rfl, rfl⟩ := snoc_inj (hs.symm.trans hU)
    rw [hs] at ok rg sl
    refine ⟨ok, fun x hx => (rg x hx).mono (Nat.le_refl _) (by omega), by show (_ ++ [y]).length ≤ _; omega, by simp [accP]; omega, pn, p1, pm, pr, fun p hp => ?_⟩
    simp only [accP, List.mem_append, List.mem_singleton] at hp
    rcases hp with hp | rfl
    · exact ac p hp
    · exact (rg y (by simp)).now
  | fork T y hs hk =>
    obtain ⟨rfl, rfl⟩ := snoc_inj (hs.symm.trans hU)
    rw [hs] at ok rg sl
    have hy := canB_o hc (by omega) (by omega) (by omega) (by omega) (by omega) (by omega)
    have h1000 := hb (by subst hk; rfl)
    obtain ⟨r1, r2⟩ := mem1 rg
    refine ⟨?_, all2 (fun x hx => (r1 x hx).mono (by simp [forkP]) (by omega)) (r2.mono (by simp [forkP]) (by omega)) ⟨by simp [kidF, forkP]; omega, by simp [kidF], by simp [kidF], by simp [kidF], by simp [kidF], by simp [kidF], by simp [kidF], by simp [kidF], by simp [kidF], by simp [kidF]; omega⟩, by simp [forkP] at *; omega, by simp [forkP]; omega, by simp [forkP, pn], by simp [forkP], by simp [forkP]; omega, pr_snoc pr p1 (by simp) (fun u hu => by simp at hu; subst hu; exact r2.now), fun p hp => by have := up p hp; simpa [forkP] using this⟩
    have : (forkP T y s).S.reverse = kidF s.P.length :: y :: List.reverse T := by simp [forkP]
    rw [this]
    exact .child _ _ _ (by simpa using ok) hy rfl
  | ret T z y hs hk =>
    have e1 : T ++ [z, y] = (T ++ [z]) ++ [y] := by simp
    obtain ⟨e2, rfl⟩ := snoc_inj ((hs.trans e1).symm.trans hU)
    rw [hs] at ok rg sl
    have h1000 := hb (by subst hk; rfl)
    obtain ⟨r1, r2, r3⟩ := mem2 rg
    have hy : y.kd = 1 := by subst hk; unfold canB at hc; simpa using hc
    have ok' : Ok (y :: z :: T.reverse) := by simpa using ok
    have hz : Ok (z :: T.reverse) ∧ ¬ z.kd = 2 := by
      generalize T.reverse = R at ok' ⊢
      cases ok' with
      | child _ _ _ h hq hf => exact ⟨h, hq⟩
      | loop _ _ _ h hq hf => omega
      | iter _ _ q R h hq hl hb hf ha => omega
    refine ⟨?_, all1 (fun x hx => (r1 x hx).mono (by simp [retP]) (by omega)) ⟨by simp [retP]; omega, fun u hu => ?_, fun u hu => by have := r2.pa u hu; simp [retP]; omega, fun u hu => by have := r2.ah u hu; simp [retP]; omega, fun u hu => by have := r2.le u hu; simp [retP]; omega, by have := r2.l1; simp; omega, by have := r2.l2; simp; omega, by have := r2.l3; simp; omega, by have := r2.l4; simp; omega, by have := r2.bg; simp; omega⟩, by simp [retP] at *; omega, by simp [retP]; omega, by simp [retP, pn], by simp [retP], by simp [retP]; omega, pr_snoc pr p1 (by simp) (fun u hu => by simp at hu; subst hu; exact r2.now), fun p hp => by have := up p hp; simpa [retP] using this⟩
    · have : (retP T z y s).S.reverse = { z with um := z.um ++ [y.now], now := (s.P.length : Int) } :: T.reverse := by simp [retP]
      rw [this]
      exact hz.1.top hz.2 rfl rfl rfl
    · simp only [List.mem_append, List.mem_singleton] at hu
      simp only [retP, List.length_append, List.length_singleton]
      rcases hu with hu | rfl
      · have := r2.um u hu; omega
      · have := r3.now; omega
  | meet T y hs hk =>
    obtain ⟨rfl, rfl⟩ := snoc_inj (hs.symm.trans hU)
    rw [hs] at ok rg sl
    have hy := canB_o hc (by omega) (by omega) (by omega) (by omega) (by omega) (by omega)
    have h1000 := hb (by subst hk; rfl)
    obtain ⟨r1, r2⟩ := mem1 rg
    refine ⟨?_, all1 (fun x hx => (r1 x hx).mono (by simp [meetP]) (by omega)) ⟨by simp [meetP]; omega, by simp, fun u hu => by have := r2.pa u hu; simp [meetP]; omega, fun u hu => by have := r2.ah u hu; simp [meetP]; omega, fun u hu => by have := r2.le u hu; simp [meetP]; omega, by simp, by have := r2.l2; simp; omega, by have := r2.l3; simp; omega, by have := r2.l4; simp; omega, by have := r2.bg; simp; omega⟩, by simp [meetP] at *; omega, by simp [meetP]; omega, by simp [meetP, pn], by simp [meetP], by simp [meetP]; omega, pr_snoc pr p1 (by simp) (fun u hu => by rcases List.mem_cons.1 hu with rfl | hu; exact r2.now; exact r2.um u hu), fun p hp => by have := up p hp; simpa [meetP] using this⟩
    have : (meetP T y s).S.reverse = { y with now := (s.P.length : Int), um := [] } :: List.reverse T := by simp [meetP]
    rw [this]
    exact (show Ok (y :: List.reverse T) by simpa using ok).top hy rfl rfl rfl
  | loop T y hs hk =>
    obtain ⟨rfl, rfl⟩ := snoc_inj (hs.symm.trans hU)
    rw [hs] at ok rg sl
    have hy := canB_o hc (by omega) (by omega) (by omega) (by omega) (by omega) (by omega)
    obtain ⟨r1, r2⟩ := mem1 rg
    refine ⟨?_, all2 (fun x hx => (r1 x hx).mono (by simp [loopP]) (by omega)) (r2.mono (by simp [loopP]) (by omega)) ⟨by simp [loopF, loopP]; omega, by simp [loopF], by simp [loopF], by simp [loopF], by simp [loopF], by simp [loopF], by simp [loopF], by simp [loopF], by simp [loopF], by simp [loopF]; omega⟩, by simp [loopP] at *; omega, by simp [loopP]; omega, pn, p1, pm, pr, ac⟩
    have : (loopP T y a s).S.reverse = loopF a :: y :: List.reverse T := by simp [loopP]
    rw [this]
    exact .loop _ _ _ (by simpa using ok) hy rfl rfl (fun h => by simp [loopF] at h)
  | leave T q l hs hk =>
    have e1 : T ++ [q, l] = (T ++ [q]) ++ [l] := by simp
    obtain ⟨e2, rfl⟩ := snoc_inj ((hs.trans e1).symm.trans hU)
    rw [hs] at ok rg sl
    have h1000 := hb (by subst hk; rfl)
    obtain ⟨r1, r2, r3⟩ := mem2 rg
    have hy : l.kd = 2 ∧ 0 < l.bg := by subst hk; unfold canB at hc; simp at hc; exact ⟨hc.1.1, hc.2⟩
    have ok' : Ok (l :: q :: T.reverse) := by simpa using ok
    have hz : Ok (q :: T.reverse) ∧ ¬ q.kd = 2 ∧ l.bg = (l.le.length : Int) := by
      generalize T.reverse = R at ok' ⊢
      cases ok' with
      | child _ _ _ h hq hf => omega
      | loop _ _ _ h hq hf hb ha => exact ⟨h, hq, hb⟩
      | iter _ _ q R h hq hl hb hf ha => omega
    have hle : l.le ≠ [] := by
      intro e
      have := hz.2.2
      rw [e] at this
      simp at this
      omega
    refine ⟨?_, all1 (fun x hx => (r1 x hx).mono (by simp [leaveP]) (by omega)) ⟨by simp [leaveP]; omega, fun u hu => by have := r2.um u hu; simp [leaveP]; omega, fun u hu => by have := r2.pa u hu; simp [leaveP]; omega, fun u hu => by have := r2.ah u hu; simp [leaveP]; omega, fun u hu => by have := r2.le u hu; simp [leaveP]; omega, by have := r2.l1; simp; omega, by have := r2.l2; simp; omega, by have := r2.l3; simp; omega, by have := r2.l4; simp; omega, by have := r2.bg; simp; omega⟩, by simp [leaveP] at *; omega, by simp [leaveP]; omega, by simp [leaveP, pn], by simp [leaveP], by simp [leaveP]; omega, pr_snoc pr p1 hle r3.le, fun p hp => by have := up p hp; simpa [leaveP] using this⟩
    have : (leaveP T q l s).S.reverse = { q with now := (s.P.length : Int) } :: T.reverse := by simp [leaveP]
    rw [this]
    exact hz.1.top hz.2.1 rfl rfl rfl
  | iter T q l hs hk =>
    have e1 : T ++ [q, l] = (T ++ [q]) ++ [l] := by simp
    obtain ⟨e2, rfl⟩ := snoc_inj ((hs.trans e1).symm.trans hU)
    rw [hs] at ok rg sl
    have h1000 := hb (by subst hk; rfl)
    obtain ⟨r1, r2, r3⟩ := mem2 rg
    have hy : l.kd = 2 ∧ a = l.bg := by subst hk; unfold canB at hc; simpa using hc
    have ok' : Ok (l :: q :: T.reverse) := by simpa using ok
    have hz : Ok (q :: T.reverse) ∧ ¬ q.kd = 2 ∧ l.bg = (l.le.length : Int) ∧ (0 < l.bg → l.ah ≠ []) := by
      generalize T.reverse = R at ok' ⊢
      cases ok' with
      | child _ _ _ h hq hf => omega
      | loop _ _ _ h hq hf hb ha => exact ⟨h, hq, hb, ha⟩
      | iter _ _ q R h hq hl hb hf ha => omega
    have hbf : 0 ≤ befI q l ∧ befI q l < (s.P.length : Int) := by
      unfold befI
      split
      · exact first_in r3.ah (hz.2.2.2 (by assumption))
      · exact r2.now
    refine ⟨?_, all3 (fun x hx => (r1 x hx).mono (by simp [iterP]) (by omega)) (r2.mono (by simp [iterP]) (by omega)) ⟨by have := r3.now; simp [iterP]; omega, fun u hu => by have := r3.um u hu; simp [iterP]; omega, fun u hu => by have := r3.pa u hu; simp [iterP]; omega, fun u hu => by have := r3.ah u hu; simp [iterP]; omega, fun u hu => by have := r3.le u hu; simp [iterP]; omega, by have := r3.l1; simp; omega, by have := r3.l2; simp; omega, by have := r3.l3; simp; omega, by have := r3.l4; simp; omega, by have := r3.bg; simp; omega⟩ ⟨by simp [iterP]; omega, by simp, by simp, fun u hu => by have := r3.ah u hu; simp [iterP]; omega, by simp, by simp, by simp, by have := r3.l3; simp; omega, by simp, by simp; omega⟩, by simp [iterP] at *; omega, by simp [iterP]; omega, by simp [iterP, pn], by simp [iterP], by simp [iterP]; omega, pr_snoc pr p1 (by simp) (fun u hu => by simp at hu; subst hu; exact hbf), fun p hp => by have := up p hp; simpa [iterP] using this⟩
    have : (iterP T q l s).S.reverse = ⟨3, (s.P.length : Int), [], l.lp, l.bg, 0, [], l.ah, 0, []⟩ :: { l with bg := l.bg + 1 } :: q :: T.reverse := by simp [iterP]
    rw [this]
    exact .iter _ _ _ _ hz.1 hz.2.1 hy.1 (by show l.bg + 1 = _; rw [hz.2.2.1]) rfl hz.2.2.2
  | done T l y hs hk =>
    have e1 : T ++ [l, y] = (T ++ [l]) ++ [y] := by simp
    obtain ⟨e2, rfl⟩ := snoc_inj ((hs.trans e1).symm.trans hU)
    rw [hs] at ok rg sl
    obtain ⟨r1, r2, r3⟩ := mem2 rg
    have hy : y.kd = 3 ∧ a = y.it := by subst hk; unfold canB at hc; simpa using hc
    have ok' : Ok (y :: l :: T.reverse) := by simpa using ok
    refine ⟨?_, all1 (fun x hx => (r1 x hx).mono (by simp [doneP]) (by omega)) ⟨by have := r2.now; simp [doneP]; omega, fun u hu => by have := r2.um u hu; simp [doneP]; omega, fun u hu => by have := r2.pa u hu; simp [doneP]; omega, fun u hu => ?_, fun u hu => ?_, by have := r2.l1; simp; omega, by have := r2.l2; simp; omega, by have := r3.l2; simp; omega, by have := r2.l4; simp; omega, by have := r2.bg; simp; omega⟩, by simp [doneP] at *; omega, by simp [doneP]; omega, pn, p1, pm, pr, ac⟩
    · have : (doneP T l y s).S.reverse = { l with ah := y.pa ++ [(y.sg, y.now)], le := l.le ++ [y.now] } :: T.reverse := by simp [doneP]
      rw [this]
      generalize T.reverse = R at ok'
      cases ok' with
      | child _ _ _ h hq hf => omega
      | loop _ _ _ h hq hf hb ha => omega
      | iter _ _ q R h hq hl hb hf ha => exact .loop _ _ _ h hq hl (by simpa using hb) (fun _ => by simp)
    · simp only [List.mem_append, List.mem_singleton] at hu
      rcases hu with hu | rfl
      · exact r3.pa u hu
      · exact r3.now
    · simp only [List.mem_append, List.mem_singleton] at hu
      rcases hu with hu | rfl
      · exact r2.le u hu
      · exact r3.now
  | go T y hs hk =>
    obtain ⟨rfl, rfl⟩ := snoc_inj (hs.symm.trans hU)
    rw [hs] at ok rg sl
    have hy : y.kd = 3 := by unfold canB at hc; rcases hk with rfl | rfl <;> simp at hc <;> exact hc.1
    have h1000 := hb (by rcases hk with rfl | rfl <;> rfl)
    obtain ⟨r1, r2⟩ := mem1 rg
    have hah : 0 < y.it → y.ah ≠ [] := by
      have ok' : Ok (y :: List.reverse T) := by simpa using ok
      generalize List.reverse T = R at ok'
      cases ok' with
      | root _ h => omega
      | child _ _ _ h hq hf => omega
      | loop _ _ _ h hq hf hb ha => omega
      | iter _ _ q R h hq hl hb hf ha => exact ha
    refine ⟨?_, all1 (fun x hx => (r1 x hx).mono (by simp [goP]) (by omega)) ⟨by simp [goP]; omega, fun u hu => by have := r2.um u hu; simp [goP]; omega, fun u hu => ?_, fun u hu => by have := r2.ah u hu; simp [goP]; omega, fun u hu => by have := r2.le u hu; simp [goP]; omega, by have := r2.l1; simp; omega, by have := r2.l2; simp; omega, by have := r2.l3; simp; omega, by have := r2.l4; simp; omega, by have := r2.bg; simp; omega⟩, by simp [goP] at *; omega, by simp [goP]; omega, by simp [goP, pn], by simp [goP], by simp [goP]; omega, pr_snoc pr p1 (by simp) (fun u hu => ?_), fun p hp => by have := up p hp; simpa [goP] using this⟩
    · have : (goP T y k a s).S.reverse = { y with pa := y.pa ++ [(y.sg, y.now)], sg := a, now := (s.P.length : Int) } :: List.reverse T := by simp [goP]
      rw [this]
      exact (show Ok (y :: List.reverse T) by simpa using ok).top (by omega) rfl rfl rfl
    · simp only [List.mem_append, List.mem_singleton] at hu
      simp only [goP, List.length_append, List.length_singleton]
      rcases hu with hu | rfl
      · have := r2.pa u hu; omega
      · have := r2.now; omega
    · rcases List.mem_cons.1 hu with rfl | hu
      · exact r2.now
      · split at hu
        · rename_i hcond
          simp at hu
          subst hu
          exact befL_in _ _ _ _ r2.ah (first_in r2.ah (hah hcond.2))
        · simp at hu
end Go.Proofs.Ytgbaaemocnjaoaa.sn
