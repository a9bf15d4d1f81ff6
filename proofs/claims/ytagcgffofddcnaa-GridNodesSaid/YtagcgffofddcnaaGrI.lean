/- Whether a way leads from node tz node (layer 33): the search backward, as pure functions; what is seen, in memory. -/
import Derived.Test.YtagcgffofddcnaaGrG
namespace Go.Proofs.Ytagcgffofddcnaa.gr
open Go.ChangeShapes Go.WideShapes Go.ChangeAt Go.RowKit
open Go.Proofs.Ytagcgffofddcnaa.ro
open Go.Proofs.Ytagcgffofddcnaa
set_option linter.unusedVariables false
set_option linter.unusedSimpArgs false
abbrev Sn := Nat → Nat → Bool
def Sn.put (s : Sn) (q : Pl) : Sn := fun i k => if i = q.1 ∧ k = q.2 then true else s i k
theorem Sn.put_self (s : Sn) (q : Pl) : s.put q q.1 q.2 = true := by unfold Sn.put; rw [if_pos ⟨rfl, rfl⟩]
theorem Sn.put_ne (s : Sn) {q p : Pl} (h : p ≠ q) : s.put q p.1 p.2 = s p.1 p.2 := by
  unfold Sn.put
  rw [if_neg]
  rintro ⟨h1, h2⟩
  exact h (Prod.ext h1 h2)
def Vis (tz : Pl) (s : Sn) (p : Pl) : Prop := p = tz ∨ s p.1 p.2 = true
theorem Vis.put {tz : Pl} {s : Sn} {q p : Pl} : Vis tz (s.put q) p ↔ Vis tz s p ∨ p = q := by
  unfold Vis
  by_cases h : p = q
  · subst h; simp [Sn.put_self]
  · rw [Sn.put_ne s h]; simp [h]
/-- what holds of the places seen (s), and of those still tz be gone back from (lf). -/
structure VI (L : List (List C2)) (f tz : Pl) (s : Sn) (lf : List Pl) : Prop where
  v1 : ∀ p, p ∈ lf → Vis tz s p
  v3 : ∀ p, Vis tz s p → In L p
  v4 : ∀ p, Vis tz s p → p ∈ lf ∨ (p ≠ f ∧ ∀ q, q ∈ ahd L p → Vis tz s q)
  v5 : ∀ p, Vis tz s p → Way L f p → Way L f tz
/-- the same, while the places behind p are gone through. -/
structure VJ (L : List (List C2)) (f tz p : Pl) (qs : List Pl) (s : Sn) (lf : List Pl) : Prop where
  v1 : ∀ x, x ∈ lf → Vis tz s x
  v2 : Vis tz s p
  v3 : ∀ x, Vis tz s x → In L x
  v4 : ∀ x, Vis tz s x → x ∈ lf ∨ (x ≠ f ∧ ∀ q, q ∈ ahd L x → Vis tz s q) ∨ (x = p ∧ ∀ q, q ∈ qs → Vis tz s q)
  v5 : ∀ x, Vis tz s x → Way L f x → Way L f tz
theorem VI.start {L : List (List C2)} {f tz : Pl} (h : In L tz) : VI L f tz (fun _ _ => false) [tz] := by
  refine ⟨fun p hp => ?_, fun p hp => ?_, fun p hp => ?_, fun p hp hw => ?_⟩
  · simp at hp; exact .inl hp
  · rcases hp with rfl | hp
    · exact h
    · simp at hp
  · rcases hp with rfl | hp
    · exact .inl (by simp)
    · simp at hp
  · rcases hp with rfl | hp
    · exact hw
    · simp at hp
theorem VI.found {L : List (List C2)} {f tz : Pl} {s : Sn} {lf : List Pl} (h : VI L f tz s lf) (hf : f ∈ lf) : Way L f tz := h.v5 f (h.v1 f hf) .here
theorem VI.empty {L : List (List C2)} {f tz : Pl} {s : Sn} (h : VI L f tz s []) : ¬ Way L f tz := by
  intro hw
  have key : ∀ x, Way L f x → Vis tz s x → False := by
    intro x hx
    induction hx with
    | here => intro hv; rcases h.v4 _ hv with h1 | h1
              · simp at h1
              · exact h1.1 rfl
    | on hq _ ih => intro hv; rcases h.v4 _ hv with h1 | h1
                    · simp at h1
                    · exact ih (h1.2 _ hq)
  exact key tz hw (.inl rfl)
theorem VI.pop {L : List (List C2)} {f tz p : Pl} {s : Sn} {lf : List Pl} (h : VI L f tz s (lf ++ [p])) : VJ L f tz p [] s lf := by
  refine ⟨fun x hx => h.v1 x (by simp [hx]), h.v1 p (by simp), h.v3, fun x hx => ?_, h.v5⟩
  rcases h.v4 x hx with h1 | h1
  · simp at h1
    rcases h1 with h1 | h1
    · exact .inl h1
    · exact .inr (.inr ⟨h1, fun q hq => by simp at hq⟩)
  · exact .inr (.inl h1)
theorem VJ.seen {L : List (List C2)} {f tz p q : Pl} {qs : List Pl} {s : Sn} {lf : List Pl} (h : VJ L f tz p qs s lf) (hq : s q.1 q.2 = true) : VJ L f tz p (qs ++ [q]) s lf := by
  refine ⟨h.v1, h.v2, h.v3, fun x hx => ?_, h.v5⟩
  rcases h.v4 x hx with h1 | h1 | ⟨h1, h2⟩
  · exact .inl h1
  · exact .inr (.inl h1)
  · refine .inr (.inr ⟨h1, fun y hy => ?_⟩)
    simp at hy
    rcases hy with hy | rfl
    · exact h2 y hy
    · exact .inr hq
theorem VJ.put {L : List (List C2)} {f tz p q : Pl} {qs : List Pl} {s : Sn} {lf : List Pl} (hL : Rts L) (h : VJ L f tz p qs s lf) (hq : q ∈ ahd L p) : VJ L f tz p (qs ++ [q]) (s.put q) (lf ++ [q]) := by
  have hm : ∀ x, Vis tz s x → Vis tz (s.put q) x := fun x hx => Vis.put.2 (.inl hx)
  refine ⟨fun x hx => ?_, hm _ h.v2, fun x hx => ?_, fun x hx => ?_, fun x hx hw => ?_⟩
  · simp at hx
    rcases hx with hx | rfl
    · exact hm _ (h.v1 x hx)
    · exact Vis.put.2 (.inr rfl)
  · rcases Vis.put.1 hx with hx | rfl
    · exact h.v3 x hx
    · exact ahd_in hL (h.v3 p h.v2) hq
  · rcases Vis.put.1 hx with hx | rfl
    · rcases h.v4 x hx with h1 | ⟨h1, h2⟩ | ⟨h1, h2⟩
      · exact .inl (by simp [h1])
      · exact .inr (.inl ⟨h1, fun y hy => hm _ (h2 y hy)⟩)
      · refine .inr (.inr ⟨h1, fun y hy => ?_⟩)
        simp at hy
        rcases hy with hy | rfl
        · exact hm _ (h2 y hy)
        · exact Vis.put.2 (.inr rfl)
    · exact .inl (by simp)
  · rcases Vis.put.1 hx with hx | rfl
    · exact h.v5 x hx hw
    · exact h.v5 p h.v2 (.on hq hw)
theorem VJ.done {L : List (List C2)} {f tz p : Pl} {s : Sn} {lf : List Pl} (h : VJ L f tz p (ahd L p) s lf) (hp : p ≠ f) : VI L f tz s lf := by
  refine ⟨h.v1, h.v3, fun x hx => ?_, h.v5⟩
  rcases h.v4 x hx with h1 | h1 | ⟨rfl, h2⟩
  · exact .inl h1
  · exact .inr h1
  · exact .inr ⟨hp, h2⟩
/-- how many places of the first n rows are not seen. -/
def rowU (s : Sn) (i : Nat) (m : Nat) : Nat := (List.range m).countP fun k => !s i k
def unsN (L : List (List C2)) (s : Sn) : Nat → Nat
  | 0 => 0
  | n + 1 => unsN L s n + rowU s n (L.getD n []).length
theorem countP_put (p p' : Nat → Bool) (k m : Nat) (hk : k < m) (h1 : p k = true) (h2 : p' k = false) (h3 : ∀ j, j ≠ k → p' j = p j) : (List.range m).countP p' + 1 = (List.range m).countP p := by
  induction m with
  | zero => omega
  | succ m ih =>
    rw [List.range_succ, List.countP_append, List.countP_append]
    simp only [List.countP_singleton]
    by_cases e : k = m
    · subst e
      rw [h1, h2]
      have : (List.range k).countP p' = (List.range k).countP p := by
        apply List.countP_congr
        intro x hx
        simp at hx
        rw [h3 x (by omega)]
      rw [this]; simp
    · have := ih (by omega)
      rw [h3 m (fun h => e h.symm)]
      omega
theorem rowU_put (s : Sn) (q : Pl) (m : Nat) (hq : q.2 < m) (h : s q.1 q.2 = false) : rowU (s.put q) q.1 m + 1 = rowU s q.1 m := by
  unfold rowU
  refine countP_put _ _ q.2 m hq (by simp [h]) (by simp [Sn.put_self]) (fun j hj => ?_)
  unfold Sn.put
  rw [if_neg (by rintro ⟨_, h⟩; exact hj h)]
theorem rowU_ne (s : Sn) (q : Pl) (i m : Nat) (hi : i ≠ q.1) : rowU (s.put q) i m = rowU s i m := by
  unfold rowU
  apply List.countP_congr
  intro x _
  unfold Sn.put
  rw [if_neg (by rintro ⟨h, _⟩; exact hi h)]
theorem unsN_ne (L : List (List C2)) (s : Sn) (q : Pl) : ∀ n, n ≤ q.1 → unsN L (s.put q) n = unsN L s n
  | 0, _ => rfl
  | n + 1, h => by rw [unsN, unsN, unsN_ne L s q n (by omega), rowU_ne s q n _ (by omega)]
theorem unsN_put (L : List (List C2)) (s : Sn) (q : Pl) (h : s q.1 q.2 = false) (hk : q.2 < (L.getD q.1 []).length) : ∀ n, q.1 < n → unsN L (s.put q) n + 1 = unsN L s n
  | 0, hn => by omega
  | n + 1, hn => by
    rw [unsN, unsN]
    by_cases e : q.1 = n
    · subst e
      rw [unsN_ne L s q q.1 (Nat.le_refl _)]
      have := rowU_put s q _ hk h
      omega
    · have := unsN_put L s q h hk n (by omega)
      rw [rowU_ne s q n _ (fun h => e h.symm)]
      omega
/-- the cells of a row of what is seen. -/
def rowC (s : Sn) (i m : Nat) : Array Value := ((List.range m).map fun k => Value.bool (s i k)).toArray
theorem rowC_at (s : Sn) (i m k : Nat) (hk : k < m) : (rowC s i m)[k]? = some (.bool (s i k)) := by
  unfold rowC
  simp [hk]
/-- what is seen, in memory: n rows of it are made. -/
structure SE (w : World) (L : List (List C2)) (O : Nat) (g : Nat → Nat) (n : Nat) (s : Sn) : Prop where
  o : ∃ cs, w.heap[O]? = some (.cells cs 79 (0, 0)) ∧ cs.size = L.length ∧ ∀ i, i < n → cs[i]? = some (.slice (some ⟨g i, 0, none⟩) (L.getD i []).length (L.getD i []).length)
  r : ∀ i, i < n → w.heap[g i]? = some (.cells (rowC s i (L.getD i []).length) 4 (0, 0))
  ne : ∀ i j, i < n → j < n → g i = g j → i = j
theorem SE.lt {w : World} {L : List (List C2)} {O n : Nat} {g : Nat → Nat} {s : Sn} (h : SE w L O g n s) : O < w.heap.size ∧ ∀ i, i < n → g i < w.heap.size := by
  obtain ⟨cs, h1, _⟩ := h.o
  exact ⟨lt_of h1, fun i hi => lt_of (h.r i hi)⟩
theorem SE.below {w w' : World} {L : List (List C2)} {O n : Nat} {g : Nat → Nat} {s : Sn} (h : SE w L O g n s) (hb : Below w.heap.size w w') : SE w' L O g n s := by
  obtain ⟨cs, h1, h2⟩ := h.o
  exact ⟨⟨cs, kb h1 hb, h2⟩, fun i hi => kb (h.r i hi) hb, h.ne⟩
theorem SE.grown {w w' : World} {L : List (List C2)} {O n B : Nat} {g : Nat → Nat} {s : Sn} {v : Value} {xs : List Pl} (h : SE w L O g n s) (ho : OR 2 enP w B 71 v xs) (hg : w.grownBy w' v.ownBlock) : SE w' L O g n s := by
  have key : ∀ (b : Nat) (cs : Array Value) (e : Nat), w.heap[b]? = some (.cells cs e (0, 0)) → e ≠ 71 → w'.heap[b]? = some (.cells cs e (0, 0)) := by
    intro b cs e hb he
    rw [hg.block b (lt_of hb) ?_]
    · exact hb
    · intro e0
      obtain ⟨_, ⟨rfl, _⟩ | ⟨g2, cap2, cur2, rfl, _, hh2, _⟩⟩ := ho
      · simp [Value.ownBlock] at e0
      · simp [Value.ownBlock] at e0
        subst e0
        rw [hb] at hh2
        simp at hh2
        exact he hh2.2
  obtain ⟨cs, h1, h2⟩ := h.o
  exact ⟨⟨cs, key _ _ _ h1 (by decide), h2⟩, fun i hi => key _ _ _ (h.r i hi) (by decide), h.ne⟩
theorem SE.at {w : World} {L : List (List C2)} {O n : Nat} {g : Nat → Nat} {s : Sn} (h : SE w L O g n s) {q : Pl} (h1 : q.1 < n) (h2 : q.2 < (L.getD q.1 []).length) :
    w.cell? ⟨O, q.1, none⟩ = some (.slice (some ⟨g q.1, 0, none⟩) (L.getD q.1 []).length (L.getD q.1 []).length) ∧ w.cell? ⟨g q.1, q.2, none⟩ = some (.bool (s q.1 q.2)) ∧ w.frozen? ⟨g q.1, q.2, none⟩ = false := by
  obtain ⟨cs, e1, _, e3⟩ := h.o
  exact ⟨(cel e1 q.1).trans (e3 _ h1), (cel (h.r _ h1) q.2).trans (rowC_at s _ _ _ h2), frz (h.r _ h1) _⟩
theorem SE.put {w : World} {L : List (List C2)} {O n : Nat} {g : Nat → Nat} {s : Sn} (h : SE w L O g n s) {q : Pl} (h1 : q.1 < n) (h2 : q.2 < (L.getD q.1 []).length) : SE (w.setCell ⟨g q.1, q.2, none⟩ (.bool true)) L O g n (s.put q) := by
  obtain ⟨cs, e1, e2, e3⟩ := h.o
  have hO : O ≠ g q.1 := by
    intro e
    have := h.r _ h1
    rw [← e, e1] at this
    simp at this
  refine ⟨⟨cs, (set_oth w (g q.1) q.2 O _ hO).trans e1, e2, e3⟩, fun i hi => ?_, h.ne⟩
  by_cases e : i = q.1
  · subst e
    rw [set_blk w _ q.2 (.bool true) (h.r _ h1)]
    congr 2
    unfold rowC
    apply Array.ext
    · simp
    · intro k hk1 hk2
      simp at hk1
      by_cases ek : k = q.2
      · subst ek
        simp [hk1, Sn.put_self]
      · have : s.put q q.1 k = s q.1 k := by
          unfold Sn.put
          rw [if_neg (by rintro ⟨_, h⟩; exact ek h)]
        simp [hk1, this]
        rw [List.getElem_set_ne (fun h : q.2 = k => ek h.symm)]
        simp
  · rw [set_oth w (g q.1) q.2 (g i) _ (fun h' => e (h.ne i q.1 hi h1 h'))]
    have := h.r i hi
    rw [this]
    unfold rowC
    congr 3
    apply List.map_congr_left
    intro k _
    unfold Sn.put
    rw [if_neg (by rintro ⟨h, _⟩; exact e h)]
/-- how many cells of a block are false. -/
def blkF : Option Obj → Nat
  | some (.cells cs _ _) => cs.toList.countP fun v => match v with
    | .bool false => true
    | _ => false
  | _ => 0
def mu (g : Nat → Nat) (w : World) : Nat → Nat
  | 0 => 0
  | n + 1 => mu g w n + blkF w.heap[g n]?
theorem SE.mu {w : World} {L : List (List C2)} {O n : Nat} {g : Nat → Nat} {s : Sn} (h : SE w L O g n s) : ∀ m, m ≤ n → gr.mu g w m = unsN L s m
  | 0, _ => rfl
  | m + 1, hm => by
    rw [gr.mu, unsN, SE.mu h m (by omega), h.r m (by omega)]
    unfold blkF rowC rowU
    simp only [List.countP_map]
    congr 1
    apply List.countP_congr
    intro k _
    simp
    cases s m k <;> simp
end Go.Proofs.Ytagcgffofddcnaa.gr
