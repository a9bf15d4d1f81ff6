/- What a walk is told of slices that came in: of truth values; of structs or arrays of whole numbers. -/
import Derived.OpenShut
import Derived.ChangeArms
import Derived.WideShapes
import Derived.Deep.Slices
namespace Go.Proofs.Ytgbeghaojkhiaaa
open Go.ChangeShapes Go.WideShapes Go.RowKit

def IsBools (w : World) (a : Option Addr) (len cap : Nat) (z : Nat → Bool) : Prop :=
  (a = none ∧ len = 0 ∧ cap = 0) ∨
  ∃ x, a = some x ∧ len ≤ cap ∧ cap ≤ maxLen ∧ ∀ i, i < cap → w.cell? (x.add i) = some (.bool (z i))
theorem IsBools.split {w : World} {a : Option Addr} {len cap : Nat} {z : Nat → Bool} (h : IsBools w a len cap z) :
    len = 0 ∨ ∃ b off, a = some ⟨b, off, none⟩ ∧ b < w.heap.size ∧ len ≤ cap ∧ cap ≤ maxLen ∧ (∀ i, i < cap → w.cell? ⟨b, off + i, none⟩ = some (.bool (z i))) := by
  rcases h with ⟨_, h, _⟩ | ⟨x, rfl, hle, hm, hc⟩
  · exact .inl h
  · by_cases h0 : len = 0
    · exact .inl h0
    · obtain ⟨b, off, spot⟩ := x
      have h1 := hc 0 (by omega)
      have hspot : spot = none := by simpa [Addr.add] using World.cell?_spot h1
      subst hspot
      rw [Go.WideShapes.add_plain] at h1
      refine .inr ⟨b, off, rfl, World.block_lt_of_cell? w _ h1, hle, hm, fun i hi => ?_⟩
      rw [← Go.WideShapes.add_plain]
      exact hc i hi

/-- A slice of so many cells an element: cell j of element i is the whole number Z i j of kind ks[j]. -/
def IsGrid (ks : List IntKind) (w : World) (a : Option Addr) (len cap : Nat) (Z : Nat → Nat → Int) : Prop :=
  (a = none ∧ len = 0 ∧ cap = 0) ∨
  ∃ x, a = some x ∧ len ≤ cap ∧ cap ≤ maxLen ∧ ∀ i, i < cap → ∀ j k, ks[j]? = some k → w.cell? (x.add (i * ks.length + j)) = some (.int k (Z i j)) ∧ (Lit.int k (Z i j)).wf = true
theorem IsGrid.split {ks : List IntKind} {w : World} {a : Option Addr} {len cap : Nat} {Z : Nat → Nat → Int} (h : IsGrid ks w a len cap Z) (h0 : 0 < ks.length) :
    len = 0 ∨ ∃ b off, a = some ⟨b, off, none⟩ ∧ b < w.heap.size ∧ len ≤ cap ∧ cap ≤ maxLen ∧ (∀ i, i < cap → ∀ j k, ks[j]? = some k → w.cell? ⟨b, off + (i * ks.length + j), none⟩ = some (.int k (Z i j)) ∧ (Lit.int k (Z i j)).wf = true) := by
  rcases h with ⟨_, h, _⟩ | ⟨x, rfl, hle, hm, hc⟩
  · exact .inl h
  · by_cases hl : len = 0
    · exact .inl hl
    · obtain ⟨b, off, spot⟩ := x
      have h1 := (hc 0 (by omega) 0 _ (List.getElem?_eq_getElem h0)).1
      have hspot : spot = none := by simpa [Addr.add] using World.cell?_spot h1
      subst hspot
      rw [Go.WideShapes.add_plain] at h1
      refine .inr ⟨b, off, rfl, World.block_lt_of_cell? w _ h1, hle, hm, fun i hi j k hj => ?_⟩
      rw [← Go.WideShapes.add_plain]
      exact hc i hi j k hj

/-- Of struct or array elements: the kinds of the cells, one each. -/
def kindsOf (P : Program) (e : TypeId) : Option (List IntKind) :=
  match P.underlying e with
  | some (.struct fs) => (List.range fs.size).mapM fun j => match fs[j]? with
    | some f => if f.offset = j ∧ P.cellsOf f.type = 1 then (match P.underlying f.type with | some (.int k) => some k | _ => none) else none
    | none => none
  | _ => none
theorem mapM_some_at {α β : Type} {f : α → Option β} : ∀ {l : List α} {r : List β}, l.mapM f = some r → r.length = l.length ∧ ∀ (i : Nat) (b : β), r[i]? = some b → ∃ a, l[i]? = some a ∧ f a = some b := by
  intro l
  induction l with
  | nil => intro r h; simp at h; subst h; exact ⟨rfl, fun i b hb => by simp at hb⟩
  | cons x l ih =>
    intro r h
    rw [List.mapM_cons] at h
    cases hx : f x with
    | none => rw [hx] at h; simp at h
    | some y =>
      cases hl : l.mapM f with
      | none => rw [hx, hl] at h; simp at h
      | some r' =>
        rw [hx, hl] at h
        simp at h
        subst h
        obtain ⟨h1, h2⟩ := ih hl
        refine ⟨by simp [h1], fun i b hb => ?_⟩
        cases i with
        | zero => simp at hb; subst hb; exact ⟨x, rfl, hx⟩
        | succ i => simpa using h2 i b (by simpa using hb)
section
variable {H : Type} {enc : TypeId × Value → H} {P : Program} {w : World} {base : Nat} {spare : Nat → Bool} {held : Bool}
theorem struct_ints {e : TypeId} {ks : List IntKind} {fuel : Nat} {cs : List Value} {y : DataW H × List MemPlace} (hk : kindsOf P e = some ks) (hC : P.cellsOf e = ks.length) (h : DataW.trod enc P w base spare held fuel e cs = some y) :
    ∀ (j : Nat) (k : IntKind), ks[j]? = some k → ∃ z : Int, cs[j]? = some (Value.int k z) ∧ (Lit.int k z).wf = true := by
  unfold kindsOf at hk
  split at hk
  · rename_i fs hu
    obtain ⟨xs, n, _, _, hl, hxs, hf⟩ := DataW.trod_struct hu h
    obtain ⟨hr, hat⟩ := mapM_some_at hk
    intro j k hj
    obtain ⟨j', hj', hfk⟩ := hat j k hj
    have hjl : j < ks.length := (List.getElem?_eq_some_iff.1 hj).1
    rw [List.length_range] at hr
    rw [List.getElem?_range (by omega)] at hj'
    obtain rfl : j = j' := by simpa using hj'
    cases hfj : fs[j]? with
    | none => rw [hfj] at hfk; simp at hfk
    | some f =>
      rw [hfj] at hfk
      simp only at hfk
      split at hfk
      · rename_i hoc
        have h1 := hf j f hfj
        rw [hoc.1, hoc.2] at h1
        have hjc : j < cs.length := by omega
        have h2 : (cs.drop j).take 1 = [cs[j]] := by rw [List.drop_eq_getElem_cons hjc]; rfl
        rw [h2, List.getElem?_eq_getElem (by omega)] at h1
        split at hfk
        · rename_i k' hk'
          obtain rfl : k' = k := by simpa using hfk
          obtain ⟨z, e1, _, e2⟩ := DataW.trod_int hk' h1
          simp at e1
          exact ⟨z, by rw [List.getElem?_eq_getElem hjc, e1], e2⟩
        · simp at hfk
      · simp at hfk
  · simp at hk
theorem array_ints {e e' : TypeId} {n : Nat} {k : IntKind} {fuel : Nat} {cs : List Value} {y : DataW H × List MemPlace} (hu : P.underlying e = some (.array n e')) (hk : P.underlying e' = some (.int k)) (hc : P.cellsOf e = n) (hc1 : P.cellsOf e' = 1) (h : DataW.trod enc P w base spare held fuel e cs = some y) :
    ∀ (j : Nat) (k' : IntKind), (List.replicate n k)[j]? = some k' → ∃ z : Int, cs[j]? = some (Value.int k' z) ∧ (Lit.int k' z).wf = true := by
  obtain ⟨xs, m, _, _, hl, hx, hi⟩ := DataW.trod_array hu h
  rw [hc1] at hi
  rw [hc] at hl
  intro j k' hj
  have hjn : j < n := by have := (List.getElem?_eq_some_iff.1 hj).1; simpa using this
  rw [List.getElem?_replicate_of_lt hjn] at hj
  obtain rfl : k = k' := by simpa using hj
  have h1 := hi j hjn
  have hjc : j < cs.length := by omega
  have h2 : (cs.drop (j * 1)).take 1 = [cs[j]] := by rw [Nat.mul_one, List.drop_eq_getElem_cons hjc]; rfl
  rw [h2, List.getElem?_eq_getElem (by omega)] at h1
  obtain ⟨z, e1, _, e2⟩ := DataW.trod_int hk h1
  simp at e1
  exact ⟨z, by rw [List.getElem?_eq_getElem hjc, e1], e2⟩
theorem open_grid {t e : TypeId} {ks : List IntKind} {fuel : Nat} {cs : List Value} {x : DataW H × List MemPlace} (ht : P.underlying t = some (.slice e)) (hC : P.cellsOf e = ks.length)
    (hE : ∀ {fuel : Nat} {cs : List Value} {y : DataW H × List MemPlace}, DataW.trod enc P w base (fun _ => true) held fuel e cs = some y → ∀ (j : Nat) (k : IntKind), ks[j]? = some k → ∃ z : Int, cs[j]? = some (Value.int k z) ∧ (Lit.int k z).wf = true)
    (h : DataW.trod enc P w base (fun _ => true) held fuel t cs = some x) :
    cs = [.slice none 0 0] ∨ ∃ (a : Addr) (len cap : Nat) (Z : Nat → Nat → Int), cs = [.slice (some a) len cap] ∧ len ≤ cap ∧ cap ≤ maxLen ∧ ∀ i, i < cap → ∀ (j : Nat) (k : IntKind), ks[j]? = some k → w.cell? (a.add (i * ks.length + j)) = some (.int k (Z i j)) ∧ (Lit.int k (Z i j)).wf = true := by
  rcases Go.Deep.open_slice ht h with ⟨h0, _⟩ | ⟨a, len, cap, m, n, D, Pl, hcs, _, hl, hm, hmm, _, hx⟩
  · exact .inl h0
  · rw [if_pos rfl] at hmm
    subst hmm
    rw [hC] at hx
    have hz : ∀ i j : Nat, ∃ z : Int, i < m → ∀ k, ks[j]? = some k → w.cell? (a.add (i * ks.length + j)) = some (.int k z) ∧ (Lit.int k z).wf = true := by
      intro i j
      by_cases hi : i < m
      · obtain ⟨cs', hc', ht'⟩ := hx i hi
        obtain ⟨_, _, hcell⟩ := World.cells?_some hc'
        by_cases hj : j < ks.length
        · obtain ⟨z, hz1, hz2⟩ := hE ht' j _ (List.getElem?_eq_getElem hj)
          refine ⟨z, fun _ k hk => ?_⟩
          rw [List.getElem?_eq_getElem hj] at hk
          obtain rfl := Option.some.inj hk
          have := hcell j hj
          rw [Go.Deep.add_add] at this
          exact ⟨this.trans hz1, hz2⟩
        · exact ⟨0, fun _ k hk => by rw [List.getElem?_eq_none (by omega)] at hk; cases hk⟩
      · exact ⟨0, fun h => absurd h hi⟩
    classical
    refine .inr ⟨a, len, m, fun i j => Classical.choose (hz i j), hcs, hl, hm, fun i hi j k hk => ?_⟩
    exact Classical.choose_spec (hz i j) hi k hk
end
theorem openStr4 {H : Type} {enc : TypeId × Value → H} {P : Program} {w : World} {r : Reach} {b0 base : Nat} {spare : Nat → Bool} {held : Bool} {t : TypeId} {fs : Array Field} {k0 k1 k2 k3 : IntKind} {v : Value} {d : DataW H} {p : List MemPlace}
    (ht : P.underlying t = some (.struct fs)) (hk : kindsOf P t = some [k0, k1, k2, k3]) (hC : P.cellsOf t = 4) (hv : Value.okWide P w r b0 t v) (h : DataW.Trod enc P w base spare held t v d p) :
    ∃ a0 a1 a2 a3 : Int, v = .agg #[.int k0 a0, .int k1 a1, .int k2 a2, .int k3 a3] ∧ (Lit.int k0 a0).wf = true ∧ (Lit.int k1 a1).wf = true ∧ (Lit.int k2 a2).wf = true ∧ (Lit.int k3 a3).wf = true := by
  obtain ⟨cs, rfl, hsz⟩ := okWide_struct ht hv
  obtain ⟨fuel, hf⟩ := h
  have hs := struct_ints hk hC hf
  obtain ⟨a0, e0, w0⟩ := hs 0 k0 rfl
  obtain ⟨a1, e1, w1⟩ := hs 1 k1 rfl
  obtain ⟨a2, e2, w2⟩ := hs 2 k2 rfl
  obtain ⟨a3, e3, w3⟩ := hs 3 k3 rfl
  simp only [Value.cells] at e0 e1 e2 e3
  refine ⟨a0, a1, a2, a3, ?_, w0, w1, w2, w3⟩
  congr 1
  apply Array.ext'
  have hl : cs.toList.length = 4 := by rw [Array.length_toList, hsz, hC]
  generalize cs.toList = l at *
  match l, hl with
  | [c0, c1, c2, c3], _ => simp at e0 e1 e2 e3; simp [e0, e1, e2, e3]
end Go.Proofs.Ytgbeghaojkhiaaa
