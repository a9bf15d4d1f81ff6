/- Slices of structs whose fields are whole numbers and bools, one cell each. -/
import Derived.Test.YtagcgffofddcnaaKit
import Derived.Test.YtagcgffofddcnaaGrids
namespace Go.Proofs.Ytagcgffofddcnaa
open Go.ChangeShapes Go.WideShapes Go.ChangeAt Go.RowKit
set_option linter.unusedVariables false
def mixAt : Option IntKind → Int → Bool → Value
  | some k, z, _ => .int k z
  | none, _, b => .bool b
def mixOk : Option IntKind → Int → Prop
  | some k, z => (Lit.int k z).wf = true
  | none, _ => True
def IsMix (ks : List (Option IntKind)) (w : World) (a : Option Addr) (len cap : Nat) (Z : Nat → Nat → Int) (Y : Nat → Nat → Bool) : Prop :=
  (a = none ∧ len = 0 ∧ cap = 0) ∨
  ∃ x, a = some x ∧ len ≤ cap ∧ cap ≤ maxLen ∧ ∀ i, i < cap → ∀ j k, ks[j]? = some k → w.cell? (x.add (i * ks.length + j)) = some (mixAt k (Z i j) (Y i j)) ∧ mixOk k (Z i j)
theorem IsMix.split {ks : List (Option IntKind)} {w : World} {a : Option Addr} {len cap : Nat} {Z : Nat → Nat → Int} {Y : Nat → Nat → Bool} (h : IsMix ks w a len cap Z Y) (h0 : 0 < ks.length) :
    len = 0 ∨ ∃ b off, a = some ⟨b, off, none⟩ ∧ b < w.heap.size ∧ len ≤ cap ∧ cap ≤ maxLen ∧ (∀ i, i < cap → ∀ j k, ks[j]? = some k → w.cell? ⟨b, off + (i * ks.length + j), none⟩ = some (mixAt k (Z i j) (Y i j)) ∧ mixOk k (Z i j)) := by
  rcases h with ⟨_, h, _⟩ | ⟨x, rfl, hle, hm, hc⟩
  · exact .inl h
  · by_cases hl : len = 0
    · exact .inl hl
    · obtain ⟨b, off, spot⟩ := x
      have h1 := (hc 0 (by omega) 0 _ (List.getElem?_eq_getElem h0)).1
      have hspot : spot = none := by simpa [Addr.add] using World.cell?_spot h1
      subst hspot
      rw [Go.WideShapes.add_plain] at h1
      refine .inr ⟨b, off, rfl, World.block_lt_of_cell? w _ h1, hle, hm, fun i hi j k hj => ?_⟩
      rw [← Go.WideShapes.add_plain]
      exact hc i hi j k hj
def mixOf (P : Program) (e : TypeId) : Option (List (Option IntKind)) :=
  match P.underlying e with
  | some (.struct fs) => (List.range fs.size).mapM fun j => match fs[j]? with
    | some f => if f.offset = j ∧ P.cellsOf f.type = 1 then (match P.underlying f.type with | some (.int k) => some (some k) | some .bool => some none | _ => none) else none
    | none => none
  | _ => none
section
variable {H : Type} {enc : TypeId × Value → H} {P : Program} {w : World} {base : Nat} {spare : Nat → Bool} {held : Bool}
theorem struct_mix {e : TypeId} {ks : List (Option IntKind)} {fuel : Nat} {cs : List Value} {y : DataW H × List MemPlace} (hk : mixOf P e = some ks) (hC : P.cellsOf e = ks.length) (h : DataW.trod enc P w base spare held fuel e cs = some y) :
    ∀ (j : Nat) (k : Option IntKind), ks[j]? = some k → ∃ (z : Int) (b : Bool), cs[j]? = some (mixAt k z b) ∧ mixOk k z := by
  unfold mixOf at hk
  split at hk
  · rename_i fs hu
    obtain ⟨xs, n, _, _, hl, hxs, hf⟩ := DataW.trod_struct hu h
    obtain ⟨hr, hat⟩ := mapM_some_at hk
    intro j k hj
    obtain ⟨j', hj', hfk⟩ := hat j k hj
    have hjl : j < ks.length := (List.getElem?_eq_some_iff.1 hj).1
    rw [List.length_range] at hr
    rw [List.getElem?_range (by omega)] at hj'
    obtain rfl : j = j' := by simpa using hj'
    cases hfj : fs[j]? with
    | none => rw [hfj] at hfk; simp at hfk
    | some f =>
      rw [hfj] at hfk
      simp only at hfk
      split at hfk
      · rename_i hoc
        have h1 := hf j f hfj
        rw [hoc.1, hoc.2] at h1
        have hjc : j < cs.length := by omega
        have h2 : (cs.drop j).take 1 = [cs[j]] := by rw [List.drop_eq_getElem_cons hjc]; rfl
        rw [h2, List.getElem?_eq_getElem (by omega)] at h1
        split at hfk
        · rename_i k' hk'
          obtain rfl : some k' = k := by simpa using hfk
          obtain ⟨z, e1, _, e2⟩ := DataW.trod_int hk' h1
          simp at e1
          exact ⟨z, false, by rw [List.getElem?_eq_getElem hjc, e1]; rfl, e2⟩
        · rename_i hk'
          obtain rfl : none = k := by simpa using hfk
          obtain ⟨b, e1, _⟩ := DataW.trod_bool hk' h1
          simp at e1
          exact ⟨0, b, by rw [List.getElem?_eq_getElem hjc, e1]; rfl, trivial⟩
        · simp at hfk
      · simp at hfk
  · simp at hk
theorem open_mix {t e : TypeId} {ks : List (Option IntKind)} {fuel : Nat} {cs : List Value} {x : DataW H × List MemPlace} (ht : P.underlying t = some (.slice e)) (hC : P.cellsOf e = ks.length)
    (hE : ∀ {fuel : Nat} {cs : List Value} {y : DataW H × List MemPlace}, DataW.trod enc P w base (fun _ => true) held fuel e cs = some y → ∀ (j : Nat) (k : Option IntKind), ks[j]? = some k → ∃ (z : Int) (b : Bool), cs[j]? = some (mixAt k z b) ∧ mixOk k z)
    (h : DataW.trod enc P w base (fun _ => true) held fuel t cs = some x) :
    cs = [.slice none 0 0] ∨ ∃ (a : Addr) (len cap : Nat) (Z : Nat → Nat → Int) (Y : Nat → Nat → Bool), cs = [.slice (some a) len cap] ∧ len ≤ cap ∧ cap ≤ maxLen ∧ ∀ i, i < cap → ∀ (j : Nat) (k : Option IntKind), ks[j]? = some k → w.cell? (a.add (i * ks.length + j)) = some (mixAt k (Z i j) (Y i j)) ∧ mixOk k (Z i j) := by
  rcases Go.Deep.open_slice ht h with ⟨h0, _⟩ | ⟨a, len, cap, m, n, D, Pl, hcs, _, hl, hm, hmm, _, hx⟩
  · exact .inl h0
  · rw [if_pos rfl] at hmm
    subst hmm
    rw [hC] at hx
    have hz : ∀ i j : Nat, ∃ zb : Int × Bool, i < m → ∀ k, ks[j]? = some k → w.cell? (a.add (i * ks.length + j)) = some (mixAt k zb.1 zb.2) ∧ mixOk k zb.1 := by
      intro i j
      by_cases hi : i < m
      · obtain ⟨cs', hc', ht'⟩ := hx i hi
        obtain ⟨_, _, hcell⟩ := World.cells?_some hc'
        by_cases hj : j < ks.length
        · obtain ⟨z, b, hz1, hz2⟩ := hE ht' j _ (List.getElem?_eq_getElem hj)
          refine ⟨(z, b), fun _ k hk => ?_⟩
          rw [List.getElem?_eq_getElem hj] at hk
          obtain rfl := Option.some.inj hk
          have := hcell j hj
          rw [Go.Deep.add_add] at this
          exact ⟨this.trans hz1, hz2⟩
        · exact ⟨(0, false), fun _ k hk => by rw [List.getElem?_eq_none (by omega)] at hk; cases hk⟩
      · exact ⟨(0, false), fun h => absurd h hi⟩
    classical
    refine .inr ⟨a, len, m, fun i j => (Classical.choose (hz i j)).1, fun i j => (Classical.choose (hz i j)).2, hcs, hl, hm, fun i hi j k hk => ?_⟩
    exact Classical.choose_spec (hz i j) hi k hk
end
end Go.Proofs.Ytagcgffofddcnaa
