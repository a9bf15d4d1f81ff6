/- Rows of whole numbers, whosever they are; rows of rows that the call itself made. -/
import Derived.Test.YtgbeghaojkhiaaaIntR
namespace Go.Proofs.Ytgbeghaojkhiaaa
open Go.ChangeShapes Go.WideShapes Go.ChangeAt Go.RowKit
set_option linter.unusedVariables false
set_option linter.unusedSimpArgs false
/-- In world w the slice of slices v reads as the rows L. -/
def MV (w : World) (v : Value) (L : List (List Int)) : Prop :=
  ∃ a cap, v = .slice a L.length cap ∧ L.length ≤ cap ∧ cap ≤ maxLen ∧ ∀ i, i < L.length → ∃ b o u, a = some ⟨b, o, none⟩ ∧ b < w.heap.size ∧ w.cell? ⟨b, o + i, none⟩ = some u ∧ View w u (L.getD i [])
theorem MV.below {w w' : World} {v : Value} {L : List (List Int)} (h : MV w v L) (hb : Below w.heap.size w w') : MV w' v L := by
  obtain ⟨a, cap, hv, h1, h2, h3⟩ := h
  refine ⟨a, cap, hv, h1, h2, fun i hi => ?_⟩
  obtain ⟨b, o, u, e, hlt, hc, hu⟩ := h3 i hi
  exact ⟨b, o, u, e, Nat.lt_of_lt_of_le hlt hb.size, (hb.cell (p := ⟨b, o + i, none⟩) hlt).trans hc, hu.below hb⟩
theorem MV.form {w : World} {v : Value} {L : List (List Int)} (h : MV w v L) : ∃ a cap, v = .slice a L.length cap ∧ L.length ≤ cap ∧ cap ≤ maxLen := by
  obtain ⟨a, cap, hv, h1, h2, _⟩ := h
  exact ⟨a, cap, hv, h1, h2⟩
/-- Row i: where its slice stands, and what it is. -/
theorem MV.row {w : World} {a : Option Addr} {n cap : Nat} {L : List (List Int)} (h : MV w (.slice a n cap) L) (i : Nat) (hi : i < n) :
    ∃ b o ai ci, a = some ⟨b, o, none⟩ ∧ b < w.heap.size ∧ w.cell? ⟨b, o + i, none⟩ = some (.slice ai (L.getD i []).length ci) ∧ View w (.slice ai (L.getD i []).length ci) (L.getD i []) := by
  obtain ⟨a', cap', hv, h1, h2, h3⟩ := h
  rw [Value.slice.injEq] at hv
  obtain ⟨rfl, rfl, rfl⟩ := hv
  obtain ⟨b, o, u, e, hlt, hc, hu⟩ := h3 i hi
  have hu' := hu
  obtain ⟨ai, ci, rfl, _⟩ := hu
  exact ⟨b, o, ai, ci, e, hlt, hc, hu'⟩
theorem View.at {w : World} {a : Option Addr} {n cap : Nat} {xs : List Int} (h : View w (.slice a n cap) xs) (j : Nat) (hj : j < n) :
    ∃ b o, a = some ⟨b, o, none⟩ ∧ b < w.heap.size ∧ w.cell? ⟨b, o + j, none⟩ = some (.int .i64 (xs.getD j 0)) := by
  obtain ⟨rfl, _, _⟩ := h.len
  obtain ⟨a', cap', hv, h1, h2, h3⟩ := h
  rw [Value.slice.injEq] at hv
  obtain ⟨rfl, _, rfl⟩ := hv
  obtain ⟨b, o, e, hlt, _, hc⟩ := h3 (by intro e; rw [e] at hj; simp at hj)
  exact ⟨b, o, e, hlt, hc j hj⟩
theorem MV.take {w : World} {a : Option Addr} {n cap : Nat} {L : List (List Int)} (h : MV w (.slice a n cap) L) (k : Nat) (hk : k ≤ n) : MV w (.slice a k cap) (L.take k) := by
  obtain ⟨a', cap', hv, h1, h2, h3⟩ := h
  rw [Value.slice.injEq] at hv
  obtain ⟨rfl, rfl, rfl⟩ := hv
  have hl : (L.take k).length = k := by rw [List.length_take]; omega
  refine ⟨a, cap, by rw [hl], by rw [hl]; omega, h2, fun i hi => ?_⟩
  rw [hl] at hi
  obtain ⟨b, o, u, e, hlt, hc, hu⟩ := h3 i (by omega)
  exact ⟨b, o, u, e, hlt, hc, by rw [List.getD_eq_getElem?_getD, List.getElem?_take_of_lt hi, ← List.getD_eq_getElem?_getD]; exact hu⟩
theorem MV.len {w : World} {a : Option Addr} {n cap : Nat} {L : List (List Int)} (h : MV w (.slice a n cap) L) : n = L.length ∧ n ≤ cap ∧ cap ≤ maxLen := by
  obtain ⟨a', cap', hv, h1, h2, h3⟩ := h
  rw [Value.slice.injEq] at hv
  obtain ⟨rfl, rfl, rfl⟩ := hv
  exact ⟨rfl, h1, h2⟩
theorem MV.nil (w : World) : MV w (.slice none 0 0) [] := ⟨none, 0, rfl, Nat.le_refl _, by simp [maxLen], fun i hi => by simp at hi⟩
theorem info46 : (Try.prog.info? 46).map (fun i => (i.zero, i.size, i.bytes)) = some (some (.slice none 0 0), 1, 24) := by kernel_rfl
/-- A row of rows that the call itself made: its slices, each a row of one's own. -/
def OM (w : World) (B : Nat) (v : Value) (rows : List Value) (L : List (List Int)) : Prop :=
  w.ownsRow B 46 1 v L.length rows ∧ ∀ i, i < L.length → ∃ u, rows[i]? = some u ∧ OI w B u (L.getD i [])
theorem OM.nil (w : World) (B : Nat) : OM w B (.slice none 0 0) [] [] := ⟨World.ownsRow_nil _ _ _ _, fun i hi => by simp at hi⟩
theorem OI.grown {w w' : World} {B : Nat} {u v : Value} {xs : List Int} {n : Nat} {rows : List Value} (h : OI w B u xs) (ho : w.ownsRow B 46 1 v n rows) (hg : w.grownBy w' v.ownBlock) : OI w' B u xs := by
  obtain ⟨hl, h | ⟨g, cap, cur, rfl, h1, hh, h2, h3, h4, h5⟩⟩ := h
  · exact ⟨hl, .inl h⟩
  · refine ⟨hl, .inr ⟨g, cap, cur, rfl, h1, ?_, h2, h3, h4, h5⟩⟩
    have hlt := (Array.getElem?_eq_some_iff.1 hh).1
    rw [hg.block g hlt ?_]
    · exact hh
    · intro e
      obtain ⟨_, ⟨rfl, _⟩ | ⟨g2, cap2, cur2, rfl, _, hh2, _⟩⟩ := ho
      · simp [Value.ownBlock] at e
      · simp [Value.ownBlock] at e
        subst e
        rw [hh] at hh2
        simp at hh2
theorem own_lt41 {w : World} {B n : Nat} {v : Value} {rows : List Value} (ho : w.ownsRow B 46 1 v n rows) : ∀ k, v.ownBlock = some k → B ≤ k ∧ k < w.heap.size := by
  intro k hk
  obtain ⟨_, ⟨rfl, _⟩ | ⟨g2, cap2, cur2, rfl, h1, hh2, _⟩⟩ := ho
  · simp [Value.ownBlock] at hk
  · simp [Value.ownBlock] at hk
    subst hk
    exact ⟨h1, (Array.getElem?_eq_some_iff.1 hh2).1⟩
theorem OM.below {w w' : World} {B : Nat} {v : Value} {rows : List Value} {L : List (List Int)} (h : OM w B v rows L) (hb : Below w.heap.size w w') : OM w' B v rows L := by
  refine ⟨?_, fun i hi => ?_⟩
  · obtain ⟨hl, h1 | ⟨g2, cap2, cur2, rfl, h1, hh2, h3⟩⟩ := h.1
    · exact ⟨hl, .inl h1⟩
    · exact ⟨hl, .inr ⟨g2, cap2, cur2, rfl, h1, (hb.block g2 (Array.getElem?_eq_some_iff.1 hh2).1).trans hh2, h3⟩⟩
  · obtain ⟨u, hu, ho⟩ := h.2 i hi
    exact ⟨u, hu, ho.below hb⟩
theorem OM.mv {w : World} {B : Nat} {v : Value} {rows : List Value} {L : List (List Int)} (h : OM w B v rows L) : MV w v L := by
  obtain ⟨⟨hl, ⟨rfl, h0⟩ | ⟨g, cap, cur, rfl, hg, hh, h1, h2, h3, h4⟩⟩, hr⟩ := h
  · obtain rfl : L = [] := List.eq_nil_of_length_eq_zero h0
    exact MV.nil w
  · refine ⟨_, cap, rfl, h1, h2, fun i hi => ?_⟩
    obtain ⟨u, hu, ho⟩ := hr i hi
    refine ⟨g, 0, u, rfl, (Array.getElem?_eq_some_iff.1 hh).1, ?_, view_of_own ho⟩
    have h5 : cur.toList[i]? = some u := by
      have h6 := congrArg (fun l => l[i]?) h4
      simp only [Nat.mul_one] at h6
      rw [List.getElem?_take_of_lt hi] at h6
      rw [h6, hu]
    have h7 : cur[i]? = some u := by simpa using h5
    rw [Nat.zero_add]
    simp [World.cell?, hh, h7]
end Go.Proofs.Ytgbeghaojkhiaaa
