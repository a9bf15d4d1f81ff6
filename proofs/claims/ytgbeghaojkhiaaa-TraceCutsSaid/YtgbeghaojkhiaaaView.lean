/- A slice value that reads as a list of whole numbers, and how it stays so. -/
import Derived.Test.YtgbeghaojkhiaaaKit
import Derived.Laws.AppendOwn
import Derived.Laws.AppendOwnNone
import Derived.OwnWalk
namespace Go.Proofs.Ytgbeghaojkhiaaa
open Go.ChangeShapes Go.WideShapes Go.ChangeAt Go.RowKit

/-- In world w the slice value v reads as the list xs. -/
def View (w : World) (v : Value) (xs : List Int) : Prop :=
  ∃ a cap, v = .slice a xs.length cap ∧ (xs.length ≤ cap ∧ cap ≤ maxLen) ∧ (a = none → xs.length = 0 ∧ cap = 0) ∧
    (xs ≠ [] → ∃ b off, a = some ⟨b, off, none⟩ ∧ b < w.heap.size ∧ xs.length ≤ cap ∧ ∀ i, i < xs.length → w.cell? ⟨b, off + i, none⟩ = some (.int .i64 (xs.getD i 0)))

theorem View.below {w w' : World} {v : Value} {xs : List Int} (h : View w v xs) (hb : Below w.heap.size w w') : View w' v xs := by
  obtain ⟨a, cap, hv, hm, hn, hc⟩ := h
  refine ⟨a, cap, hv, hm, hn, fun hne => ?_⟩
  obtain ⟨b, off, ha, hlt, hle, hcell⟩ := hc hne
  have hs := hb.size
  exact ⟨b, off, ha, Nat.lt_of_lt_of_le hlt hs, hle, fun i hi => (hb.cell (p := ⟨b, off + i, none⟩) hlt).trans (hcell i hi)⟩
theorem View.drewN {w : World} {v : Value} {xs : List Int} (h : View w v xs) (n : Nat) : View (w.drewN n) v xs := h.below (below_drewN (Below.refl _ _) n)
theorem View.nil (w : World) : View w (.slice none 0 0) [] := ⟨none, 0, rfl, ⟨Nat.le_refl _, by simp [maxLen]⟩, fun _ => ⟨rfl, rfl⟩, fun h => absurd rfl h⟩
theorem view_of_row {w : World} {a : Option Addr} {len cap : Nat} {zs : List Int} (h : IsRow .i64 w a len cap zs) : View w (.slice a len cap) (zs.take len) := by
  rcases h with ⟨rfl, rfl, rfl, rfl⟩ | ⟨x, rfl, hle, hm, hz, hc, _⟩
  · exact View.nil w
  · have hl : (zs.take len).length = len := by rw [List.length_take]; omega
    refine ⟨some x, cap, by rw [hl], ⟨by rw [hl]; exact hle, hm⟩, (fun h => by cases h), fun hne => ?_⟩
    have h0 : 0 < len := by
      rcases Nat.eq_zero_or_pos len with h | h
      · subst h; exact absurd (by simp) hne
      · exact h
    obtain ⟨b, off, rfl, hc'⟩ := ints_at hc (by omega)
    have h1 := hc' 0 (by omega)
    refine ⟨b, off, rfl, World.block_lt_of_cell? w _ h1, by rw [hl]; exact hle, fun i hi => ?_⟩
    rw [hl] at hi
    rw [hc' i (by omega)]
    simp [hi]
/-- The shapes of a view: empty, or cells. -/
theorem View.cases {w : World} {v : Value} {xs : List Int} (h : View w v xs) :
    (xs = [] ∧ ∃ a cap, v = .slice a 0 cap ∧ (a = none → cap = 0) ∧ cap ≤ maxLen) ∨
    (xs ≠ [] ∧ ∃ b off cap, v = .slice (some ⟨b, off, none⟩) xs.length cap ∧ xs.length ≤ cap ∧ b < w.heap.size ∧ xs.length ≤ maxLen ∧ ∀ i, i < xs.length → w.cell? ⟨b, off + i, none⟩ = some (.int .i64 (xs.getD i 0))) := by
  obtain ⟨a, cap, hv, hm, hn, hc⟩ := h
  by_cases hx : xs = []
  · subst hx; exact .inl ⟨rfl, a, cap, hv, fun h => (hn h).2, hm.2⟩
  · obtain ⟨b, off, rfl, hlt, hle, hcell⟩ := hc hx
    exact .inr ⟨hx, b, off, cap, hv, hle, hlt, Nat.le_trans hm.1 hm.2, hcell⟩

theorem info3 : (Try.prog.info? 3).map (fun i => (i.zero, i.size, i.bytes)) = some (some (.int .i64 0), 1, 8) := by kernel_rfl
theorem view_of_own {w : World} {base : Nat} {v : Value} {xs : List Int} (h : w.ownsRow base 3 1 v xs.length (xs.map (Value.int .i64))) : View w v xs := by
  obtain ⟨_, h⟩ := h
  rcases h with ⟨rfl, h0⟩ | ⟨g, cap, cur, rfl, _, hg, hle, hm, hsz, htk⟩
  · obtain rfl : xs = [] := List.eq_nil_of_length_eq_zero h0
    exact View.nil w
  · refine ⟨_, cap, rfl, ⟨hle, hm⟩, fun h => (by cases h), fun _ => ?_⟩
    have hlt : g < w.heap.size := by
      rcases Nat.lt_or_ge g w.heap.size with h | h
      · exact h
      · rw [Array.getElem?_eq_none h] at hg; cases hg
    refine ⟨g, 0, rfl, hlt, hle, fun i hi => ?_⟩
    have h1 : cur.toList[i]? = some (Value.int .i64 (xs.getD i 0)) := by
      have h2 := congrArg (fun l => l[i]?) htk
      simp only [Nat.mul_one] at h2
      rw [List.getElem?_take_of_lt hi] at h2
      rw [h2]; simp [hi]
    have h3 : cur[i]? = some (Value.int .i64 (xs.getD i 0)) := by simpa using h1
    rw [Nat.zero_add]
    simp [World.cell?, hg, h3]

theorem heap_made (w : World) (o : Obj) : (w.alloc o).heap[w.heap.size]? = some o := by
  show (w.heap.push _)[w.heap.size]? = _
  simp

/-- 'append([]int{}, x...)' of a view is a row of its own that holds the same list. -/
theorem wpList_copy_row {ops : Array Oper} {rest : List Oper} {o : Oper} {a : Act} {w : World} {Q : Exit → Act → World → Prop} (hgd : o.guard = none) (s x : Operand)
    (ho : o.op = .call { callee := .builtin .append, args := #[s, x], argTypes := #[46, 46] })
    (g B : Nat) (hs : a.eval s = .slice (some ⟨g, 0, none⟩) 0 0) (hown : w.heap[g]? = some (.cells #[] 3 (0, 0))) (hB : B ≤ g)
    (xs : List Int) (hx : View w (a.eval x) xs) (hsm : xs.length ≤ 100000)
    (h : ∀ v' w', w'.ownsRow B 3 1 v' xs.length (xs.map (Value.int .i64)) → Below B w w' → wpList Try.prog ops Q rest (a.put o.dst v') w') : wpList Try.prog ops Q (o :: rest) a w := by
  obtain ⟨i0, hi, hz0, hz1, hz2⟩ := info_parts info3
  have hrow : w.ownsRow B 3 1 (.slice (some ⟨g, 0, none⟩) 0 0) 0 [] := ⟨rfl, .inr ⟨g, 0, #[], rfl, hB, hown, Nat.le_refl _, by simp, rfl, rfl⟩⟩
  have hgl : g < w.heap.size := by
    rcases Nat.lt_or_ge g w.heap.size with h | h
    · exact h
    · rw [Array.getElem?_eq_none h] at hown; cases hown
  rcases hx.cases with ⟨rfl, ad, cap, hv, hn, _⟩ | ⟨hne, b, off, cap, hv, hle, hlt, hm, hc⟩
  · cases ad with
    | none =>
      obtain rfl := hn rfl
      refine wpList_append_own_none hgd s x 46 ho B 3 i0 1 Try.underlying46 hi _ 0 [] hs hrow hv (h _ _ hrow (Below.refl _ _))
    | some ad =>
      refine wpList_append_own w hgd s x 46 ho B 3 i0 (.int .i64 0) 1 8 Try.underlying46 hi hz0 hz1 hz2 rfl (by decide) _ 0 [] hs hrow ad 0 cap [] hv rfl (by simp) (by simp) (by simp [maxLen]) (by simp) (by omega) ?_
      intro v' w' h1 h2 _
      exact h _ _ (by simpa using h1) ((Below.refl _ _).grown h2 (by omega) (by intro k hk; simp [Value.ownBlock] at hk; omega))
  · refine wpList_append_own w hgd s x 46 ho B 3 i0 (.int .i64 0) 1 8 Try.underlying46 hi hz0 hz1 hz2 rfl (by decide) _ 0 [] hs hrow ⟨b, off, none⟩ xs.length cap (xs.map (Value.int .i64)) hv (by simp) ?_ (by intro u hu; obtain ⟨n, _, rfl⟩ := List.mem_map.1 hu; rfl) (by omega) (by omega) (by omega) ?_
    · intro j u hj
      have hj' : j < xs.length := by
        rcases Nat.lt_or_ge j xs.length with h | h
        · exact h
        · rw [List.getElem?_eq_none (by simpa using h)] at hj; cases hj
      have e : u = Value.int .i64 (xs.getD j 0) := by
        rw [List.getElem?_map, List.getElem?_eq_getElem hj'] at hj
        simp [hj'] at hj ⊢
        exact hj.symm
      subst e
      rw [Go.WideShapes.add_plain]
      exact hc j hj'
    · intro v' w' h1 h2 _
      exact h _ _ (by simpa using h1) ((Below.refl _ _).grown h2 (by omega) (by intro k hk; simp [Value.ownBlock] at hk; omega))


def RowPost (B : Nat) (xs : List Int) (w : World) (e : Ending) (w' : World) : Prop := ∃ v, e = .returned v ∧ w'.ownsRow B 3 1 v xs.length (xs.map (Value.int .i64)) ∧ Below B w w'
set_option maxHeartbeats 400000 in
/-- whether two lists are the same. -/
theorem View.take {w : World} {a : Option Addr} {n c : Nat} {xs : List Int} (h : View w (.slice a n c) xs) (k : Nat) (hk : k ≤ xs.length) : View w (.slice a k c) (xs.take k) := by
  obtain ⟨a', c', hv, hm, hn, hc⟩ := h
  simp only [Value.slice.injEq] at hv
  obtain ⟨rfl, rfl, rfl⟩ := hv
  have hlen : (xs.take k).length = k := by rw [List.length_take]; omega
  refine ⟨_, _, by rw [hlen], ⟨by rw [hlen]; omega, hm.2⟩, fun h => ⟨by rw [hlen]; have := (hn h).1; omega, (hn h).2⟩, fun hne => ?_⟩
  have hy : xs ≠ [] := by intro h; rw [h] at hne; simp at hne
  obtain ⟨b, off, rfl, hlt, hle, hcc⟩ := hc hy
  refine ⟨b, off, rfl, hlt, by rw [hlen]; omega, fun i hi => ?_⟩
  rw [hlen] at hi
  rw [hcc i (by omega)]
  simp [List.getElem?_take_of_lt hi]
theorem View.len {w : World} {a : Option Addr} {n c : Nat} {xs : List Int} (h : View w (.slice a n c) xs) : n = xs.length ∧ n ≤ c ∧ c ≤ maxLen := by
  obtain ⟨a', c', hv, hm, hn, hc⟩ := h
  simp only [Value.slice.injEq] at hv
  obtain ⟨rfl, rfl, rfl⟩ := hv
  exact ⟨rfl, hm⟩
theorem view_of_cells {w : World} {n c : Nat} {xs : List Int} (h : ∀ i, i < xs.length → w.cell? ⟨n, i, none⟩ = some (.int .i64 (xs.getD i 0))) (hn : n < w.heap.size) (hc : xs.length ≤ c) (hm : c ≤ maxLen) : View w (.slice (some ⟨n, 0, none⟩) xs.length c) xs :=
  ⟨_, c, rfl, ⟨hc, hm⟩, (fun h => by cases h), fun _ => ⟨n, 0, rfl, hn, hc, fun i hi => by rw [Nat.zero_add]; exact h i hi⟩⟩
theorem view1 (n : Nat) (a : Int) (w : World) (h0 : w.cell? ⟨n, 0, none⟩ = some (.int .i64 a)) : View w (.slice (some ⟨n, 0, none⟩) 1 1) [a] :=
  view_of_cells (xs := [a]) (c := 1) (fun i hi => by match i, hi with | 0, _ => exact h0) (World.block_lt_of_cell? w _ h0) (Nat.le_refl _) (by decide)
theorem view2 (n : Nat) (a b : Int) (w : World) (h0 : w.cell? ⟨n, 0, none⟩ = some (.int .i64 a)) (h1 : w.cell? ⟨n, 1, none⟩ = some (.int .i64 b)) : View w (.slice (some ⟨n, 0, none⟩) 2 2) [a, b] :=
  view_of_cells (xs := [a, b]) (c := 2) (fun i hi => by match i, hi with | 0, _ => exact h0 | 1, _ => exact h1) (World.block_lt_of_cell? w _ h0) (Nat.le_refl _) (by decide)
end Go.Proofs.Ytgbeghaojkhiaaa
