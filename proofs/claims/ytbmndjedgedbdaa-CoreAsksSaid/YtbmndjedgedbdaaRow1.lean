/- A slice of one-cell elements that the call itself made (by make, append, or a conversion of a string): append of one element more, and where the slice lies behind it. No Go in sight. -/
import Derived.Test.YtbmndjedgedbdaaKit
import Derived.Laws.AppendOwn
import Derived.Laws.AppendOwnNone
import Derived.OwnWalk
import Derived.Lib.ConvBytes
namespace Go.Proofs.Ytbmndjedgedbdaa
open Go.ChangeShapes Go.WideShapes Go.ChangeAt Go.RowKit
set_option linter.unusedVariables false
set_option linter.unusedSimpArgs false

/-- In world w the slice v holds the cells xs, in a block from base on; all its room may be written. -/
def Row1 (w : World) (base : Nat) (v : Value) (xs : List Value) : Prop :=
  (v = .slice none 0 0 ∧ xs = []) ∨
  ∃ g cap, v = .slice (some ⟨g, 0, none⟩) xs.length cap ∧ base ≤ g ∧ g < w.heap.size ∧ xs.length ≤ cap ∧ cap ≤ maxLen ∧
    (∀ i, i < xs.length → w.cell? ⟨g, i, none⟩ = xs[i]?) ∧ (∀ i, i < cap → ∃ u, w.cell? ⟨g, i, none⟩ = some u) ∧ ∀ i, i < cap → w.frozen? ⟨g, i, none⟩ = false
theorem Row1.nil (w : World) (base : Nat) : Row1 w base (.slice none 0 0) [] := .inl ⟨rfl, rfl⟩
theorem Row1.lt {w : World} {base : Nat} {v : Value} {xs : List Value} (h : Row1 w base v xs) : ∀ k, v.ownBlock = some k → base ≤ k ∧ k < w.heap.size := by
  intro k hk
  rcases h with ⟨rfl, _⟩ | ⟨g, cap, rfl, hb, hg, _⟩
  · simp [Value.ownBlock] at hk
  · simp [Value.ownBlock] at hk
    subst hk
    exact ⟨hb, hg⟩
theorem Row1.kept {w w' : World} {base : Nat} {v : Value} {xs : List Value} (h : Row1 w base v xs) (hs : w.heap.size ≤ w'.heap.size) (hk : ∀ k, v.ownBlock = some k → w'.heap[k]? = w.heap[k]?) : Row1 w' base v xs := by
  rcases h with h | ⟨g, cap, rfl, hb, hg, hl, hm, hc, hr, hf⟩
  · exact .inl h
  · have e := hk g rfl
    have ec : ∀ i, w'.cell? ⟨g, i, none⟩ = w.cell? ⟨g, i, none⟩ := fun i => by simp only [World.cell?, e]
    have ef : ∀ i, w'.frozen? ⟨g, i, none⟩ = w.frozen? ⟨g, i, none⟩ := fun i => by simp only [World.frozen?, e]
    exact .inr ⟨g, cap, rfl, hb, Nat.lt_of_lt_of_le hg hs, hl, hm, fun i hi => (ec i).trans (hc i hi), fun i hi => by rw [ec i]; exact hr i hi, fun i hi => by rw [ef i]; exact hf i hi⟩
theorem Row1.below {w w' : World} {base : Nat} {v : Value} {xs : List Value} (h : Row1 w base v xs) (hb : Below w.heap.size w w') : Row1 w' base v xs :=
  h.kept hb.size (fun k hk => hb.block k (h.lt k hk).2)
theorem Row1.alloc {w : World} {base : Nat} {v : Value} {xs : List Value} (h : Row1 w base v xs) (o : Obj) : Row1 (w.alloc o) base v xs :=
  h.kept (by simp) (fun k hk => heap_alloc_old w o (h.lt k hk).2)
theorem Row1.of_own {w : World} {base e : Nat} {v : Value} {xs : List Value} (h : w.ownsRow base e 1 v xs.length xs) : Row1 w base v xs := by
  obtain ⟨hl, ⟨rfl, h0⟩ | ⟨g, cap, cur, rfl, hb, hg, hle, hm, hs, ht⟩⟩ := h
  · exact .inl ⟨rfl, List.eq_nil_of_length_eq_zero h0⟩
  · rw [Nat.mul_one] at hs ht
    have hlt := (Array.getElem?_eq_some_iff.1 hg).1
    refine .inr ⟨g, cap, rfl, hb, hlt, hle, hm, ?_, ?_, ?_⟩
    · intro i hi
      rw [← ht, List.getElem?_take_of_lt hi]
      simp [World.cell?, hg]
    · intro i hi
      exact ⟨cur[i]'(by omega), by simp [World.cell?, hg]⟩
    · intro i hi
      simp [World.frozen?, hg]
section
variable {P : Program} (w : World)
theorem run_append_one_room (t ty e : TypeId) (i : TypeInfo) (ht : P.underlying t = some (.slice e)) (hi : P.info? e = some i) (hsize : i.size = 1)
    (g n cap : Nat) (a : Addr) (c : Nat) (u old : Value) (hu : w.cell? a = some u) (h1 : u.oneCell' = true) (hroom : n + 1 ≤ cap) (hc : w.cell? ⟨g, n, none⟩ = some old) (hf : w.frozen? ⟨g, n, none⟩ = false) :
    (Builtin.append_ #[t, t] ty #[.slice (some ⟨g, 0, none⟩) n cap, .slice (some a) 1 c]).run P w =
      .ok (.slice (some ⟨g, 0, none⟩) (n + 1) cap) (w.setCell ⟨g, n, none⟩ u) := by
  have hfc := run_firstCells_some (P := P) w i.size 1 a 1 c [u] (by simp [hsize]) (by
    intro j v hj
    match j, hj with
    | 0, hj => (simp at hj; subst hj; simpa [Addr.add] using hu))
  have hst : (store ⟨g, n, none⟩ u).run P w = .ok () (w.setCell ⟨g, n, none⟩ u) := by
    rw [run_store P w _ u _ h1, hc]
    simp [hf]
  have hadd : (⟨g, n, none⟩ : Addr).add 0 = ⟨g, n, none⟩ := by simp [Addr.add]
  simp [Builtin.append_, run_underlying ht, sizeOf, typeInfo, hi, hsize, Builtin.lenOf, hroom] at hfc ⊢
  by_cases h0 : n = 0
  · subst h0
    simp [hfc, storeCells, Addr.add_lit, hst, Addr.add]
  · simp [hfc, storeCells, Addr.add_lit, hst, Addr.add, h0]
theorem run_append_one (base : Nat) (t ty e : TypeId) (i : TypeInfo) (z : Value) (bytes : Nat) (ht : P.underlying t = some (.slice e)) (hi : P.info? e = some i) (hz : i.zero = some z)
    (hsize : i.size = 1) (hby : i.bytes = bytes) (hzs : z.cells.size = 1)
    (v : Value) (xs : List Value) (hrow : Row1 w base v xs) (a : Addr) (c : Nat) (u : Value) (hu : w.cell? a = some u) (h1 : u.oneCell' = true)
    (h63 : xs.length + 1 ≤ maxLen) (hbytes : (xs.length + 1) * bytes ≤ 140737488355328) (hbase : base ≤ w.heap.size) :
    ∃ v' w', (Builtin.append_ #[t, t] ty #[v, .slice (some a) 1 c]).run P w = .ok v' w' ∧ Row1 w' base v' (xs ++ [u]) ∧ w.grownBy w' v.ownBlock ∧
      (v'.ownBlock = v.ownBlock ∨ v'.ownBlock = some w.heap.size) ∧ v'.ownBlock ≠ none := by
  subst hby
  have hsmall : xs.length + 1 ≤ 9223372036854775807 := by simp only [maxLen] at h63; omega
  have hnews : ∀ j v, [u][j]? = some v → w.cell? (a.add j) = some v := by
    intro j v hj
    match j, hj with
    | 0, hj => (simp at hj; subst hj; simpa [Addr.add] using hu)
  have grown : ∀ (old : Nat) (row : Option Nat),
      Row1 (w.drew.alloc (.cells (xs.toArray ++ [u].toArray ++ Builtin.zeroCells z.cells (grownCap w (xs.length + 1) old e - (xs.length + 1))) e)) base (.slice (some ⟨w.heap.size, 0, none⟩) (xs.length + 1) (grownCap w (xs.length + 1) old e)) (xs ++ [u]) ∧
      w.grownBy (w.drew.alloc (.cells (xs.toArray ++ [u].toArray ++ Builtin.zeroCells z.cells (grownCap w (xs.length + 1) old e - (xs.length + 1))) e)) row := by
    intro old row
    have hge := grownCap_ge w (xs.length + 1) old e
    have hcm : grownCap w (xs.length + 1) old e ≤ maxLen := grownCap_le_maxLen w (xs.length + 1) old e h63
    refine ⟨.of_own (e := e) ⟨by simp, .inr ⟨w.heap.size, _, _, by simp, hbase, heap_alloc_new w.drew _, by simpa using hge, hcm, ?_, ?_⟩⟩, ⟨rfl, rfl, rfl, by simp, fun k hk _ => heap_alloc_old w.drew _ hk⟩⟩
    · simp only [Array.size_append, List.size_toArray, size_zeroCells, hzs, List.length_cons, List.length_nil]
      omega
    · simp only [Array.toList_append, List.append_assoc]
      rw [← List.append_assoc, Nat.mul_one]
      exact List.take_left
  rcases hrow with ⟨rfl, rfl⟩ | ⟨g, cap, rfl, hb, hg, hl, hm, hc, hr, hf⟩
  · have hr := run_append_nil (P := P) w t ty e i z ht hi hz a 1 c [u] (by simp [hsize]) hnews (by omega) (by omega) (by simp only [List.length_nil] at hbytes; omega)
    have hgr := grown 0 (Value.ownBlock (.slice none 0 0))
    simp only [List.length_nil, Nat.zero_add, List.nil_append, Array.empty_append] at hgr ⊢
    exact ⟨_, _, hr, hgr.1, hgr.2, .inr rfl, by simp [Value.ownBlock]⟩
  · by_cases hroom : xs.length + 1 ≤ cap
    · obtain ⟨old, hold⟩ := hr xs.length (by omega)
      have hrun := run_append_one_room (P := P) w t ty e i ht hi hsize g xs.length cap a c u old hu h1 hroom hold (hf _ (by omega))
      refine ⟨_, _, hrun, .inr ⟨g, cap, by simp, hb, by simpa using hg, by simpa using hroom, hm, ?_, ?_, ?_⟩, ⟨rfl, rfl, rfl, by simp, fun k _ hk => ?_⟩, .inl rfl, by simp [Value.ownBlock]⟩
      · intro i hi
        by_cases he : i = xs.length
        · subst he
          rw [World.cell?_setCell_same (h := hold)]
          simp
        · simp at hi
          rw [World.cell?_setCell_other (h := by intro h; injection h with h1 h2; omega), hc i (by omega), List.getElem?_append_left (by omega)]
      · intro i hi
        by_cases he : i = xs.length
        · subst he
          exact ⟨u, World.cell?_setCell_same w _ u hold⟩
        · rw [World.cell?_setCell_other (h := by intro h; injection h with h1 h2; omega)]
          exact hr i hi
      · intro i hi
        simpa using hf i hi
      · exact Below.heap_setCell w ⟨g, xs.length, none⟩ u k (by intro h; exact hk (by simp [Value.ownBlock, h]))
    · have hrun := run_append_grow (P := P) w t ty e i z ht hi hz ⟨g, 0, none⟩ xs.length cap xs (by simp [hsize]) (by
        intro j v hj
        have hj' := (List.getElem?_eq_some_iff.1 hj).1
        have : (⟨g, 0, none⟩ : Addr).add j = ⟨g, j, none⟩ := by unfold Addr.add; split <;> simp_all
        rw [this, hc j hj', hj]) a 1 c [u] (by simp [hsize]) hnews (by omega) (by omega) (growslice_fits (by omega) hbytes)
      have hgr := grown cap (Value.ownBlock (.slice (some ⟨g, 0, none⟩) xs.length cap))
      exact ⟨_, _, hrun, hgr.1, hgr.2, .inr rfl, by simp [Value.ownBlock]⟩
theorem wpList_append_one {ops : Array Oper} {rest : List Oper} {o : Oper} {a : Act} {Q : Exit → Act → World → Prop} (hgd : o.guard = none) (s x : Operand) (t : TypeId)
    (ho : o.op = .call { callee := .builtin .append, args := #[s, x], argTypes := #[t, t] })
    (base : Nat) (e : TypeId) (i : TypeInfo) (z : Value) (bytes : Nat) (ht : P.underlying t = some (.slice e)) (hi : P.info? e = some i) (hz : i.zero = some z)
    (hsize : i.size = 1) (hby : i.bytes = bytes) (hzs : z.cells.size = 1)
    (v : Value) (xs : List Value) (hs : a.eval s = v) (hrow : Row1 w base v xs) (ad : Addr) (c : Nat) (u : Value) (hx : a.eval x = .slice (some ad) 1 c) (hu : w.cell? ad = some u) (h1 : u.oneCell' = true)
    (h63 : xs.length + 1 ≤ maxLen) (hbytes : (xs.length + 1) * bytes ≤ 140737488355328) (hbase : base ≤ w.heap.size)
    (h : ∀ v' w', Row1 w' base v' (xs ++ [u]) → w.grownBy w' v.ownBlock → (v'.ownBlock = v.ownBlock ∨ v'.ownBlock = some w.heap.size) → v'.ownBlock ≠ none → wpList P ops Q rest (a.put o.dst v') w') : wpList P ops Q (o :: rest) a w :=
  wpList_plain hgd fun _ hK => by
    obtain ⟨v', w', hr, h2, h3, h4, h5⟩ := run_append_one (P := P) w base t o.type e i z bytes ht hi hz hsize hby hzs v xs hrow ad c u hu h1 h63 hbytes hbase
    unfold Oper.wp execOp
    simp only [ho, resolve, invoke, builtin, Sem.run_bind, Sem.run_pure, Result.andThen_ok, List.map_toArray, List.map_cons, List.map_nil, hs, hx, hr]
    exact hK _ _ (h v' w' h2 h3 h4 h5)
end
theorem Row1.ofString (w : World) (e : TypeId) (s : ByteArray) (hs : s.size ≤ maxLen) : Row1 (Lib.bytesWorld w e s) w.heap.size (.slice (some ⟨w.heap.size, 0, none⟩) s.size (grownCap w s.size 0 e)) (s.data.toList.map fun b => .int .u8 b.toNat) := by
  have hge := grownCap_ge w s.size 0 e
  have hcs : (Lib.bytesCells w e s).size = grownCap w s.size 0 e := by unfold Lib.bytesCells; rw [Array.size_append, Array.size_map, Array.size_replicate]; show s.size + _ = _; omega
  have hn := Lib.bytesWorld_at_new w e s
  have hl : (s.data.toList.map fun b => Value.int .u8 b.toNat).length = s.size := by rw [List.length_map]; rfl
  refine .inr ⟨w.heap.size, _, by rw [hl], Nat.le_refl _, by rw [Lib.bytesWorld_size]; omega, by rw [hl]; exact hge, grownCap_le_maxLen w _ _ _ hs, ?_, ?_, ?_⟩
  · intro i hi
    rw [hl] at hi
    rw [Lib.bytesWorld_cell w e s i hi]
    have : i < s.data.size := hi
    simp [List.getD, Array.getElem?_eq_getElem this]
  · intro i hi
    exact ⟨(Lib.bytesCells w e s)[i]'(by omega), by simp [World.cell?, hn]⟩
  · intro i hi
    simp [World.frozen?, hn]
    omega
end Go.Proofs.Ytbmndjedgedbdaa
