/- The contracts of a sink, of layer 22. -/
import Derived.Test.YtpcpohbbmeonbabSink
import Derived.Laws.OwnMore
namespace Go.Proofs.Ytpcpohbbmeonbab
open Go.ChangeShapes Go.WideShapes Go.ChangeAt Go.RowKit
set_option linter.unusedVariables false

/-- In world w block B is a sink for m numbers that holds xs. -/
def SinkAt (w : World) (B : Nat) (m : Int) (xs : List Int) : Prop :=
  ∃ v, w.heap[B]? = some (.cells #[.int .i64 m, v] 68 (0, 0)) ∧ w.ownsRow (B + 1) 3 1 v xs.length (xs.map (Value.int .i64))

def sMost (n : Int) : Int := if n < 0 then 0 else if 1000 < n then 1000 else n
theorem sMost_bd (n : Int) : 0 ≤ sMost n ∧ sMost n ≤ 1000 := by unfold sMost; split <;> (try split) <;> omega
theorem new_any (n : Int) (w : World) : Calls Try.prog 19 #[.int .i64 n] w fun e w' => e = .returned (.pointer (some ⟨w.heap.size, 0, none⟩)) ∧ w.alloc (.cells #[.int .i64 (sMost n), .slice none 0 0] 68) = w' := by
  by_cases h1 : n < 0
  · have e : sMost n = 0 := by unfold sMost; rw [if_pos h1]
    rw [e]
    go_enter Try.func19, Try.ntmps19
    go_wp2
    go_ret
    exact ⟨rfl, rfl⟩
  · by_cases h2 : 1000 < n
    · have e : sMost n = 1000 := by unfold sMost; rw [if_neg h1, if_pos h2]
      rw [e]
      go_enter Try.func19, Try.ntmps19
      go_wp2
      go_ret
      exact ⟨rfl, rfl⟩
    · have e : sMost n = n := by unfold sMost; rw [if_neg h1, if_neg h2]
      rw [e]
      go_enter Try.func19, Try.ntmps19
      go_wp2
      go_ret
      exact ⟨rfl, rfl⟩
theorem emit_nil (n : Int) (w : World) : Calls Try.prog 20 #[.pointer none, .int .i64 n] w fun e w' => e = .returned (.bool false) ∧ ∃ n, w' = w.drewN n := by
  go_enter Try.func20, Try.ntmps20
  go_wp2_with fail
  go_quiet (fail)
  go_wp2_with fail
  go_ret
  exact ⟨rfl, _, rfl⟩
theorem cells_two {w : World} {B : Nat} {a b : Value} (h : w.heap[B]? = some (.cells #[a, b] 68 (0, 0))) : w.cell? ⟨B, 0, none⟩ = some a ∧ w.cell? ⟨B, 1, none⟩ = some b ∧ w.frozen? ⟨B, 1, none⟩ = false ∧ B < w.heap.size := by
  refine ⟨by simp [World.cell?, h], by simp [World.cell?, h], by simp [World.frozen?, h], ?_⟩
  rcases Nat.lt_or_ge B w.heap.size with h' | h'
  · exact h'
  · rw [Array.getElem?_eq_none h'] at h; cases h
theorem row_slice {w : World} {base : Nat} {v : Value} {n : Nat} {xs : List Value} (h : w.ownsRow base 3 1 v n xs) : ∃ a c, v = .slice a n c := by
  obtain ⟨_, h⟩ := h
  rcases h with ⟨rfl, rfl⟩ | ⟨g, cap, cur, rfl, _⟩
  · exact ⟨none, 0, rfl⟩
  · exact ⟨_, cap, rfl⟩
theorem emit_no (B : Nat) (m n : Int) (xs : List Int) (w : World) (h : SinkAt w B m xs) (hm : m ≤ xs.length) : Calls Try.prog 20 #[.pointer (some ⟨B, 0, none⟩), .int .i64 n] w fun e w' => e = .returned (.bool false) ∧ ∃ n, w' = w.drewN n := by
  obtain ⟨v, hB, hr⟩ := h
  obtain ⟨h0, h1, _, _⟩ := cells_two hB
  obtain ⟨a, c, rfl⟩ := row_slice hr
  have d1 : decide (m ≤ (xs.length : Int)) = true := decide_eq_true hm
  clear hB hr
  generalize xs.length = len at *
  go_enter Try.func20, Try.ntmps20
  go_wp2_with fail
  go_quiet (fail)
  go_wp2_with fail
  go_ret
  exact ⟨rfl, _, rfl⟩
theorem heap_setCell_two {W : World} {B : Nat} {x y : Value} {t : TypeId} (v' : Value) (h : W.heap[B]? = some (.cells #[x, y] t (0, 0))) : (W.setCell ⟨B, 1, none⟩ v').heap[B]? = some (.cells #[x, v'] t (0, 0)) := by
  obtain ⟨hlt, hk⟩ := Array.getElem?_eq_some_iff.1 h
  show (W.heap.modify B _)[B]? = _
  rw [Array.getElem?_eq_getElem (by rw [Array.size_modify]; exact hlt), Array.getElem_modify_self, hk]
  rfl
theorem grown_setCell (W : World) (b o : Nat) (v : Value) : W.grownBy (W.setCell ⟨b, o, none⟩ v) (some b) := by
  refine ⟨rfl, rfl, rfl, by simp [World.setCell], fun k hk hne => ?_⟩
  have hkb : b ≠ k := fun e => hne (by rw [e])
  show (W.heap.modify b _)[k]? = _
  rw [Array.getElem?_modify, if_neg hkb]
theorem row_below {w w' : World} {base B : Nat} {v : Value} {n : Nat} {xs : List Value} (h : w.ownsRow base 3 1 v n xs) (hb : Below B w w') (hlt : ∀ k, v.ownBlock = some k → k < B) : w'.ownsRow base 3 1 v n xs := by
  obtain ⟨hl, h⟩ := h
  refine ⟨hl, ?_⟩
  rcases h with h | ⟨g, cap, cur, rfl, hg, hh, h1, h2, h3, h4⟩
  · exact .inl h
  · exact .inr ⟨g, cap, cur, rfl, hg, (hb.block g (hlt g rfl)).trans hh, h1, h2, h3, h4⟩
theorem SinkAt.below {w w' : World} {B : Nat} {m : Int} {xs : List Int} (h : SinkAt w B m xs) (hb : Below w.heap.size w w') : SinkAt w' B m xs := by
  obtain ⟨v, hB, hr⟩ := h
  exact ⟨v, (hb.block B (cells_two hB).2.2.2).trans hB, row_below hr hb fun k hk => (hr.lt k hk).2⟩
theorem SinkAt.made (w : World) (m : Int) : SinkAt (w.alloc (.cells #[.int .i64 m, .slice none 0 0] 68)) w.heap.size m [] := by
  refine ⟨.slice none 0 0, ?_, World.ownsRow_nil _ _ _ _⟩
  show (w.heap.push _)[w.heap.size]? = _
  simp
set_option maxHeartbeats 400000 in
theorem emit_ok (B : Nat) (m n : Int) (xs : List Int) (w : World) (h : SinkAt w B m xs) (hm : (xs.length : Int) < m) (hm2 : m ≤ 1000) : Calls Try.prog 20 #[.pointer (some ⟨B, 0, none⟩), .int .i64 n] w fun e w' => e = .returned (.bool true) ∧ SinkAt w' B m (xs ++ [n]) ∧ Below B w w' := by
  obtain ⟨v, hB, hr⟩ := h
  obtain ⟨h0, h1, h2, hlt⟩ := cells_two hB
  obtain ⟨a, c, hv⟩ := row_slice hr
  rw [hv] at h1
  have d1 : decide (m ≤ (xs.length : Int)) = false := decide_eq_false (by omega)
  obtain ⟨i0, hi, hz0, hz1, hz2⟩ := info_parts info3
  have HB := Lib.hid hB
  have HR := Lib.hid hr
  have HV := Lib.hid hv
  clear hB hr hv
  go_enter Try.func20, Try.ntmps20
  go_wp2_with fail
  go_quiet (fail)
  have hr2 : (w.drewN nq).ownsRow (B + 1) 3 1 (.slice a xs.length c) xs.length (xs.map (Value.int .i64)) := by have := HR.out; rw [HV.out] at this; exact this
  have hown := hr2.alloc (.cells #[.int .i64 n] 3)
  have HO := Lib.hid hown
  clear hr2 hown
  go_wp2_with (at_builtin; refine wpList_append_own _ rfl _ _ 26 rfl (B + 1) 3 i0 (.int .i64 0) 1 8 Try.underlying26 hi hz0 hz1 hz2 rfl (by decide) _ _ _ rfl HO.out ⟨w.heap.size, 0, none⟩ 1 1 [.int .i64 n] rfl rfl ?c1 ?c2 ?c3 ?c4 ?c5 ?_)
  case c1 => intro j u hj; match j, hj with | 0, hj => (simp at hj; subst hj; exact (World.cell?_alloc_at (w := w.drewN nq) _ _ w.heap.size 0 rfl).trans rfl)
  case c2 => intro u hu; simp at hu; subst hu; rfl
  case c3 => unfold maxLen; omega
  case c4 => omega
  case c5 => simp; omega
  intro v' w1 h3 h4 _
  obtain ⟨a', c', rfl⟩ := row_slice h3
  have hlt2 := HO.out.lt
  have hbl : Below (B + 1) ((w.drewN nq).alloc (.cells #[.int .i64 n] 3)) w1 := (Below.refl _ _).grown h4 (by simp; omega) (fun k hk => (hlt2 k hk).1)
  have hB1 : w1.heap[B]? = some (.cells #[.int .i64 m, v] 68 (0, 0)) := (hbl.block B (Nat.lt_succ_self B)).trans (((Below.refl w.heap.size (w.drewN nq)).alloc (by simp) _).block B hlt |>.trans HB.out)
  obtain ⟨c0, c1', c2', c3'⟩ := cells_two hB1
  have H1 := Lib.hid hB1
  have H3 := Lib.hid h3
  have H4 := Lib.hid hbl
  clear hB1 h3 hbl hlt2 h4
  go_wp2_with fail
  go_ret
  refine ⟨rfl, ⟨_, heap_setCell_two _ H1.out, ?_⟩, ?_⟩
  · have e : xs.map (Value.int .i64) ++ [Value.int .i64 n] = (xs ++ [n]).map (Value.int .i64) := by simp
    have e2 : xs.length + 1 = (xs ++ [n]).length := by simp
    rw [← e, ← e2]
    exact H3.out.kept (grown_setCell w1 B 1 _) (by
      cases hk : (Value.slice a' (xs.length + 1) c').ownBlock with
      | none => exact .inl rfl
      | some k => exact .inr (by have := (H3.out.lt k hk).1; intro e; cases e; omega))
  · exact ((below_drewN (Below.refl B w) nq).alloc (by simp; omega) _).trans (H4.out.mono (by omega)) |>.setCell (Nat.le_refl B) _
theorem len_any (B : Nat) (m : Int) (xs : List Int) (w : World) (h : SinkAt w B m xs) : Calls Try.prog 21 #[.pointer (some ⟨B, 0, none⟩)] w fun e w' => e = .returned (.int .i64 xs.length) ∧ w = w' := by
  obtain ⟨v, hB, hr⟩ := h
  obtain ⟨h0, h1, _, _⟩ := cells_two hB
  obtain ⟨a, c, rfl⟩ := row_slice hr
  clear hB hr
  go_enter Try.func21, Try.ntmps21
  go_wp2
  go_ret
  exact ⟨rfl, rfl⟩

theorem view_of_cells {w : World} {n c : Nat} {xs : List Int} (h : ∀ i, i < xs.length → w.cell? ⟨n, i, none⟩ = some (.int .i64 (xs.getD i 0))) (hn : n < w.heap.size) (hc : xs.length ≤ c) (hm : c ≤ maxLen) : View w (.slice (some ⟨n, 0, none⟩) xs.length c) xs :=
  ⟨_, c, rfl, ⟨hc, hm⟩, (fun h => by cases h), fun _ => ⟨n, 0, rfl, hn, hc, fun i hi => by rw [Nat.zero_add]; exact h i hi⟩⟩
theorem view1 (n : Nat) (a : Int) (w : World) (h0 : w.cell? ⟨n, 0, none⟩ = some (.int .i64 a)) : View w (.slice (some ⟨n, 0, none⟩) 1 1) [a] :=
  view_of_cells (xs := [a]) (c := 1) (fun i hi => by match i, hi with | 0, _ => exact h0) (World.block_lt_of_cell? w _ h0) (Nat.le_refl _) (by decide)
theorem view2 (n : Nat) (a b : Int) (w : World) (h0 : w.cell? ⟨n, 0, none⟩ = some (.int .i64 a)) (h1 : w.cell? ⟨n, 1, none⟩ = some (.int .i64 b)) : View w (.slice (some ⟨n, 0, none⟩) 2 2) [a, b] :=
  view_of_cells (xs := [a, b]) (c := 2) (fun i hi => by match i, hi with | 0, _ => exact h0 | 1, _ => exact h1) (World.block_lt_of_cell? w _ h0) (Nat.le_refl _) (by decide)
theorem dif1213 : DifAt [1, 2] [1, 3] 1 := by
  refine ⟨by decide, by decide, fun i hi => ?_, by decide, by decide, by decide⟩
  obtain rfl : i = 0 := by omega
  rfl
set_option maxHeartbeats 1000000 in
theorem works22 (w : World) : Calls Try.prog 18 #[] w fun e w' => e = .returned (.bool true) ∧ Below w.heap.size w w' := by
  go_enter Try.func18, Try.ntmps18
  go_wp2_with fail
  refine (new_any 2 _).mono ?_
  rintro e w0 ⟨rfl, hw0⟩
  have hs0 : SinkAt w0 w.heap.size 2 [] := by
    have := SinkAt.made w 2
    rw [← hw0]; exact this
  have hb0 : Below w.heap.size w w0 := by rw [← hw0]; exact (Below.refl _ _).alloc (Nat.le_refl _) _
  clear hw0
  go_wp2_with fail
  refine (emit_ok _ 2 5 _ _ hs0 (by decide) (by decide)).mono ?_
  rintro e w1 ⟨rfl, hs1, hb1⟩
  go_wp2_with fail
  refine (emit_ok _ 2 6 _ _ hs1 (by decide) (by decide)).mono ?_
  rintro e w2 ⟨rfl, hs2, hb2⟩
  go_wp2_with fail
  refine (emit_no _ 2 7 _ _ hs2 (by decide)).mono ?_
  rintro e w3 ⟨rfl, n3, hw3⟩
  have hb3 : Below w2.heap.size w2 w3 := by rw [hw3]; exact below_drewN (Below.refl _ _) _
  clear hw3
  have hs3 := hs2.below hb3
  go_wp2_with fail
  refine (differ_at _ _ [1, 2] [1, 3] 1 _ (view2 _ 1 2 _ (by go_simp) (by go_simp)) (view2 _ 1 3 _ (by go_simp) (by go_simp)) dif1213).mono ?_
  rintro e w4 ⟨rfl, n4, hw4⟩
  have hb4 : Below w3.heap.size w3 w4 := by rw [hw4]; exact below_drewN (((Below.refl _ _).alloc (Nat.le_refl _) _).alloc (by simp) _) _
  clear hw4
  have hs4 := hs3.below hb4
  go_wp2_with fail
  refine (len_any _ 2 ([] ++ [5] ++ [6]) _ hs4).mono ?_
  rintro e w5 ⟨rfl, rfl⟩
  go_wp2_with fail
  refine (begins_any _ _ [1] [1, 2] _ (view1 _ 1 _ (by go_simp)) (view2 _ 1 2 _ (by go_simp) (by go_simp))).mono ?_
  rintro e w6 ⟨rfl, n6, hw6⟩
  have hb6 : Below w4.heap.size w4 w6 := by rw [hw6]; exact below_drewN (((Below.refl _ _).alloc (Nat.le_refl _) _).alloc (by simp) _) _
  clear hw6
  rw [show preB [1] [1, 2] = true from by decide]
  go_wp2_with fail
  go_ret
  have h1 := hb0.size
  exact ⟨rfl, hb0.trans (hb1.trans (hb2.trans ((hb3.mono (by have := hb1.size; have := hb2.size; omega)).trans ((hb4.mono (by have := hb1.size; have := hb2.size; have := hb3.size; omega)).trans (hb6.mono (by have := hb1.size; have := hb2.size; have := hb3.size; have := hb4.size; omega))))))⟩

noncomputable def difK (xs ys : List Int) : Nat := if h : xs = ys then 0 else Classical.choose ((dif_or xs ys).resolve_left h)
theorem difK_same (xs : List Int) : difK xs xs = 0 := by unfold difK; rw [dif_pos rfl]
theorem difK_at (xs ys : List Int) (h : ¬ xs = ys) : DifAt xs ys (difK xs ys) := by
  unfold difK
  rw [dif_neg h]
  exact Classical.choose_spec ((dif_or xs ys).resolve_left h)
theorem differ_any (va vb : Value) (xs ys : List Int) (w : World) (hA : View w va xs) (hB : View w vb ys) :
    Calls Try.prog 25 #[va, vb] w fun e w' => e = .returned (.tuple #[.int .i64 (difK xs ys), .bool (!(xs == ys))]) ∧ ∃ n, w' = w.drewN n := by
  by_cases h : xs = ys
  · subst h
    rw [difK_same, beq_self_eq_true]
    exact differ_no va vb xs w hA hB
  · rw [show (xs == ys) = false from by simpa using h]
    exact differ_at va vb xs ys _ w hA hB (difK_at xs ys h)
theorem rdiffer_any (va vb : Value) (xs ys : List Int) (w : World) (hA : View w va xs) (hB : View w vb ys) :
    Calls Try.prog 26 #[va, vb] w fun e w' => e = .returned (.tuple #[.int .i64 (difK xs ys), .bool (!(xs == ys))]) ∧ ∃ n, w' = w.drewN n := by
  by_cases h : xs = ys
  · subst h
    rw [difK_same, beq_self_eq_true]
    exact rdiffer_no va vb xs w hA hB
  · rw [show (xs == ys) = false from by simpa using h]
    exact rdiffer_at va vb xs ys _ w hA hB (difK_at xs ys h)
end Go.Proofs.Ytpcpohbbmeonbab
