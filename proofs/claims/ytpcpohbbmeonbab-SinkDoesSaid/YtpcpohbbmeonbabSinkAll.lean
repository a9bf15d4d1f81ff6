/- More contracts: slices.Clone, a sink's All, and whether two lists are the same (of layer 5's laws). -/
import Derived.Test.YtpcpohbbmeonbabSinkRef
namespace Go.Proofs.Ytpcpohbbmeonbab
open Go.ChangeShapes Go.WideShapes Go.ChangeAt Go.RowKit
set_option linter.unusedVariables false
/-- 'append([]int{}, x...)' of a view is a row of its own that holds the same list. -/
theorem wpList_copy_row {ops : Array Oper} {rest : List Oper} {o : Oper} {a : Act} {w : World} {Q : Exit → Act → World → Prop} (hgd : o.guard = none) (s x : Operand)
    (ho : o.op = .call { callee := .builtin .append, args := #[s, x], argTypes := #[26, 26] })
    (g B : Nat) (hs : a.eval s = .slice (some ⟨g, 0, none⟩) 0 0) (hown : w.heap[g]? = some (.cells #[] 3 (0, 0))) (hB : B ≤ g)
    (xs : List Int) (hx : View w (a.eval x) xs) (hsm : xs.length ≤ 100000)
    (h : ∀ v' w', w'.ownsRow B 3 1 v' xs.length (xs.map (Value.int .i64)) → Below B w w' → wpList Try.prog ops Q rest (a.put o.dst v') w') : wpList Try.prog ops Q (o :: rest) a w := by
  obtain ⟨i0, hi, hz0, hz1, hz2⟩ := info_parts info3
  have hrow : w.ownsRow B 3 1 (.slice (some ⟨g, 0, none⟩) 0 0) 0 [] := ⟨rfl, .inr ⟨g, 0, #[], rfl, hB, hown, Nat.le_refl _, by simp, rfl, rfl⟩⟩
  have hgl : g < w.heap.size := by
    rcases Nat.lt_or_ge g w.heap.size with h | h
    · exact h
    · rw [Array.getElem?_eq_none h] at hown; cases hown
  rcases hx.cases with ⟨rfl, ad, cap, hv, hn, _⟩ | ⟨hne, b, off, cap, hv, hle, hlt, hm, hc⟩
  · cases ad with
    | none =>
      obtain rfl := hn rfl
      refine wpList_append_own_none hgd s x 26 ho B 3 i0 1 Try.underlying26 hi _ 0 [] hs hrow hv (h _ _ hrow (Below.refl _ _))
    | some ad =>
      refine wpList_append_own w hgd s x 26 ho B 3 i0 (.int .i64 0) 1 8 Try.underlying26 hi hz0 hz1 hz2 rfl (by decide) _ 0 [] hs hrow ad 0 cap [] hv rfl (by simp) (by simp) (by simp [maxLen]) (by simp) (by omega) ?_
      intro v' w' h1 h2 _
      exact h _ _ (by simpa using h1) ((Below.refl _ _).grown h2 (by omega) (by intro k hk; simp [Value.ownBlock] at hk; omega))
  · refine wpList_append_own w hgd s x 26 ho B 3 i0 (.int .i64 0) 1 8 Try.underlying26 hi hz0 hz1 hz2 rfl (by decide) _ 0 [] hs hrow ⟨b, off, none⟩ xs.length cap (xs.map (Value.int .i64)) hv (by simp) ?_ (by intro u hu; obtain ⟨n, _, rfl⟩ := List.mem_map.1 hu; rfl) (by omega) (by omega) (by omega) ?_
    · intro j u hj
      have hj' : j < xs.length := by
        rcases Nat.lt_or_ge j xs.length with h | h
        · exact h
        · rw [List.getElem?_eq_none (by simpa using h)] at hj; cases hj
      have e : u = Value.int .i64 (xs.getD j 0) := by
        rw [List.getElem?_map, List.getElem?_eq_getElem hj'] at hj
        simp [hj'] at hj ⊢
        exact hj.symm
      subst e
      rw [Go.WideShapes.add_plain]
      exact hc j hj'
    · intro v' w' h1 h2 _
      exact h _ _ (by simpa using h1) ((Below.refl _ _).grown h2 (by omega) (by intro k hk; simp [Value.ownBlock] at hk; omega))


def RowPost (B : Nat) (xs : List Int) (w : World) (e : Ending) (w' : World) : Prop := ∃ v, e = .returned v ∧ w'.ownsRow B 3 1 v xs.length (xs.map (Value.int .i64)) ∧ Below B w w'
theorem clone_none (w : World) : Calls Try.prog 35 #[.slice none 0 0] w (RowPost w.heap.size [] w) := by
  have hs := @Lib.run_eql_slice_nil Try.prog
  go_enter Try.func35, Try.ntmps35
  go_wp2
  go_ret
  exact ⟨_, rfl, World.ownsRow_nil _ _ _ _, Below.refl _ _⟩
theorem clone_some (ad : Addr) (n c : Nat) (xs : List Int) (w : World) (hv : View w (.slice (some ad) n c) xs) (hsm : xs.length ≤ 100000) : Calls Try.prog 35 #[.slice (some ad) n c] w (RowPost w.heap.size xs w) := by
  have hs := @Lib.run_eql_slice_nil Try.prog
  go_enter Try.func35, Try.ntmps35
  go_wp2_with (at_builtin; refine wpList_copy_row rfl _ _ rfl w.heap.size w.heap.size rfl ?o1 (Nat.le_refl _) xs ?v1 hsm ?_)
  case o1 => exact heap_made w _
  case v1 => exact hv.below ((Below.refl _ _).alloc (Nat.le_refl _) _)
  intro v' w' h1 h2
  clear hv
  go_wp2
  go_ret
  exact ⟨_, rfl, h1, ((Below.refl _ _).alloc (Nat.le_refl _) _).trans h2⟩
theorem clone_any (va : Value) (xs : List Int) (w : World) (hv : View w va xs) (hsm : xs.length ≤ 100000) : Calls Try.prog 35 #[va] w (RowPost w.heap.size xs w) := by
  have hv' := hv
  obtain ⟨a, c, rfl, _, hn, _⟩ := hv
  cases a with
  | none =>
    obtain ⟨h1, h2⟩ := hn rfl
    obtain rfl : xs = [] := List.eq_nil_of_length_eq_zero h1
    subst h2
    exact clone_none w
  | some ad => exact clone_some ad _ c xs w hv' hsm
theorem all_any (B : Nat) (m : Int) (xs : List Int) (w : World) (h : SinkAt w B m xs) (hsm : xs.length ≤ 100000) : Calls Try.prog 22 #[.pointer (some ⟨B, 0, none⟩)] w (RowPost w.heap.size xs w) := by
  obtain ⟨v, hB, hr⟩ := h
  obtain ⟨h0, h1, _, _⟩ := cells_two hB
  have hV := view_of_own hr
  clear hB hr
  go_enter Try.func22, Try.ntmps22
  go_wp2_with fail
  refine (clone_any _ xs _ hV hsm).mono ?_
  rintro e w' ⟨v', rfl, h1, h2⟩
  clear hV h0
  go_wp2_with fail
  go_ret
  exact ⟨_, rfl, h1, h2⟩
theorem all_nil (w : World) : Calls Try.prog 22 #[.pointer none] w fun e w' => e = .returned (.slice none 0 0) ∧ w = w' := by
  go_enter Try.func22, Try.ntmps22
  go_wp2
  go_ret
  exact ⟨rfl, rfl⟩
theorem len_nil (w : World) : Calls Try.prog 21 #[.pointer none] w fun e w' => e = .returned (.int .i64 0) ∧ w = w' := by
  go_enter Try.func21, Try.ntmps21
  go_wp2
  go_ret
  exact ⟨rfl, rfl⟩
set_option maxHeartbeats 400000 in
/-- whether two lists are the same. -/
theorem ints_any (va vb : Value) (xs ys : List Int) (w : World) (hA : View w va xs) (hB : View w vb ys) :
    Calls Try.prog 23 #[va, vb] w fun e w' => e = .returned (.bool (xs == ys)) ∧ ∃ n, w' = w.drewN n := by
  by_cases hl : xs.length = ys.length
  · rcases hA.cases with ⟨rfl, a1, c1, rfl, _, _⟩ | ⟨hne, b1, o1, c1, rfl, hle1, hlt1, hm1, hc1⟩
    · obtain rfl : ys = [] := List.eq_nil_of_length_eq_zero hl.symm
      rcases hB.cases with ⟨_, a2, c2, rfl, _, _⟩ | ⟨hne, _⟩
      · clear hA hB hl
        go_enter Try.func23, Try.ntmps23
        go_wp2
        refine wp_loop_rounds 1 ?_
        rw [rounds_succ]
        go_wp2_with fail
        go_ret
        exact ⟨rfl, 0, rfl⟩
      · exact absurd rfl hne
    · rcases hB.cases with ⟨rfl, _⟩ | ⟨_, b2, o2, c2, rfl, hle2, hlt2, hm2, hc2⟩
      · exact absurd (List.eq_nil_of_length_eq_zero hl) hne
      · rw [← hl] at hc2 ⊢
        unfold maxLen at hm1
        obtain ⟨len, hlen⟩ : ∃ len, len = xs.length := ⟨_, rfl⟩
        rw [← hlen] at hc1 hc2 hm1 ⊢
        have HL := Lib.hid (And.intro hlen hl)
        have HC1 := Lib.hid hc1
        have HC2 := Lib.hid hc2
        clear hc1 hc2 hA hB hl hlen hle1 hle2 hm2 hne
        go_enter Try.func23, Try.ntmps23
        go_wp2
        go_loopw [5] (fun i wr => ∃ k n : Nat, k ≤ len ∧ i = .int .i64 k ∧ wr = w.drewN n ∧ Hid (∀ i, i < k → xs.getD i 0 = ys.getD i 0)) (fun i _ => len - (intOf i).toNat)
        case atStart => exact ⟨0, 0, Nat.zero_le _, rfl, rfl, fun i hi => absurd hi (by omega)⟩
        case round =>
          obtain ⟨k, n, hk, rfl, rfl, hall⟩ := hrel
          by_cases hlt : k < len
          · have h1 := HC1.out k hlt
            have h2 := HC2.out k hlt
            generalize hx : xs.getD k 0 = x at h1
            generalize hy : ys.getD k 0 = y at h2
            have HX := Lib.hid (And.intro hx hy)
            clear hx hy
            go_wp2_with fail
            go_quiet (fail)
            by_cases hxy : x = y
            · subst hxy
              go_wp2_with fail
              go_roundw
              case rel =>
                refine ⟨k + 1, _, by omega, by go_num, by first | rfl | (simp; rfl), ?_⟩
                intro i hi
                by_cases hik : i = k
                · rw [hik, HX.out.1, HX.out.2]
                · exact hall i (by omega)
              case measure => simp [intOf]; omega
            · have hb : (x != y) = true := by simpa using hxy
              have HN := Lib.hid hxy
              clear hxy
              go_wp2_with fail
              go_ret
              refine ⟨ret_bool ?_, _, by first | rfl | (simp; rfl)⟩
              symm
              simp only [beq_eq_false_iff_ne, ne_eq]
              intro e
              rw [e] at HX
              exact HN.out (HX.out.1.symm.trans HX.out.2)
          · go_wp2
            go_ret
            refine ⟨ret_bool ?_, _, rfl⟩
            symm
            simp only [beq_iff_eq]
            apply List.ext_getElem HL.out.2
            intro i h1 h2
            have h3 := hall i (by rw [HL.out.1] at hlt; omega)
            simpa [h1, h2] using h3
  · have e : (xs == ys) = false := by simp; intro h; exact hl (by rw [h])
    rw [e]
    obtain ⟨a1, c1, rfl, _, _, _⟩ := hA
    obtain ⟨a2, c2, rfl, _, _, _⟩ := hB
    have hd : ((xs.length : Int) != (ys.length : Int)) = true := by simp; omega
    clear e
    go_enter Try.func23, Try.ntmps23
    go_wp2
    go_ret
    exact ⟨rfl, 0, rfl⟩
end Go.Proofs.Ytpcpohbbmeonbab
