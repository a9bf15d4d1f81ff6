/- A slice value that reads as a list of whole numbers, and how it stays so. -/
import Derived.Test.YtbmndjedgedbdaaKit
import Derived.Laws.AppendOwn
import Derived.Laws.AppendOwnNone
import Derived.OwnWalk
namespace Go.Proofs.Ytbmndjedgedbdaa
open Go.ChangeShapes Go.WideShapes Go.ChangeAt Go.RowKit

/-- In world w the slice value v reads as the list xs. -/
def View (w : World) (v : Value) (xs : List Int) : Prop :=
  ∃ a cap, v = .slice a xs.length cap ∧ (xs.length ≤ cap ∧ cap ≤ maxLen) ∧ (a = none → xs.length = 0 ∧ cap = 0) ∧
    (xs ≠ [] → ∃ b off, a = some ⟨b, off, none⟩ ∧ b < w.heap.size ∧ xs.length ≤ cap ∧ ∀ i, i < xs.length → w.cell? ⟨b, off + i, none⟩ = some (.int .i64 (xs.getD i 0)))

theorem View.below {w w' : World} {v : Value} {xs : List Int} (h : View w v xs) (hb : Below w.heap.size w w') : View w' v xs := by
  obtain ⟨a, cap, hv, hm, hn, hc⟩ := h
  refine ⟨a, cap, hv, hm, hn, fun hne => ?_⟩
  obtain ⟨b, off, ha, hlt, hle, hcell⟩ := hc hne
  have hs := hb.size
  exact ⟨b, off, ha, Nat.lt_of_lt_of_le hlt hs, hle, fun i hi => (hb.cell (p := ⟨b, off + i, none⟩) hlt).trans (hcell i hi)⟩
theorem View.drewN {w : World} {v : Value} {xs : List Int} (h : View w v xs) (n : Nat) : View (w.drewN n) v xs := h.below (below_drewN (Below.refl _ _) n)
theorem View.nil (w : World) : View w (.slice none 0 0) [] := ⟨none, 0, rfl, ⟨Nat.le_refl _, by simp [maxLen]⟩, fun _ => ⟨rfl, rfl⟩, fun h => absurd rfl h⟩
theorem view_of_row {w : World} {a : Option Addr} {len cap : Nat} {zs : List Int} (h : IsRow .i64 w a len cap zs) : View w (.slice a len cap) (zs.take len) := by
  rcases h with ⟨rfl, rfl, rfl, rfl⟩ | ⟨x, rfl, hle, hm, hz, hc, _⟩
  · exact View.nil w
  · have hl : (zs.take len).length = len := by rw [List.length_take]; omega
    refine ⟨some x, cap, by rw [hl], ⟨by rw [hl]; exact hle, hm⟩, (fun h => by cases h), fun hne => ?_⟩
    have h0 : 0 < len := by
      rcases Nat.eq_zero_or_pos len with h | h
      · subst h; exact absurd (by simp) hne
      · exact h
    obtain ⟨b, off, rfl, hc'⟩ := ints_at hc (by omega)
    have h1 := hc' 0 (by omega)
    refine ⟨b, off, rfl, World.block_lt_of_cell? w _ h1, by rw [hl]; exact hle, fun i hi => ?_⟩
    rw [hl] at hi
    rw [hc' i (by omega)]
    simp [hi]
/-- The shapes of a view: empty, or cells. -/
theorem View.cases {w : World} {v : Value} {xs : List Int} (h : View w v xs) :
    (xs = [] ∧ ∃ a cap, v = .slice a 0 cap ∧ (a = none → cap = 0) ∧ cap ≤ maxLen) ∨
    (xs ≠ [] ∧ ∃ b off cap, v = .slice (some ⟨b, off, none⟩) xs.length cap ∧ xs.length ≤ cap ∧ b < w.heap.size ∧ xs.length ≤ maxLen ∧ ∀ i, i < xs.length → w.cell? ⟨b, off + i, none⟩ = some (.int .i64 (xs.getD i 0))) := by
  obtain ⟨a, cap, hv, hm, hn, hc⟩ := h
  by_cases hx : xs = []
  · subst hx; exact .inl ⟨rfl, a, cap, hv, fun h => (hn h).2, hm.2⟩
  · obtain ⟨b, off, rfl, hlt, hle, hcell⟩ := hc hx
    exact .inr ⟨hx, b, off, cap, hv, hle, hlt, Nat.le_trans hm.1 hm.2, hcell⟩

theorem info3 : (Try.prog.info? 3).map (fun i => (i.zero, i.size, i.bytes)) = some (some (.int .i64 0), 1, 8) := by kernel_rfl
theorem view_of_own {w : World} {base : Nat} {v : Value} {xs : List Int} (h : w.ownsRow base 3 1 v xs.length (xs.map (Value.int .i64))) : View w v xs := by
  obtain ⟨_, h⟩ := h
  rcases h with ⟨rfl, h0⟩ | ⟨g, cap, cur, rfl, _, hg, hle, hm, hsz, htk⟩
  · obtain rfl : xs = [] := List.eq_nil_of_length_eq_zero h0
    exact View.nil w
  · refine ⟨_, cap, rfl, ⟨hle, hm⟩, fun h => (by cases h), fun _ => ?_⟩
    have hlt : g < w.heap.size := by
      rcases Nat.lt_or_ge g w.heap.size with h | h
      · exact h
      · rw [Array.getElem?_eq_none h] at hg; cases hg
    refine ⟨g, 0, rfl, hlt, hle, fun i hi => ?_⟩
    have h1 : cur.toList[i]? = some (Value.int .i64 (xs.getD i 0)) := by
      have h2 := congrArg (fun l => l[i]?) htk
      simp only [Nat.mul_one] at h2
      rw [List.getElem?_take_of_lt hi] at h2
      rw [h2]; simp [hi]
    have h3 : cur[i]? = some (Value.int .i64 (xs.getD i 0)) := by simpa using h1
    rw [Nat.zero_add]
    simp [World.cell?, hg, h3]

theorem heap_made (w : World) (o : Obj) : (w.alloc o).heap[w.heap.size]? = some o := by
  show (w.heap.push _)[w.heap.size]? = _
  simp

/-- 'append([]int{}, x...)' of a view is a row of its own that holds the same list. -/
theorem wpList_copy_row {ops : Array Oper} {rest : List Oper} {o : Oper} {a : Act} {w : World} {Q : Exit → Act → World → Prop} (hgd : o.guard = none) (s x : Operand)
    (ho : o.op = .call { callee := .builtin .append, args := #[s, x], argTypes := #[25, 25] })
    (g B : Nat) (hs : a.eval s = .slice (some ⟨g, 0, none⟩) 0 0) (hown : w.heap[g]? = some (.cells #[] 3 (0, 0))) (hB : B ≤ g)
    (xs : List Int) (hx : View w (a.eval x) xs) (hsm : xs.length ≤ 100000)
    (h : ∀ v' w', w'.ownsRow B 3 1 v' xs.length (xs.map (Value.int .i64)) → Below B w w' → wpList Try.prog ops Q rest (a.put o.dst v') w') : wpList Try.prog ops Q (o :: rest) a w := by
  obtain ⟨i0, hi, hz0, hz1, hz2⟩ := info_parts info3
  have hrow : w.ownsRow B 3 1 (.slice (some ⟨g, 0, none⟩) 0 0) 0 [] := ⟨rfl, .inr ⟨g, 0, #[], rfl, hB, hown, Nat.le_refl _, by simp, rfl, rfl⟩⟩
  have hgl : g < w.heap.size := by
    rcases Nat.lt_or_ge g w.heap.size with h | h
    · exact h
    · rw [Array.getElem?_eq_none h] at hown; cases hown
  rcases hx.cases with ⟨rfl, ad, cap, hv, hn, _⟩ | ⟨hne, b, off, cap, hv, hle, hlt, hm, hc⟩
  · cases ad with
    | none =>
      obtain rfl := hn rfl
      refine wpList_append_own_none hgd s x 25 ho B 3 i0 1 Try.underlying25 hi _ 0 [] hs hrow hv (h _ _ hrow (Below.refl _ _))
    | some ad =>
      refine wpList_append_own w hgd s x 25 ho B 3 i0 (.int .i64 0) 1 8 Try.underlying25 hi hz0 hz1 hz2 rfl (by decide) _ 0 [] hs hrow ad 0 cap [] hv rfl (by simp) (by simp) (by simp [maxLen]) (by simp) (by omega) ?_
      intro v' w' h1 h2 _
      exact h _ _ (by simpa using h1) ((Below.refl _ _).grown h2 (by omega) (by intro k hk; simp [Value.ownBlock] at hk; omega))
  · refine wpList_append_own w hgd s x 25 ho B 3 i0 (.int .i64 0) 1 8 Try.underlying25 hi hz0 hz1 hz2 rfl (by decide) _ 0 [] hs hrow ⟨b, off, none⟩ xs.length cap (xs.map (Value.int .i64)) hv (by simp) ?_ (by intro u hu; obtain ⟨n, _, rfl⟩ := List.mem_map.1 hu; rfl) (by omega) (by omega) (by omega) ?_
    · intro j u hj
      have hj' : j < xs.length := by
        rcases Nat.lt_or_ge j xs.length with h | h
        · exact h
        · rw [List.getElem?_eq_none (by simpa using h)] at hj; cases hj
      have e : u = Value.int .i64 (xs.getD j 0) := by
        rw [List.getElem?_map, List.getElem?_eq_getElem hj'] at hj
        simp [hj'] at hj ⊢
        exact hj.symm
      subst e
      rw [Go.WideShapes.add_plain]
      exact hc j hj'
    · intro v' w' h1 h2 _
      exact h _ _ (by simpa using h1) ((Below.refl _ _).grown h2 (by omega) (by intro k hk; simp [Value.ownBlock] at hk; omega))


def RowPost (B : Nat) (xs : List Int) (w : World) (e : Ending) (w' : World) : Prop := ∃ v, e = .returned v ∧ w'.ownsRow B 3 1 v xs.length (xs.map (Value.int .i64)) ∧ Below B w w'
theorem clone_none (w : World) : Calls Try.prog 48 #[.slice none 0 0] w (RowPost w.heap.size [] w) := by
  have hs := @Lib.run_eql_slice_nil Try.prog
  go_enter Try.func48, Try.ntmps48
  go_wp2
  go_ret
  exact ⟨_, rfl, World.ownsRow_nil _ _ _ _, Below.refl _ _⟩
theorem clone_some (ad : Addr) (n c : Nat) (xs : List Int) (w : World) (hv : View w (.slice (some ad) n c) xs) (hsm : xs.length ≤ 100000) : Calls Try.prog 48 #[.slice (some ad) n c] w (RowPost w.heap.size xs w) := by
  have hs := @Lib.run_eql_slice_nil Try.prog
  go_enter Try.func48, Try.ntmps48
  go_wp2_with (at_builtin; refine wpList_copy_row rfl _ _ rfl w.heap.size w.heap.size rfl ?o1 (Nat.le_refl _) xs ?v1 hsm ?_)
  case o1 => exact heap_made w _
  case v1 => exact hv.below ((Below.refl _ _).alloc (Nat.le_refl _) _)
  intro v' w' h1 h2
  clear hv
  go_wp2
  go_ret
  exact ⟨_, rfl, h1, ((Below.refl _ _).alloc (Nat.le_refl _) _).trans h2⟩
theorem clone_any (va : Value) (xs : List Int) (w : World) (hv : View w va xs) (hsm : xs.length ≤ 100000) : Calls Try.prog 48 #[va] w (RowPost w.heap.size xs w) := by
  have hv' := hv
  obtain ⟨a, c, rfl, _, hn, _⟩ := hv
  cases a with
  | none =>
    obtain ⟨h1, h2⟩ := hn rfl
    obtain rfl : xs = [] := List.eq_nil_of_length_eq_zero h1
    subst h2
    exact clone_none w
  | some ad => exact clone_some ad _ c xs w hv' hsm
set_option maxHeartbeats 400000 in
/-- whether two lists are the same. -/
theorem ints_any (va vb : Value) (xs ys : List Int) (w : World) (hA : View w va xs) (hB : View w vb ys) :
    Calls Try.prog 21 #[va, vb] w fun e w' => e = .returned (.bool (xs == ys)) ∧ ∃ n, w' = w.drewN n := by
  by_cases hl : xs.length = ys.length
  · rcases hA.cases with ⟨rfl, a1, c1, rfl, _, _⟩ | ⟨hne, b1, o1, c1, rfl, hle1, hlt1, hm1, hc1⟩
    · obtain rfl : ys = [] := List.eq_nil_of_length_eq_zero hl.symm
      rcases hB.cases with ⟨_, a2, c2, rfl, _, _⟩ | ⟨hne, _⟩
      · clear hA hB hl
        go_enter Try.func21, Try.ntmps21
        go_wp2
        refine wp_loop_rounds 1 ?_
        rw [rounds_succ]
        go_wp2_with fail
        go_ret
        exact ⟨rfl, 0, rfl⟩
      · exact absurd rfl hne
    · rcases hB.cases with ⟨rfl, _⟩ | ⟨_, b2, o2, c2, rfl, hle2, hlt2, hm2, hc2⟩
      · exact absurd (List.eq_nil_of_length_eq_zero hl) hne
      · rw [← hl] at hc2 ⊢
        unfold maxLen at hm1
        obtain ⟨len, hlen⟩ : ∃ len, len = xs.length := ⟨_, rfl⟩
        rw [← hlen] at hc1 hc2 hm1 ⊢
        have HL := Lib.hid (And.intro hlen hl)
        have HC1 := Lib.hid hc1
        have HC2 := Lib.hid hc2
        clear hc1 hc2 hA hB hl hlen hle1 hle2 hm2 hne
        go_enter Try.func21, Try.ntmps21
        go_wp2
        go_loopw [5] (fun i wr => ∃ k n : Nat, k ≤ len ∧ i = .int .i64 k ∧ wr = w.drewN n ∧ Hid (∀ i, i < k → xs.getD i 0 = ys.getD i 0)) (fun i _ => len - (intOf i).toNat)
        case atStart => exact ⟨0, 0, Nat.zero_le _, rfl, rfl, fun i hi => absurd hi (by omega)⟩
        case round =>
          obtain ⟨k, n, hk, rfl, rfl, hall⟩ := hrel
          by_cases hlt : k < len
          · have h1 := HC1.out k hlt
            have h2 := HC2.out k hlt
            generalize hx : xs.getD k 0 = x at h1
            generalize hy : ys.getD k 0 = y at h2
            have HX := Lib.hid (And.intro hx hy)
            clear hx hy
            go_wp2_with fail
            go_quiet (fail)
            by_cases hxy : x = y
            · subst hxy
              go_wp2_with fail
              go_roundw
              case rel =>
                refine ⟨k + 1, _, by omega, by go_num, by first | rfl | (simp; rfl), ?_⟩
                intro i hi
                by_cases hik : i = k
                · rw [hik, HX.out.1, HX.out.2]
                · exact hall i (by omega)
              case measure => simp [intOf]; omega
            · have hb : (x != y) = true := by simpa using hxy
              have HN := Lib.hid hxy
              clear hxy
              go_wp2_with fail
              go_ret
              refine ⟨ret_bool ?_, _, by first | rfl | (simp; rfl)⟩
              symm
              simp only [beq_eq_false_iff_ne, ne_eq]
              intro e
              rw [e] at HX
              exact HN.out (HX.out.1.symm.trans HX.out.2)
          · go_wp2
            go_ret
            refine ⟨ret_bool ?_, _, rfl⟩
            symm
            simp only [beq_iff_eq]
            apply List.ext_getElem HL.out.2
            intro i h1 h2
            have h3 := hall i (by rw [HL.out.1] at hlt; omega)
            simpa [h1, h2] using h3
  · have e : (xs == ys) = false := by simp; intro h; exact hl (by rw [h])
    rw [e]
    obtain ⟨a1, c1, rfl, _, _, _⟩ := hA
    obtain ⟨a2, c2, rfl, _, _, _⟩ := hB
    have hd : ((xs.length : Int) != (ys.length : Int)) = true := by simp; omega
    clear e
    go_enter Try.func21, Try.ntmps21
    go_wp2
    go_ret
    exact ⟨rfl, 0, rfl⟩
theorem View.take {w : World} {a : Option Addr} {n c : Nat} {xs : List Int} (h : View w (.slice a n c) xs) (k : Nat) (hk : k ≤ xs.length) : View w (.slice a k c) (xs.take k) := by
  obtain ⟨a', c', hv, hm, hn, hc⟩ := h
  simp only [Value.slice.injEq] at hv
  obtain ⟨rfl, rfl, rfl⟩ := hv
  have hlen : (xs.take k).length = k := by rw [List.length_take]; omega
  refine ⟨_, _, by rw [hlen], ⟨by rw [hlen]; omega, hm.2⟩, fun h => ⟨by rw [hlen]; have := (hn h).1; omega, (hn h).2⟩, fun hne => ?_⟩
  have hy : xs ≠ [] := by intro h; rw [h] at hne; simp at hne
  obtain ⟨b, off, rfl, hlt, hle, hcc⟩ := hc hy
  refine ⟨b, off, rfl, hlt, by rw [hlen]; omega, fun i hi => ?_⟩
  rw [hlen] at hi
  rw [hcc i (by omega)]
  simp [List.getElem?_take_of_lt hi]
theorem View.len {w : World} {a : Option Addr} {n c : Nat} {xs : List Int} (h : View w (.slice a n c) xs) : n = xs.length ∧ n ≤ c ∧ c ≤ maxLen := by
  obtain ⟨a', c', hv, hm, hn, hc⟩ := h
  simp only [Value.slice.injEq] at hv
  obtain ⟨rfl, rfl, rfl⟩ := hv
  exact ⟨rfl, hm⟩
theorem view_of_cells {w : World} {n c : Nat} {xs : List Int} (h : ∀ i, i < xs.length → w.cell? ⟨n, i, none⟩ = some (.int .i64 (xs.getD i 0))) (hn : n < w.heap.size) (hc : xs.length ≤ c) (hm : c ≤ maxLen) : View w (.slice (some ⟨n, 0, none⟩) xs.length c) xs :=
  ⟨_, c, rfl, ⟨hc, hm⟩, (fun h => by cases h), fun _ => ⟨n, 0, rfl, hn, hc, fun i hi => by rw [Nat.zero_add]; exact h i hi⟩⟩
theorem view1 (n : Nat) (a : Int) (w : World) (h0 : w.cell? ⟨n, 0, none⟩ = some (.int .i64 a)) : View w (.slice (some ⟨n, 0, none⟩) 1 1) [a] :=
  view_of_cells (xs := [a]) (c := 1) (fun i hi => by match i, hi with | 0, _ => exact h0) (World.block_lt_of_cell? w _ h0) (Nat.le_refl _) (by decide)
theorem view2 (n : Nat) (a b : Int) (w : World) (h0 : w.cell? ⟨n, 0, none⟩ = some (.int .i64 a)) (h1 : w.cell? ⟨n, 1, none⟩ = some (.int .i64 b)) : View w (.slice (some ⟨n, 0, none⟩) 2 2) [a, b] :=
  view_of_cells (xs := [a, b]) (c := 2) (fun i hi => by match i, hi with | 0, _ => exact h0 | 1, _ => exact h1) (World.block_lt_of_cell? w _ h0) (Nat.le_refl _) (by decide)
end Go.Proofs.Ytbmndjedgedbdaa
