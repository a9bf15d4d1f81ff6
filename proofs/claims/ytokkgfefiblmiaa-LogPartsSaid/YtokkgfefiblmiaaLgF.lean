/- The last event; the events of a loop as the law gathers them (layer 24). -/
import Derived.Test.YtokkgfefiblmiaaLgE
import Derived.Laws.ResultCell
import Derived.Deep.Cut
namespace Go.Proofs.Ytokkgfefiblmiaa.lg
open Go.ChangeShapes Go.WideShapes Go.ChangeAt Go.RowKit Go.Maps
open Go.Proofs.Ytokkgfefiblmiaa.ro Go.Shelf
set_option linter.unusedVariables false
set_option linter.unusedSimpArgs false
attribute [local go_sem ↓] Go.wp_at_zero Go.wp_at_succ
attribute [local go_sem] Oper.semAt_some
set_option maxRecDepth 20000 in
theorem last_v {n0 A : Nat} {w : World} {v : Value} {es : List I4} (h : LG n0 w A v es) (N : Nat) (hN : es.length = N + 1) (hle : N ≤ 1000000) (k l i s : Int) (hx : es[N]? = some (k, l, i, s)) :
    Calls Try.prog 19 #[.pointer (some ⟨A, 0, none⟩), .int .i64 l, .int .i64 i] w fun e w' => e = .returned (.tuple #[.agg #[.int .i64 k, .int .i64 l, .int .i64 i, .int .i64 s], .bool true]) ∧ Below w.heap.size w w' := by
  have hA := lt_of h.o
  obtain ⟨g, cp, hv, hg, e0, e1, e2, e3⟩ := h.at hx
  have q0 : w.cell? ⟨A, 0, none⟩ = some (.slice (some ⟨g, 0, none⟩) (N + 1) cp) := by rw [← hN, ← hv]; exact cel h.o 0
  have HL : Hid (∀ W, Below w.heap.size w W → Calls Try.prog 20 #[.pointer (some ⟨A, 0, none⟩)] W fun e w' => e = .returned (.int .i64 ((N + 1 : Nat) : Int)) ∧ w' = W) := Lib.hid fun W hb => by rw [← hN]; exact len_v (h.below hb)
  have d1 : ((N + 1 : Nat) : Int) - 1 = (N : Int) := by omega
  have d2 : (0 : Int) ≤ (N : Int) := by omega
  have d3 : (N : Int) < ((N + 1 : Nat) : Int) := by omega
  clear h hv hx hN
  go_enter Try.func19, Try.ntmps19
  go_wp2_with (go_at_call 20; (with_reducible refine (HL.out _ (by go_grown)).mono ?_); rintro _ _ ⟨rfl, rfl⟩)
  have f0 := (cell_new_l w (.int .i64 0) 3).2
  go_loopw [8] (fun x wr => x = .int .i64 (N : Int) ∧ Below w.heap.size w wr ∧ wr.heap[w.heap.size]? = some (.cells #[.int .i64 0, .int .i64 0, .int .i64 0, .int .i64 0] 28 (0, 0))) (fun _ _ => 0)
  case atStart => exact ⟨by go_num, by go_grown, heap_new _ _⟩
  case round =>
    obtain ⟨rfl, hb, hbx⟩ := hrel
    have q0' : wr.cell? ⟨A, 0, none⟩ = _ := (hb.cell (p := ⟨A, 0, none⟩) hA).trans q0
    have e0' := (hb.cell (p := ⟨g, N * 4, none⟩) hg).trans e0
    have e1' := (hb.cell (p := ⟨g, N * 4 + 1, none⟩) hg).trans e1
    have e2' := (hb.cell (p := ⟨g, N * 4 + 2, none⟩) hg).trans e2
    have e3' := (hb.cell (p := ⟨g, N * 4 + 3, none⟩) hg).trans e3
    have gA := Nat.lt_of_lt_of_le hA hb.size
    have gg := Nat.lt_of_lt_of_le hg hb.size
    have gn := lt_of hbx
    have x0 := cel hbx 0
    have x1 := cel hbx 1
    have x2 := cel hbx 2
    have x3 := cel hbx 3
    have y0 := frz hbx 0
    have y1 := frz hbx 1
    have y2 := frz hbx 2
    have y3 := frz hbx 3
    have HB := Lib.hid hb
    clear q0 e0 e1 e2 e3 HL hA hg hbx hb f0 d1
    go_wp2_with fail
    refine bodyPost_ret (v := .tuple #[.agg #[.int .i64 k, .int .i64 l, .int .i64 i, .int .i64 s], .bool true]) ?_ rfl ⟨rfl, ?_⟩
    · rw [results_cell_tmp rfl]
      go_simp
    · refine Below.trans HB.out ?_
      go_grown
/-- What the law's function has gathered: n = the heap's size as the call began. -/
structure OK (w0 : World) (most : Int) (v u : Value) (xs : List I4) (ys : List Int) (W : World) : Prop where
  hx : W.heap[w0.heap.size + 1]? = some (.cells #[v] 22 (0, 0))
  ox : OR 4 enE W (w0.heap.size + 6) 28 v xs
  hy : W.heap[w0.heap.size + 2]? = some (.cells #[u] 29 (0, 0))
  oy : W.ownsRow (w0.heap.size + 6) 3 1 u ys.length (ys.map (Value.int .i64))
  m : W.heap[w0.heap.size]? = some (.cells #[.int .i64 most] 3 (0, 0))
  b : Below w0.heap.size w0 W
  z : w0.heap.size + 6 ≤ W.heap.size
def So (n : Nat) (b : Nat) : Prop := b = n + 3 ∨ b = n + 4 ∨ b = n + 5
theorem own_ty {W : World} {B B' e e' sz sz' : Nat} {v v' : Value} {k k' : Nat} {xs xs' : List Value} (h : W.ownsRow B e sz v k xs) (h' : W.ownsRow B' e' sz' v' k' xs') (hne : e ≠ e') : ∀ g, v.ownBlock = some g → v'.ownBlock ≠ some g := by
  intro g h1 h2
  obtain ⟨_, ⟨rfl, _⟩ | ⟨g1, c1, r1, rfl, _, hb1, _⟩⟩ := h
  · simp [Value.ownBlock] at h1
  · obtain ⟨_, ⟨rfl, _⟩ | ⟨g2, c2, r2, rfl, _, hb2, _⟩⟩ := h'
    · simp [Value.ownBlock] at h2
    · simp [Value.ownBlock] at h1 h2
      subst h1 h2
      rw [hb1] at hb2
      cases hb2
      exact hne rfl
section
variable {w0 W W' : World} {most : Int} {v u v' : Value} {xs xs' : List I4} {ys ys' : List Int}
theorem OK.below (h : OK w0 most v u xs ys W) (hb : Below W.heap.size W W') : OK w0 most v u xs ys W' :=
  ⟨blkb h.hx hb, h.ox.below hb, blkb h.hy hb, own_keep h.oy (fun g _ hlt _ => hb.block g hlt), blkb h.m hb, h.b.trans (hb.mono h.b.size), Nat.le_trans h.z hb.size⟩
theorem kpS_below {n : Nat} (hz : n + 6 ≤ W.heap.size) (hb : Below W.heap.size W W') : KpS n (So n) W W' :=
  ⟨hb.mono (by omega), fun b h => hb.block b (by rcases h with rfl | rfl | rfl <;> omega)⟩
theorem OK.app1 (h : OK w0 most v u xs ys W) (hg : W.grownBy W' v.ownBlock) (ho : OR 4 enE W' (w0.heap.size + 6) 28 v' xs') :
    W'.heap[w0.heap.size + 1]? = some (.cells #[v] 22 (0, 0)) ∧ OK w0 most v' u xs' ys (W'.setCell ⟨w0.heap.size + 1, 0, none⟩ v') ∧ KpS w0.heap.size (So w0.heap.size) W (W'.setCell ⟨w0.heap.size + 1, 0, none⟩ v') := by
  have hz := h.z
  have hs := hg.size
  have low : ∀ g, g < w0.heap.size + 6 → W'.heap[g]? = W.heap[g]? := fun g h1 => hg.block g (by omega) (fun e => by have := (h.ox.lt g e.symm).1; omega)
  have low2 : ∀ g, g < w0.heap.size + 6 → g ≠ w0.heap.size + 1 → (W'.setCell ⟨w0.heap.size + 1, 0, none⟩ v').heap[g]? = W.heap[g]? := fun g h1 h2 => (set_oth _ _ _ _ _ h2).trans (low g h1)
  have hb : Below w0.heap.size W (W'.setCell ⟨w0.heap.size + 1, 0, none⟩ v') := ((Below.refl w0.heap.size W).grown hg (by omega) (fun k e => by have := (h.ox.lt k e).1; omega)).setCell (p := ⟨w0.heap.size + 1, 0, none⟩) (by show w0.heap.size ≤ w0.heap.size + 1; omega) _
  have hbx := (low _ (by omega)).trans h.hx
  refine ⟨hbx, ⟨set_blk _ _ 0 _ hbx, OR.blk ho (fun g e => set_oth _ _ _ _ _ (by have := (ho.lt g e).1; omega)), (low2 _ (by omega) (by omega)).trans h.hy, ?_, (low2 _ (by omega) (by omega)).trans h.m, h.b.trans hb, by rw [set_size]; omega⟩, hb, fun b h => low2 b (by rcases h with rfl | rfl | rfl <;> omega) (by rcases h with rfl | rfl | rfl <;> omega)⟩
  have hty := own_ty h.ox h.oy (by decide)
  have hr1 : W'.ownsRow (w0.heap.size + 6) 3 1 u ys.length (ys.map (Value.int .i64)) := h.oy.kept hg (by
    cases e : v.ownBlock with
    | none => 
      cases e2 : u.ownBlock with
      | none => exact .inl rfl
      | some g => exact .inr (fun e3 => by cases e3)
    | some g => exact .inr (hty g e))
  exact own_keep hr1 (fun g hge _ _ => set_oth _ _ _ _ _ (by omega))
theorem OK.app2 (h : OK w0 most v u xs ys W) (hg : W.grownBy W' u.ownBlock) (ho : W'.ownsRow (w0.heap.size + 6) 3 1 v' ys'.length (ys'.map (Value.int .i64))) :
    W'.heap[w0.heap.size + 2]? = some (.cells #[u] 29 (0, 0)) ∧ OK w0 most v v' xs ys' (W'.setCell ⟨w0.heap.size + 2, 0, none⟩ v') ∧ KpS w0.heap.size (So w0.heap.size) W (W'.setCell ⟨w0.heap.size + 2, 0, none⟩ v') := by
  have hz := h.z
  have hs := hg.size
  have low : ∀ g, g < w0.heap.size + 6 → W'.heap[g]? = W.heap[g]? := fun g h1 => hg.block g (by omega) (fun e => by have := (own_lt h.oy g e.symm).1; omega)
  have low2 : ∀ g, g < w0.heap.size + 6 → g ≠ w0.heap.size + 2 → (W'.setCell ⟨w0.heap.size + 2, 0, none⟩ v').heap[g]? = W.heap[g]? := fun g h1 h2 => (set_oth _ _ _ _ _ h2).trans (low g h1)
  have hb : Below w0.heap.size W (W'.setCell ⟨w0.heap.size + 2, 0, none⟩ v') := ((Below.refl w0.heap.size W).grown hg (by omega) (fun k e => by have := (own_lt h.oy k e).1; omega)).setCell (p := ⟨w0.heap.size + 2, 0, none⟩) (by show w0.heap.size ≤ w0.heap.size + 2; omega) _
  have hbx := (low _ (by omega)).trans h.hy
  have hty := own_ty h.ox h.oy (by decide)
  refine ⟨hbx, ⟨(low2 _ (by omega) (by omega)).trans h.hx, OR.blk h.ox (fun g e => (set_oth _ _ _ _ _ (by have := (h.ox.lt g e).1; omega)).trans (hg.block g (h.ox.lt g e).2 (fun e2 => hty g e e2.symm))), set_blk _ _ 0 _ hbx, own_keep ho (fun g hge _ _ => set_oth _ _ _ _ _ (by omega)), (low2 _ (by omega) (by omega)).trans h.m, h.b.trans hb, by rw [set_size]; omega⟩, hb, fun b h => low2 b (by rcases h with rfl | rfl | rfl <;> omega) (by rcases h with rfl | rfl | rfl <;> omega)⟩
end
def OJ (w0 : World) (most : Int) (pre : List (Int × I4)) (W : World) : Prop := ∃ v u, OK w0 most v u (pre.map fun x => x.2) (pre.map fun x => x.1) W
theorem OR.form' {w : World} {B e : Nat} {v : Value} {xs : List I4} (h : OR 4 enE w B e v xs) : ∃ a n c, v = .slice a n c ∧ n = xs.length := by
  obtain ⟨a, c, e⟩ := OR.form h
  exact ⟨a, _, c, e, rfl⟩
set_option maxRecDepth 20000 in
set_option maxHeartbeats 1000000 in
theorem of1_v (w0 : World) (most : Int) (pre : List (Int × I4)) (W : World) (h : OJ w0 most pre W) (hl : pre.length ≤ 100000) (hm : (pre.length : Int) + 1 < most) (i a b c d : Int) :
    Calls Try.prog 26 #[.int .i64 i, .agg #[.int .i64 a, .int .i64 b, .int .i64 c, .int .i64 d], .pointer (some ⟨w0.heap.size + 1, 0, none⟩), .pointer (some ⟨w0.heap.size + 2, 0, none⟩), .pointer (some ⟨w0.heap.size, 0, none⟩)] W fun e W' => e = .returned (.bool true) ∧ OJ w0 most (pre ++ [(i, (a, b, c, d))]) W' ∧ KpS w0.heap.size (So w0.heap.size) W W' := by
  obtain ⟨v, u, hK⟩ := h
  obtain ⟨i0, hinf, hz0, hz1, hz2⟩ := info_parts infoI
  have hz := hK.z
  have cv := cel0 hK.hx
  have nv := lt_of hK.hx
  have HO : Hid (∀ W', Below W.heap.size W W' → OR 4 enE W' (w0.heap.size + 6) 28 v (pre.map fun x => x.2)) := Lib.hid fun W' hb => hK.ox.below hb
  have HZ : Hid (∀ W', Below W.heap.size W W' → w0.heap.size + 6 ≤ W'.heap.size) := Lib.hid fun W' hb => Nat.le_trans hz hb.size
  have hpl : (pre.map fun x => x.2).length ≤ 1000000 := by simp; omega
  have HA : Hid (∀ Wm w3 v', Below W.heap.size W Wm → Wm.grownBy w3 v.ownBlock → OR 4 enE w3 (w0.heap.size + 6) 28 v' ((pre.map fun x => x.2) ++ [(a, b, c, d)]) → w3.cell? ⟨w0.heap.size + 1, 0, none⟩ = some v ∧ w3.frozen? ⟨w0.heap.size + 1, 0, none⟩ = false ∧ Hid (OK w0 most v' u ((pre.map fun x => x.2) ++ [(a, b, c, d)]) (pre.map fun x => x.1) (w3.setCell ⟨w0.heap.size + 1, 0, none⟩ v') ∧ KpS w0.heap.size (So w0.heap.size) W (w3.setCell ⟨w0.heap.size + 1, 0, none⟩ v'))) := Lib.hid fun Wm w3 v' hb hg ho => by
    obtain ⟨h1, h2, h3⟩ := (hK.below hb).app1 hg ho
    exact ⟨cel0 h1, frz h1 0, Lib.hid ⟨h2, kpS_t (kpS_below hz hb) h3⟩⟩
  clear hK
  go_enter Try.func26, Try.ntmps26
  go_upto_region 2 with (at_builtin; refine wpList_appR (en := enE) rfl _ _ 22 28 _ 32 rfl Try.underlying22 infoE rfl (by decide) recE (w0.heap.size + 6) _ (pre.map fun x => x.2) rfl ⟨W.heap.size + 1, 0, none⟩ 1 rfl (a, b, c, d) (HO.out _ (by go_grown)) (rec_new (by go_simp) rfl) hpl (HZ.out _ (by go_grown)) ?_; intro v' w3 ho3 hg3 hor3; obtain ⟨va, vn, vc, rfl, hvn⟩ := OR.form' ho3; have HVN := Lib.hid hvn; clear hvn; obtain ⟨c3, z3, F3⟩ := HA.out _ w3 _ (by go_grown) hg3 ho3)
  all_goals
    clear HA HO HZ cv nv hor3
    obtain ⟨W2, hW2⟩ : ∃ W2, w3.setCell ⟨w0.heap.size + 1, 0, none⟩ (.slice va vn vc) = W2 := ⟨_, rfl⟩
    rw [hW2] at F3 ⊢
    clear ho3 hg3 c3 z3 hW2
    obtain ⟨hK, hKp⟩ := F3.out
    clear F3
    have hz2' := hK.z
    have cx := cel0 hK.hx
    have nx := lt_of hK.hx
    have cu := cel0 hK.hy
    have nu := lt_of hK.hy
    have cm := cel0 hK.m
    have nm := lt_of hK.m
    have hr := hK.oy
    have HA : Hid (∀ w3 v' n1 L, (W2.alloc (.cells #[.int .i64 i] 3)).grownBy w3 u.ownBlock → w3.ownsRow (w0.heap.size + 6) 3 1 v' n1 L → n1 = (pre.map fun x => x.1).length + 1 → L = (pre.map fun x => x.1).map (Value.int .i64) ++ [.int .i64 i] → w3.cell? ⟨w0.heap.size + 2, 0, none⟩ = some u ∧ w3.frozen? ⟨w0.heap.size + 2, 0, none⟩ = false ∧ Hid ((w3.setCell ⟨w0.heap.size + 2, 0, none⟩ v').cell? ⟨w0.heap.size + 1, 0, none⟩ = some (.slice va vn vc) ∧ (w3.setCell ⟨w0.heap.size + 2, 0, none⟩ v').cell? ⟨w0.heap.size, 0, none⟩ = some (.int .i64 most) ∧ w0.heap.size + 6 ≤ (w3.setCell ⟨w0.heap.size + 2, 0, none⟩ v').heap.size ∧ Hid (OJ w0 most (pre ++ [(i, (a, b, c, d))]) (w3.setCell ⟨w0.heap.size + 2, 0, none⟩ v') ∧ KpS w0.heap.size (So w0.heap.size) W (w3.setCell ⟨w0.heap.size + 2, 0, none⟩ v')))) := Lib.hid fun w3 v' n1 L hg ho h1 h2 => by
      subst h1 h2
      have ha : Below W2.heap.size W2 (W2.alloc (.cells #[.int .i64 i] 3)) := (Below.refl _ W2).alloc (Nat.le_refl _) _
      obtain ⟨h1, h2, h3⟩ := (hK.below ha).app2 (v' := v') (ys' := (pre.map fun x => x.1) ++ [i]) hg (by rw [List.map_append, List.length_append]; exact ho)
      have hOJ : OJ w0 most (pre ++ [(i, (a, b, c, d))]) (w3.setCell ⟨w0.heap.size + 2, 0, none⟩ v') := ⟨.slice va vn vc, v', by rw [List.map_append, List.map_append]; exact h2⟩
      exact ⟨cel0 h1, frz h1 0, Lib.hid ⟨cel0 h2.hx, cel0 h2.m, h2.z, Lib.hid ⟨hOJ, kpS_t hKp (kpS_t (kpS_below hz2' ha) h3)⟩⟩⟩
    have hvm : (vn : Int) < most := by rw [HVN.out]; simp; omega
    have hpl2 : (pre.map fun x => x.1).length ≤ 1000000 := by simp; omega
    clear hK hKp HVN
    go_upto_region 3 with (at_builtin; refine wpList_append_own _ rfl _ _ 29 rfl (w0.heap.size + 6) 3 i0 (.int .i64 0) 1 8 Try.underlying29 hinf hz0 hz1 hz2 rfl (by decide) _ _ _ rfl (hr.alloc _) ⟨W2.heap.size, 0, none⟩ 1 1 [.int .i64 i] rfl rfl (cell_one_new _ _ _) (ints_oneCell .i64 [i]) (by unfold maxLen; omega) (by omega) (by simp; omega) ?_; intro v' w3 hown' hgrow2 _; obtain ⟨vb, vm, vd, rfl⟩ := own_form hown'; obtain ⟨c3, z3, F3⟩ := HA.out w3 _ _ _ hgrow2 hown' rfl rfl)
    obtain ⟨W3, hW3⟩ : ∃ W3, w3.setCell ⟨w0.heap.size + 2, 0, none⟩ (.slice vb vm vd) = W3 := ⟨_, rfl⟩
    rw [hW3] at F3 ⊢
    clear hown' hgrow2 c3 z3 hW3 HA cx nx cu nu cm nm hr
    obtain ⟨g1, g2, g3, F4⟩ := F3.out
    clear F3
    go_wp2_with fail
    go_ret
    exact ⟨rfl, F4.out⟩
end Go.Proofs.Ytokkgfefiblmiaa.lg
