/- Events of one's own, one of them changed; the number of the cut (layer 34). -/
import Derived.Test.YtgbeghaojkhiaaaTrQ
import Derived.Test.YtgbeghaojkhiaaaGrids
import Derived.Laws.Bits64
namespace Go.Proofs.Ytgbeghaojkhiaaa.tr
open Go.ChangeShapes Go.WideShapes Go.ChangeAt Go.RowKit Go.Maps
open Go.Proofs.Ytgbeghaojkhiaaa.ro
open Go.Proofs.Ytgbeghaojkhiaaa.gr (rec_new tr3 kb)
attribute [local go_sem ↓] Go.wp_at_zero Go.wp_at_succ
attribute [local go_sem] Oper.semAt_some
set_option linter.unusedVariables false
set_option linter.unusedSimpArgs false
def quadL (Z : Nat → Nat → Int) (n : Nat) : List I4 := (List.range n).map fun i => (Z i 0, Z i 1, Z i 2, Z i 3)
theorem rv_grid {w : World} {a : Option Addr} {len cap : Nat} {z : Nat → Nat → Int} (h : IsGrid [.i64, .i64, .i64, .i64] w a len cap z) : RV 4 enE w (.slice a len cap) (quadL z len) ∧ ∀ x ∈ quadL z len, (Lit.int .i64 x.2.1).wf = true := by
  have hlen : (quadL z len).length = len := by simp [quadL]
  rcases h with ⟨rfl, rfl, rfl⟩ | ⟨x, rfl, hl, hm, hc⟩
  · exact ⟨RV.nil _, fun x hx => by simp [quadL] at hx⟩
  · refine ⟨⟨some x, cap, by rw [hlen], by rw [hlen]; exact hl, hm, (fun h => by cases h), fun i q hq => ?_⟩, fun y hy => ?_⟩
    · have hi : i < len := by have := (List.getElem?_eq_some_iff.1 hq).1; rw [hlen] at this; exact this
      unfold quadL at hq
      rw [List.getElem?_map, List.getElem?_range hi] at hq
      obtain rfl := Option.some.inj hq
      obtain ⟨b, o, spot⟩ := x
      have h0 := (hc i (by omega) 0 .i64 rfl).1
      have hspot : spot = none := by simpa [Addr.add] using World.cell?_spot (hc 0 (by omega) 0 .i64 rfl).1
      subst hspot
      rw [Go.WideShapes.add_plain] at h0
      refine ⟨b, o, rfl, World.block_lt_of_cell? w _ h0, fun j u hu => ?_⟩
      rw [← Go.WideShapes.add_plain]
      match j, hu with
      | 0, hu => simp [enE] at hu; subst hu; exact (hc i (by omega) 0 .i64 rfl).1
      | 1, hu => simp [enE] at hu; subst hu; exact (hc i (by omega) 1 .i64 rfl).1
      | 2, hu => simp [enE] at hu; subst hu; exact (hc i (by omega) 2 .i64 rfl).1
      | 3, hu => simp [enE] at hu; subst hu; exact (hc i (by omega) 3 .i64 rfl).1
      | j + 4, hu => simp [enE] at hu
    · obtain ⟨i, hi, rfl⟩ := List.mem_map.1 hy
      exact (hc i (by have := List.mem_range.1 hi; omega) 1 .i64 rfl).2

theorem RV.take {w : World} {a : Option Addr} {n c : Nat} {es : List I4} (h : RV 4 enE w (.slice a n c) es) (k : Nat) (hk : k ≤ n) : RV 4 enE w (.slice a k c) (es.take k) := by
  obtain ⟨hl, hnc, hcm⟩ := h.len
  obtain ⟨a', cap, e, h1, h2, h3, h4⟩ := h
  rw [Value.slice.injEq] at e
  obtain ⟨rfl, rfl, rfl⟩ := e
  have hlen : (es.take k).length = k := by rw [List.length_take]; omega
  refine ⟨a, c, by rw [hlen], by rw [hlen]; omega, hcm, h3, fun i q hq => ?_⟩
  have hi : i < k := by have := (List.getElem?_eq_some_iff.1 hq).1; rw [hlen] at this; exact this
  rw [List.getElem?_take_of_lt hi] at hq
  exact h4 i q hq
set_option maxRecDepth 20000 in
set_option maxHeartbeats 2000000 in
theorem own_o (a : Option Addr) (n c : Nat) (es : List I4) (w : World) (h : RV 4 enE w (.slice a n c) es) (hn : n ≤ 1000) :
    Calls Try.prog 8 #[.slice a n c] w fun e w' => ∃ a' c', e = .returned (.slice a' n c') ∧ OR 4 enE w' w.heap.size 45 (.slice a' n c') es ∧ Below w.heap.size w w' := by
  have hln := h.len.1
  have hlen : es.length ≤ 1000000 := by omega
  have HLN := Lib.hid hln
  have HR := Lib.hid h
  clear h hln
  go_enter Try.func8, Try.ntmps8
  go_wp2_with ((at_builtin; refine wpList_copyR rfl _ _ 22 45 _ 32 rfl Try.underlying22 infoEv rfl (by decide) recE w.heap.size w.heap.size rfl (heap_new w _) (Nat.le_refl _) es (HR.out.below (by go_grown)) hlen ?_))
  intro v' w' ho hb
  obtain ⟨va, vc, hv⟩ := ho.form
  rw [← HLN.out] at hv
  subst hv
  have HO := Lib.hid ho
  have HB : Hid (Below w.heap.size w w') := Lib.hid ((show Below w.heap.size w (w.alloc (.cells #[] 45)) by go_grown).trans hb)
  clear ho hb
  go_wp2_with fail
  go_ret
  exact ⟨_, _, rfl, HO.out, HB.out⟩
theorem flat_set : ∀ (es : List I4) (i : Nat) (p q r s m : Int), es[i]? = some (p, q, r, s) → flat enE (es.set i (p, m, r, s)) = (flat enE es).set (i * 4 + 1) (.int .i64 m)
  | [], i, p, q, r, s, m, h => by simp at h
  | e :: l, 0, p, q, r, s, m, h => by
    simp only [List.getElem?_cons_zero, Option.some.injEq] at h
    subst h
    simp [flat, enE]
  | e :: l, i + 1, p, q, r, s, m, h => by
    have ih := flat_set l i p q r s m (by simpa using h)
    rw [List.set_cons_succ]
    show flat enE (e :: l.set i (p, m, r, s)) = (flat enE (e :: l)).set _ _
    have e1 : ∀ l : List I4, flat enE (e :: l) = .int .i64 e.1 :: .int .i64 e.2.1 :: .int .i64 e.2.2.1 :: .int .i64 e.2.2.2 :: flat enE l := fun l => rfl
    rw [e1, e1, ih, show (i + 1) * 4 + 1 = (i * 4 + 1) + 1 + 1 + 1 + 1 by omega]
    rfl
/-- one event's loop is another one now. -/
theorem OR.setE {w : World} {B g n c i : Nat} {es : List I4} {p q r s m : Int} (h : OR 4 enE w B 45 (.slice (some ⟨g, 0, none⟩) n c) es) (hi : es[i]? = some (p, q, r, s)) :
    OR 4 enE (w.setCell ⟨g, i * 4 + 1, none⟩ (.int .i64 m)) B 45 (.slice (some ⟨g, 0, none⟩) n c) (es.set i (p, m, r, s)) := by
  obtain ⟨hl, ⟨e0, _⟩ | ⟨g', cap, cur, e0, hB, hh, h1, h2, h3, h4⟩⟩ := h
  · cases e0
  · rw [Value.slice.injEq, Option.some.injEq, Addr.mk.injEq] at e0
    obtain ⟨⟨rfl, _, _⟩, rfl, rfl⟩ := e0
    refine ⟨by rw [flat_set es i p q r s m hi, List.length_set, List.length_set]; exact hl, .inr ⟨g, c, cur.set! (i * 4 + 1) (.int .i64 m), by rw [List.length_set], hB, set_blk w g _ _ hh, by rw [List.length_set]; exact h1, h2, by simpa using h3, ?_⟩⟩
    rw [List.length_set, flat_set es i p q r s m hi, ← h4]
    simp [List.take_set]
theorem OR.cellE {w : World} {B g n c i : Nat} {es : List I4} {p q r s : Int} (h : OR 4 enE w B 45 (.slice (some ⟨g, 0, none⟩) n c) es) (hi : es[i]? = some (p, q, r, s)) :
    w.cell? ⟨g, i * 4 + 1, none⟩ = some (.int .i64 q) ∧ w.frozen? ⟨g, i * 4 + 1, none⟩ = false ∧ B ≤ g := by
  have hr := (OR.rv recE h).at i _ hi
  obtain ⟨hl, ⟨e0, _⟩ | ⟨g', cap, cur, e0, hB, hh, h1, h2, h3, h4⟩⟩ := h
  · cases e0
  · rw [Value.slice.injEq, Option.some.injEq, Addr.mk.injEq] at e0
    obtain ⟨⟨rfl, _, _⟩, rfl, rfl⟩ := e0
    obtain ⟨b, o, e, _, hc⟩ := hr
    rw [Option.some.injEq, Addr.mk.injEq] at e
    obtain ⟨rfl, rfl, _⟩ := e
    have := hc 1 (.int .i64 q) rfl
    simp only [Nat.zero_add] at this
    exact ⟨this, frz hh _, hB⟩
/-- where the cut falls. -/
theorem cut_at (cut : Int) (n : Nat) (hn : n ≤ 1000) : ∃ k : Nat, wrap64 ((IntKind.u64.wrap cut).tmod ((n : Int) + 1)) = (k : Int) ∧ k ≤ n := by
  have h0 : 0 ≤ IntKind.u64.wrap cut := by rw [IntKind.wrap_u64]; omega
  obtain ⟨x, hx⟩ : ∃ x, IntKind.u64.wrap cut = x := ⟨_, rfl⟩
  rw [hx] at h0 ⊢
  rw [Int.tmod_eq_emod_of_nonneg h0]
  have h1 := Int.emod_nonneg x (show (n : Int) + 1 ≠ 0 by omega)
  have h2 := Int.emod_lt_of_pos x (show (0 : Int) < (n : Int) + 1 by omega)
  obtain ⟨y, hy⟩ : ∃ y, x % ((n : Int) + 1) = y := ⟨_, rfl⟩
  rw [hy] at h1 h2 ⊢
  refine ⟨y.toNat, ?_, by omega⟩
  unfold wrap64
  omega
end Go.Proofs.Ytgbeghaojkhiaaa.tr
