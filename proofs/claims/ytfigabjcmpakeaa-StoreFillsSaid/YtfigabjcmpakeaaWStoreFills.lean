/- From here on: the law StoreFills answers true. No condition. -/
import Derived.Test.YtfigabjcmpakeaaFill
namespace Go.Proofs.Ytfigabjcmpakeaa.storeFills
open Go.ChangeShapes Go.WideShapes Go.ChangeAt Go.RowKit
set_option linter.unusedVariables false
set_option linter.unusedSimpArgs false
def wants (a m n first : Int) (k : Nat) : List Int := (List.range k).map (fun j : Nat => if a ≤ (j : Int) ∧ (j : Int) < a + m then n else first)
theorem wants_len (a m n first : Int) (k : Nat) : (wants a m n first k).length = k := by simp [wants]
theorem wants_succ (a m n first : Int) (k : Nat) : wants a m n first (k + 1) = wants a m n first k ++ [if a ≤ (k : Int) ∧ (k : Int) < a + m then n else first] := by simp [wants, List.range_succ]
theorem own_base {w : World} {B e s n k : Nat} {v : Value} {xs : List Value} (h : w.ownsRow B e s v n xs) (hk : v.ownBlock = some k) : B ≤ k := by
  obtain ⟨_, ⟨rfl, _⟩ | ⟨g, cap, cur, rfl, hg, _⟩⟩ := h
  · cases hk
  · simp [Value.ownBlock] at hk
    omega
theorem below_app {w w0 w' : World} {v : Value} {k : Nat} {xs : List Value} {o : Obj} (hown : w.ownsRow w0.heap.size 3 1 v k xs) (hb : Below w0.heap.size w0 w) (hg : (w.alloc o).grownBy w' v.ownBlock) : Below w0.heap.size w0 w' :=
  (hb.alloc hb.size o).grown hg (Nat.le_trans hb.size (by simp)) (fun q hq => own_base hown hq)
set_option maxHeartbeats 4000000 in
set_option maxRecDepth 20000 in
theorem core (n0 : Nat) (a m n first : Int) (w : World) (hn : n0 ≤ 255) (ha1 : -1099511627776 ≤ a) (ha2 : a ≤ 1099511627776) (hm1 : -1099511627776 ≤ m) (hm2 : m ≤ 1099511627776) :
    Calls Try.prog 7 #[.int .u8 n0, .int .i64 a, .int .i64 m, .int .i64 n, .int .i64 first] w fun e w' => e = .returned (.bool true) ∧ Below w.heap.size w w' := by
  have d1 : decide ((1099511627776 : Int) < a) = false := by simp; omega
  have d2 : decide (a < -1099511627776) = false := by simp; omega
  have d3 : decide ((1099511627776 : Int) < m) = false := by simp; omega
  have d4 : decide (m < -1099511627776) = false := by simp; omega
  go_enter Try.func7, Try.ntmps7
  go_wp2_with (first | (go_at_call 15; refine (works09 _).mono ?_; rintro e w1 ⟨rfl, hb1⟩))
  refine (new_n n0 w1 (by omega)).mono ?_
  rintro e w2 ⟨rfl, hs, hb2⟩
  have hb := hb1.trans (hb2.mono hb1.size)
  have hg0 := hb1.size
  have hS0 : w.heap.size ≤ w1.heap.size + 1 := by omega
  have h : StoreH w2 (w1.heap.size + 1) w1.heap.size (List.replicate n0 0) .nilFunc := hs.h
  clear hb1 hb2 hs
  generalize w1.heap.size + 1 = S at *
  generalize w1.heap.size = g at *
  go_wp2_with fail
  refine (fill_any S g 0 n0 _ _ first w w2 h hb hg0 (by omega) (by omega) (by omega) (by rw [List.length_replicate]; omega)).mono ?_
  rintro e w3 ⟨rfl, xs, h, hk3, hb3, hl3, hx3⟩
  rw [List.length_replicate] at hl3 hx3
  have hxs : xs = List.replicate n0 first := by
    apply List.ext_getElem?
    intro j
    by_cases hj : j < n0
    · have := hx3 j hj
      rw [if_pos (by omega)] at this
      rw [List.getElem?_eq_getElem (by omega), List.getElem?_replicate_of_lt hj]
      rw [List.getD_eq_getElem?_getD, List.getElem?_eq_getElem (by omega)] at this
      simpa using this
    · rw [List.getElem?_eq_none (by omega), List.getElem?_eq_none (by simp; omega)]
  subst hxs
  clear hb hk3 hl3 hx3
  go_wp2_with fail
  obtain ⟨W, hW⟩ : ∃ W, W = w3.alloc (Obj.cells #[Value.int IntKind.i64 0] 3) := ⟨_, rfl⟩
  have cq : W.cell? ⟨w3.heap.size, 0, none⟩ = some (.int .i64 0) := by rw [hW]; go_simp
  have hbW : Below w3.heap.size w3 W := by rw [hW]; go_grown
  rw [← hW]
  clear hW
  have hq : w3.heap.size ≠ g ∧ w3.heap.size ≠ S := by have := h.facts.2.2.2.2.2.1; have := h.facts.2.2.2.2.1; omega
  replace h := h.below hbW
  have hb := hb3.trans (hbW.mono hb3.size)
  clear hb3 hbW
  generalize w3.heap.size = Q at *
  refine (hook_h S g _ _ Q w W h hb hS0).mono ?_
  rintro e w4 ⟨rfl, h, hk4, hb⟩
  replace cq := hk4.cell cq hq.2
  clear hk4
  go_wp2_with fail
  refine (fill_any S g a m _ _ n w w4 h hb hg0 (by omega) (by omega) (by omega) (by rw [List.length_replicate]; omega)).mono ?_
  rintro e w5 ⟨rfl, xs, h, hk5, hb, hl5, hx5⟩
  rw [List.length_replicate] at hl5 hx5
  replace cq := hk5.cell cq hq.1
  clear hk5
  go_wp2_with fail
  refine (all_h S g xs _ w5 h (by omega)).mono ?_
  rintro e w6 ⟨v, rfl, hv, hb6⟩
  have hV := view_of_own hv
  replace cq := (hb6.cell (p := ⟨Q, 0, none⟩) (World.block_lt_of_cell? _ _ cq)).trans cq
  replace hb := hb.trans (hb6.mono hb.size)
  have hw6 := hb.size
  clear hb6 hv h
  go_wp2_with fail
  obtain ⟨i0, hi, hz0, hz1, hz2⟩ := info_parts info3
  have hwm : wrap64 (a + m) = a + m := by unfold wrap64; omega
  have hwm2 : IntKind.i64.wrap (a + m) = a + m := by rw [IntKind.wrap_i64]; omega
  have hwn : IntKind.i64.wrap (n0 : Int) = n0 := by rw [IntKind.wrap_i64]; omega
  go_loopw [14, 15] (fun wv i wr => ∃ k : Nat, k ≤ n0 ∧ i = .int .i64 k ∧ wr.ownsRow w6.heap.size 3 1 wv k ((wants a m n first k).map (Value.int .i64)) ∧ Below w6.heap.size w6 wr) (fun _ i _ => n0 - (intOf i).toNat)
  case atStart => exact ⟨0, Nat.zero_le _, rfl, World.ownsRow_nil _ _ _ _, Below.refl _ _⟩
  case round =>
    obtain ⟨k, hk, rfl, hown, hbn⟩ := hrel
    by_cases hlt : k < n0
    · have hlt' : (k : Int) < (n0 : Int) := by omega
      by_cases h1 : a ≤ (k : Int)
      · by_cases h2 : (k : Int) < a + m
        · have hcv : (if a ≤ (k : Int) ∧ (k : Int) < a + m then n else first) = n := if_pos ⟨h1, h2⟩
          go_wp2_with (at_builtin; refine wpList_append_own _ rfl _ _ 26 rfl w6.heap.size 3 i0 (.int .i64 0) 1 8 Try.underlying26 hi hz0 hz1 hz2 rfl (by decide) _ _ _ rfl (hown.alloc _) ⟨wr.heap.size, 0, none⟩ 1 1 [.int .i64 n] rfl rfl (by intro j u hj; match j, hj with | 0, hj => (simp at hj; subst hj; simp [Addr.add])) (by intro u hu; simp at hu; subst hu; rfl) (by unfold maxLen; omega) (by omega) (Nat.le_trans hbn.size (by simp)) ?_)
          intro v' w' hown' hgrow _
          have hbn' := below_app hown hbn hgrow
          have hw' : wants a m n first (k + 1) = wants a m n first k ++ [n] := by rw [wants_succ, hcv]
          clear hown hgrow
          go_wp2_with fail
          go_roundw
          case rel => exact ⟨k + 1, by omega, by go_num, by rw [hw', List.map_append]; exact hown', hbn'⟩
          case measure => simp [intOf]; omega
        · have hcv : (if a ≤ (k : Int) ∧ (k : Int) < a + m then n else first) = first := if_neg (fun h => h2 h.2)
          go_wp2_with (at_builtin; refine wpList_append_own _ rfl _ _ 26 rfl w6.heap.size 3 i0 (.int .i64 0) 1 8 Try.underlying26 hi hz0 hz1 hz2 rfl (by decide) _ _ _ rfl (hown.alloc _) ⟨wr.heap.size, 0, none⟩ 1 1 [.int .i64 first] rfl rfl (by intro j u hj; match j, hj with | 0, hj => (simp at hj; subst hj; simp [Addr.add])) (by intro u hu; simp at hu; subst hu; rfl) (by unfold maxLen; omega) (by omega) (Nat.le_trans hbn.size (by simp)) ?_)
          intro v' w' hown' hgrow _
          have hbn' := below_app hown hbn hgrow
          have hw' : wants a m n first (k + 1) = wants a m n first k ++ [first] := by rw [wants_succ, hcv]
          clear hown hgrow
          go_wp2_with fail
          go_roundw
          case rel => exact ⟨k + 1, by omega, by go_num, by rw [hw', List.map_append]; exact hown', hbn'⟩
          case measure => simp [intOf]; omega
      · have hcv : (if a ≤ (k : Int) ∧ (k : Int) < a + m then n else first) = first := if_neg (fun h => h1 h.1)
        go_wp2_with (at_builtin; refine wpList_append_own _ rfl _ _ 26 rfl w6.heap.size 3 i0 (.int .i64 0) 1 8 Try.underlying26 hi hz0 hz1 hz2 rfl (by decide) _ _ _ rfl (hown.alloc _) ⟨wr.heap.size, 0, none⟩ 1 1 [.int .i64 first] rfl rfl (by intro j u hj; match j, hj with | 0, hj => (simp at hj; subst hj; simp [Addr.add])) (by intro u hu; simp at hu; subst hu; rfl) (by unfold maxLen; omega) (by omega) (Nat.le_trans hbn.size (by simp)) ?_)
        intro v' w' hown' hgrow _
        have hbn' := below_app hown hbn hgrow
        have hw' : wants a m n first (k + 1) = wants a m n first k ++ [first] := by rw [wants_succ, hcv]
        clear hown hgrow
        go_wp2_with fail
        go_roundw
        case rel => exact ⟨k + 1, by omega, by go_num, by rw [hw', List.map_append]; exact hown', hbn'⟩
        case measure => simp [intOf]; omega
    · obtain rfl : k = n0 := by omega
      have hxw : xs = wants a m n first k := by
        apply List.ext_getElem?
        intro j
        by_cases hj : j < k
        · have := hx5 j hj
          rw [List.getD_eq_getElem?_getD, List.getElem?_eq_getElem (by omega)] at this
          rw [List.getElem?_eq_getElem (by omega)]
          simp [wants, hj] at this ⊢
          exact this
        · rw [List.getElem?_eq_none (by omega), List.getElem?_eq_none (by rw [wants_len]; omega)]
      have hl6 := wants_len a m n first k
      subst hxw
      generalize wants a m n first k = xs at *
      have hV2 : View wr _ xs := view_of_own (base := w6.heap.size) (by rw [hl6]; exact hown)
      have hV1 := hV.below hbn
      have cq2 := (hbn.cell (p := ⟨Q, 0, none⟩) (World.block_lt_of_cell? _ _ cq)).trans cq
      have hbf := hb.trans (hbn.mono hb.size)
      clear hown hbn hV cq hb
      go_wp2_with fail
      refine (ints_any _ _ xs xs _ hV1 hV2).mono ?_
      rintro e wx ⟨rfl, nd, rfl⟩
      rw [beq_self_eq_true]
      go_wp2_with fail
      go_ret
      exact ⟨rfl, below_drewN hbf _⟩
theorem big (n0 a m n first : Int) (w : World) (h : 1099511627776 < a ∨ a < -1099511627776 ∨ 1099511627776 < m ∨ m < -1099511627776) :
    Calls Try.prog 7 #[.int .u8 n0, .int .i64 a, .int .i64 m, .int .i64 n, .int .i64 first] w fun e w' => e = .returned (.bool true) ∧ Below w.heap.size w w' := by
  by_cases h1 : 1099511627776 < a
  · clear h
    go_enter Try.func7, Try.ntmps7
    go_wp2_with (first | (go_at_call 15; refine (works09 _).mono ?_; rintro e w1 ⟨rfl, hb1⟩))
    go_ret
    exact ⟨rfl, hb1⟩
  by_cases h2 : a < -1099511627776
  · clear h
    go_enter Try.func7, Try.ntmps7
    go_wp2_with (first | (go_at_call 15; refine (works09 _).mono ?_; rintro e w1 ⟨rfl, hb1⟩))
    go_ret
    exact ⟨rfl, hb1⟩
  by_cases h3 : 1099511627776 < m
  · clear h
    go_enter Try.func7, Try.ntmps7
    go_wp2_with (first | (go_at_call 15; refine (works09 _).mono ?_; rintro e w1 ⟨rfl, hb1⟩))
    go_ret
    exact ⟨rfl, hb1⟩
  by_cases h4 : m < -1099511627776
  · clear h
    go_enter Try.func7, Try.ntmps7
    go_wp2_with (first | (go_at_call 15; refine (works09 _).mono ?_; rintro e w1 ⟨rfl, hb1⟩))
    go_ret
    exact ⟨rfl, hb1⟩
  · omega
theorem walk (a0 : Int) (a1 : Int) (a2 : Int) (a3 : Int) (a4 : Int) (w : World) (w0 : (Lit.int .u8 a0).wf = true) (w1 : (Lit.int .i64 a1).wf = true) (w2 : (Lit.int .i64 a2).wf = true) (w3 : (Lit.int .i64 a3).wf = true) (w4 : (Lit.int .i64 a4).wf = true) :
    Calls Try.prog 7 #[.int .u8 a0, .int .i64 a1, .int .i64 a2, .int .i64 a3, .int .i64 a4] w fun e w' => e = .returned (.bool true) ∧ Below w.heap.size w w' := by
  have h0 := bounds_u8 w0
  by_cases h : 1099511627776 < a1 ∨ a1 < -1099511627776 ∨ 1099511627776 < a2 ∨ a2 < -1099511627776
  · exact big a0 a1 a2 a3 a4 w h
  · obtain ⟨n0, rfl⟩ := Int.eq_ofNat_of_zero_le h0.1
    exact core n0 a1 a2 a3 a4 w (by omega) (by omega) (by omega) (by omega) (by omega)
end Go.Proofs.Ytfigabjcmpakeaa.storeFills
