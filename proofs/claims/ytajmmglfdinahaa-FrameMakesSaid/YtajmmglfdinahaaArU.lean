/- Those of an arena that are taken, one behind the other, for every loop body; how many they are (layer 10). -/
import Derived.RangeFuncNested
import Derived.RangeFuncBound
import Derived.RangeFuncCalls
import Derived.RangeFuncLeaves
import Derived.RangeFuncFrom
import Derived.RangeFuncBox
import Derived.Shelf.Abstract
import Derived.Shelf.RegionOpen
import Derived.WalkKit
import Derived.OwnWalkIn
import Derived.TacticsInMore
import Derived.LoopNIn
import Derived.LoopIn
import Derived.Test.YtajmmglfdinahaaArD
namespace Go.Proofs.Ytajmmglfdinahaa.ar
open Go.ChangeShapes Go.WideShapes Go.ChangeAt Go.RowKit Go.Shelf
set_option linter.unusedVariables false
set_option linter.unusedSimpArgs false
attribute [local go_sem] Oper.semAt_some
/-- The numbers taken among the first k. -/
def ups (hs : List Bool) : Nat → List Int
  | 0 => []
  | k + 1 => if hs.getD k false then ups hs k ++ [(k : Int) + 1] else ups hs k
theorem ups_s (hs : List Bool) (k : Nat) : ups hs (k + 1) = if hs.getD k false then ups hs k ++ [(k : Int) + 1] else ups hs k := rfl
theorem ups_len (hs : List Bool) (k : Nat) (hk : k ≤ hs.length) : (ups hs k).length = (hs.take k).count true := by
  induction k with
  | zero => simp [ups]
  | succ k ih =>
    have hlt : k < hs.length := by omega
    have ih := ih (by omega)
    rw [List.take_succ_eq_append_getElem hlt, List.count_append, ups_s, List.getD_eq_getElem?_getD, List.getElem?_eq_getElem hlt]
    cases h : hs[k] <;> simp [ih]
theorem ups_all (hs : List Bool) : (ups hs hs.length).length = hs.count true := by
  rw [ups_len hs hs.length (Nat.le_refl _), List.take_length]
theorem ups_le (hs : List Bool) (k : Nat) : (ups hs k).length ≤ k := by
  induction k with
  | zero => simp [ups]
  | succ k ih => rw [ups_s]; split <;> (try simp only [List.length_append, List.length_cons, List.length_nil]) <;> omega
theorem ups_pre (hs : List Bool) (j : Nat) : ∀ d, ups hs j <+: ups hs (j + d) := by
  intro d
  induction d with
  | zero => exact List.prefix_refl _
  | succ d ih =>
    rw [show j + (d + 1) = (j + d) + 1 by omega, ups_s]
    split
    · exact ih.trans (List.prefix_append _ _)
    · exact ih
theorem ups_lt (hs : List Bool) (k : Nat) (hk : k < hs.length) (h : hs.getD k false = true) : (ups hs k).length < (ups hs hs.length).length := by
  have h1 := (ups_pre hs (k + 1) (hs.length - (k + 1))).length_le
  rw [show k + 1 + (hs.length - (k + 1)) = hs.length by omega] at h1
  have h2 : (ups hs (k + 1)).length = (ups hs k).length + 1 := by
    rw [ups_s, if_pos h]; simp
  omega
theorem ups_succ (hs : List Bool) (k : Nat) (h : hs.getD k false = true) : ups hs k ++ [(k : Int) + 1] = ups hs (k + 1) := by
  rw [ups_s, if_pos h]
theorem ups_miss (hs : List Bool) (k : Nat) (h : hs.getD k false = false) : ups hs k = ups hs (k + 1) := by
  rw [ups_s, if_neg (by simp only [h]; decide)]
theorem eq_yield (l : Nat) (w : World) : (binOp .eql 32 (.func (.yield l) #[] #[]) .nilFunc).run Try.prog w = .ok (.bool false) w := by kernel_rfl
/-- What a round keeps: all that lay below, and the box in which the arena's address lies. -/
def KpA (n₀ Bn : Nat) (W W' : World) : Prop := Below n₀ W W' ∧ W'.heap[Bn]? = W.heap[Bn]?
set_option maxRecDepth 100000 in
set_option maxHeartbeats 1000000 in
theorem all1_in (F : Fence) (n : Nat) (h6 : F.fn 79) (hro : F.round = none) (hn : 1 ≤ n) (l Bn : Nat) (S : Nat → Prop) (B A : Nat) (m p : Int) (hv bv : Value) (hs : List Bool) (bk : List Int) (w0 : World) (hl : hs.length ≤ 100000)
    (hA : AS S B A w0 m (hs.length : Int) p hv bv hv bv hs bk) (J Jx : List Int → World → Prop)
    (hY : ∀ pre x W, J pre W → pre.length < (ups hs hs.length).length → YieldAt F (n - 1) Try.prog l #[.int .i64 x] W fun e W' =>
      (e = .returned (.bool true) ∧ J (pre ++ [x]) W' ∧ KpA w0.heap.size Bn W W') ∨ (e = .returned (.bool false) ∧ Jx (pre ++ [x]) W'))
    (W : World) (hbW : Below w0.heap.size w0 W) (hBn : W.cell? ⟨Bn, 0, none⟩ = some (.pointer (some ⟨A, 0, none⟩))) (h0 : J [] W) :
    CallsIn F n Try.prog 79 #[.func (.yield l) #[] #[], .pointer (some ⟨Bn, 0, none⟩)] W fun e W' => (∃ v, e = .returned v) ∧
      ((∃ ys, ys = ups hs hs.length ∧ J ys W') ∨ (∃ pre, pre <+: ups hs hs.length ∧ Jx pre W')) := by
  have HA := Lib.hid hA
  clear hA
  have hnf := eq_yield l
  refine callsIn_of_wp Try.func79 rfl h6 ?_ hro
  simp only [Try.ntmps79, List.size_toArray, List.length_cons, List.length_nil, Nat.reduceAdd, Nat.reduceSub, Array.replicate_succ, Array.replicate_zero, List.push_toArray, List.append_toArray, List.nil_append, List.cons_append]
  gi_wp2
  gi_loopw [3] (fun i wr => ∃ k : Nat, k ≤ hs.length ∧ i = .int .i64 ((k : Int) + 1) ∧ Below w0.heap.size w0 wr ∧ wr.cell? ⟨Bn, 0, none⟩ = some (.pointer (some ⟨A, 0, none⟩)) ∧ J (ups hs k) wr)
    (fun i _ => hs.length + 1 - (intOf i).toNat)
  case atStart => exact ⟨0, Nat.zero_le _, rfl, hbW, hBn, h0⟩
  case round =>
    obtain ⟨k, hk, rfl, hb, hBr, hJ⟩ := hrel
    have hAr := HA.out.below hb
    obtain ⟨c0, c1, c2, c3, c4, cf⟩ := hAr.cells
    clear hBn hbW h0 cf
    by_cases hlt : k < hs.length
    · obtain ⟨g, cap, rfl, hcap, hg, hgl⟩ := row_some hAr.rh (by omega)
      obtain ⟨b, hbv⟩ : ∃ b, hs[k]? = some b := ⟨hs[k], by simp⟩
      have ck := row_at hAr.rh (j := k) (u := .bool b) (by simp [hbv])
      have hgd : hs.getD k false = b := by rw [List.getD_eq_getElem?_getD, hbv]; rfl
      have e1 : (k : Int) + 1 - 1 = (k : Int) := by omega
      have e2 : (0 : Int) ≤ (k : Int) := by omega
      have e3 : (k : Int) < (hs.length : Int) := by omega
      have e4 : (k : Int).toNat = k := by omega
      have e5 : (k : Int) + 1 ≤ (hs.length : Int) := by omega
      clear hAr hbv
      cases b
      · have HJ := Lib.hid (ups_miss hs k hgd ▸ hJ)
        clear hgd hJ hY
        gi_wp2
        refine ⟨fun _ h => (by cases h), ?_⟩
        gi_wp2
        go_roundw
        case rel => exact ⟨k + 1, by omega, by go_num, hb, hBr, HJ.out⟩
        case measure => simp [intOf]; omega
      · obtain ⟨fn, tmps, assign, body, hy, hR⟩ := hY (ups hs k) ((k : Int) + 1) wr hJ (ups_lt hs k hlt hgd)
        have HG := Lib.hid (ups_succ hs k hgd)
        clear hgd hJ hY
        gi_wp2
        refine hR.mono ?_
        rintro e W3 (⟨rfl, hJ3, hk3⟩ | ⟨rfl, hJx3⟩)
        · have hB3 : W3.cell? ⟨Bn, 0, none⟩ = some (.pointer (some ⟨A, 0, none⟩)) := by
            rw [← hBr]; simp only [World.cell?, hk3.2]
          have hb3 := hb.trans hk3.1
          have HJ := Lib.hid (HG.out ▸ hJ3)
          clear hJ3 hk3 hb c0 c1 c2 c3 c4 ck hBr
          gi_wp2
          go_roundw
          case rel => exact ⟨k + 1, by omega, by go_num, hb3, hB3, HJ.out⟩
          case measure => simp [intOf]; omega
        · have HP : Hid (ups hs k ++ [(k : Int) + 1] <+: ups hs hs.length) := Lib.hid (by
            rw [HG.out]
            have := ups_pre hs (k + 1) (hs.length - (k + 1))
            rwa [show k + 1 + (hs.length - (k + 1)) = hs.length by omega] at this)
          gi_wp2
          refine bodyPost_ret (results_none rfl _ _ _) rfl ?_
          exact ⟨⟨_, rfl⟩, .inr ⟨_, HP.out, hJx3⟩⟩
    · obtain rfl : k = hs.length := by omega
      have HJ := Lib.hid hJ
      clear hJ hY hAr
      gi_wp2
      go_end0
      exact ⟨⟨_, rfl⟩, .inl ⟨_, rfl, HJ.out⟩⟩
theorem all_in (F : Fence) (n : Nat) (h5 : F.fn 60) (hro : F.round = none) (p0 : Option Addr) (w : World) :
    CallsIn F n Try.prog 60 #[.pointer p0] w fun e w' => e = .returned (.func (.func 79) #[] #[.pointer (some ⟨w.heap.size, 0, none⟩)]) ∧ w' = w.alloc (.cells #[.pointer p0] 24) := by
  refine callsIn_of_wp Try.func60 rfl h5 ?_ hro
  simp only [Try.ntmps60, List.size_toArray, List.length_cons, List.length_nil, Nat.reduceAdd, Nat.reduceSub, Array.replicate_succ, Array.replicate_zero, List.push_toArray, List.append_toArray, List.nil_append, List.cons_append]
  gi_wp2
  go_ret
  exact ⟨rfl, rfl⟩
theorem all_stops (F : Fence) (n : Nat) (h6 : F.fn 79) (hro : F.round = none) (hn : 1 ≤ n) (Bn : Nat) (S : Nat → Prop) (B A : Nat) (m p : Int) (hv bv : Value) (hs : List Bool) (bk : List Int) (w0 w : World) (hl : hs.length ≤ 100000)
    (hA : AS S B A w0 m (hs.length : Int) p hv bv hv bv hs bk) (hb : Below w0.heap.size w0 w) (hBn : Bn < w.heap.size) (hc : w.cell? ⟨Bn, 0, none⟩ = some (.pointer (some ⟨A, 0, none⟩))) :
    SeqStopsK F n Try.prog 79 #[.pointer (some ⟨Bn, 0, none⟩)] (fun x : Int => #[Value.int .i64 x]) (KpA w0.heap.size Bn) (fun ys => ys = ups hs hs.length) (fun pre => pre <+: ups hs hs.length) (ups hs hs.length).length w := fun l J Jx W hW _ _ hY h0 =>
  all1_in F n h6 hro hn l Bn S B A m p hv bv hs bk w0 hl hA J Jx hY W (hb.trans (hW.mono hb.size)) ((hW.cell (p := ⟨Bn, 0, none⟩) hBn).trans hc) h0
theorem cell_new_l (W : World) (v : Value) (t : TypeId) : (W.alloc (.cells #[v] t)).cell? ⟨W.heap.size, 0, none⟩ = some v ∧ (W.alloc (.cells #[v] t)).frozen? ⟨W.heap.size, 0, none⟩ = false := by
  have h : (W.alloc (.cells #[v] t)).heap[W.heap.size]? = some (.cells #[v] t (0, 0)) := heap_alloc_new W _
  exact ⟨by simp only [World.cell?, h]; rfl, by simp only [World.frozen?, h]; rfl⟩
theorem cell_alloc_l {W : World} {a : Addr} {v : Value} (o : Obj) (h : W.cell? a = some v) : (W.alloc o).cell? a = some v := cell_kept h (World.grownBy_alloc W o none) (fun r e => by cases e)
theorem frozen_alloc_l {W : World} {a : Addr} {v : Value} (o : Obj) (h : W.cell? a = some v) (hf : W.frozen? a = false) : (W.alloc o).frozen? a = false := (frozen_kept h (World.grownBy_alloc W o none) (fun r e => by cases e)).trans hf
theorem kpA_t {n₀ Bn : Nat} {A B C : World} (h : KpA n₀ Bn A B) (h' : KpA n₀ Bn B C) : KpA n₀ Bn A C := ⟨h.1.trans h'.1, h'.2.trans h.2⟩
set_option maxRecDepth 100000 in
set_option maxHeartbeats 2000000 in
theorem used_in (F : Fence) (n : Nat) (h3 : F.fn 18) (h5 : F.fn 60) (h6 : F.fn 79) (hro : F.round = none) (hn : 3 ≤ n) (S : Nat → Prop) (B A : Nat) (m p : Int) (hv bv : Value) (hs : List Bool) (bk : List Int) (w : World) (hl : hs.length ≤ 100000)
    (hA : AS S B A w m (hs.length : Int) p hv bv hv bv hs bk) :
    CallsIn F n Try.prog 18 #[.pointer (some ⟨A, 0, none⟩)] w fun e W' => e = .returned (.int .i64 (hs.count true : Nat)) ∧ Below w.heap.size w W' := by
  have h1 : 1 ≤ n := by omega
  refine callsIn_of_wp_marks Try.func18 rfl h3 ?_ hro
  simp only [Try.ntmps18, List.size_toArray, List.length_cons, List.length_nil, Nat.reduceAdd, Nat.reduceSub, Array.replicate_succ, Array.replicate_zero, List.push_toArray, List.append_toArray, List.nil_append, List.cons_append]
  gi_wp2_with (gi_at_call 60; refine (all_in F (n - 1) h5 hro _ _).mono ?_; rintro e w' ⟨rfl, rfl⟩)
  have hs0 := cell_new_l w (.int .i64 0) 3
  have hb := cell_new_l (w.alloc (.cells #[.int .i64 0] 3)) (.pointer (some ⟨A, 0, none⟩)) 24
  rw [World.size_alloc] at hb
  have hB0 : Below w.heap.size w ((w.alloc (.cells #[.int .i64 0] 3)).alloc (.cells #[.pointer (some ⟨A, 0, none⟩)] 24)) := ((Below.refl _ w).alloc (Nat.le_refl _) _).alloc (by simp) _
  have hUL := ups_le hs hs.length
  have hUA := Lib.hid (ups_all hs)
  refine wpIn_rangeFunc_ownF hro h1 (gf := 79) (lb := #[.pointer (some ⟨w.heap.size + 1, 0, none⟩)]) rfl h6 (enters_of Try.func79 (by kernel_rfl) rfl)
    (all_stops F (n - 1) h6 hro (by omega) (w.heap.size + 1) S B A m p hv bv hs bk w _ hl hA hB0 (by simp) hb.1) kpA_t (fun W l o o' hl' ho hc _ => ⟨belowK_b (w := w) (Nat.le_refl _) W l o o' (by simp at hl'; omega) ho hc (by assumption), World.putObj_heap_other (fun e => by simp at hl'; omega)⟩) (Below.refl _ _) (fun _ => rfl)
    (fun pre W => (W.cell? ⟨w.heap.size, 0, none⟩ = some (.int .i64 (pre.length : Nat)) ∧ W.frozen? ⟨w.heap.size, 0, none⟩ = false) ∧ Below w.heap.size w W)
    (fun _ _ _ => False)
    (OwnFrom.and (Own.from (fun s A B row hs hg hr => ⟨cell_kept hs.1 hg hr, (frozen_kept hs.1 hg hr).trans hs.2⟩) _) (ownFrom_below (Nat.le_refl _) (by simp; omega)))
    (fun _ _ _ _ _ hs _ _ => hs)
    ⟨⟨cell_alloc_l _ hs0.1, frozen_alloc_l _ hs0.1 hs0.2⟩, hB0⟩
    (fun x => { tmps := #[.pointer (some ⟨A, 0, none⟩), undef, .int .i64 0, .pointer (some ⟨w.heap.size, 0, none⟩), .pointer (some ⟨A, 0, none⟩), .func (.func 79) #[] #[.pointer (some ⟨w.heap.size + 1, 0, none⟩)], .int .i64 x, undef, undef, undef], defers := [] }) ?assign ?body ?done ?stop
  case assign =>
    intro l x W K hK
    gi_wp2
    simpa using hK
  case body =>
    rintro l pre x W ⟨⟨hc, hf⟩, hB⟩ hlen
    have hlen' : pre.length ≤ 100000 := by omega
    have HT : Hid ((pre ++ [x]).length = pre.length + 1) := Lib.hid (by simp)
    have hBk : Below w.heap.size W (W.setCell ⟨w.heap.size, 0, none⟩ (.int .i64 ((pre.length : Int) + 1))) := (Below.refl w.heap.size W).setCell (p := ⟨w.heap.size, 0, none⟩) (Nat.le_refl _) _
    gi_wp2
    refine ⟨KeepsOthers.setCell _ _ _, ⟨hBk, set_heap W w.heap.size 0 (w.heap.size + 1) _ (by omega)⟩, ⟨?_, by rw [World.frozen?_setCell]; exact hf⟩, hB.setCell (p := ⟨w.heap.size, 0, none⟩) (Nat.le_refl _) _⟩
    rw [HT.out]
    exact World.cell?_setCell_same' _ _ _ (by rw [hc]; rfl)
  case done =>
    rintro D ys W hD rfl ⟨⟨hc, _⟩, hB⟩ hK
    rw [hUA.out] at hc
    gi_wp2
    refine ⟨by simp, .inl ⟨_, _, rfl, run_takeDeferred hK, ?_⟩⟩
    exact ⟨_, results_tmp rfl _ _ _, rfl, hB.trans (belowK_b (w := w) (Nat.le_refl _) W D _ _ (by simp at hD; omega) hK rfl rfl)⟩
  case stop =>
    rintro D c pre W _ _ h _
    exact h.elim
theorem used_of (S : Nat → Prop) (B A : Nat) (m p : Int) (hv bv : Value) (hs : List Bool) (bk : List Int) (w : World) (hl : hs.length ≤ 100000)
    (hA : AS S B A w m (hs.length : Int) p hv bv hv bv hs bk) :
    Calls Try.prog 18 #[.pointer (some ⟨A, 0, none⟩)] w fun e W' => e = .returned (.int .i64 (hs.count true : Nat)) ∧ Below w.heap.size w W' :=
  callsIn_wide.1 (used_in Fence.wide 3 trivial trivial trivial rfl (by omega) S B A m p hv bv hs bk w hl hA)
end Go.Proofs.Ytajmmglfdinahaa.ar
