/- The predicates; the events that are told, for every loop body (layer 24). -/
import Derived.RangeFuncNested
import Derived.RangeFuncBound
import Derived.RangeFuncCalls
import Derived.RangeFuncLeaves
import Derived.RangeFuncFrom
import Derived.RangeFuncBox
import Derived.Test.YtokkgfefiblmiaaLgA
namespace Go.Proofs.Ytokkgfefiblmiaa.lg
open Go.ChangeShapes Go.WideShapes Go.ChangeAt Go.RowKit
open Go.Proofs.Ytokkgfefiblmiaa.ro
set_option linter.unusedVariables false
set_option linter.unusedSimpArgs false
attribute [local go_sem] Oper.semAt_some
/-- The events among the first k that are as q says, with their places. -/
def tel (q : I4 → Bool) (es : List I4) : Nat → List (Int × I4)
  | 0 => []
  | k + 1 => if q (es.getD k (0, 0, 0, 0)) then tel q es k ++ [((k : Int), es.getD k (0, 0, 0, 0))] else tel q es k
theorem tel_s (q : I4 → Bool) (es : List I4) (k : Nat) : tel q es (k + 1) = if q (es.getD k (0, 0, 0, 0)) then tel q es k ++ [((k : Int), es.getD k (0, 0, 0, 0))] else tel q es k := rfl
theorem tel_le (q : I4 → Bool) (es : List I4) (k : Nat) : (tel q es k).length ≤ k := by
  induction k with
  | zero => simp [tel]
  | succ k ih => rw [tel_s]; split <;> (try simp only [List.length_append, List.length_cons, List.length_nil]) <;> omega
theorem tel_pre (q : I4 → Bool) (es : List I4) (j : Nat) : ∀ d, tel q es j <+: tel q es (j + d) := by
  intro d
  induction d with
  | zero => exact List.prefix_refl _
  | succ d ih =>
    rw [show j + (d + 1) = (j + d) + 1 by omega, tel_s]
    split
    · exact ih.trans (List.prefix_append _ _)
    · exact ih
theorem tel_hit {q : I4 → Bool} {es : List I4} {k : Nat} {x : I4} (hx : es[k]? = some x) (h : q x = true) : tel q es k ++ [((k : Int), x)] = tel q es (k + 1) := by
  have : es.getD k (0, 0, 0, 0) = x := by rw [List.getD_eq_getElem?_getD, hx]; rfl
  rw [tel_s, this, if_pos h]
theorem tel_miss {q : I4 → Bool} {es : List I4} {k : Nat} {x : I4} (hx : es[k]? = some x) (h : q x = false) : tel q es k = tel q es (k + 1) := by
  have : es.getD k (0, 0, 0, 0) = x := by rw [List.getD_eq_getElem?_getD, hx]; rfl
  rw [tel_s, this, if_neg (by rw [h]; decide)]
theorem LG.at {n0 A : Nat} {w : World} {v : Value} {es : List I4} (h : LG n0 w A v es) {k : Nat} {a b c d : Int} (hx : es[k]? = some (a, b, c, d)) :
    ∃ g cap, v = .slice (some ⟨g, 0, none⟩) es.length cap ∧ g < w.heap.size ∧ w.cell? ⟨g, k * 4, none⟩ = some (.int .i64 a) ∧ w.cell? ⟨g, k * 4 + 1, none⟩ = some (.int .i64 b) ∧ w.cell? ⟨g, k * 4 + 2, none⟩ = some (.int .i64 c) ∧ w.cell? ⟨g, k * 4 + 3, none⟩ = some (.int .i64 d) := by
  have ho := h.r
  unfold OR at ho
  obtain ⟨hl, ⟨rfl, h0⟩ | ⟨g, cap, cur, rfl, hg, hh, h1, h2, h3, h4⟩⟩ := ho
  · have : es = [] := List.eq_nil_of_length_eq_zero h0
    subst this
    simp at hx
  · refine ⟨g, cap, rfl, lt_of hh, ?_⟩
    have H : ∀ q u, (enE (a, b, c, d))[q]? = some u → w.cell? ⟨g, k * 4 + q, none⟩ = some u := fun q u hu => by
      have h5 := flat_at recE es k _ q u hx hu
      have hlt := (List.getElem?_eq_some_iff.1 h5).1
      rw [hl] at hlt
      rw [← h4, List.getElem?_take_of_lt hlt] at h5
      have h6 : cur[k * 4 + q]? = some u := by simpa using h5
      simp [World.cell?, hh, h6]
    exact ⟨H 0 _ rfl, H 1 _ rfl, H 2 _ rfl, H 3 _ rfl⟩
theorem eq_yield (l : Nat) (w : World) : (binOp .eql 58 (.func (.yield l) #[] #[]) .nilFunc).run Try.prog w = .ok (.bool false) w := by kernel_rfl
/-- What a round keeps: all that lay below, and some boxes. -/
def KpS (n₀ : Nat) (S : Nat → Prop) (W W' : World) : Prop := Below n₀ W W' ∧ ∀ b, S b → W'.heap[b]? = W.heap[b]?
theorem kpS_t {n₀ : Nat} {S : Nat → Prop} {A B C : World} (h : KpS n₀ S A B) (h' : KpS n₀ S B C) : KpS n₀ S A C := ⟨h.1.trans h'.1, fun b hb => (h'.2 b hb).trans (h.2 b hb)⟩
theorem cel0 {w : World} {g : Nat} {v : Value} {e : TypeId} (h : w.heap[g]? = some (.cells #[v] e (0, 0))) : w.cell? ⟨g, 0, none⟩ = some v := by simp [World.cell?, h]
theorem blkb {w w' : World} {b : Nat} {o : Obj} (h : w.heap[b]? = some o) (hb : Below w.heap.size w w') : w'.heap[b]? = some o := (hb.block b (lt_of h)).trans h
def q1 (x : I4) : Bool := true
def qk (y : Int) (x : I4) : Bool := x.1 == y
def ql (y : Int) (x : I4) : Bool := x.2.1 == y
set_option maxRecDepth 20000 in
theorem is1_in (F : Fence) (n : Nat) (hg : F.fn 24) (hro : F.round = none) (y : Int) (Kb : Nat) (a b c d : Int) (w : World) :
    CallsIn F n Try.prog 24 #[.agg #[.int .i64 a, .int .i64 b, .int .i64 c, .int .i64 d]] w fun e W' => e = .returned (.bool (q1 (a, b, c, d))) ∧ Below w.heap.size w W' := by
  refine callsIn_of_wp Try.func24 rfl hg ?_ hro
  simp only [Try.ntmps24, List.size_toArray, List.length_cons, List.length_nil, Nat.reduceAdd, Nat.reduceSub, Array.replicate_succ, Array.replicate_zero, List.push_toArray, List.append_toArray, List.nil_append, List.cons_append]
  gi_wp2
  go_ret
  exact ⟨rfl, by go_grown⟩
set_option maxRecDepth 20000 in
theorem isk_in (F : Fence) (n : Nat) (hg : F.fn 34) (hro : F.round = none) (y : Int) (Kb : Nat) (a b c d : Int) (w : World) (hk : w.heap[Kb]? = some (.cells #[.int .i64 y] 3 (0, 0))) :
    CallsIn F n Try.prog 34 #[.agg #[.int .i64 a, .int .i64 b, .int .i64 c, .int .i64 d], .pointer (some ⟨Kb, 0, none⟩)] w fun e W' => e = .returned (.bool ((qk y) (a, b, c, d))) ∧ Below w.heap.size w W' := by
  refine callsIn_of_wp Try.func34 rfl hg ?_ hro
  simp only [Try.ntmps34, List.size_toArray, List.length_cons, List.length_nil, Nat.reduceAdd, Nat.reduceSub, Array.replicate_succ, Array.replicate_zero, List.push_toArray, List.append_toArray, List.nil_append, List.cons_append]
  have ck := cel0 hk
  have bk := lt_of hk
  clear hk
  gi_wp2
  go_ret
  exact ⟨rfl, by go_grown⟩
set_option maxRecDepth 20000 in
theorem isl_in (F : Fence) (n : Nat) (hg : F.fn 36) (hro : F.round = none) (y : Int) (Kb : Nat) (a b c d : Int) (w : World) (hk : w.heap[Kb]? = some (.cells #[.int .i64 y] 3 (0, 0))) :
    CallsIn F n Try.prog 36 #[.agg #[.int .i64 a, .int .i64 b, .int .i64 c, .int .i64 d], .pointer (some ⟨Kb, 0, none⟩)] w fun e W' => e = .returned (.bool ((ql y) (a, b, c, d))) ∧ Below w.heap.size w W' := by
  refine callsIn_of_wp Try.func36 rfl hg ?_ hro
  simp only [Try.ntmps36, List.size_toArray, List.length_cons, List.length_nil, Nat.reduceAdd, Nat.reduceSub, Array.replicate_succ, Array.replicate_zero, List.push_toArray, List.append_toArray, List.nil_append, List.cons_append]
  have ck := cel0 hk
  have bk := lt_of hk
  clear hk
  gi_wp2
  go_ret
  exact ⟨rfl, by go_grown⟩
set_option maxRecDepth 100000 in
set_option maxHeartbeats 1000000 in
theorem tells1_in (F : Fence) (n : Nat) (h6 : F.fn 35) (hg : F.fn 24) (hro : F.round = none) (hn : 1 ≤ n) (l Bl Bi Kb : Nat) (y : Int) (S : Nat → Prop) (hSl : S Bl) (hSi : S Bi) (hSk : S Kb) (n0 A : Nat) (v : Value) (es : List I4) (w0 : World) (hle : es.length ≤ 1000000)
    (hA : LG n0 w0 A v es) (J Jx : List (Int × I4) → World → Prop) (hJ : ∀ s A B, J s A → Below A.heap.size A B → J s B)
    (hY : ∀ pre (i a b c d : Int) W, (a, b, c, d) ∈ es → J pre W → pre.length < es.length → YieldAt F (n - 1) Try.prog l #[.int .i64 i, .agg #[.int .i64 a, .int .i64 b, .int .i64 c, .int .i64 d]] W fun e W' =>
      (e = .returned (.bool true) ∧ J (pre ++ [(i, (a, b, c, d))]) W' ∧ KpS w0.heap.size S W W') ∨ (e = .returned (.bool false) ∧ Jx (pre ++ [(i, (a, b, c, d))]) W'))
    (W : World) (hbW : Below w0.heap.size w0 W) (hBl : W.heap[Bl]? = some (.cells #[.pointer (some ⟨A, 0, none⟩)] 24 (0, 0))) (hBi : W.heap[Bi]? = some (.cells #[.func (.func 24) #[] #[]] 54 (0, 0))) (hBk : W.heap[Kb]? = some (.cells #[.int .i64 y] 3 (0, 0)) ∨ True) (h0 : J [] W) :
    CallsIn F n Try.prog 35 #[.func (.yield l) #[] #[], .pointer (some ⟨Bl, 0, none⟩), .pointer (some ⟨Bi, 0, none⟩)] W fun e W' => (∃ v, e = .returned v) ∧
      ((∃ ys, ys = tel q1 es es.length ∧ J ys W') ∨ (∃ pre, pre <+: tel q1 es es.length ∧ Jx pre W')) := by
  have HA := Lib.hid hA
  have HW0 : Hid (∀ W', Below w0.heap.size w0 W' → ∃ a c, v = .slice a es.length c ∧ W'.cell? ⟨A, 0, none⟩ = some v ∧ A < W'.heap.size) := Lib.hid fun W' hb => by
    have h := hA.below hb
    obtain ⟨a, c, e⟩ := OR.form h.r
    exact ⟨a, c, e, cel h.o 0, lt_of h.o⟩
  clear hA
  have hnf := eq_yield l
  obtain ⟨va, vc, hv, hc0, hA0⟩ := HW0.out W hbW
  obtain ⟨N, hN⟩ : ∃ N, es.length = N := ⟨_, rfl⟩
  have hvN : v = .slice va N vc := by rw [hv, hN]
  rw [hvN] at hc0
  have HV := Lib.hid hvN
  have HN := Lib.hid hN
  rw [hN] at hY hle ⊢
  clear hv hvN hN
  have cl := cel0 hBl
  have ci := cel0 hBi
  have bl := lt_of hBl
  have bi := lt_of hBi
  have HBl := Lib.hid hBl
  have HBi := Lib.hid hBi
  have HBk := Lib.hid hBk
  clear hBl hBi hBk
  refine callsIn_of_wp Try.func35 rfl h6 ?_ hro
  simp only [Try.ntmps35, List.size_toArray, List.length_cons, List.length_nil, Nat.reduceAdd, Nat.reduceSub, Array.replicate_succ, Array.replicate_zero, List.push_toArray, List.append_toArray, List.nil_append, List.cons_append]
  gi_wp2
  gi_loopw [17] (fun i wr => ∃ k : Nat, k ≤ N ∧ i = .int .i64 (k : Int) ∧ Below w0.heap.size w0 wr ∧ Hid (wr.heap[Bl]? = some (.cells #[.pointer (some ⟨A, 0, none⟩)] 24 (0, 0)) ∧ wr.heap[Bi]? = some (.cells #[.func (.func 24) #[] #[]] 54 (0, 0)) ∧ (wr.heap[Kb]? = some (.cells #[.int .i64 y] 3 (0, 0)) ∨ True)) ∧ Hid (J (tel q1 es k) wr))
    (fun i _ => N + 1 - (intOf i).toNat)
  case atStart => exact ⟨0, Nat.zero_le _, rfl, hbW, Lib.hid ⟨HBl.out, HBi.out, HBk.out⟩, Lib.hid h0⟩
  case round =>
    clear cl ci bl bi HBl HBi HBk hc0 hA0 h0 hbW
    obtain ⟨k, hk, rfl, hb, HB, HJ⟩ := hrel
    by_cases hlt : k < N
    · obtain ⟨⟨a, b, c, d⟩, hx⟩ : ∃ x, es[k]? = some x := ⟨es[k]'(by rw [HN.out]; exact hlt), by simp⟩
      obtain ⟨g, cp, hgv, hgl, e0, e1, e2, e3⟩ := (HA.out.below hb).at hx
      obtain ⟨rfl, rfl⟩ : va = some ⟨g, 0, none⟩ ∧ vc = cp := by
        have := HV.out.symm.trans hgv
        rw [Value.slice.injEq] at this
        exact ⟨this.1, this.2.2⟩
      have d1 : (k : Int) < (N : Int) := by omega
      have ci := cel0 HB.out.2.1
      have bi := lt_of HB.out.2.1
      have HX := Lib.hid hx
      have HL : Hid ((tel q1 es k).length < N) := Lib.hid (by have := tel_le q1 es k; omega)
      clear hgv hx
      cases hq : q1 (a, b, c, d)
      · cases hq
      · have HM := Lib.hid (tel_hit HX.out hq)
        gi_wp2_with (gi_at_call 24; refine (is1_in F (n - 1) hg hro y Kb a b c d _ ).mono ?_; rintro e W3 ⟨rfl, hb3⟩; rw [hq]; have hbx := blkb (heap_new wr _) hb3; have p0 := cel hbx 0; have p1 := cel hbx 1; have p2 := cel hbx 2; have p3 := cel hbx 3; have px := lt_of hbx; have HB3 : Hid (Below wr.heap.size wr W3) := Lib.hid (((Below.refl wr.heap.size wr).alloc (Nat.le_refl _) _).trans (hb3.mono (by simp))); have HJ3 := Lib.hid (hJ _ _ _ HJ.out HB3.out); clear hbx hb3; obtain ⟨fn, tmps, assign, body, hy, hR⟩ := hY (tel q1 es k) (k : Int) a b c d W3 (List.mem_of_getElem? HX.out) HJ3.out HL.out)
        all_goals try gi_wp2
        refine hR.mono ?_
        rintro e W4 (⟨rfl, hJ4, hk4⟩ | ⟨rfl, hJx4⟩)
        · have HB4 : Hid (Below w0.heap.size w0 W4) := Lib.hid ((hb.trans (HB3.out.mono hb.size)).trans hk4.1)
          have HK4 : Hid (W4.heap[Bl]? = some (.cells #[.pointer (some ⟨A, 0, none⟩)] 24 (0, 0)) ∧ W4.heap[Bi]? = some (.cells #[.func (.func 24) #[] #[]] 54 (0, 0)) ∧ (W4.heap[Kb]? = some (.cells #[.int .i64 y] 3 (0, 0)) ∨ True)) := Lib.hid ⟨(hk4.2 Bl hSl).trans (blkb HB.out.1 HB3.out), (hk4.2 Bi hSi).trans (blkb HB.out.2.1 HB3.out), HB.out.2.2.imp (fun h => (hk4.2 Kb hSk).trans (blkb h HB3.out)) id⟩
          have HJ4 := Lib.hid (HM.out ▸ hJ4)
          clear hJ4 hk4 hy hR p0 p1 p2 p3 px e0 e1 e2 e3 HM
          gi_wp2
          go_roundw
          case rel => exact ⟨k + 1, by omega, by go_num, HB4.out, HK4, HJ4⟩
          case measure => simp [intOf]; omega
        · have HP : Hid (tel q1 es k ++ [((k : Int), (a, b, c, d))] <+: tel q1 es N) := Lib.hid (by
            rw [HM.out]
            have := tel_pre q1 es (k + 1) (N - (k + 1))
            rwa [show k + 1 + (N - (k + 1)) = N by omega] at this)
          clear p0 p1 p2 p3 px e0 e1 e2 e3 HM hy hR
          gi_wp2
          refine bodyPost_ret (results_none rfl _ _ _) rfl ?_
          exact ⟨⟨_, rfl⟩, .inr ⟨_, HP.out, hJx4⟩⟩
    · obtain rfl : k = N := by omega
      gi_wp2
      go_end0
      exact ⟨⟨_, rfl⟩, .inl ⟨_, rfl, HJ.out⟩⟩
set_option maxRecDepth 100000 in
set_option maxHeartbeats 1000000 in
theorem tellsk_in (F : Fence) (n : Nat) (h6 : F.fn 35) (hg : F.fn 34) (hro : F.round = none) (hn : 1 ≤ n) (l Bl Bi Kb : Nat) (y : Int) (S : Nat → Prop) (hSl : S Bl) (hSi : S Bi) (hSk : S Kb) (n0 A : Nat) (v : Value) (es : List I4) (w0 : World) (hle : es.length ≤ 1000000)
    (hA : LG n0 w0 A v es) (J Jx : List (Int × I4) → World → Prop) (hJ : ∀ s A B, J s A → Below A.heap.size A B → J s B)
    (hY : ∀ pre (i a b c d : Int) W, (a, b, c, d) ∈ es → J pre W → pre.length < es.length → YieldAt F (n - 1) Try.prog l #[.int .i64 i, .agg #[.int .i64 a, .int .i64 b, .int .i64 c, .int .i64 d]] W fun e W' =>
      (e = .returned (.bool true) ∧ J (pre ++ [(i, (a, b, c, d))]) W' ∧ KpS w0.heap.size S W W') ∨ (e = .returned (.bool false) ∧ Jx (pre ++ [(i, (a, b, c, d))]) W'))
    (W : World) (hbW : Below w0.heap.size w0 W) (hBl : W.heap[Bl]? = some (.cells #[.pointer (some ⟨A, 0, none⟩)] 24 (0, 0))) (hBi : W.heap[Bi]? = some (.cells #[.func (.func 34) #[] #[.pointer (some ⟨Kb, 0, none⟩)]] 54 (0, 0))) (hBk : W.heap[Kb]? = some (.cells #[.int .i64 y] 3 (0, 0)) ∨ False) (h0 : J [] W) :
    CallsIn F n Try.prog 35 #[.func (.yield l) #[] #[], .pointer (some ⟨Bl, 0, none⟩), .pointer (some ⟨Bi, 0, none⟩)] W fun e W' => (∃ v, e = .returned v) ∧
      ((∃ ys, ys = tel (qk y) es es.length ∧ J ys W') ∨ (∃ pre, pre <+: tel (qk y) es es.length ∧ Jx pre W')) := by
  have HA := Lib.hid hA
  have HW0 : Hid (∀ W', Below w0.heap.size w0 W' → ∃ a c, v = .slice a es.length c ∧ W'.cell? ⟨A, 0, none⟩ = some v ∧ A < W'.heap.size) := Lib.hid fun W' hb => by
    have h := hA.below hb
    obtain ⟨a, c, e⟩ := OR.form h.r
    exact ⟨a, c, e, cel h.o 0, lt_of h.o⟩
  clear hA
  have hnf := eq_yield l
  obtain ⟨va, vc, hv, hc0, hA0⟩ := HW0.out W hbW
  obtain ⟨N, hN⟩ : ∃ N, es.length = N := ⟨_, rfl⟩
  have hvN : v = .slice va N vc := by rw [hv, hN]
  rw [hvN] at hc0
  have HV := Lib.hid hvN
  have HN := Lib.hid hN
  rw [hN] at hY hle ⊢
  clear hv hvN hN
  have cl := cel0 hBl
  have ci := cel0 hBi
  have bl := lt_of hBl
  have bi := lt_of hBi
  have HBl := Lib.hid hBl
  have HBi := Lib.hid hBi
  have HBk := Lib.hid hBk
  clear hBl hBi hBk
  refine callsIn_of_wp Try.func35 rfl h6 ?_ hro
  simp only [Try.ntmps35, List.size_toArray, List.length_cons, List.length_nil, Nat.reduceAdd, Nat.reduceSub, Array.replicate_succ, Array.replicate_zero, List.push_toArray, List.append_toArray, List.nil_append, List.cons_append]
  gi_wp2
  gi_loopw [17] (fun i wr => ∃ k : Nat, k ≤ N ∧ i = .int .i64 (k : Int) ∧ Below w0.heap.size w0 wr ∧ Hid (wr.heap[Bl]? = some (.cells #[.pointer (some ⟨A, 0, none⟩)] 24 (0, 0)) ∧ wr.heap[Bi]? = some (.cells #[.func (.func 34) #[] #[.pointer (some ⟨Kb, 0, none⟩)]] 54 (0, 0)) ∧ (wr.heap[Kb]? = some (.cells #[.int .i64 y] 3 (0, 0)) ∨ False)) ∧ Hid (J (tel (qk y) es k) wr))
    (fun i _ => N + 1 - (intOf i).toNat)
  case atStart => exact ⟨0, Nat.zero_le _, rfl, hbW, Lib.hid ⟨HBl.out, HBi.out, HBk.out⟩, Lib.hid h0⟩
  case round =>
    clear cl ci bl bi HBl HBi HBk hc0 hA0 h0 hbW
    obtain ⟨k, hk, rfl, hb, HB, HJ⟩ := hrel
    by_cases hlt : k < N
    · obtain ⟨⟨a, b, c, d⟩, hx⟩ : ∃ x, es[k]? = some x := ⟨es[k]'(by rw [HN.out]; exact hlt), by simp⟩
      obtain ⟨g, cp, hgv, hgl, e0, e1, e2, e3⟩ := (HA.out.below hb).at hx
      obtain ⟨rfl, rfl⟩ : va = some ⟨g, 0, none⟩ ∧ vc = cp := by
        have := HV.out.symm.trans hgv
        rw [Value.slice.injEq] at this
        exact ⟨this.1, this.2.2⟩
      have d1 : (k : Int) < (N : Int) := by omega
      have ci := cel0 HB.out.2.1
      have bi := lt_of HB.out.2.1
      have HX := Lib.hid hx
      have HL : Hid ((tel (qk y) es k).length < N) := Lib.hid (by have := tel_le (qk y) es k; omega)
      clear hgv hx
      cases hq : (qk y) (a, b, c, d)
      · have HM := Lib.hid (tel_miss HX.out hq)
        gi_wp2_with (gi_at_call 34; refine (isk_in F (n - 1) hg hro y Kb a b c d _ (blkb (HB.out.2.2.resolve_right id) (by go_grown))).mono ?_; rintro e W3 ⟨rfl, hb3⟩; rw [hq]; have HB3 : Hid (Below wr.heap.size wr W3) := Lib.hid (((Below.refl wr.heap.size wr).alloc (Nat.le_refl _) _).trans (hb3.mono (by simp))))
        clear hb3 e0 e1 e2 e3
        all_goals try gi_wp2
        refine ⟨fun _ h => (by cases h), ?_⟩
        gi_wp2
        go_roundw
        case rel => exact ⟨k + 1, by omega, by go_num, hb.trans (HB3.out.mono hb.size), Lib.hid ⟨blkb HB.out.1 HB3.out, blkb HB.out.2.1 HB3.out, HB.out.2.2.imp (fun h => blkb h HB3.out) id⟩, Lib.hid (HM.out ▸ hJ _ _ _ HJ.out HB3.out)⟩
        case measure => simp [intOf]; omega
      · have HM := Lib.hid (tel_hit HX.out hq)
        gi_wp2_with (gi_at_call 34; refine (isk_in F (n - 1) hg hro y Kb a b c d _ (blkb (HB.out.2.2.resolve_right id) (by go_grown))).mono ?_; rintro e W3 ⟨rfl, hb3⟩; rw [hq]; have hbx := blkb (heap_new wr _) hb3; have p0 := cel hbx 0; have p1 := cel hbx 1; have p2 := cel hbx 2; have p3 := cel hbx 3; have px := lt_of hbx; have HB3 : Hid (Below wr.heap.size wr W3) := Lib.hid (((Below.refl wr.heap.size wr).alloc (Nat.le_refl _) _).trans (hb3.mono (by simp))); have HJ3 := Lib.hid (hJ _ _ _ HJ.out HB3.out); clear hbx hb3; obtain ⟨fn, tmps, assign, body, hy, hR⟩ := hY (tel (qk y) es k) (k : Int) a b c d W3 (List.mem_of_getElem? HX.out) HJ3.out HL.out)
        all_goals try gi_wp2
        refine hR.mono ?_
        rintro e W4 (⟨rfl, hJ4, hk4⟩ | ⟨rfl, hJx4⟩)
        · have HB4 : Hid (Below w0.heap.size w0 W4) := Lib.hid ((hb.trans (HB3.out.mono hb.size)).trans hk4.1)
          have HK4 : Hid (W4.heap[Bl]? = some (.cells #[.pointer (some ⟨A, 0, none⟩)] 24 (0, 0)) ∧ W4.heap[Bi]? = some (.cells #[.func (.func 34) #[] #[.pointer (some ⟨Kb, 0, none⟩)]] 54 (0, 0)) ∧ (W4.heap[Kb]? = some (.cells #[.int .i64 y] 3 (0, 0)) ∨ False)) := Lib.hid ⟨(hk4.2 Bl hSl).trans (blkb HB.out.1 HB3.out), (hk4.2 Bi hSi).trans (blkb HB.out.2.1 HB3.out), HB.out.2.2.imp (fun h => (hk4.2 Kb hSk).trans (blkb h HB3.out)) id⟩
          have HJ4 := Lib.hid (HM.out ▸ hJ4)
          clear hJ4 hk4 hy hR p0 p1 p2 p3 px e0 e1 e2 e3 HM
          gi_wp2
          go_roundw
          case rel => exact ⟨k + 1, by omega, by go_num, HB4.out, HK4, HJ4⟩
          case measure => simp [intOf]; omega
        · have HP : Hid (tel (qk y) es k ++ [((k : Int), (a, b, c, d))] <+: tel (qk y) es N) := Lib.hid (by
            rw [HM.out]
            have := tel_pre (qk y) es (k + 1) (N - (k + 1))
            rwa [show k + 1 + (N - (k + 1)) = N by omega] at this)
          clear p0 p1 p2 p3 px e0 e1 e2 e3 HM hy hR
          gi_wp2
          refine bodyPost_ret (results_none rfl _ _ _) rfl ?_
          exact ⟨⟨_, rfl⟩, .inr ⟨_, HP.out, hJx4⟩⟩
    · obtain rfl : k = N := by omega
      gi_wp2
      go_end0
      exact ⟨⟨_, rfl⟩, .inl ⟨_, rfl, HJ.out⟩⟩
set_option maxRecDepth 100000 in
set_option maxHeartbeats 1000000 in
theorem tellsl_in (F : Fence) (n : Nat) (h6 : F.fn 35) (hg : F.fn 36) (hro : F.round = none) (hn : 1 ≤ n) (l Bl Bi Kb : Nat) (y : Int) (S : Nat → Prop) (hSl : S Bl) (hSi : S Bi) (hSk : S Kb) (n0 A : Nat) (v : Value) (es : List I4) (w0 : World) (hle : es.length ≤ 1000000)
    (hA : LG n0 w0 A v es) (J Jx : List (Int × I4) → World → Prop) (hJ : ∀ s A B, J s A → Below A.heap.size A B → J s B)
    (hY : ∀ pre (i a b c d : Int) W, (a, b, c, d) ∈ es → J pre W → pre.length < es.length → YieldAt F (n - 1) Try.prog l #[.int .i64 i, .agg #[.int .i64 a, .int .i64 b, .int .i64 c, .int .i64 d]] W fun e W' =>
      (e = .returned (.bool true) ∧ J (pre ++ [(i, (a, b, c, d))]) W' ∧ KpS w0.heap.size S W W') ∨ (e = .returned (.bool false) ∧ Jx (pre ++ [(i, (a, b, c, d))]) W'))
    (W : World) (hbW : Below w0.heap.size w0 W) (hBl : W.heap[Bl]? = some (.cells #[.pointer (some ⟨A, 0, none⟩)] 24 (0, 0))) (hBi : W.heap[Bi]? = some (.cells #[.func (.func 36) #[] #[.pointer (some ⟨Kb, 0, none⟩)]] 54 (0, 0))) (hBk : W.heap[Kb]? = some (.cells #[.int .i64 y] 3 (0, 0)) ∨ False) (h0 : J [] W) :
    CallsIn F n Try.prog 35 #[.func (.yield l) #[] #[], .pointer (some ⟨Bl, 0, none⟩), .pointer (some ⟨Bi, 0, none⟩)] W fun e W' => (∃ v, e = .returned v) ∧
      ((∃ ys, ys = tel (ql y) es es.length ∧ J ys W') ∨ (∃ pre, pre <+: tel (ql y) es es.length ∧ Jx pre W')) := by
  have HA := Lib.hid hA
  have HW0 : Hid (∀ W', Below w0.heap.size w0 W' → ∃ a c, v = .slice a es.length c ∧ W'.cell? ⟨A, 0, none⟩ = some v ∧ A < W'.heap.size) := Lib.hid fun W' hb => by
    have h := hA.below hb
    obtain ⟨a, c, e⟩ := OR.form h.r
    exact ⟨a, c, e, cel h.o 0, lt_of h.o⟩
  clear hA
  have hnf := eq_yield l
  obtain ⟨va, vc, hv, hc0, hA0⟩ := HW0.out W hbW
  obtain ⟨N, hN⟩ : ∃ N, es.length = N := ⟨_, rfl⟩
  have hvN : v = .slice va N vc := by rw [hv, hN]
  rw [hvN] at hc0
  have HV := Lib.hid hvN
  have HN := Lib.hid hN
  rw [hN] at hY hle ⊢
  clear hv hvN hN
  have cl := cel0 hBl
  have ci := cel0 hBi
  have bl := lt_of hBl
  have bi := lt_of hBi
  have HBl := Lib.hid hBl
  have HBi := Lib.hid hBi
  have HBk := Lib.hid hBk
  clear hBl hBi hBk
  refine callsIn_of_wp Try.func35 rfl h6 ?_ hro
  simp only [Try.ntmps35, List.size_toArray, List.length_cons, List.length_nil, Nat.reduceAdd, Nat.reduceSub, Array.replicate_succ, Array.replicate_zero, List.push_toArray, List.append_toArray, List.nil_append, List.cons_append]
  gi_wp2
  gi_loopw [17] (fun i wr => ∃ k : Nat, k ≤ N ∧ i = .int .i64 (k : Int) ∧ Below w0.heap.size w0 wr ∧ Hid (wr.heap[Bl]? = some (.cells #[.pointer (some ⟨A, 0, none⟩)] 24 (0, 0)) ∧ wr.heap[Bi]? = some (.cells #[.func (.func 36) #[] #[.pointer (some ⟨Kb, 0, none⟩)]] 54 (0, 0)) ∧ (wr.heap[Kb]? = some (.cells #[.int .i64 y] 3 (0, 0)) ∨ False)) ∧ Hid (J (tel (ql y) es k) wr))
    (fun i _ => N + 1 - (intOf i).toNat)
  case atStart => exact ⟨0, Nat.zero_le _, rfl, hbW, Lib.hid ⟨HBl.out, HBi.out, HBk.out⟩, Lib.hid h0⟩
  case round =>
    clear cl ci bl bi HBl HBi HBk hc0 hA0 h0 hbW
    obtain ⟨k, hk, rfl, hb, HB, HJ⟩ := hrel
    by_cases hlt : k < N
    · obtain ⟨⟨a, b, c, d⟩, hx⟩ : ∃ x, es[k]? = some x := ⟨es[k]'(by rw [HN.out]; exact hlt), by simp⟩
      obtain ⟨g, cp, hgv, hgl, e0, e1, e2, e3⟩ := (HA.out.below hb).at hx
      obtain ⟨rfl, rfl⟩ : va = some ⟨g, 0, none⟩ ∧ vc = cp := by
        have := HV.out.symm.trans hgv
        rw [Value.slice.injEq] at this
        exact ⟨this.1, this.2.2⟩
      have d1 : (k : Int) < (N : Int) := by omega
      have ci := cel0 HB.out.2.1
      have bi := lt_of HB.out.2.1
      have HX := Lib.hid hx
      have HL : Hid ((tel (ql y) es k).length < N) := Lib.hid (by have := tel_le (ql y) es k; omega)
      clear hgv hx
      cases hq : (ql y) (a, b, c, d)
      · have HM := Lib.hid (tel_miss HX.out hq)
        gi_wp2_with (gi_at_call 36; refine (isl_in F (n - 1) hg hro y Kb a b c d _ (blkb (HB.out.2.2.resolve_right id) (by go_grown))).mono ?_; rintro e W3 ⟨rfl, hb3⟩; rw [hq]; have HB3 : Hid (Below wr.heap.size wr W3) := Lib.hid (((Below.refl wr.heap.size wr).alloc (Nat.le_refl _) _).trans (hb3.mono (by simp))))
        clear hb3 e0 e1 e2 e3
        all_goals try gi_wp2
        refine ⟨fun _ h => (by cases h), ?_⟩
        gi_wp2
        go_roundw
        case rel => exact ⟨k + 1, by omega, by go_num, hb.trans (HB3.out.mono hb.size), Lib.hid ⟨blkb HB.out.1 HB3.out, blkb HB.out.2.1 HB3.out, HB.out.2.2.imp (fun h => blkb h HB3.out) id⟩, Lib.hid (HM.out ▸ hJ _ _ _ HJ.out HB3.out)⟩
        case measure => simp [intOf]; omega
      · have HM := Lib.hid (tel_hit HX.out hq)
        gi_wp2_with (gi_at_call 36; refine (isl_in F (n - 1) hg hro y Kb a b c d _ (blkb (HB.out.2.2.resolve_right id) (by go_grown))).mono ?_; rintro e W3 ⟨rfl, hb3⟩; rw [hq]; have hbx := blkb (heap_new wr _) hb3; have p0 := cel hbx 0; have p1 := cel hbx 1; have p2 := cel hbx 2; have p3 := cel hbx 3; have px := lt_of hbx; have HB3 : Hid (Below wr.heap.size wr W3) := Lib.hid (((Below.refl wr.heap.size wr).alloc (Nat.le_refl _) _).trans (hb3.mono (by simp))); have HJ3 := Lib.hid (hJ _ _ _ HJ.out HB3.out); clear hbx hb3; obtain ⟨fn, tmps, assign, body, hy, hR⟩ := hY (tel (ql y) es k) (k : Int) a b c d W3 (List.mem_of_getElem? HX.out) HJ3.out HL.out)
        all_goals try gi_wp2
        refine hR.mono ?_
        rintro e W4 (⟨rfl, hJ4, hk4⟩ | ⟨rfl, hJx4⟩)
        · have HB4 : Hid (Below w0.heap.size w0 W4) := Lib.hid ((hb.trans (HB3.out.mono hb.size)).trans hk4.1)
          have HK4 : Hid (W4.heap[Bl]? = some (.cells #[.pointer (some ⟨A, 0, none⟩)] 24 (0, 0)) ∧ W4.heap[Bi]? = some (.cells #[.func (.func 36) #[] #[.pointer (some ⟨Kb, 0, none⟩)]] 54 (0, 0)) ∧ (W4.heap[Kb]? = some (.cells #[.int .i64 y] 3 (0, 0)) ∨ False)) := Lib.hid ⟨(hk4.2 Bl hSl).trans (blkb HB.out.1 HB3.out), (hk4.2 Bi hSi).trans (blkb HB.out.2.1 HB3.out), HB.out.2.2.imp (fun h => (hk4.2 Kb hSk).trans (blkb h HB3.out)) id⟩
          have HJ4 := Lib.hid (HM.out ▸ hJ4)
          clear hJ4 hk4 hy hR p0 p1 p2 p3 px e0 e1 e2 e3 HM
          gi_wp2
          go_roundw
          case rel => exact ⟨k + 1, by omega, by go_num, HB4.out, HK4, HJ4⟩
          case measure => simp [intOf]; omega
        · have HP : Hid (tel (ql y) es k ++ [((k : Int), (a, b, c, d))] <+: tel (ql y) es N) := Lib.hid (by
            rw [HM.out]
            have := tel_pre (ql y) es (k + 1) (N - (k + 1))
            rwa [show k + 1 + (N - (k + 1)) = N by omega] at this)
          clear p0 p1 p2 p3 px e0 e1 e2 e3 HM hy hR
          gi_wp2
          refine bodyPost_ret (results_none rfl _ _ _) rfl ?_
          exact ⟨⟨_, rfl⟩, .inr ⟨_, HP.out, hJx4⟩⟩
    · obtain rfl : k = N := by omega
      gi_wp2
      go_end0
      exact ⟨⟨_, rfl⟩, .inl ⟨_, rfl, HJ.out⟩⟩
end Go.Proofs.Ytokkgfefiblmiaa.lg
