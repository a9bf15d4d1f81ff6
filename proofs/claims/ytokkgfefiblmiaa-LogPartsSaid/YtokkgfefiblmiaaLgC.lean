/- The events of a loop, told to a function (layer 24). -/
import Derived.Test.YtokkgfefiblmiaaLgB
namespace Go.Proofs.Ytokkgfefiblmiaa.lg
open Go.ChangeShapes Go.WideShapes Go.ChangeAt Go.RowKit
open Go.Proofs.Ytokkgfefiblmiaa.ro
set_option linter.unusedVariables false
set_option linter.unusedSimpArgs false
attribute [local go_sem] Oper.semAt_some
theorem eq_of1 (o1 o2 o3 : Nat) (w : World) : (binOp .eql 58 (.func (.func 26) #[] #[.pointer (some ⟨o1, 0, none⟩), .pointer (some ⟨o2, 0, none⟩), .pointer (some ⟨o3, 0, none⟩)]) .nilFunc).run Try.prog w = .ok (.bool false) w := by kernel_rfl
set_option maxRecDepth 100000 in
set_option maxHeartbeats 1000000 in
theorem telld_in (F : Fence) (n : Nat) (h6 : F.fn 35) (hg : F.fn 36) (h26 : F.fn 26) (hro : F.round = none) (hn : 1 ≤ n) (o1 o2 o3 Bl Bi Kb : Nat) (y : Int) (S : Nat → Prop) (hSl : S Bl) (hSi : S Bi) (hSk : S Kb) (n0 A : Nat) (v : Value) (es : List I4) (w0 : World) (hle : es.length ≤ 1000000)
    (hA : LG n0 w0 A v es) (J : List (Int × I4) → World → Prop) (hJ : ∀ s A B, J s A → Below A.heap.size A B → J s B)
    (hY : ∀ pre (i a b c d : Int) W, (a, b, c, d) ∈ es → J pre W → pre.length < es.length → CallsIn F (n - 1) Try.prog 26 #[.int .i64 i, .agg #[.int .i64 a, .int .i64 b, .int .i64 c, .int .i64 d], .pointer (some ⟨o1, 0, none⟩), .pointer (some ⟨o2, 0, none⟩), .pointer (some ⟨o3, 0, none⟩)] W fun e W' =>
      e = .returned (.bool true) ∧ J (pre ++ [(i, (a, b, c, d))]) W' ∧ KpS w0.heap.size S W W')
    (W : World) (hbW : Below w0.heap.size w0 W) (hBl : W.heap[Bl]? = some (.cells #[.pointer (some ⟨A, 0, none⟩)] 24 (0, 0))) (hBi : W.heap[Bi]? = some (.cells #[.func (.func 36) #[] #[.pointer (some ⟨Kb, 0, none⟩)]] 54 (0, 0))) (hBk : W.heap[Kb]? = some (.cells #[.int .i64 y] 3 (0, 0)) ∨ False) (h0 : J [] W) :
    CallsIn F n Try.prog 35 #[.func (.func 26) #[] #[.pointer (some ⟨o1, 0, none⟩), .pointer (some ⟨o2, 0, none⟩), .pointer (some ⟨o3, 0, none⟩)], .pointer (some ⟨Bl, 0, none⟩), .pointer (some ⟨Bi, 0, none⟩)] W fun e W' => (∃ v, e = .returned v) ∧ ∃ ys, ys = tel (ql y) es es.length ∧ J ys W' := by
  have HA := Lib.hid hA
  have HW0 : Hid (∀ W', Below w0.heap.size w0 W' → ∃ a c, v = .slice a es.length c ∧ W'.cell? ⟨A, 0, none⟩ = some v ∧ A < W'.heap.size) := Lib.hid fun W' hb => by
    have h := hA.below hb
    obtain ⟨a, c, e⟩ := OR.form h.r
    exact ⟨a, c, e, cel h.o 0, lt_of h.o⟩
  clear hA
  have hnf := eq_of1 o1 o2 o3
  obtain ⟨va, vc, hv, hc0, hA0⟩ := HW0.out W hbW
  obtain ⟨N, hN⟩ : ∃ N, es.length = N := ⟨_, rfl⟩
  have hvN : v = .slice va N vc := by rw [hv, hN]
  rw [hvN] at hc0
  have HV := Lib.hid hvN
  have HN := Lib.hid hN
  rw [hN] at hY hle ⊢
  clear hv hvN hN
  have cl := cel0 hBl
  have ci := cel0 hBi
  have bl := lt_of hBl
  have bi := lt_of hBi
  have HBl := Lib.hid hBl
  have HBi := Lib.hid hBi
  have HBk := Lib.hid hBk
  clear hBl hBi hBk
  refine callsIn_of_wp Try.func35 rfl h6 ?_ hro
  simp only [Try.ntmps35, List.size_toArray, List.length_cons, List.length_nil, Nat.reduceAdd, Nat.reduceSub, Array.replicate_succ, Array.replicate_zero, List.push_toArray, List.append_toArray, List.nil_append, List.cons_append]
  gi_wp2
  gi_loopw [17] (fun i wr => ∃ k : Nat, k ≤ N ∧ i = .int .i64 (k : Int) ∧ Below w0.heap.size w0 wr ∧ Hid (wr.heap[Bl]? = some (.cells #[.pointer (some ⟨A, 0, none⟩)] 24 (0, 0)) ∧ wr.heap[Bi]? = some (.cells #[.func (.func 36) #[] #[.pointer (some ⟨Kb, 0, none⟩)]] 54 (0, 0)) ∧ (wr.heap[Kb]? = some (.cells #[.int .i64 y] 3 (0, 0)) ∨ False)) ∧ Hid (J (tel (ql y) es k) wr))
    (fun i _ => N + 1 - (intOf i).toNat)
  case atStart => exact ⟨0, Nat.zero_le _, rfl, hbW, Lib.hid ⟨HBl.out, HBi.out, HBk.out⟩, Lib.hid h0⟩
  case round =>
    clear cl ci bl bi HBl HBi HBk hc0 hA0 h0 hbW
    obtain ⟨k, hk, rfl, hb, HB, HJ⟩ := hrel
    by_cases hlt : k < N
    · obtain ⟨⟨a, b, c, d⟩, hx⟩ : ∃ x, es[k]? = some x := ⟨es[k]'(by rw [HN.out]; exact hlt), by simp⟩
      obtain ⟨g, cp, hgv, hgl, e0, e1, e2, e3⟩ := (HA.out.below hb).at hx
      obtain ⟨rfl, rfl⟩ : va = some ⟨g, 0, none⟩ ∧ vc = cp := by
        have := HV.out.symm.trans hgv
        rw [Value.slice.injEq] at this
        exact ⟨this.1, this.2.2⟩
      have d1 : (k : Int) < (N : Int) := by omega
      have ci := cel0 HB.out.2.1
      have bi := lt_of HB.out.2.1
      have HX := Lib.hid hx
      have HL : Hid ((tel (ql y) es k).length < N) := Lib.hid (by have := tel_le (ql y) es k; omega)
      clear hgv hx
      cases hq : (ql y) (a, b, c, d)
      · have HM := Lib.hid (tel_miss HX.out hq)
        gi_wp2_with (gi_at_call 36; refine (isl_in F (n - 1) hg hro y Kb a b c d _ (blkb (HB.out.2.2.resolve_right id) (by go_grown))).mono ?_; rintro e W3 ⟨rfl, hb3⟩; rw [hq]; have HB3 : Hid (Below wr.heap.size wr W3) := Lib.hid (((Below.refl wr.heap.size wr).alloc (Nat.le_refl _) _).trans (hb3.mono (by simp))))
        clear hb3 e0 e1 e2 e3
        all_goals try gi_wp2
        refine ⟨fun _ h => (by cases h), ?_⟩
        gi_wp2
        go_roundw
        case rel => exact ⟨k + 1, by omega, by go_num, hb.trans (HB3.out.mono hb.size), Lib.hid ⟨blkb HB.out.1 HB3.out, blkb HB.out.2.1 HB3.out, HB.out.2.2.imp (fun h => blkb h HB3.out) id⟩, Lib.hid (HM.out ▸ hJ _ _ _ HJ.out HB3.out)⟩
        case measure => simp [intOf]; omega
      · have HM := Lib.hid (tel_hit HX.out hq)
        gi_wp2_with (first | (gi_at_call 36; refine (isl_in F (n - 1) hg hro y Kb a b c d _ (blkb (HB.out.2.2.resolve_right id) (by go_grown))).mono ?_; rintro e W3 ⟨rfl, hb3⟩; rw [hq]; have hbx := blkb (heap_new wr _) hb3; have p0 := cel hbx 0; have p1 := cel hbx 1; have p2 := cel hbx 2; have p3 := cel hbx 3; have px := lt_of hbx; have HB3 : Hid (Below wr.heap.size wr W3) := Lib.hid (((Below.refl wr.heap.size wr).alloc (Nat.le_refl _) _).trans (hb3.mono (by simp))); have HJ3 := Lib.hid (hJ _ _ _ HJ.out HB3.out); clear hbx hb3) | (gi_at_call 26; refine (hY (tel (ql y) es k) (k : Int) a b c d W3 (List.mem_of_getElem? HX.out) HJ3.out HL.out).mono ?_; rintro e W4 ⟨rfl, hJ4, hk4⟩))
        all_goals try gi_wp2
        have HB4 : Hid (Below w0.heap.size w0 W4) := Lib.hid ((hb.trans (HB3.out.mono hb.size)).trans hk4.1)
        have HK4 : Hid (W4.heap[Bl]? = some (.cells #[.pointer (some ⟨A, 0, none⟩)] 24 (0, 0)) ∧ W4.heap[Bi]? = some (.cells #[.func (.func 36) #[] #[.pointer (some ⟨Kb, 0, none⟩)]] 54 (0, 0)) ∧ (W4.heap[Kb]? = some (.cells #[.int .i64 y] 3 (0, 0)) ∨ False)) := Lib.hid ⟨(hk4.2 Bl hSl).trans (blkb HB.out.1 HB3.out), (hk4.2 Bi hSi).trans (blkb HB.out.2.1 HB3.out), HB.out.2.2.imp (fun h => (hk4.2 Kb hSk).trans (blkb h HB3.out)) id⟩
        have HJ4 := Lib.hid (HM.out ▸ hJ4)
        clear hJ4 hk4 p0 p1 p2 p3 px e0 e1 e2 e3 HM
        gi_wp2
        go_roundw
        case rel => exact ⟨k + 1, by omega, by go_num, HB4.out, HK4, HJ4⟩
        case measure => simp [intOf]; omega
    · obtain rfl : k = N := by omega
      gi_wp2
      go_end0
      exact ⟨⟨_, rfl⟩, _, rfl, HJ.out⟩
end Go.Proofs.Ytokkgfefiblmiaa.lg
