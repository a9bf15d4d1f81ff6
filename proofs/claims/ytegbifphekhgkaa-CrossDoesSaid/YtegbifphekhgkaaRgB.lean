/- A step of the document's walk of layer 19: a word in a copy. -/
import Derived.Test.YtegbifphekhgkaaRgA
import Derived.Test.YtegbifphekhgkaaRo
import Derived.Deep.RegionHeld3
import Derived.Deep.DrawnRows
namespace Go.Proofs.Ytegbifphekhgkaa.cg
open Go.ChangeShapes Go.WideShapes Go.ChangeAt Go.RowKit
attribute [local go_sem ↓] Go.wp_at_zero Go.wp_at_succ
set_option linter.unusedVariables false
set_option linter.unusedSimpArgs false
theorem btr' {P : Nat} {w w1 w2 : World} (h1 : Below P w w1) (h2 : Below w1.heap.size w1 w2) (hs : P ≤ w1.heap.size) : Below P w w2 := h1.trans (h2.mono hs)
theorem keep5 {W W' : World} {a0 a1 a2 a3 a4 : Nat} {i0 i1 i2 i3 i4 : Nat} {v0 v1 v2 v3 v4 : Value} (h : W.cell? ⟨a0, i0, none⟩ = some v0 ∧ W.cell? ⟨a1, i1, none⟩ = some v1 ∧ W.cell? ⟨a2, i2, none⟩ = some v2 ∧ W.cell? ⟨a3, i3, none⟩ = some v3 ∧ W.cell? ⟨a4, i4, none⟩ = some v4) (hb : Below W.heap.size W W') :
    W'.cell? ⟨a0, i0, none⟩ = some v0 ∧ W'.cell? ⟨a1, i1, none⟩ = some v1 ∧ W'.cell? ⟨a2, i2, none⟩ = some v2 ∧ W'.cell? ⟨a3, i3, none⟩ = some v3 ∧ W'.cell? ⟨a4, i4, none⟩ = some v4 :=
  ⟨keepc h.1 hb, keepc h.2.1 hb, keepc h.2.2.1 hb, keepc h.2.2.2.1 hb, keepc h.2.2.2.2 hb⟩
structure Rw where
  pk : Bool
  sr : Int
  it : Int
  n : Int
  at_ : Int
  st : Int
  fr : Int
  gt : Bool
def Rw.cs (r : Rw) : Array Value := #[.bool r.pk, .int .i64 2, .int .i64 r.sr, .int .i64 r.it, .int .i64 r.n, .int .i64 r.at_, .int .i64 r.st, .int .i64 r.fr, .bool r.gt]
set_option maxRecDepth 20000 in
set_option maxHeartbeats 4000000 in
theorem rdo19 (r : Rw) (kd wh it n q a b x : Int) (k N : Nat) (va : Value) (xs : List Int) (w : World) (hkd : kd = 0 ∧ wh = 0 ∨ kd = 1 ∧ wh = 0 ∨ kd = 2 ∧ wh = 1 ∨ kd = 3 ∧ wh = 1 ∨ kd = 4 ∧ wh = 1 ∨ kd = 5 ∧ wh = 2 ∨ kd = 6 ∧ wh = 2) (hq : HQ 3 it q) (hk : Hid (25 + 2 + q * 4 + wh = (k : Int))) (hN : xs.length = N) (hkN : k < N) (hsm : N ≤ 100000) (hx : Hid (xs.getD k 0 = x)) (hd : doV x r.sr kd it n = (a, b)) (hv : View w va xs) :
    Calls Try.prog 62 #[.agg #[.int .i64 1, .int .i64 3, .int .i64 3, .int .i64 3], .agg r.cs, va, .agg #[.int .i64 kd, .int .i64 it, .int .i64 n]] w fun e w' => ∃ g cp, e = .returned (.tuple #[.int .i64 a, .slice (some ⟨g, 0, none⟩) N cp]) ∧ OI w' w.heap.size (.slice (some ⟨g, 0, none⟩) N cp) (xs.set k b) ∧ Below w.heap.size w w' ∧ w.heap.size ≤ g := by
  have CW : Hid (∀ W, Calls Try.prog 35 #[.agg #[.int .i64 1, .int .i64 3, .int .i64 3, .int .i64 3], .int .i64 2, .agg #[.int .i64 kd, .int .i64 it, .int .i64 n]] W fun e w' => e = .returned (.int .i64 (k : Int)) ∧ Below W.heap.size W w') := Lib.hid (fun W => by
    have h := rword_at kd wh it n q W hkd hq
    rw [hk.out] at h
    exact h)
  have CD : Hid (∀ W, Calls Try.prog 36 #[.int .i64 x, .int .i64 r.sr, .agg #[.int .i64 kd, .int .i64 it, .int .i64 n]] W fun e w' => e = .returned (.tuple #[.int .i64 a, .int .i64 b]) ∧ Below W.heap.size W w') := Lib.hid (fun W => rdo_of x r.sr kd it n a b W (by omega) hd)
  have hsm2 : xs.length ≤ 100000 := by omega
  have HV := Lib.hid hv
  have h1 : (k : Int) < (N : Int) := by omega
  have h2 : ¬ (k : Int) < 0 := by omega
  clear hkd hq hk hd
  obtain ⟨av, cv, rfl, _⟩ := hv
  rw [hN] at HV ⊢
  unfold Rw.cs
  go_enter Try.func62, Try.ntmps62
  obtain ⟨W3, hW3⟩ : ∃ W3, ((w.alloc (Obj.cells #[Value.int .i64 1, .int .i64 3, .int .i64 3, .int .i64 3] 61)).alloc (Obj.cells #[Value.bool r.pk, .int .i64 2, .int .i64 r.sr, .int .i64 r.it, .int .i64 r.n, .int .i64 r.at_, .int .i64 r.st, .int .i64 r.fr, .bool r.gt] 74)).alloc (Obj.cells #[Value.int .i64 kd, .int .i64 it, .int .i64 n] 78) = W3 := ⟨_, rfl⟩
  have HB3 : Hid (Below w.heap.size w W3 ∧ W3.heap.size = w.heap.size + 1 + 1 + 1) := Lib.hid (by
    rw [← hW3]
    exact ⟨by go_grown, by show (((w.heap.push _).push _).push _).size = _; simp⟩)
  have HC3 : Hid (W3.heap[w.heap.size]? = some (.cells #[Value.int .i64 1, .int .i64 3, .int .i64 3, .int .i64 3] 61 (0, 0)) ∧ W3.heap[w.heap.size + 1]? = some (.cells #[Value.bool r.pk, .int .i64 2, .int .i64 r.sr, .int .i64 r.it, .int .i64 r.n, .int .i64 r.at_, .int .i64 r.st, .int .i64 r.fr, .bool r.gt] 74 (0, 0)) ∧ W3.heap[w.heap.size + 1 + 1]? = some (.cells #[Value.int .i64 kd, .int .i64 it, .int .i64 n] 78 (0, 0))) := Lib.hid (by
    rw [← hW3]
    refine ⟨?_, ?_, ?_⟩
    · show (((w.heap.push _).push _).push _)[w.heap.size]? = _
      rw [Array.getElem?_push, Array.getElem?_push, Array.getElem?_push]
      simp
      omega
    · show (((w.heap.push _).push _).push _)[w.heap.size + 1]? = _
      rw [Array.getElem?_push, Array.getElem?_push]
      simp
    · show (((w.heap.push _).push _).push _)[w.heap.size + 1 + 1]? = _
      rw [Array.getElem?_push]
      simp)
  go_wp2_with (at_builtin; refine wpList_copy_row rfl _ _ rfl W3.heap.size W3.heap.size rfl ?o1 (Nat.le_refl _) xs ?v1 hsm2 ?_)
  case o1 => (show (W3.heap.push _)[W3.heap.size] = _; simp)
  case v1 => exact HV.out.below ((HB3.out.1).alloc (by rw [HB3.out.2]; omega) _)
  intro v' w' hrow0 hb
  have hb3 : Below W3.heap.size W3 w' := Below.trans ((Below.refl _ W3).alloc (Nat.le_refl _) _) hb
  have HC4 := Lib.hid (show w'.heap[w.heap.size]? = _ ∧ w'.heap[w.heap.size + 1]? = _ ∧ w'.heap[w.heap.size + 1 + 1]? = _ from ⟨(hb3.block _ (lt_of_heap HC3.out.1)).trans HC3.out.1, (hb3.block _ (lt_of_heap HC3.out.2.1)).trans HC3.out.2.1, (hb3.block _ (lt_of_heap HC3.out.2.2)).trans HC3.out.2.2⟩)
  have hbw : Below w.heap.size w w' := btr HB3.out.1 hb3
  have hrow : OI w' (w.heap.size + 1 + 1 + 1) v' xs := by unfold OI; rw [hN, ← HB3.out.2]; exact hrow0
  obtain ⟨P0, hP0⟩ : ∃ P0, w.heap.size = P0 := ⟨_, rfl⟩
  have HP0 := Lib.hid hP0
  rw [hP0] at hrow HC4 ⊢
  have HBW : Hid (Below P0 w w') := Lib.hid (by rw [← hP0]; exact hbw)
  clear hrow0 hb hb3 hbw hP0 HC3 HB3 hW3
  obtain ⟨ad, cp, rfl, hnil, _, hle, hs⟩ := OI.form hrow
  have hrow2 : OI w' (P0 + 1 + 1 + 1) (.slice ad N cp) xs := by rw [hN] at hrow; exact hrow
  rw [hN]
  cases ad with
  | none => exact absurd (hnil rfl).1 (by intro e; rw [e] at hN; simp at hN; omega)
  | some ad =>
    obtain ⟨g, rfl, hgl, hgB, hce⟩ := hs ad rfl
    have HR := Lib.hid hrow2
    have HG := Lib.hid (show P0 + 1 + 1 + 1 ≤ g ∧ g < w'.heap.size from ⟨hgB, hgl⟩)
    clear hrow hrow2 hnil hle hs hce hgB hgl HV
    obtain ⟨y0, y1, y2⟩ := HC4.out
    have z0 : w'.cell? ⟨P0, 0, none⟩ = some (.int .i64 1) := ro.cel y0 0
    have z1 : w'.cell? ⟨P0, 1, none⟩ = some (.int .i64 3) := ro.cel y0 1
    have z2 : w'.cell? ⟨P0, 2, none⟩ = some (.int .i64 3) := ro.cel y0 2
    have z3 : w'.cell? ⟨P0, 3, none⟩ = some (.int .i64 3) := ro.cel y0 3
    have r2' : w'.cell? ⟨P0 + 1, 2, none⟩ = some (.int .i64 r.sr) := ro.cel y1 2
    have r1 : w'.cell? ⟨P0 + 1, 1, none⟩ = some (.int .i64 2) := ro.cel y1 1
    have o0 : w'.cell? ⟨P0 + 1 + 1, 0, none⟩ = some (.int .i64 kd) := ro.cel y2 0
    have o1 : w'.cell? ⟨P0 + 1 + 1, 1, none⟩ = some (.int .i64 it) := ro.cel y2 1
    have o2 : w'.cell? ⟨P0 + 1 + 1, 2, none⟩ = some (.int .i64 n) := ro.cel y2 2
    clear y0 y1 y2
    go_wp2_with fail
    refine (CW.out _).mono ?_
    rintro e w2 ⟨rfl, hb2⟩
    have HB2 := Lib.hid (btr' HBW.out hb2 (by have := HG.out; omega))
    have HR2 := Lib.hid (OI.below HR.out hb2)
    have HG2 := Lib.hid (Nat.lt_of_lt_of_le HG.out.2 hb2.size)
    have r2 := keepc r2' hb2
    have q0 := keepc o0 hb2
    have q1 := keepc o1 hb2
    have q2 := keepc o2 hb2
    have hc : w2.cell? ⟨g, k, none⟩ = some (.int .i64 x) := by
      obtain ⟨a', c', e', _, _, _, h'⟩ := OI.form HR2.out
      rw [Value.slice.injEq] at e'
      obtain ⟨e1, e2, e3⟩ := e'
      obtain ⟨g', e4, _, _, h4⟩ := h' _ e1.symm
      rw [Addr.mk.injEq] at e4
      obtain ⟨rfl, _, _⟩ := e4
      have := h4 k (by rw [hN]; exact hkN)
      rw [hx.out, Nat.zero_add] at this
      exact this
    clear z0 z1 z2 z3 r1 r2' o0 o1 o2 hb2 HR HBW HC4
    go_wp2_with fail
    have hS0 : w2.drew.cell? ⟨g, k, none⟩ = some (.int .i64 x) ∧ w2.drew.cell? ⟨P0 + 1, 2, none⟩ = some (.int .i64 r.sr) ∧ w2.drew.cell? ⟨P0 + 1 + 1, 0, none⟩ = some (.int .i64 kd) ∧ w2.drew.cell? ⟨P0 + 1 + 1, 1, none⟩ = some (.int .i64 it) ∧ w2.drew.cell? ⟨P0 + 1 + 1, 2, none⟩ = some (.int .i64 n) := ⟨hc, r2, q0, q1, q2⟩
    go_region_held3 (fun w' => w'.cell? ⟨g, k, none⟩ = some (.int .i64 x) ∧ w'.cell? ⟨P0 + 1, 2, none⟩ = some (.int .i64 r.sr) ∧ w'.cell? ⟨P0 + 1 + 1, 0, none⟩ = some (.int .i64 kd) ∧ w'.cell? ⟨P0 + 1 + 1, 1, none⟩ = some (.int .i64 it) ∧ w'.cell? ⟨P0 + 1 + 1, 2, none⟩ = some (.int .i64 n)) (first | (with_reducible assumption) | exact hS1 | exact hS0)
      ((go_at_call 36; refine (CD.out _).mono ?_; rintro e w3 ⟨rfl, hb3⟩; have hS1 := keep5 hS0 hb3))
    have hb4 : Below w2.heap.size w2 w3 := Below.trans (below_drewN (Below.refl _ _) 1) hb3
    have HB3 := Lib.hid (btr' HB2.out hb4 (by have := HG.out; have := HG2.out; omega))
    have HR3 := Lib.hid (OI.set (OI.below HR2.out hb4) k b)
    have hc3 := keepc hc hb4
    have hz : w3.frozen? ⟨g, k, none⟩ = false := by
      obtain ⟨_, ⟨e, h0⟩ | ⟨g', cap', cur, e, _, hh, _⟩⟩ := OI.below HR2.out hb4
      · rw [Value.slice.injEq] at e; exact absurd e.1 (by simp)
      · rw [Value.slice.injEq, Option.some.injEq, Addr.mk.injEq] at e
        obtain ⟨⟨rfl, _, _⟩, _, _⟩ := e
        simp [World.frozen?, hh]
    clear r2 q0 q1 q2 hc hb3 hb4 hS0 hS1
    go_wp2_with fail
    go_ret2
    refine ⟨g, cp, rfl, OI.base HR3.out (by have := HP0.out; omega), ?_, by have := HG.out.1; have := HP0.out; omega⟩
    rw [HP0.out]
    exact HB3.out.setCell (p := ⟨g, k, none⟩) (by have := HG.out.1; show P0 ≤ g; omega) _
end Go.Proofs.Ytegbifphekhgkaa.cg
