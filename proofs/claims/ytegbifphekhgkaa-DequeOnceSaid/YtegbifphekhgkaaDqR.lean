/- The reference's words of layer 13: one read, one written in a copy, a slot's place. -/
import Derived.Test.YtegbifphekhgkaaDqT
import Derived.Test.YtegbifphekhgkaaIntR
import Derived.BigQuiet
namespace Go.Proofs.Ytegbifphekhgkaa
open Go.ChangeShapes Go.WideShapes Go.ChangeAt Go.RowKit
attribute [local go_sem ↓] Go.wp_at_zero Go.wp_at_succ
set_option linter.unusedVariables false
set_option linter.unusedSimpArgs false
theorem rword_of (va : Value) (xs : List Int) (a : Nat) (x : Int) (w : World) (hv : View w va xs) (ha : a < xs.length) (hx : Hid (xs.getD a 0 = x)) :
    Calls Try.prog 81 #[va, .int .i64 (a : Int)] w fun e w' => e = .returned (.int .i64 x) ∧ w' = w := by
  rcases hv.cases with ⟨rfl, _⟩ | ⟨hne, b, off, cap, rfl, hle, hlt, hm, hc⟩
  · simp at ha
  · have c := hc a ha
    rw [hx.out] at c
    have h1 : (a : Int) < (xs.length : Int) := by omega
    have h2 : ¬ (a : Int) < 0 := by omega
    clear hc hv hx hne
    generalize xs.length = n at *
    go_enter Try.func81, Try.ntmps81
    go_wp2_with fail
    go_ret
    exact ⟨rfl, rfl⟩
theorem OI.set {w : World} {B g n cap : Nat} {xs : List Int} (h : OI w B (.slice (some ⟨g, 0, none⟩) n cap) xs) (a : Nat) (x : Int) : OI (w.setCell ⟨g, a, none⟩ (.int .i64 x)) B (.slice (some ⟨g, 0, none⟩) n cap) (xs.set a x) := by
  obtain ⟨hl, ⟨e, h0⟩ | ⟨g', cap', cur, e, hg, hh, h1, h2, h3, h4⟩⟩ := h
  · rw [Value.slice.injEq] at e
    exact absurd e.1 (by simp)
  · rw [Value.slice.injEq] at e
    obtain ⟨e1, e2, e3⟩ := e
    rw [Option.some.injEq, Addr.mk.injEq] at e1
    obtain ⟨rfl, _, _⟩ := e1
    subst e3
    refine ⟨by simp, .inr ⟨g, cap, cur.setIfInBounds a (.int .i64 x), by rw [List.length_set, e2], hg, setA_obj _ hh, by rw [List.length_set]; exact h1, h2, by simpa using h3, ?_⟩⟩
    rw [List.length_set, Array.toList_setIfInBounds, List.take_set, h4, List.map_set]
theorem rwith_of (va : Value) (xs : List Int) (a n : Nat) (x : Int) (w : World) (hv : View w va xs) (hn : xs.length = n) (ha : a < n) (hsm : n ≤ 100000) :
    Calls Try.prog 82 #[va, .int .i64 (a : Int), .int .i64 x] w fun e w' => ∃ g cp, e = .returned (.slice (some ⟨g, 0, none⟩) n cp) ∧ OI w' w.heap.size (.slice (some ⟨g, 0, none⟩) n cp) (xs.set a x) ∧ Below w.heap.size w w' ∧ w.heap.size ≤ g := by
  have hsm2 : xs.length ≤ 100000 := by omega
  have HV := Lib.hid hv
  have h1 : (a : Int) < (n : Int) := by omega
  have h2 : ¬ (a : Int) < 0 := by omega
  obtain ⟨av, cv, rfl, _⟩ := hv
  rw [hn] at HV ⊢
  go_enter Try.func82, Try.ntmps82
  go_wp2_with (at_builtin; refine wpList_copy_row rfl _ _ rfl w.heap.size w.heap.size rfl ?o1 (Nat.le_refl _) xs ?v1 hsm2 ?_)
  case o1 => first | exact heap_made w _ | (show (w.heap.push _)[w.heap.size] = _; simp)
  case v1 => exact HV.out.below ((Below.refl _ _).alloc (Nat.le_refl _) _)
  intro v' w' hrow0 hb
  have hrow : OI w' w.heap.size v' xs := by unfold OI; rw [hn]; exact hrow0
  clear hrow0
  have hbw : Below w.heap.size w w' := ((Below.refl _ w).alloc (Nat.le_refl _) _).trans hb
  obtain ⟨ad, cp, rfl, hnil, _, hle, hs⟩ := OI.form hrow
  have hrow2 : OI w' w.heap.size (.slice ad n cp) xs := by rw [hn] at hrow; exact hrow
  rw [hn]
  cases ad with
  | none => exact absurd (hnil rfl).1 (by intro e; rw [e] at hn; simp at hn; omega)
  | some ad =>
    obtain ⟨g, rfl, hgl, hgB, hce⟩ := hs ad rfl
    have c := hce a (by omega)
    rw [Nat.zero_add] at c
    have hz : w'.frozen? ⟨g, a, none⟩ = false := by
      obtain ⟨_, ⟨e, h0⟩ | ⟨g', cap', cur, e, _, hh, _⟩⟩ := hrow2
      · rw [Value.slice.injEq] at e; exact absurd e.1 (by simp)
      · rw [Value.slice.injEq, Option.some.injEq, Addr.mk.injEq] at e
        obtain ⟨⟨rfl, _, _⟩, _, _⟩ := e
        simp [World.frozen?, hh]
    have HR := Lib.hid (OI.set hrow2 a x)
    have HB := Lib.hid (hbw.setCell (p := ⟨g, a, none⟩) hgB (.int .i64 x))
    clear hrow hrow2 hb hnil hle hs hce HV hbw
    go_wp2_with fail
    go_ret
    exact ⟨g, cp, rfl, HR.out, HB.out, hgB⟩
/-- A walk of the reference, by value. -/
structure Rk where
  kd : Int
  P : Nat
  D : Nat
  at_ : Int
  t : Int
  x : Int
  tn : Int
  h : Int
  got : Bool
  full : Bool
def Rk.cs (r : Rk) : Array Value := #[.int .i64 r.kd, .int .i64 (r.P : Int), .int .i64 (r.D : Int), .int .i64 r.at_, .int .i64 r.t, .int .i64 r.x, .int .i64 r.tn, .int .i64 r.h, .bool r.got, .bool r.full]
theorem rslot_of (r : Rk) (n : Int) (m : Nat) (w : World) (hP : r.P ≤ 1000) (hD : 2 ≤ r.D) (hD2 : r.D ≤ 256) (hn : 0 ≤ n) (hm : Hid (n.tmod (r.D : Int) = (m : Int))) (hmD : m < r.D) :
    Calls Try.prog 83 #[.agg r.cs, .int .i64 n] w fun e w' => e = .returned (.int .i64 ((r.P + 4 + m : Nat) : Int)) ∧ Below w.heap.size w w' := by
  have hx : Hid ((if n < 0 then (0 : Int) else n) = n) := Lib.hid (by rw [if_neg (by omega)])
  have hx1 := hx.out
  have hm1 := hm.out
  have hz1 : ((r.D : Int) == 0) = false := by simp; omega
  have hz2 : ¬ (r.D : Int) = 0 := by omega
  have hz3 : ¬ r.D = 0 := by omega
  have hw1 : IntKind.i64.wrap ((r.P : Int) + 4) = (r.P : Int) + 4 := by rw [IntKind.wrap_i64]; omega
  have hw2 : IntKind.i64.wrap ((r.P : Int) + 4 + (m : Int)) = (r.P : Int) + 4 + (m : Int) := by rw [IntKind.wrap_i64]; omega
  have hw3 : IntKind.i64.wrap (m : Int) = (m : Int) := by rw [IntKind.wrap_i64]; omega
  unfold Rk.cs
  go_enter Try.func83, Try.ntmps83
  go_wp2_with fail
  obtain ⟨W, hW⟩ : ∃ W, W = w.alloc (Obj.cells r.cs 37) := ⟨_, rfl⟩
  have hh : W.heap[w.heap.size]? = some (.cells r.cs 37 (0, 0)) := by rw [hW]; exact heap_alloc_new _ _
  have p1 : W.cell? ⟨w.heap.size, 1, none⟩ = some (.int .i64 (r.P : Int)) := by simp [World.cell?, hh, Rk.cs]
  have p2 : W.cell? ⟨w.heap.size, 2, none⟩ = some (.int .i64 (r.D : Int)) := by simp [World.cell?, hh, Rk.cs]
  have hb : Below w.heap.size w W := by rw [hW]; go_grown
  have hW2 : w.alloc (Obj.cells #[.int .i64 r.kd, .int .i64 (r.P : Int), .int .i64 (r.D : Int), .int .i64 r.at_, .int .i64 r.t, .int .i64 r.x, .int .i64 r.tn, .int .i64 r.h, .bool r.got, .bool r.full] 37) = W := hW.symm
  rw [hW2]
  clear hW hW2 hh hm hx
  go_quiet (fail)
  go_wp2_with fail
  go_ret
  exact ⟨by simp, hb.trans (Below.mono (below_drewN (Below.refl _ _) _) hb.size)⟩
end Go.Proofs.Ytegbifphekhgkaa
