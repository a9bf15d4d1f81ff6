/- What is done to a deque, in memory: its object beside the store of words; where its words are (layer 13). -/
import Derived.Test.YtegbifphekhgkaaKeep
import Derived.Test.YtegbifphekhgkaaLayout2
import Derived.Test.YtegbifphekhgkaaTicket
import Derived.Deep.RegionHeld3
import Derived.Deep.DrawnRows
namespace Go.Proofs.Ytegbifphekhgkaa
open Go.ChangeShapes Go.WideShapes Go.ChangeAt Go.RowKit
attribute [local go_sem ↓] Go.wp_at_zero Go.wp_at_succ
set_option linter.unusedVariables false
set_option linter.unusedSimpArgs false
/-- A walk's object: two workers, decks of D slots; whose deque; the owner's tail; what is pushed; the head found; the turn; what it got; whether; full; what comes next. -/
structure Wk where
  D : Nat
  k : Nat
  tl : Int
  x : Int
  hd : Int
  ta : Int
  tn : Int
  gt : Int
  hs : Bool
  fl : Bool
  nx : Value
def Wk.cs (o : Wk) : Array Value := #[.int .i64 2, .int .i64 1, .int .i64 1, .int .i64 (o.D : Int), .int .i64 (o.k : Int), .int .i64 o.tl, .int .i64 o.x, .int .i64 o.hd, .int .i64 o.ta, .int .i64 o.tn, .int .i64 o.gt, .bool o.hs, .bool o.fl, o.nx]
def fnV (A f : Nat) : Value := .func (.func f) #[.pointer (some ⟨A, 0, none⟩)] #[]
def WAt (w : World) (A : Nat) (o : Wk) : Prop := w.heap[A]? = some (.cells o.cs 106 (0, 0))
/-- What is asked of a walk's numbers. -/
def WOk (o : Wk) (P n : Nat) : Prop := 2 ≤ o.D ∧ o.D ≤ 256 ∧ o.k < 2 ∧ o.k * (4 + o.D) = P ∧ P + 4 + o.D ≤ n ∧ n ≤ 1048576
theorem WAt.cells {w : World} {A : Nat} {o : Wk} (h : WAt w A o) : w.cell? ⟨A, 0, none⟩ = some (.int .i64 2) ∧ w.cell? ⟨A, 1, none⟩ = some (.int .i64 1) ∧ w.cell? ⟨A, 2, none⟩ = some (.int .i64 1) ∧ w.cell? ⟨A, 3, none⟩ = some (.int .i64 (o.D : Int)) ∧ w.cell? ⟨A, 4, none⟩ = some (.int .i64 (o.k : Int)) ∧ w.cell? ⟨A, 5, none⟩ = some (.int .i64 o.tl) ∧ w.cell? ⟨A, 6, none⟩ = some (.int .i64 o.x) ∧ w.cell? ⟨A, 7, none⟩ = some (.int .i64 o.hd) ∧ w.cell? ⟨A, 8, none⟩ = some (.int .i64 o.ta) ∧ w.cell? ⟨A, 9, none⟩ = some (.int .i64 o.tn) ∧ w.cell? ⟨A, 10, none⟩ = some (.int .i64 o.gt) ∧ w.cell? ⟨A, 11, none⟩ = some (.bool o.hs) ∧ w.cell? ⟨A, 12, none⟩ = some (.bool o.fl) ∧ w.cell? ⟨A, 13, none⟩ = some o.nx ∧ ∀ i, w.frozen? ⟨A, i, none⟩ = false := by
  unfold WAt at h
  refine ⟨?_, ?_, ?_, ?_, ?_, ?_, ?_, ?_, ?_, ?_, ?_, ?_, ?_, ?_, fun i => by simp [World.frozen?, h]⟩ <;> simp [World.cell?, h, Wk.cs]
theorem WAt.lt {w : World} {A : Nat} {o : Wk} (h : WAt w A o) : A < w.heap.size := lt_of_heap h
theorem WAt.below {w w' : World} {A : Nat} {o : Wk} (h : WAt w A o) (hb : Below w.heap.size w w') : WAt w' A o := (hb.block A h.lt).trans h
theorem keep5 {w0 W W' : World} {B : Nat} {v0 v1 v2 v3 v4 : Value} (h : Below w0.heap.size w0 W ∧ W.cell? ⟨B, 0, none⟩ = some v0 ∧ W.cell? ⟨B, 1, none⟩ = some v1 ∧ W.cell? ⟨B, 2, none⟩ = some v2 ∧ W.cell? ⟨B, 3, none⟩ = some v3 ∧ W.cell? ⟨B, 4, none⟩ = some v4) (hb : Below W.heap.size W W') :
    Below w0.heap.size w0 W' ∧ W'.cell? ⟨B, 0, none⟩ = some v0 ∧ W'.cell? ⟨B, 1, none⟩ = some v1 ∧ W'.cell? ⟨B, 2, none⟩ = some v2 ∧ W'.cell? ⟨B, 3, none⟩ = some v3 ∧ W'.cell? ⟨B, 4, none⟩ = some v4 :=
  ⟨Below.tr h.1 hb, keepc h.2.1 hb, keepc h.2.2.1 hb, keepc h.2.2.2.1 hb, keepc h.2.2.2.2.1 hb, keepc h.2.2.2.2.2 hb⟩
theorem dword_of (A P q : Nat) (o : Wk) (n : Nat) (w : World) (h : WAt w A o) (hO : WOk o P n) (hq : q ≤ 3) :
    Calls Try.prog 77 #[.pointer (some ⟨A, 0, none⟩), .int .i64 (q : Int)] w fun e w' => e = .returned (.int .i64 ((P + q : Nat) : Int)) ∧ Below w.heap.size w w' := by
  obtain ⟨d1, d2, hk, hP, hn, hm⟩ := hO
  obtain ⟨c0, c1, c2, c3, c4, _⟩ := h.cells
  have hOk : Hid (Okay 2 1 1 (o.D : Int)) := Lib.hid ⟨by omega, by omega, by omega, by omega, by omega, by omega, by omega, by omega⟩
  have hPI : Hid ((o.k : Int) * (4 + (o.D : Int)) = (P : Int)) := Lib.hid (by rw [← hP]; push_cast; rfl)
  have hs : IntKind.i64.wrap ((P : Int) + (q : Int)) = ((P + q : Nat) : Int) := by rw [IntKind.wrap_i64]; omega
  have hs2 : IntKind.i64.wrap ((P : Int) + (q : Int)) = (P : Int) + (q : Int) := by rw [IntKind.wrap_i64]; omega
  have hk2 : (o.k : Int) < 2 := by omega
  clear h hP
  generalize o.D = D at *
  generalize o.k = k at *
  go_enter Try.func77, Try.ntmps77
  go_wp2_with fail
  go_region_held3 (fun w' => Below w.heap.size w w' ∧ w'.cell? ⟨A, 0, none⟩ = some (.int .i64 2) ∧ w'.cell? ⟨A, 1, none⟩ = some (.int .i64 1) ∧ w'.cell? ⟨A, 2, none⟩ = some (.int .i64 1) ∧ w'.cell? ⟨A, 3, none⟩ = some (.int .i64 (D : Int)) ∧ w'.cell? ⟨A, 4, none⟩ = some (.int .i64 (k : Int)))
    (first | (with_reducible assumption) | exact ⟨Below.refl _ _, c0, c1, c2, c3, c4⟩ | (refine keep5 ⟨Below.refl _ _, c0, c1, c2, c3, c4⟩ ?_; go_grown; done) | (refine keep5 (by with_reducible assumption) ?_; first | (with_reducible assumption) | (go_grown; done)))
    (first | (go_at_call 16; refine (base_of 2 1 1 (D : Int) (k : Int) (P : Int) _ hOk (by omega) hk2 hPI).mono ?_; rintro e w1 ⟨rfl, hb⟩))
  all_goals
    go_wp2_with fail
    go_ret
    exact ⟨by simp, And.left (by assumption)⟩
theorem load_of (S g A P q : Nat) (o : Wk) (xs : List Int) (v : Int) (w : World) (h : WAt w A o) (hO : WOk o P xs.length) (hq : q ≤ 3) (hst : StoreAt w S g xs) (hv : Hid (xs.getD (P + q) 0 = v)) :
    Calls Try.prog 75 #[.pointer (some ⟨A, 0, none⟩), .pointer (some ⟨S, 0, none⟩), .int .i64 (q : Int)] w fun e w' => e = .returned (.int .i64 v) ∧ Below w.heap.size w w' := by
  have C := Lib.hid (dword_of A P q o xs.length w h hO hq)
  obtain ⟨d1, d2, hk, hP, hn, hm⟩ := hO
  have HS := Lib.hid hst
  have hat : P + q < xs.length := by omega
  clear h hst hP
  go_enter Try.func75, Try.ntmps75
  go_wp2_with fail
  refine C.out.mono ?_
  rintro e w1 ⟨rfl, hb⟩
  have HS1 := Lib.hid (HS.out.below hb)
  go_wp2_with fail
  refine (load_in S g xs (P + q) _ HS1.out hat hm).mono ?_
  rintro e w2 ⟨rfl, rfl⟩
  rw [hv.out]
  go_wp2_with fail
  go_ret
  exact ⟨rfl, hb⟩
end Go.Proofs.Ytegbifphekhgkaa
