/- What a core is made of: the small calls (layer 25). -/
import Derived.Test.YtbmndjedgedbdaaCoT
import Derived.Test.YtbmndjedgedbdaaPrD
import Derived.Test.YtbmndjedgedbdaaBdG
import Derived.Test.YtbmndjedgedbdaaLgA
import Derived.Test.YtbmndjedgedbdaaNoPlan
import Derived.Test.YtbmndjedgedbdaaLayout3
import Derived.Test.YtbmndjedgedbdaaIntR
import Derived.BigQuiet
import Derived.Deep.DrawnRows
namespace Go.Proofs.Ytbmndjedgedbdaa.co
open Go.ChangeShapes Go.WideShapes Go.ChangeAt Go.RowKit
open Go.Proofs.Ytbmndjedgedbdaa.pr
attribute [local go_sem ↓] Go.wp_at_zero Go.wp_at_succ
attribute [local go_sem] Oper.semAt_some
set_option linter.unusedVariables false
set_option linter.unusedSimpArgs false
theorem ghb {B : Nat} {w W : World} (h : Below B w W) (n : Nat) : Below B w (W.drewN n) := ⟨h.os, h.tape, h.output, h.size, h.block⟩
theorem ghd {B : Nat} {w W : World} (h : Below B w W) : Below B w W.drew := ⟨h.os, h.tape, h.output, h.size, h.block⟩
theorem kc {w w' : World} {B j : Nat} {v : Value} (h : w.cell? ⟨B, j, none⟩ = some v) (hb : Below w.heap.size w w') : w'.cell? ⟨B, j, none⟩ = some v :=
  (hb.cell (p := ⟨B, j, none⟩) (World.block_lt_of_cell? w _ h)).trans h
/-- parameters. -/
structure Q7 where
  W : Int
  Th : Int
  F : Int
  D : Int
  O : Int
  fo : Bool
  la : Bool
def Q7.v (q : Q7) : Value := .agg #[.int .i64 q.W, .int .i64 q.Th, .int .i64 q.F, .int .i64 q.D, .int .i64 q.O, .bool q.fo, .bool q.la]
theorem plan_v (a b c d o : Int) (f l : Bool) (w : World) : Calls Try.prog 37 #[.agg #[.int .i64 a, .int .i64 b, .int .i64 c, .int .i64 d, .int .i64 o, .bool f, .bool l]] w fun e w' => e = .returned (.agg #[.int .i64 a, .int .i64 c, .int .i64 b, .int .i64 d]) ∧ Below w.heap.size w w' := by
  go_enter Try.func37, Try.ntmps37
  go_wp2_with fail
  exact bodyPost_ret (v := .agg #[.int .i64 a, .int .i64 c, .int .i64 b, .int .i64 d]) (by simp [results, Try.results37, go_sem]) rfl ⟨rfl, by go_grown⟩
theorem snew_v (o : Int) (h0 : 0 ≤ o) (h1 : o ≤ 1000) (w : World) : Calls Try.prog 38 #[.int .i64 o] w fun e w' => e = .returned (.pointer (some ⟨w.heap.size, 0, none⟩)) ∧ w'.heap[w.heap.size]? = some (.cells #[.int .i64 o, .slice none 0 0] 107 (0, 0)) ∧ Below w.heap.size w w' := by
  have e1 : (if o < 0 then (0 : Int) else o) = o := if_neg (by omega)
  have e2 : (if 1000 < o then (1000 : Int) else o) = o := if_neg (by omega)
  have e3 : ¬ o < 0 := by omega
  have e4 : ¬ 1000 < o := by omega
  go_enter Try.func38, Try.ntmps38
  go_wp2_with fail
  go_ret
  exact ⟨rfl, heap_alloc_new _ _, by go_grown⟩
theorem lnew_v (w : World) : Calls Try.prog 39 #[] w fun e w' => e = .returned (.pointer (some ⟨w.heap.size, 0, none⟩)) ∧ w'.heap[w.heap.size]? = some (.cells #[.slice none 0 0] 110 (0, 0)) ∧ Below w.heap.size w w' := by
  go_enter Try.func39, Try.ntmps39
  go_wp2_with fail
  go_ret
  exact ⟨rfl, heap_alloc_new _ _, by go_grown⟩
theorem step_appP {ops : Array Oper} {o : Oper} {a : Act} {w : World} {K : Act → World → Prop} {Q : Exit → Act → World → Prop} {E : Prop} (hgd : o.guard = none) (s x : Operand)
    (ho : o.op = .call { callee := .builtin .append, args := #[s, x], argTypes := #[22, 22] })
    (B : Nat) (v : Value) (rows : List Value) (L : List (List I4)) (ad : Addr) (c : Nat) (u : Value) (xs : List I4) (hs : a.eval s = v) (hx : a.eval x = .slice (some ad) 1 c) (hown : OP w B v rows L) (hu : w.cell? ad = some u) (hux : OR 4 enI w B 68 u xs) (hpl : ad.add 0 = ad) (hsm : L.length ≤ 100000) (hB : B ≤ w.heap.size)
    (h : ∀ v' w', OP w' B v' (rows ++ [u]) (L ++ [xs]) → w.grownBy w' v.ownBlock → K (a.put o.dst v') w') :
    if Region.wanted o (yielded ops a.tmps) = true then Oper.wp Try.prog o a w K Q else E := by
  have hw : Region.wanted o (yielded ops a.tmps) = true := by simp [Region.wanted, hgd]
  rw [if_pos hw]
  obtain ⟨v', w', hr, h2, h3, h4⟩ := run_appP o.type B v rows L ad c u xs hown hu hux hpl hsm hB
  unfold Oper.wp execOp
  simp only [ho, resolve, invoke, builtin, Sem.run_bind, Sem.run_pure, Result.andThen_ok, List.map_toArray, List.map_cons, List.map_nil, hs, hx, hr]
  exact h v' w' h2 h3
instance (a b c d : Int) : Decidable (Okay a b c d) := by unfold Okay; infer_instance
/-- what is wrong with a run. -/
def coE (m : Int) (L : List (List I4)) (n : Nat) (q : Q7) : Int :=
  if prE m L ≠ 0 then prE m L else if ¬ Okay q.W q.F q.Th q.D ∨ q.O < 0 ∨ 1000 < q.O then 3 else if m < (n : Int) then 9 else 0
set_option maxRecDepth 20000 in
set_option maxHeartbeats 1000000 in
theorem ck_a (m : Int) (x : Value) (ya : Option Addr) (n yc : Nat) (a b c d o : Int) (f l : Bool) (e : Int) (h0 : e ≠ 0) (w : World) (HC : Hid (∀ w', Below w.heap.size w w' → Calls Try.prog 46 #[.agg #[.int .i64 m, x]] w' fun e' w'' => e' = .returned (.int .i64 e) ∧ Below w'.heap.size w' w''))
      :
    Calls Try.prog 11 #[.agg #[.int .i64 m, x], .slice ya n yc, .agg #[.int .i64 a, .int .i64 b, .int .i64 c, .int .i64 d, .int .i64 o, .bool f, .bool l]] w fun e' w' => e' = .returned (.int .i64 e) ∧ Below w.heap.size w w' := by
  have h1 : (e == 0) = false := by simpa using h0
  have h2 : decide (e = 0) = false := decide_eq_false h0
  have h3 : (e != 0) = true := by simpa using h0
  have HK : Hid (∀ w' : World, Below ((w.alloc (.cells #[.int .i64 m, x] 24)).alloc (.cells #[.int .i64 a, .int .i64 b, .int .i64 c, .int .i64 d, .int .i64 o, .bool f, .bool l] 27)).heap.size ((w.alloc (.cells #[.int .i64 m, x] 24)).alloc (.cells #[.int .i64 a, .int .i64 b, .int .i64 c, .int .i64 d, .int .i64 o, .bool f, .bool l] 27)) w' → w'.cell? ⟨w.heap.size, 0, none⟩ = some (.int .i64 m) ∧ w'.cell? ⟨w.heap.size + 1, 0, none⟩ = some (.int .i64 a) ∧ w'.cell? ⟨w.heap.size + 1, 1, none⟩ = some (.int .i64 b) ∧ w'.cell? ⟨w.heap.size + 1, 2, none⟩ = some (.int .i64 c) ∧ w'.cell? ⟨w.heap.size + 1, 3, none⟩ = some (.int .i64 d) ∧ w'.cell? ⟨w.heap.size + 1, 4, none⟩ = some (.int .i64 o) ∧ w'.cell? ⟨w.heap.size + 1, 5, none⟩ = some (.bool f) ∧ w'.cell? ⟨w.heap.size + 1, 6, none⟩ = some (.bool l)) := Lib.hid (fun w' hb => by
    refine ⟨kc (by go_simp) hb, kc (by go_simp) hb, kc (by go_simp) hb, kc (by go_simp) hb, kc (by go_simp) hb, kc (by go_simp) hb, kc (by go_simp) hb, kc (by go_simp) hb⟩)
  go_enter Try.func11, Try.ntmps11
  go_wp2_with (first | (go_at_call 46; (with_reducible refine (HC.out _ (by go_grown)).mono ?_); rintro _ w2 ⟨rfl, hb2⟩; obtain ⟨c0, c1, c2, c3, c4, c5, c6, c7⟩ := HK.out w2 hb2))
  go_ret
  exact ⟨rfl, Below.trans (B := w.heap.size) (by go_grown) (hb2.mono (by simp; omega))⟩
set_option maxRecDepth 20000 in
set_option maxHeartbeats 1000000 in
theorem ck_b (m : Int) (x : Value) (ya : Option Addr) (n yc : Nat) (a b c d o : Int) (f l : Bool) (w : World) (HC : Hid (∀ w', Below w.heap.size w w' → Calls Try.prog 46 #[.agg #[.int .i64 m, x]] w' fun e' w'' => e' = .returned (.int .i64 0) ∧ Below w'.heap.size w' w''))
    (HP : Hid (∀ w', Calls Try.prog 47 #[.agg #[.int .i64 a, .int .i64 c, .int .i64 b, .int .i64 d]] w' fun e w'' => e = .returned (.int .i64 3) ∧ Below w'.heap.size w' w''))  :
    Calls Try.prog 11 #[.agg #[.int .i64 m, x], .slice ya n yc, .agg #[.int .i64 a, .int .i64 b, .int .i64 c, .int .i64 d, .int .i64 o, .bool f, .bool l]] w fun e' w' => e' = .returned (.int .i64 3) ∧ Below w.heap.size w w' := by
  have HK : Hid (∀ w' : World, Below ((w.alloc (.cells #[.int .i64 m, x] 24)).alloc (.cells #[.int .i64 a, .int .i64 b, .int .i64 c, .int .i64 d, .int .i64 o, .bool f, .bool l] 27)).heap.size ((w.alloc (.cells #[.int .i64 m, x] 24)).alloc (.cells #[.int .i64 a, .int .i64 b, .int .i64 c, .int .i64 d, .int .i64 o, .bool f, .bool l] 27)) w' → w'.cell? ⟨w.heap.size, 0, none⟩ = some (.int .i64 m) ∧ w'.cell? ⟨w.heap.size + 1, 0, none⟩ = some (.int .i64 a) ∧ w'.cell? ⟨w.heap.size + 1, 1, none⟩ = some (.int .i64 b) ∧ w'.cell? ⟨w.heap.size + 1, 2, none⟩ = some (.int .i64 c) ∧ w'.cell? ⟨w.heap.size + 1, 3, none⟩ = some (.int .i64 d) ∧ w'.cell? ⟨w.heap.size + 1, 4, none⟩ = some (.int .i64 o) ∧ w'.cell? ⟨w.heap.size + 1, 5, none⟩ = some (.bool f) ∧ w'.cell? ⟨w.heap.size + 1, 6, none⟩ = some (.bool l)) := Lib.hid (fun w' hb => by
    refine ⟨kc (by go_simp) hb, kc (by go_simp) hb, kc (by go_simp) hb, kc (by go_simp) hb, kc (by go_simp) hb, kc (by go_simp) hb, kc (by go_simp) hb, kc (by go_simp) hb⟩)
  go_enter Try.func11, Try.ntmps11
  go_wp2_with (first | (go_at_call 46; (with_reducible refine (HC.out _ (by go_grown)).mono ?_); rintro _ w2 ⟨rfl, hb2⟩; obtain ⟨c0, c1, c2, c3, c4, c5, c6, c7⟩ := HK.out w2 hb2) | (go_at_call 37; (with_reducible refine (plan_v a b c d o f l _).mono ?_); rintro _ w3 ⟨rfl, hb3⟩) | (go_at_call 47; (with_reducible refine (HP.out _).mono ?_); rintro _ w4 ⟨rfl, hb4⟩; have hb24 := hb3.trans (hb4.mono hb3.size); have d4 := kc c5 hb24; have d0 := kc c0 hb24))
  go_ret
  exact ⟨rfl, Below.trans (B := w.heap.size) (Below.trans (B := w.heap.size) (by go_grown) (hb2.mono (by simp; omega))) (hb24.mono (Nat.le_trans (by simp; omega) hb2.size))⟩
set_option maxRecDepth 20000 in
set_option maxHeartbeats 1000000 in
theorem ck_c (m : Int) (x : Value) (ya : Option Addr) (n yc : Nat) (a b c d o : Int) (f l : Bool) (w : World) (HC : Hid (∀ w', Below w.heap.size w w' → Calls Try.prog 46 #[.agg #[.int .i64 m, x]] w' fun e' w'' => e' = .returned (.int .i64 0) ∧ Below w'.heap.size w' w''))
    (HP : Hid (∀ w', Calls Try.prog 47 #[.agg #[.int .i64 a, .int .i64 c, .int .i64 b, .int .i64 d]] w' fun e w'' => e = .returned (.int .i64 0) ∧ Below w'.heap.size w' w'')) (o1 : o < 0) (o2 : decide (o < 0) = true) :
    Calls Try.prog 11 #[.agg #[.int .i64 m, x], .slice ya n yc, .agg #[.int .i64 a, .int .i64 b, .int .i64 c, .int .i64 d, .int .i64 o, .bool f, .bool l]] w fun e' w' => e' = .returned (.int .i64 3) ∧ Below w.heap.size w w' := by
  have HK : Hid (∀ w' : World, Below ((w.alloc (.cells #[.int .i64 m, x] 24)).alloc (.cells #[.int .i64 a, .int .i64 b, .int .i64 c, .int .i64 d, .int .i64 o, .bool f, .bool l] 27)).heap.size ((w.alloc (.cells #[.int .i64 m, x] 24)).alloc (.cells #[.int .i64 a, .int .i64 b, .int .i64 c, .int .i64 d, .int .i64 o, .bool f, .bool l] 27)) w' → w'.cell? ⟨w.heap.size, 0, none⟩ = some (.int .i64 m) ∧ w'.cell? ⟨w.heap.size + 1, 0, none⟩ = some (.int .i64 a) ∧ w'.cell? ⟨w.heap.size + 1, 1, none⟩ = some (.int .i64 b) ∧ w'.cell? ⟨w.heap.size + 1, 2, none⟩ = some (.int .i64 c) ∧ w'.cell? ⟨w.heap.size + 1, 3, none⟩ = some (.int .i64 d) ∧ w'.cell? ⟨w.heap.size + 1, 4, none⟩ = some (.int .i64 o) ∧ w'.cell? ⟨w.heap.size + 1, 5, none⟩ = some (.bool f) ∧ w'.cell? ⟨w.heap.size + 1, 6, none⟩ = some (.bool l)) := Lib.hid (fun w' hb => by
    refine ⟨kc (by go_simp) hb, kc (by go_simp) hb, kc (by go_simp) hb, kc (by go_simp) hb, kc (by go_simp) hb, kc (by go_simp) hb, kc (by go_simp) hb, kc (by go_simp) hb⟩)
  go_enter Try.func11, Try.ntmps11
  go_wp2_with (first | (go_at_call 46; (with_reducible refine (HC.out _ (by go_grown)).mono ?_); rintro _ w2 ⟨rfl, hb2⟩; obtain ⟨c0, c1, c2, c3, c4, c5, c6, c7⟩ := HK.out w2 hb2) | (go_at_call 37; (with_reducible refine (plan_v a b c d o f l _).mono ?_); rintro _ w3 ⟨rfl, hb3⟩) | (go_at_call 47; (with_reducible refine (HP.out _).mono ?_); rintro _ w4 ⟨rfl, hb4⟩; have hb24 := hb3.trans (hb4.mono hb3.size); have d4 := kc c5 hb24; have d0 := kc c0 hb24))
  go_ret
  exact ⟨rfl, Below.trans (B := w.heap.size) (Below.trans (B := w.heap.size) (by go_grown) (hb2.mono (by simp; omega))) (hb24.mono (Nat.le_trans (by simp; omega) hb2.size))⟩
set_option maxRecDepth 20000 in
set_option maxHeartbeats 1000000 in
theorem ck_d (m : Int) (x : Value) (ya : Option Addr) (n yc : Nat) (a b c d o : Int) (f l : Bool) (w : World) (HC : Hid (∀ w', Below w.heap.size w w' → Calls Try.prog 46 #[.agg #[.int .i64 m, x]] w' fun e' w'' => e' = .returned (.int .i64 0) ∧ Below w'.heap.size w' w''))
    (HP : Hid (∀ w', Calls Try.prog 47 #[.agg #[.int .i64 a, .int .i64 c, .int .i64 b, .int .i64 d]] w' fun e w'' => e = .returned (.int .i64 0) ∧ Below w'.heap.size w' w'')) (o1 : ¬ o < 0) (o2 : decide (o < 0) = false) (o3 : 1000 < o) (o4 : decide (1000 < o) = true) :
    Calls Try.prog 11 #[.agg #[.int .i64 m, x], .slice ya n yc, .agg #[.int .i64 a, .int .i64 b, .int .i64 c, .int .i64 d, .int .i64 o, .bool f, .bool l]] w fun e' w' => e' = .returned (.int .i64 3) ∧ Below w.heap.size w w' := by
  have HK : Hid (∀ w' : World, Below ((w.alloc (.cells #[.int .i64 m, x] 24)).alloc (.cells #[.int .i64 a, .int .i64 b, .int .i64 c, .int .i64 d, .int .i64 o, .bool f, .bool l] 27)).heap.size ((w.alloc (.cells #[.int .i64 m, x] 24)).alloc (.cells #[.int .i64 a, .int .i64 b, .int .i64 c, .int .i64 d, .int .i64 o, .bool f, .bool l] 27)) w' → w'.cell? ⟨w.heap.size, 0, none⟩ = some (.int .i64 m) ∧ w'.cell? ⟨w.heap.size + 1, 0, none⟩ = some (.int .i64 a) ∧ w'.cell? ⟨w.heap.size + 1, 1, none⟩ = some (.int .i64 b) ∧ w'.cell? ⟨w.heap.size + 1, 2, none⟩ = some (.int .i64 c) ∧ w'.cell? ⟨w.heap.size + 1, 3, none⟩ = some (.int .i64 d) ∧ w'.cell? ⟨w.heap.size + 1, 4, none⟩ = some (.int .i64 o) ∧ w'.cell? ⟨w.heap.size + 1, 5, none⟩ = some (.bool f) ∧ w'.cell? ⟨w.heap.size + 1, 6, none⟩ = some (.bool l)) := Lib.hid (fun w' hb => by
    refine ⟨kc (by go_simp) hb, kc (by go_simp) hb, kc (by go_simp) hb, kc (by go_simp) hb, kc (by go_simp) hb, kc (by go_simp) hb, kc (by go_simp) hb, kc (by go_simp) hb⟩)
  go_enter Try.func11, Try.ntmps11
  go_wp2_with (first | (go_at_call 46; (with_reducible refine (HC.out _ (by go_grown)).mono ?_); rintro _ w2 ⟨rfl, hb2⟩; obtain ⟨c0, c1, c2, c3, c4, c5, c6, c7⟩ := HK.out w2 hb2) | (go_at_call 37; (with_reducible refine (plan_v a b c d o f l _).mono ?_); rintro _ w3 ⟨rfl, hb3⟩) | (go_at_call 47; (with_reducible refine (HP.out _).mono ?_); rintro _ w4 ⟨rfl, hb4⟩; have hb24 := hb3.trans (hb4.mono hb3.size); have d4 := kc c5 hb24; have d0 := kc c0 hb24))
  go_ret
  exact ⟨rfl, Below.trans (B := w.heap.size) (Below.trans (B := w.heap.size) (by go_grown) (hb2.mono (by simp; omega))) (hb24.mono (Nat.le_trans (by simp; omega) hb2.size))⟩
set_option maxRecDepth 20000 in
set_option maxHeartbeats 1000000 in
theorem ck_e (m : Int) (x : Value) (ya : Option Addr) (n yc : Nat) (a b c d o : Int) (f l : Bool) (w : World) (HC : Hid (∀ w', Below w.heap.size w w' → Calls Try.prog 46 #[.agg #[.int .i64 m, x]] w' fun e' w'' => e' = .returned (.int .i64 0) ∧ Below w'.heap.size w' w''))
    (HP : Hid (∀ w', Calls Try.prog 47 #[.agg #[.int .i64 a, .int .i64 c, .int .i64 b, .int .i64 d]] w' fun e w'' => e = .returned (.int .i64 0) ∧ Below w'.heap.size w' w'')) (o1 : ¬ o < 0) (o2 : decide (o < 0) = false) (o3 : ¬ 1000 < o) (o4 : decide (1000 < o) = false) (n1 : m < (n : Int)) (n2 : decide (m < (n : Int)) = true) :
    Calls Try.prog 11 #[.agg #[.int .i64 m, x], .slice ya n yc, .agg #[.int .i64 a, .int .i64 b, .int .i64 c, .int .i64 d, .int .i64 o, .bool f, .bool l]] w fun e' w' => e' = .returned (.int .i64 9) ∧ Below w.heap.size w w' := by
  have HK : Hid (∀ w' : World, Below ((w.alloc (.cells #[.int .i64 m, x] 24)).alloc (.cells #[.int .i64 a, .int .i64 b, .int .i64 c, .int .i64 d, .int .i64 o, .bool f, .bool l] 27)).heap.size ((w.alloc (.cells #[.int .i64 m, x] 24)).alloc (.cells #[.int .i64 a, .int .i64 b, .int .i64 c, .int .i64 d, .int .i64 o, .bool f, .bool l] 27)) w' → w'.cell? ⟨w.heap.size, 0, none⟩ = some (.int .i64 m) ∧ w'.cell? ⟨w.heap.size + 1, 0, none⟩ = some (.int .i64 a) ∧ w'.cell? ⟨w.heap.size + 1, 1, none⟩ = some (.int .i64 b) ∧ w'.cell? ⟨w.heap.size + 1, 2, none⟩ = some (.int .i64 c) ∧ w'.cell? ⟨w.heap.size + 1, 3, none⟩ = some (.int .i64 d) ∧ w'.cell? ⟨w.heap.size + 1, 4, none⟩ = some (.int .i64 o) ∧ w'.cell? ⟨w.heap.size + 1, 5, none⟩ = some (.bool f) ∧ w'.cell? ⟨w.heap.size + 1, 6, none⟩ = some (.bool l)) := Lib.hid (fun w' hb => by
    refine ⟨kc (by go_simp) hb, kc (by go_simp) hb, kc (by go_simp) hb, kc (by go_simp) hb, kc (by go_simp) hb, kc (by go_simp) hb, kc (by go_simp) hb, kc (by go_simp) hb⟩)
  go_enter Try.func11, Try.ntmps11
  go_wp2_with (first | (go_at_call 46; (with_reducible refine (HC.out _ (by go_grown)).mono ?_); rintro _ w2 ⟨rfl, hb2⟩; obtain ⟨c0, c1, c2, c3, c4, c5, c6, c7⟩ := HK.out w2 hb2) | (go_at_call 37; (with_reducible refine (plan_v a b c d o f l _).mono ?_); rintro _ w3 ⟨rfl, hb3⟩) | (go_at_call 47; (with_reducible refine (HP.out _).mono ?_); rintro _ w4 ⟨rfl, hb4⟩; have hb24 := hb3.trans (hb4.mono hb3.size); have d4 := kc c5 hb24; have d0 := kc c0 hb24))
  go_ret
  exact ⟨rfl, Below.trans (B := w.heap.size) (Below.trans (B := w.heap.size) (by go_grown) (hb2.mono (by simp; omega))) (hb24.mono (Nat.le_trans (by simp; omega) hb2.size))⟩
set_option maxRecDepth 20000 in
set_option maxHeartbeats 1000000 in
theorem ck_f (m : Int) (x : Value) (ya : Option Addr) (n yc : Nat) (a b c d o : Int) (f l : Bool) (w : World) (HC : Hid (∀ w', Below w.heap.size w w' → Calls Try.prog 46 #[.agg #[.int .i64 m, x]] w' fun e' w'' => e' = .returned (.int .i64 0) ∧ Below w'.heap.size w' w''))
    (HP : Hid (∀ w', Calls Try.prog 47 #[.agg #[.int .i64 a, .int .i64 c, .int .i64 b, .int .i64 d]] w' fun e w'' => e = .returned (.int .i64 0) ∧ Below w'.heap.size w' w'')) (o1 : ¬ o < 0) (o2 : decide (o < 0) = false) (o3 : ¬ 1000 < o) (o4 : decide (1000 < o) = false) (n1 : ¬ m < (n : Int)) (n2 : decide (m < (n : Int)) = false) :
    Calls Try.prog 11 #[.agg #[.int .i64 m, x], .slice ya n yc, .agg #[.int .i64 a, .int .i64 b, .int .i64 c, .int .i64 d, .int .i64 o, .bool f, .bool l]] w fun e' w' => e' = .returned (.int .i64 0) ∧ Below w.heap.size w w' := by
  have HK : Hid (∀ w' : World, Below ((w.alloc (.cells #[.int .i64 m, x] 24)).alloc (.cells #[.int .i64 a, .int .i64 b, .int .i64 c, .int .i64 d, .int .i64 o, .bool f, .bool l] 27)).heap.size ((w.alloc (.cells #[.int .i64 m, x] 24)).alloc (.cells #[.int .i64 a, .int .i64 b, .int .i64 c, .int .i64 d, .int .i64 o, .bool f, .bool l] 27)) w' → w'.cell? ⟨w.heap.size, 0, none⟩ = some (.int .i64 m) ∧ w'.cell? ⟨w.heap.size + 1, 0, none⟩ = some (.int .i64 a) ∧ w'.cell? ⟨w.heap.size + 1, 1, none⟩ = some (.int .i64 b) ∧ w'.cell? ⟨w.heap.size + 1, 2, none⟩ = some (.int .i64 c) ∧ w'.cell? ⟨w.heap.size + 1, 3, none⟩ = some (.int .i64 d) ∧ w'.cell? ⟨w.heap.size + 1, 4, none⟩ = some (.int .i64 o) ∧ w'.cell? ⟨w.heap.size + 1, 5, none⟩ = some (.bool f) ∧ w'.cell? ⟨w.heap.size + 1, 6, none⟩ = some (.bool l)) := Lib.hid (fun w' hb => by
    refine ⟨kc (by go_simp) hb, kc (by go_simp) hb, kc (by go_simp) hb, kc (by go_simp) hb, kc (by go_simp) hb, kc (by go_simp) hb, kc (by go_simp) hb, kc (by go_simp) hb⟩)
  go_enter Try.func11, Try.ntmps11
  go_wp2_with (first | (go_at_call 46; (with_reducible refine (HC.out _ (by go_grown)).mono ?_); rintro _ w2 ⟨rfl, hb2⟩; obtain ⟨c0, c1, c2, c3, c4, c5, c6, c7⟩ := HK.out w2 hb2) | (go_at_call 37; (with_reducible refine (plan_v a b c d o f l _).mono ?_); rintro _ w3 ⟨rfl, hb3⟩) | (go_at_call 47; (with_reducible refine (HP.out _).mono ?_); rintro _ w4 ⟨rfl, hb4⟩; have hb24 := hb3.trans (hb4.mono hb3.size); have d4 := kc c5 hb24; have d0 := kc c0 hb24))
  go_ret
  exact ⟨rfl, Below.trans (B := w.heap.size) (Below.trans (B := w.heap.size) (by go_grown) (hb2.mono (by simp; omega))) (hb24.mono (Nat.le_trans (by simp; omega) hb2.size))⟩
theorem ccheck_v (m : Int) (a : Option Addr) (k c : Nat) (L : List (List I4)) (ya : Option Addr) (n yc : Nat) (q : Q7) (w : World) (h : PM w (.slice a k c) L) (r : Int) (hr : coE m L n q = r) :
    Calls Try.prog 11 #[.agg #[.int .i64 m, .slice a k c], .slice ya n yc, q.v] w fun e' w' => e' = .returned (.int .i64 r) ∧ Below w.heap.size w w' := by
  obtain ⟨qa, qb, qc, qd, o, f, l⟩ := q
  unfold Q7.v
  unfold coE at hr
  simp only at hr ⊢
  have HC : ∀ e, prE m L = e → Hid (∀ w', Below w.heap.size w w' → Calls Try.prog 46 #[.agg #[.int .i64 m, .slice a k c]] w' fun e' w'' => e' = .returned (.int .i64 e) ∧ Below w'.heap.size w' w'') := fun e he => Lib.hid (fun w' hb => check_v m a k c L e w' (h.below hb) he)
  by_cases h1 : prE m L = 0
  · rw [if_neg (by rw [h1]; simp)] at hr
    by_cases h2 : Okay qa qc qb qd
    · have HP : Hid (∀ w', Calls Try.prog 47 #[.agg #[.int .i64 qa, .int .i64 qc, .int .i64 qb, .int .i64 qd]] w' fun e w'' => e = .returned (.int .i64 0) ∧ Below w'.heap.size w' w'') := Lib.hid (fun w' => check_ok qa qc qb qd w' (Lib.hid h2))
      by_cases o1 : o < 0
      · rw [if_pos (.inr (.inl o1))] at hr
        subst hr
        exact ck_c m _ ya n yc qa qb qc qd o f l w (HC 0 h1) HP o1 (decide_eq_true o1)
      by_cases o3 : 1000 < o
      · rw [if_pos (.inr (.inr o3))] at hr
        subst hr
        exact ck_d m _ ya n yc qa qb qc qd o f l w (HC 0 h1) HP o1 (decide_eq_false o1) o3 (decide_eq_true o3)
      rw [if_neg (by rintro (h | h | h); exact h h2; exact o1 h; exact o3 h)] at hr
      by_cases n1 : m < (n : Int)
      · rw [if_pos n1] at hr
        subst hr
        exact ck_e m _ ya n yc qa qb qc qd o f l w (HC 0 h1) HP o1 (decide_eq_false o1) o3 (decide_eq_false o3) n1 (decide_eq_true n1)
      · rw [if_neg n1] at hr
        subst hr
        exact ck_f m _ ya n yc qa qb qc qd o f l w (HC 0 h1) HP o1 (decide_eq_false o1) o3 (decide_eq_false o3) n1 (decide_eq_false n1)
    · rw [if_pos (.inl h2)] at hr
      subst hr
      exact ck_b m _ ya n yc qa qb qc qd o f l w (HC 0 h1) (Lib.hid (fun w' => check_no qa qc qb qd w' (Lib.hid h2)))
  · rw [if_pos h1] at hr
    subst hr
    exact ck_a m _ ya n yc qa qb qc qd o f l _ h1 w (HC _ rfl)
end Go.Proofs.Ytbmndjedgedbdaa.co
