/- The contracts of layer 8's Do, and of the reference's: what an instruction does, an operation each (part r1). -/
import Derived.Test.YtpcpohbbmeonbaaStep
import Derived.Test.YtpcpohbbmeonbaaDo01
import Derived.Test.YtpcpohbbmeonbaaAt8
import Derived.RegionTactic
import Derived.Deep.RegionHeld3
import Derived.Outline
namespace Go.Proofs.Ytpcpohbbmeonbaa.step
open Go.ChangeShapes Go.WideShapes Go.ChangeAt Go.RowKit
open Go.Proofs.Ytpcpohbbmeonbaa.ref01
attribute [local go_sem ↓] Go.wp_at_zero Go.wp_at_succ
set_option linter.unusedVariables false
set_option linter.unusedSimpArgs false
set_option maxHeartbeats 8000000 in
set_option maxRecDepth 20000 in
theorem rdo_13 (A B C pc : Int) (r : Nat → Int) (a b c : Nat) (w : World) (ha : Hid (rg A = a)) (hb : Hid (rg B = b)) (hc : Hid (rg C = c)) (ha8 : a < 8) (hb8 : b < 8) (hc8 : c < 8) (hpc : pc ≤ 4611686018427387904) (hpc0 : -9223372036854775808 ≤ pc) :
    Calls Try.prog 30 #[.agg #[.int .i64 13, .int .i64 A, .int .i64 B, .int .i64 C], .int .i64 pc, .agg #[.int .i64 (r 0), .int .i64 (r 1), .int .i64 (r 2), .int .i64 (r 3), .int .i64 (r 4), .int .i64 (r 5), .int .i64 (r 6), .int .i64 (r 7)]] w fun e w' => e = .returned (.tuple #[.int .i64 (pc + 1), .agg #[.int .i64 (r 0), .int .i64 (r 1), .int .i64 (r 2), .int .i64 (r 3), .int .i64 (r 4), .int .i64 (r 5), .int .i64 (r 6), .int .i64 (r 7)], .agg #[.int .i64 1, .int .i64 (r b), .int .i64 0, .int .i64 0, .int .i64 a], .int .i64 0]) ∧ Below w.heap.size w w' := by
  have hal := at8 r a
  have hbl := at8 r b
  have hcl := at8 r c
  have gA : (0 : Int) ≤ (a : Int) := by omega
  have gA8 : (a : Int) < 8 := by omega
  have gB : (0 : Int) ≤ (b : Int) := by omega
  have gB8 : (b : Int) < 8 := by omega
  have gC : (0 : Int) ≤ (c : Int) := by omega
  have gC8 : (c : Int) < 8 := by omega
  go_enter Try.func30, Try.ntmps30
  go_wp2_with fail
  go_quiet ((go_at_call 52; exact quiet_eq (held_v _ _ _ (by assumption))))
  go_wp2_with fail
  go_region
  all_goals
    go_wp2_with fail
    exact bodyPost_ret (v := .tuple #[.int .i64 (pc + 1), .agg #[.int .i64 (r 0), .int .i64 (r 1), .int .i64 (r 2), .int .i64 (r 3), .int .i64 (r 4), .int .i64 (r 5), .int .i64 (r 6), .int .i64 (r 7)], .agg #[.int .i64 1, .int .i64 (r b), .int .i64 0, .int .i64 0, .int .i64 a], .int .i64 0]) (by simp [results, Try.results30, go_sem, *]) rfl ⟨rfl, by repeat (first | (with_reducible exact Below.refl _ _) | (with_reducible assumption) | (with_reducible refine below_drewN ?_ _) | (with_reducible refine Below.drew ?_) | (with_reducible refine Below.setCell ?_ ?_ _; rotate_left; focus (first | (simp; done) | (simp; omega))) | (with_reducible refine Below.alloc ?_ ?_ _; rotate_left; focus (first | (simp; done) | (simp; omega))))⟩
set_option maxHeartbeats 8000000 in
set_option maxRecDepth 20000 in
theorem rdo_16 (A B C pc : Int) (r : Nat → Int) (a b c : Nat) (w : World) (ha : Hid (rg A = a)) (hb : Hid (rg B = b)) (hc : Hid (rg C = c)) (ha8 : a < 8) (hb8 : b < 8) (hc8 : c < 8) (hpc : pc ≤ 4611686018427387904) (hpc0 : -9223372036854775808 ≤ pc) :
    Calls Try.prog 30 #[.agg #[.int .i64 16, .int .i64 A, .int .i64 B, .int .i64 C], .int .i64 pc, .agg #[.int .i64 (r 0), .int .i64 (r 1), .int .i64 (r 2), .int .i64 (r 3), .int .i64 (r 4), .int .i64 (r 5), .int .i64 (r 6), .int .i64 (r 7)]] w fun e w' => e = .returned (.tuple #[.int .i64 (pc + 1), .agg #[.int .i64 (r 0), .int .i64 (r 1), .int .i64 (r 2), .int .i64 (r 3), .int .i64 (r 4), .int .i64 (r 5), .int .i64 (r 6), .int .i64 (r 7)], .agg #[.int .i64 4, .int .i64 (r b), .int .i64 (r a), .int .i64 (r c), .int .i64 a], .int .i64 0]) ∧ Below w.heap.size w w' := by
  have hal := at8 r a
  have hbl := at8 r b
  have hcl := at8 r c
  have gA : (0 : Int) ≤ (a : Int) := by omega
  have gA8 : (a : Int) < 8 := by omega
  have gB : (0 : Int) ≤ (b : Int) := by omega
  have gB8 : (b : Int) < 8 := by omega
  have gC : (0 : Int) ≤ (c : Int) := by omega
  have gC8 : (c : Int) < 8 := by omega
  go_enter Try.func30, Try.ntmps30
  go_wp2_with fail
  go_quiet ((go_at_call 52; exact quiet_eq (held_v _ _ _ (by assumption))))
  go_wp2_with fail
  go_region
  all_goals
    go_wp2_with fail
    exact bodyPost_ret (v := .tuple #[.int .i64 (pc + 1), .agg #[.int .i64 (r 0), .int .i64 (r 1), .int .i64 (r 2), .int .i64 (r 3), .int .i64 (r 4), .int .i64 (r 5), .int .i64 (r 6), .int .i64 (r 7)], .agg #[.int .i64 4, .int .i64 (r b), .int .i64 (r a), .int .i64 (r c), .int .i64 a], .int .i64 0]) (by simp [results, Try.results30, go_sem, *]) rfl ⟨rfl, by repeat (first | (with_reducible exact Below.refl _ _) | (with_reducible assumption) | (with_reducible refine below_drewN ?_ _) | (with_reducible refine Below.drew ?_) | (with_reducible refine Below.setCell ?_ ?_ _; rotate_left; focus (first | (simp; done) | (simp; omega))) | (with_reducible refine Below.alloc ?_ ?_ _; rotate_left; focus (first | (simp; done) | (simp; omega))))⟩
set_option maxHeartbeats 8000000 in
set_option maxRecDepth 20000 in
theorem rdo_21 (A B C pc : Int) (r : Nat → Int) (a b c : Nat) (w : World) (ha : Hid (rg A = a)) (hb : Hid (rg B = b)) (hc : Hid (rg C = c)) (ha8 : a < 8) (hb8 : b < 8) (hc8 : c < 8) (hpc : pc ≤ 4611686018427387904) (hpc0 : -9223372036854775808 ≤ pc) :
    Calls Try.prog 30 #[.agg #[.int .i64 21, .int .i64 A, .int .i64 B, .int .i64 C], .int .i64 pc, .agg #[.int .i64 (r 0), .int .i64 (r 1), .int .i64 (r 2), .int .i64 (r 3), .int .i64 (r 4), .int .i64 (r 5), .int .i64 (r 6), .int .i64 (r 7)]] w fun e w' => e = .returned (.tuple #[.int .i64 (pc + 1), .agg #[.int .i64 (r 0), .int .i64 (r 1), .int .i64 (r 2), .int .i64 (r 3), .int .i64 (r 4), .int .i64 (r 5), .int .i64 (r 6), .int .i64 (r 7)], .agg #[.int .i64 7, .int .i64 0, .int .i64 0, .int .i64 0, .int .i64 0], .int .i64 0]) ∧ Below w.heap.size w w' := by
  have hal := at8 r a
  have hbl := at8 r b
  have hcl := at8 r c
  have gA : (0 : Int) ≤ (a : Int) := by omega
  have gA8 : (a : Int) < 8 := by omega
  have gB : (0 : Int) ≤ (b : Int) := by omega
  have gB8 : (b : Int) < 8 := by omega
  have gC : (0 : Int) ≤ (c : Int) := by omega
  have gC8 : (c : Int) < 8 := by omega
  go_enter Try.func30, Try.ntmps30
  go_wp2_with fail
  go_quiet ((go_at_call 52; exact quiet_eq (held_v _ _ _ (by assumption))))
  go_wp2_with fail
  go_region
  all_goals
    go_wp2_with fail
    exact bodyPost_ret (v := .tuple #[.int .i64 (pc + 1), .agg #[.int .i64 (r 0), .int .i64 (r 1), .int .i64 (r 2), .int .i64 (r 3), .int .i64 (r 4), .int .i64 (r 5), .int .i64 (r 6), .int .i64 (r 7)], .agg #[.int .i64 7, .int .i64 0, .int .i64 0, .int .i64 0, .int .i64 0], .int .i64 0]) (by simp [results, Try.results30, go_sem, *]) rfl ⟨rfl, by repeat (first | (with_reducible exact Below.refl _ _) | (with_reducible assumption) | (with_reducible refine below_drewN ?_ _) | (with_reducible refine Below.drew ?_) | (with_reducible refine Below.setCell ?_ ?_ _; rotate_left; focus (first | (simp; done) | (simp; omega))) | (with_reducible refine Below.alloc ?_ ?_ _; rotate_left; focus (first | (simp; done) | (simp; omega))))⟩
set_option maxHeartbeats 8000000 in
set_option maxRecDepth 20000 in
theorem rdo_24 (A B C pc : Int) (r : Nat → Int) (a b c : Nat) (w : World) (ha : Hid (rg A = a)) (hb : Hid (rg B = b)) (hc : Hid (rg C = c)) (ha8 : a < 8) (hb8 : b < 8) (hc8 : c < 8) (hpc : pc ≤ 4611686018427387904) (hpc0 : -9223372036854775808 ≤ pc) :
    Calls Try.prog 30 #[.agg #[.int .i64 24, .int .i64 A, .int .i64 B, .int .i64 C], .int .i64 pc, .agg #[.int .i64 (r 0), .int .i64 (r 1), .int .i64 (r 2), .int .i64 (r 3), .int .i64 (r 4), .int .i64 (r 5), .int .i64 (r 6), .int .i64 (r 7)]] w fun e w' => e = .returned (.tuple #[.int .i64 (pc + 1), .agg #[.int .i64 (r 0), .int .i64 (r 1), .int .i64 (r 2), .int .i64 (r 3), .int .i64 (r 4), .int .i64 (r 5), .int .i64 (r 6), .int .i64 (r 7)], .agg #[.int .i64 10, .int .i64 0, .int .i64 (r a), .int .i64 0, .int .i64 0], .int .i64 0]) ∧ Below w.heap.size w w' := by
  have hal := at8 r a
  have hbl := at8 r b
  have hcl := at8 r c
  have gA : (0 : Int) ≤ (a : Int) := by omega
  have gA8 : (a : Int) < 8 := by omega
  have gB : (0 : Int) ≤ (b : Int) := by omega
  have gB8 : (b : Int) < 8 := by omega
  have gC : (0 : Int) ≤ (c : Int) := by omega
  have gC8 : (c : Int) < 8 := by omega
  go_enter Try.func30, Try.ntmps30
  go_wp2_with fail
  go_quiet ((go_at_call 52; exact quiet_eq (held_v _ _ _ (by assumption))))
  go_wp2_with fail
  go_region
  all_goals
    go_wp2_with fail
    exact bodyPost_ret (v := .tuple #[.int .i64 (pc + 1), .agg #[.int .i64 (r 0), .int .i64 (r 1), .int .i64 (r 2), .int .i64 (r 3), .int .i64 (r 4), .int .i64 (r 5), .int .i64 (r 6), .int .i64 (r 7)], .agg #[.int .i64 10, .int .i64 0, .int .i64 (r a), .int .i64 0, .int .i64 0], .int .i64 0]) (by simp [results, Try.results30, go_sem, *]) rfl ⟨rfl, by repeat (first | (with_reducible exact Below.refl _ _) | (with_reducible assumption) | (with_reducible refine below_drewN ?_ _) | (with_reducible refine Below.drew ?_) | (with_reducible refine Below.setCell ?_ ?_ _; rotate_left; focus (first | (simp; done) | (simp; omega))) | (with_reducible refine Below.alloc ?_ ?_ _; rotate_left; focus (first | (simp; done) | (simp; omega))))⟩
set_option maxHeartbeats 8000000 in
set_option maxRecDepth 20000 in
theorem rdo_19y (A B C pc : Int) (r : Nat → Int) (a b c : Nat) (w : World) (ha : Hid (rg A = a)) (hb : Hid (rg B = b)) (hc : Hid (rg C = c)) (ha8 : a < 8) (hb8 : b < 8) (hc8 : c < 8) (hpc : pc ≤ 4611686018427387904) (hpc0 : -9223372036854775808 ≤ pc) (hz : r a = 0) :
    Calls Try.prog 30 #[.agg #[.int .i64 19, .int .i64 A, .int .i64 B, .int .i64 C], .int .i64 pc, .agg #[.int .i64 (r 0), .int .i64 (r 1), .int .i64 (r 2), .int .i64 (r 3), .int .i64 (r 4), .int .i64 (r 5), .int .i64 (r 6), .int .i64 (r 7)]] w fun e w' => e = .returned (.tuple #[.int .i64 B, .agg #[.int .i64 (r 0), .int .i64 (r 1), .int .i64 (r 2), .int .i64 (r 3), .int .i64 (r 4), .int .i64 (r 5), .int .i64 (r 6), .int .i64 (r 7)], .agg #[.int .i64 0, .int .i64 0, .int .i64 0, .int .i64 0, .int .i64 0], .int .i64 0]) ∧ Below w.heap.size w w' := by
  have hal := at8 r a
  have hbl := at8 r b
  have hcl := at8 r c
  have gA : (0 : Int) ≤ (a : Int) := by omega
  have gA8 : (a : Int) < 8 := by omega
  have gB : (0 : Int) ≤ (b : Int) := by omega
  have gB8 : (b : Int) < 8 := by omega
  have gC : (0 : Int) ≤ (c : Int) := by omega
  have gC8 : (c : Int) < 8 := by omega
  go_enter Try.func30, Try.ntmps30
  go_wp2_with fail
  go_quiet ((go_at_call 52; exact quiet_eq (held_v _ _ _ (by assumption))))
  go_wp2_with fail
  go_region
  all_goals
    go_wp2_with fail
    exact bodyPost_ret (v := .tuple #[.int .i64 B, .agg #[.int .i64 (r 0), .int .i64 (r 1), .int .i64 (r 2), .int .i64 (r 3), .int .i64 (r 4), .int .i64 (r 5), .int .i64 (r 6), .int .i64 (r 7)], .agg #[.int .i64 0, .int .i64 0, .int .i64 0, .int .i64 0, .int .i64 0], .int .i64 0]) (by simp [results, Try.results30, go_sem, *]) rfl ⟨rfl, by repeat (first | (with_reducible exact Below.refl _ _) | (with_reducible assumption) | (with_reducible refine below_drewN ?_ _) | (with_reducible refine Below.drew ?_) | (with_reducible refine Below.setCell ?_ ?_ _; rotate_left; focus (first | (simp; done) | (simp; omega))) | (with_reducible refine Below.alloc ?_ ?_ _; rotate_left; focus (first | (simp; done) | (simp; omega))))⟩
set_option maxHeartbeats 8000000 in
set_option maxRecDepth 20000 in
theorem rdo_2 (A B C pc : Int) (r : Nat → Int) (a b c : Nat) (w : World) (ha : Hid (rg A = a)) (hb : Hid (rg B = b)) (hc : Hid (rg C = c)) (ha8 : a < 8) (hb8 : b < 8) (hc8 : c < 8) (hpc : pc ≤ 4611686018427387904) (hpc0 : -9223372036854775808 ≤ pc) :
    Calls Try.prog 30 #[.agg #[.int .i64 2, .int .i64 A, .int .i64 B, .int .i64 C], .int .i64 pc, .agg #[.int .i64 (r 0), .int .i64 (r 1), .int .i64 (r 2), .int .i64 (r 3), .int .i64 (r 4), .int .i64 (r 5), .int .i64 (r 6), .int .i64 (r 7)]] w fun e w' => e = .returned (.tuple #[.int .i64 (pc + 1), .agg #[.int .i64 (upd r a (r b) 0), .int .i64 (upd r a (r b) 1), .int .i64 (upd r a (r b) 2), .int .i64 (upd r a (r b) 3), .int .i64 (upd r a (r b) 4), .int .i64 (upd r a (r b) 5), .int .i64 (upd r a (r b) 6), .int .i64 (upd r a (r b) 7)], .agg #[.int .i64 0, .int .i64 0, .int .i64 0, .int .i64 0, .int .i64 0], .int .i64 0]) ∧ Below w.heap.size w w' := by
  have hal := at8 r a
  have hbl := at8 r b
  have hcl := at8 r c
  have gA : (0 : Int) ≤ (a : Int) := by omega
  have gA8 : (a : Int) < 8 := by omega
  have gB : (0 : Int) ≤ (b : Int) := by omega
  have gB8 : (b : Int) < 8 := by omega
  have gC : (0 : Int) ≤ (c : Int) := by omega
  have gC8 : (c : Int) < 8 := by omega
  have hset := set8 r a (r b) ha8
  go_enter Try.func30, Try.ntmps30
  go_wp2_with fail
  go_quiet ((go_at_call 52; exact quiet_eq (held_v _ _ _ (by assumption))))
  go_wp2_with fail
  go_region
  all_goals
    go_wp2_with fail
    exact bodyPost_ret (v := .tuple #[.int .i64 (pc + 1), .agg #[.int .i64 (upd r a (r b) 0), .int .i64 (upd r a (r b) 1), .int .i64 (upd r a (r b) 2), .int .i64 (upd r a (r b) 3), .int .i64 (upd r a (r b) 4), .int .i64 (upd r a (r b) 5), .int .i64 (upd r a (r b) 6), .int .i64 (upd r a (r b) 7)], .agg #[.int .i64 0, .int .i64 0, .int .i64 0, .int .i64 0, .int .i64 0], .int .i64 0]) (by simp [results, Try.results30, go_sem, *]) rfl ⟨rfl, by repeat (first | (with_reducible exact Below.refl _ _) | (with_reducible assumption) | (with_reducible refine below_drewN ?_ _) | (with_reducible refine Below.drew ?_) | (with_reducible refine Below.setCell ?_ ?_ _; rotate_left; focus (first | (simp; done) | (simp; omega))) | (with_reducible refine Below.alloc ?_ ?_ _; rotate_left; focus (first | (simp; done) | (simp; omega))))⟩
set_option maxHeartbeats 8000000 in
set_option maxRecDepth 20000 in
theorem rdo_other (op A B C pc : Int) (r : Nat → Int) (a b c : Nat) (w : World) (ha : Hid (rg A = a)) (hb : Hid (rg B = b)) (hc : Hid (rg C = c)) (ha8 : a < 8) (hb8 : b < 8) (hc8 : c < 8) (hpc : pc ≤ 4611686018427387904) (hpc0 : -9223372036854775808 ≤ pc) (ho : op < 0 ∨ 25 < op) :
    Calls Try.prog 30 #[.agg #[.int .i64 op, .int .i64 A, .int .i64 B, .int .i64 C], .int .i64 pc, .agg #[.int .i64 (r 0), .int .i64 (r 1), .int .i64 (r 2), .int .i64 (r 3), .int .i64 (r 4), .int .i64 (r 5), .int .i64 (r 6), .int .i64 (r 7)]] w fun e w' => e = .returned (.tuple #[.int .i64 (pc + 1), .agg #[.int .i64 (r 0), .int .i64 (r 1), .int .i64 (r 2), .int .i64 (r 3), .int .i64 (r 4), .int .i64 (r 5), .int .i64 (r 6), .int .i64 (r 7)], .agg #[.int .i64 0, .int .i64 0, .int .i64 0, .int .i64 0, .int .i64 0], .int .i64 0]) ∧ Below w.heap.size w w' := by
  have e0 : (op == 0) = false := by simp; omega
  have e1 : (op == 1) = false := by simp; omega
  have e2 : (op == 2) = false := by simp; omega
  have e3 : (op == 3) = false := by simp; omega
  have e4 : (op == 4) = false := by simp; omega
  have e5 : (op == 5) = false := by simp; omega
  have e6 : (op == 6) = false := by simp; omega
  have e7 : (op == 7) = false := by simp; omega
  have e8 : (op == 8) = false := by simp; omega
  have e9 : (op == 9) = false := by simp; omega
  have e10 : (op == 10) = false := by simp; omega
  have e11 : (op == 11) = false := by simp; omega
  have e12 : (op == 12) = false := by simp; omega
  have e13 : (op == 13) = false := by simp; omega
  have e14 : (op == 14) = false := by simp; omega
  have e15 : (op == 15) = false := by simp; omega
  have e16 : (op == 16) = false := by simp; omega
  have e17 : (op == 17) = false := by simp; omega
  have e18 : (op == 18) = false := by simp; omega
  have e19 : (op == 19) = false := by simp; omega
  have e20 : (op == 20) = false := by simp; omega
  have e21 : (op == 21) = false := by simp; omega
  have e22 : (op == 22) = false := by simp; omega
  have e23 : (op == 23) = false := by simp; omega
  have e24 : (op == 24) = false := by simp; omega
  have e25 : (op == 25) = false := by simp; omega
  clear ho
  have hal := at8 r a
  have hbl := at8 r b
  have hcl := at8 r c
  have gA : (0 : Int) ≤ (a : Int) := by omega
  have gA8 : (a : Int) < 8 := by omega
  have gB : (0 : Int) ≤ (b : Int) := by omega
  have gB8 : (b : Int) < 8 := by omega
  have gC : (0 : Int) ≤ (c : Int) := by omega
  have gC8 : (c : Int) < 8 := by omega
  go_enter Try.func30, Try.ntmps30
  go_wp2_with fail
  go_quiet ((go_at_call 52; exact quiet_eq (held_v _ _ _ (by assumption))))
  go_wp2_with fail
  go_region
  all_goals
    go_wp2_with fail
    exact bodyPost_ret (v := .tuple #[.int .i64 (pc + 1), .agg #[.int .i64 (r 0), .int .i64 (r 1), .int .i64 (r 2), .int .i64 (r 3), .int .i64 (r 4), .int .i64 (r 5), .int .i64 (r 6), .int .i64 (r 7)], .agg #[.int .i64 0, .int .i64 0, .int .i64 0, .int .i64 0, .int .i64 0], .int .i64 0]) (by simp [results, Try.results30, go_sem, *]) rfl ⟨rfl, by repeat (first | (with_reducible exact Below.refl _ _) | (with_reducible assumption) | (with_reducible refine below_drewN ?_ _) | (with_reducible refine Below.drew ?_) | (with_reducible refine Below.setCell ?_ ?_ _; rotate_left; focus (first | (simp; done) | (simp; omega))) | (with_reducible refine Below.alloc ?_ ?_ _; rotate_left; focus (first | (simp; done) | (simp; omega))))⟩
end Go.Proofs.Ytpcpohbbmeonbaa.step
