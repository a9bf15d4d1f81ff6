/- The contracts of layer 8's Do, and of the reference's: what an instruction does, an operation each (part r0). -/
import Derived.Test.YtpcpohbbmeonbaaStep
import Derived.Test.YtpcpohbbmeonbaaDo01
import Derived.Test.YtpcpohbbmeonbaaAt8
import Derived.RegionTactic
import Derived.Deep.RegionHeld3
import Derived.Outline
namespace Go.Proofs.Ytpcpohbbmeonbaa.step
open Go.ChangeShapes Go.WideShapes Go.ChangeAt Go.RowKit
open Go.Proofs.Ytpcpohbbmeonbaa.ref01
attribute [local go_sem ↓] Go.wp_at_zero Go.wp_at_succ
set_option linter.unusedVariables false
set_option linter.unusedSimpArgs false
set_option maxHeartbeats 8000000 in
set_option maxRecDepth 20000 in
theorem rdo_0 (A B C pc : Int) (r : Nat → Int) (a b c : Nat) (w : World) (ha : Hid (rg A = a)) (hb : Hid (rg B = b)) (hc : Hid (rg C = c)) (ha8 : a < 8) (hb8 : b < 8) (hc8 : c < 8) (hpc : pc ≤ 4611686018427387904) (hpc0 : -9223372036854775808 ≤ pc) :
    Calls Try.prog 30 #[.agg #[.int .i64 0, .int .i64 A, .int .i64 B, .int .i64 C], .int .i64 pc, .agg #[.int .i64 (r 0), .int .i64 (r 1), .int .i64 (r 2), .int .i64 (r 3), .int .i64 (r 4), .int .i64 (r 5), .int .i64 (r 6), .int .i64 (r 7)]] w fun e w' => e = .returned (.tuple #[.int .i64 (pc + 1), .agg #[.int .i64 (r 0), .int .i64 (r 1), .int .i64 (r 2), .int .i64 (r 3), .int .i64 (r 4), .int .i64 (r 5), .int .i64 (r 6), .int .i64 (r 7)], .agg #[.int .i64 12, .int .i64 0, .int .i64 0, .int .i64 0, .int .i64 0], .int .i64 0]) ∧ Below w.heap.size w w' := by
  have hal := at8 r a
  have hbl := at8 r b
  have hcl := at8 r c
  have gA : (0 : Int) ≤ (a : Int) := by omega
  have gA8 : (a : Int) < 8 := by omega
  have gB : (0 : Int) ≤ (b : Int) := by omega
  have gB8 : (b : Int) < 8 := by omega
  have gC : (0 : Int) ≤ (c : Int) := by omega
  have gC8 : (c : Int) < 8 := by omega
  go_enter Try.func30, Try.ntmps30
  go_wp2_with fail
  go_quiet ((go_at_call 52; exact quiet_eq (held_v _ _ _ (by assumption))))
  go_wp2_with fail
  go_region
  all_goals
    go_wp2_with fail
    exact bodyPost_ret (v := .tuple #[.int .i64 (pc + 1), .agg #[.int .i64 (r 0), .int .i64 (r 1), .int .i64 (r 2), .int .i64 (r 3), .int .i64 (r 4), .int .i64 (r 5), .int .i64 (r 6), .int .i64 (r 7)], .agg #[.int .i64 12, .int .i64 0, .int .i64 0, .int .i64 0, .int .i64 0], .int .i64 0]) (by simp [results, Try.results30, go_sem, *]) rfl ⟨rfl, by repeat (first | (with_reducible exact Below.refl _ _) | (with_reducible assumption) | (with_reducible refine below_drewN ?_ _) | (with_reducible refine Below.drew ?_) | (with_reducible refine Below.setCell ?_ ?_ _; rotate_left; focus (first | (simp; done) | (simp; omega))) | (with_reducible refine Below.alloc ?_ ?_ _; rotate_left; focus (first | (simp; done) | (simp; omega))))⟩
set_option maxHeartbeats 8000000 in
set_option maxRecDepth 20000 in
theorem rdo_15 (A B C pc : Int) (r : Nat → Int) (a b c : Nat) (w : World) (ha : Hid (rg A = a)) (hb : Hid (rg B = b)) (hc : Hid (rg C = c)) (ha8 : a < 8) (hb8 : b < 8) (hc8 : c < 8) (hpc : pc ≤ 4611686018427387904) (hpc0 : -9223372036854775808 ≤ pc) :
    Calls Try.prog 30 #[.agg #[.int .i64 15, .int .i64 A, .int .i64 B, .int .i64 C], .int .i64 pc, .agg #[.int .i64 (r 0), .int .i64 (r 1), .int .i64 (r 2), .int .i64 (r 3), .int .i64 (r 4), .int .i64 (r 5), .int .i64 (r 6), .int .i64 (r 7)]] w fun e w' => e = .returned (.tuple #[.int .i64 (pc + 1), .agg #[.int .i64 (r 0), .int .i64 (r 1), .int .i64 (r 2), .int .i64 (r 3), .int .i64 (r 4), .int .i64 (r 5), .int .i64 (r 6), .int .i64 (r 7)], .agg #[.int .i64 3, .int .i64 (r b), .int .i64 (r c), .int .i64 0, .int .i64 a], .int .i64 0]) ∧ Below w.heap.size w w' := by
  have hal := at8 r a
  have hbl := at8 r b
  have hcl := at8 r c
  have gA : (0 : Int) ≤ (a : Int) := by omega
  have gA8 : (a : Int) < 8 := by omega
  have gB : (0 : Int) ≤ (b : Int) := by omega
  have gB8 : (b : Int) < 8 := by omega
  have gC : (0 : Int) ≤ (c : Int) := by omega
  have gC8 : (c : Int) < 8 := by omega
  go_enter Try.func30, Try.ntmps30
  go_wp2_with fail
  go_quiet ((go_at_call 52; exact quiet_eq (held_v _ _ _ (by assumption))))
  go_wp2_with fail
  go_region
  all_goals
    go_wp2_with fail
    exact bodyPost_ret (v := .tuple #[.int .i64 (pc + 1), .agg #[.int .i64 (r 0), .int .i64 (r 1), .int .i64 (r 2), .int .i64 (r 3), .int .i64 (r 4), .int .i64 (r 5), .int .i64 (r 6), .int .i64 (r 7)], .agg #[.int .i64 3, .int .i64 (r b), .int .i64 (r c), .int .i64 0, .int .i64 a], .int .i64 0]) (by simp [results, Try.results30, go_sem, *]) rfl ⟨rfl, by repeat (first | (with_reducible exact Below.refl _ _) | (with_reducible assumption) | (with_reducible refine below_drewN ?_ _) | (with_reducible refine Below.drew ?_) | (with_reducible refine Below.setCell ?_ ?_ _; rotate_left; focus (first | (simp; done) | (simp; omega))) | (with_reducible refine Below.alloc ?_ ?_ _; rotate_left; focus (first | (simp; done) | (simp; omega))))⟩
set_option maxHeartbeats 8000000 in
set_option maxRecDepth 20000 in
theorem rdo_20 (A B C pc : Int) (r : Nat → Int) (a b c : Nat) (w : World) (ha : Hid (rg A = a)) (hb : Hid (rg B = b)) (hc : Hid (rg C = c)) (ha8 : a < 8) (hb8 : b < 8) (hc8 : c < 8) (hpc : pc ≤ 4611686018427387904) (hpc0 : -9223372036854775808 ≤ pc) :
    Calls Try.prog 30 #[.agg #[.int .i64 20, .int .i64 A, .int .i64 B, .int .i64 C], .int .i64 pc, .agg #[.int .i64 (r 0), .int .i64 (r 1), .int .i64 (r 2), .int .i64 (r 3), .int .i64 (r 4), .int .i64 (r 5), .int .i64 (r 6), .int .i64 (r 7)]] w fun e w' => e = .returned (.tuple #[.int .i64 (pc + 1), .agg #[.int .i64 (r 0), .int .i64 (r 1), .int .i64 (r 2), .int .i64 (r 3), .int .i64 (r 4), .int .i64 (r 5), .int .i64 (r 6), .int .i64 (r 7)], .agg #[.int .i64 6, .int .i64 0, .int .i64 A, .int .i64 0, .int .i64 0], .int .i64 0]) ∧ Below w.heap.size w w' := by
  have hal := at8 r a
  have hbl := at8 r b
  have hcl := at8 r c
  have gA : (0 : Int) ≤ (a : Int) := by omega
  have gA8 : (a : Int) < 8 := by omega
  have gB : (0 : Int) ≤ (b : Int) := by omega
  have gB8 : (b : Int) < 8 := by omega
  have gC : (0 : Int) ≤ (c : Int) := by omega
  have gC8 : (c : Int) < 8 := by omega
  go_enter Try.func30, Try.ntmps30
  go_wp2_with fail
  go_quiet ((go_at_call 52; exact quiet_eq (held_v _ _ _ (by assumption))))
  go_wp2_with fail
  go_region
  all_goals
    go_wp2_with fail
    exact bodyPost_ret (v := .tuple #[.int .i64 (pc + 1), .agg #[.int .i64 (r 0), .int .i64 (r 1), .int .i64 (r 2), .int .i64 (r 3), .int .i64 (r 4), .int .i64 (r 5), .int .i64 (r 6), .int .i64 (r 7)], .agg #[.int .i64 6, .int .i64 0, .int .i64 A, .int .i64 0, .int .i64 0], .int .i64 0]) (by simp [results, Try.results30, go_sem, *]) rfl ⟨rfl, by repeat (first | (with_reducible exact Below.refl _ _) | (with_reducible assumption) | (with_reducible refine below_drewN ?_ _) | (with_reducible refine Below.drew ?_) | (with_reducible refine Below.setCell ?_ ?_ _; rotate_left; focus (first | (simp; done) | (simp; omega))) | (with_reducible refine Below.alloc ?_ ?_ _; rotate_left; focus (first | (simp; done) | (simp; omega))))⟩
set_option maxHeartbeats 8000000 in
set_option maxRecDepth 20000 in
theorem rdo_23 (A B C pc : Int) (r : Nat → Int) (a b c : Nat) (w : World) (ha : Hid (rg A = a)) (hb : Hid (rg B = b)) (hc : Hid (rg C = c)) (ha8 : a < 8) (hb8 : b < 8) (hc8 : c < 8) (hpc : pc ≤ 4611686018427387904) (hpc0 : -9223372036854775808 ≤ pc) :
    Calls Try.prog 30 #[.agg #[.int .i64 23, .int .i64 A, .int .i64 B, .int .i64 C], .int .i64 pc, .agg #[.int .i64 (r 0), .int .i64 (r 1), .int .i64 (r 2), .int .i64 (r 3), .int .i64 (r 4), .int .i64 (r 5), .int .i64 (r 6), .int .i64 (r 7)]] w fun e w' => e = .returned (.tuple #[.int .i64 (pc + 1), .agg #[.int .i64 (r 0), .int .i64 (r 1), .int .i64 (r 2), .int .i64 (r 3), .int .i64 (r 4), .int .i64 (r 5), .int .i64 (r 6), .int .i64 (r 7)], .agg #[.int .i64 9, .int .i64 0, .int .i64 (r a), .int .i64 0, .int .i64 0], .int .i64 0]) ∧ Below w.heap.size w w' := by
  have hal := at8 r a
  have hbl := at8 r b
  have hcl := at8 r c
  have gA : (0 : Int) ≤ (a : Int) := by omega
  have gA8 : (a : Int) < 8 := by omega
  have gB : (0 : Int) ≤ (b : Int) := by omega
  have gB8 : (b : Int) < 8 := by omega
  have gC : (0 : Int) ≤ (c : Int) := by omega
  have gC8 : (c : Int) < 8 := by omega
  go_enter Try.func30, Try.ntmps30
  go_wp2_with fail
  go_quiet ((go_at_call 52; exact quiet_eq (held_v _ _ _ (by assumption))))
  go_wp2_with fail
  go_region
  all_goals
    go_wp2_with fail
    exact bodyPost_ret (v := .tuple #[.int .i64 (pc + 1), .agg #[.int .i64 (r 0), .int .i64 (r 1), .int .i64 (r 2), .int .i64 (r 3), .int .i64 (r 4), .int .i64 (r 5), .int .i64 (r 6), .int .i64 (r 7)], .agg #[.int .i64 9, .int .i64 0, .int .i64 (r a), .int .i64 0, .int .i64 0], .int .i64 0]) (by simp [results, Try.results30, go_sem, *]) rfl ⟨rfl, by repeat (first | (with_reducible exact Below.refl _ _) | (with_reducible assumption) | (with_reducible refine below_drewN ?_ _) | (with_reducible refine Below.drew ?_) | (with_reducible refine Below.setCell ?_ ?_ _; rotate_left; focus (first | (simp; done) | (simp; omega))) | (with_reducible refine Below.alloc ?_ ?_ _; rotate_left; focus (first | (simp; done) | (simp; omega))))⟩
set_option maxHeartbeats 8000000 in
set_option maxRecDepth 20000 in
theorem rdo_18 (A B C pc : Int) (r : Nat → Int) (a b c : Nat) (w : World) (ha : Hid (rg A = a)) (hb : Hid (rg B = b)) (hc : Hid (rg C = c)) (ha8 : a < 8) (hb8 : b < 8) (hc8 : c < 8) (hpc : pc ≤ 4611686018427387904) (hpc0 : -9223372036854775808 ≤ pc) :
    Calls Try.prog 30 #[.agg #[.int .i64 18, .int .i64 A, .int .i64 B, .int .i64 C], .int .i64 pc, .agg #[.int .i64 (r 0), .int .i64 (r 1), .int .i64 (r 2), .int .i64 (r 3), .int .i64 (r 4), .int .i64 (r 5), .int .i64 (r 6), .int .i64 (r 7)]] w fun e w' => e = .returned (.tuple #[.int .i64 A, .agg #[.int .i64 (r 0), .int .i64 (r 1), .int .i64 (r 2), .int .i64 (r 3), .int .i64 (r 4), .int .i64 (r 5), .int .i64 (r 6), .int .i64 (r 7)], .agg #[.int .i64 0, .int .i64 0, .int .i64 0, .int .i64 0, .int .i64 0], .int .i64 0]) ∧ Below w.heap.size w w' := by
  have hal := at8 r a
  have hbl := at8 r b
  have hcl := at8 r c
  have gA : (0 : Int) ≤ (a : Int) := by omega
  have gA8 : (a : Int) < 8 := by omega
  have gB : (0 : Int) ≤ (b : Int) := by omega
  have gB8 : (b : Int) < 8 := by omega
  have gC : (0 : Int) ≤ (c : Int) := by omega
  have gC8 : (c : Int) < 8 := by omega
  go_enter Try.func30, Try.ntmps30
  go_wp2_with fail
  go_quiet ((go_at_call 52; exact quiet_eq (held_v _ _ _ (by assumption))))
  go_wp2_with fail
  go_region
  all_goals
    go_wp2_with fail
    exact bodyPost_ret (v := .tuple #[.int .i64 A, .agg #[.int .i64 (r 0), .int .i64 (r 1), .int .i64 (r 2), .int .i64 (r 3), .int .i64 (r 4), .int .i64 (r 5), .int .i64 (r 6), .int .i64 (r 7)], .agg #[.int .i64 0, .int .i64 0, .int .i64 0, .int .i64 0, .int .i64 0], .int .i64 0]) (by simp [results, Try.results30, go_sem, *]) rfl ⟨rfl, by repeat (first | (with_reducible exact Below.refl _ _) | (with_reducible assumption) | (with_reducible refine below_drewN ?_ _) | (with_reducible refine Below.drew ?_) | (with_reducible refine Below.setCell ?_ ?_ _; rotate_left; focus (first | (simp; done) | (simp; omega))) | (with_reducible refine Below.alloc ?_ ?_ _; rotate_left; focus (first | (simp; done) | (simp; omega))))⟩
set_option maxHeartbeats 8000000 in
set_option maxRecDepth 20000 in
theorem rdo_1 (A B C pc : Int) (r : Nat → Int) (a b c : Nat) (w : World) (ha : Hid (rg A = a)) (hb : Hid (rg B = b)) (hc : Hid (rg C = c)) (ha8 : a < 8) (hb8 : b < 8) (hc8 : c < 8) (hpc : pc ≤ 4611686018427387904) (hpc0 : -9223372036854775808 ≤ pc) :
    Calls Try.prog 30 #[.agg #[.int .i64 1, .int .i64 A, .int .i64 B, .int .i64 C], .int .i64 pc, .agg #[.int .i64 (r 0), .int .i64 (r 1), .int .i64 (r 2), .int .i64 (r 3), .int .i64 (r 4), .int .i64 (r 5), .int .i64 (r 6), .int .i64 (r 7)]] w fun e w' => e = .returned (.tuple #[.int .i64 (pc + 1), .agg #[.int .i64 (upd r a B 0), .int .i64 (upd r a B 1), .int .i64 (upd r a B 2), .int .i64 (upd r a B 3), .int .i64 (upd r a B 4), .int .i64 (upd r a B 5), .int .i64 (upd r a B 6), .int .i64 (upd r a B 7)], .agg #[.int .i64 0, .int .i64 0, .int .i64 0, .int .i64 0, .int .i64 0], .int .i64 0]) ∧ Below w.heap.size w w' := by
  have hal := at8 r a
  have hbl := at8 r b
  have hcl := at8 r c
  have gA : (0 : Int) ≤ (a : Int) := by omega
  have gA8 : (a : Int) < 8 := by omega
  have gB : (0 : Int) ≤ (b : Int) := by omega
  have gB8 : (b : Int) < 8 := by omega
  have gC : (0 : Int) ≤ (c : Int) := by omega
  have gC8 : (c : Int) < 8 := by omega
  have hset := set8 r a B ha8
  go_enter Try.func30, Try.ntmps30
  go_wp2_with fail
  go_quiet ((go_at_call 52; exact quiet_eq (held_v _ _ _ (by assumption))))
  go_wp2_with fail
  go_region
  all_goals
    go_wp2_with fail
    exact bodyPost_ret (v := .tuple #[.int .i64 (pc + 1), .agg #[.int .i64 (upd r a B 0), .int .i64 (upd r a B 1), .int .i64 (upd r a B 2), .int .i64 (upd r a B 3), .int .i64 (upd r a B 4), .int .i64 (upd r a B 5), .int .i64 (upd r a B 6), .int .i64 (upd r a B 7)], .agg #[.int .i64 0, .int .i64 0, .int .i64 0, .int .i64 0, .int .i64 0], .int .i64 0]) (by simp [results, Try.results30, go_sem, *]) rfl ⟨rfl, by repeat (first | (with_reducible exact Below.refl _ _) | (with_reducible assumption) | (with_reducible refine below_drewN ?_ _) | (with_reducible refine Below.drew ?_) | (with_reducible refine Below.setCell ?_ ?_ _; rotate_left; focus (first | (simp; done) | (simp; omega))) | (with_reducible refine Below.alloc ?_ ?_ _; rotate_left; focus (first | (simp; done) | (simp; omega))))⟩
set_option maxHeartbeats 8000000 in
set_option maxRecDepth 20000 in
theorem rdo_7f (n f A B C pc : Int) (r : Nat → Int) (a b c : Nat) (w : World) (ha : Hid (rg A = a)) (hb : Hid (rg B = b)) (hc : Hid (rg C = c)) (ha8 : a < 8) (hb8 : b < 8) (hc8 : c < 8) (hpc : pc ≤ 4611686018427387904) (hpc0 : -9223372036854775808 ≤ pc) (hrb1 : -9223372036854775808 ≤ r b) (hrb2 : r b ≤ 9223372036854775807) (hrc1 : -9223372036854775808 ≤ r c) (hrc2 : r c ≤ 9223372036854775807) (hv : Hid (doV 7 (r b) (r c) = (n, f))) (hf : (f == 0) = false) :
    Calls Try.prog 30 #[.agg #[.int .i64 7, .int .i64 A, .int .i64 B, .int .i64 C], .int .i64 pc, .agg #[.int .i64 (r 0), .int .i64 (r 1), .int .i64 (r 2), .int .i64 (r 3), .int .i64 (r 4), .int .i64 (r 5), .int .i64 (r 6), .int .i64 (r 7)]] w fun e w' => e = .returned (.tuple #[.int .i64 pc, .agg #[.int .i64 (r 0), .int .i64 (r 1), .int .i64 (r 2), .int .i64 (r 3), .int .i64 (r 4), .int .i64 (r 5), .int .i64 (r 6), .int .i64 (r 7)], .agg #[.int .i64 0, .int .i64 0, .int .i64 0, .int .i64 0, .int .i64 0], .int .i64 f]) ∧ Below w.heap.size w w' := by
  have hal := at8 r a
  have hbl := at8 r b
  have hcl := at8 r c
  have gA : (0 : Int) ≤ (a : Int) := by omega
  have gA8 : (a : Int) < 8 := by omega
  have gB : (0 : Int) ≤ (b : Int) := by omega
  have gB8 : (b : Int) < 8 := by omega
  have gC : (0 : Int) ≤ (c : Int) := by omega
  have gC8 : (c : Int) < 8 := by omega
  go_enter Try.func30, Try.ntmps30
  go_wp2_with fail
  go_quiet ((go_at_call 52; exact quiet_eq (held_v _ _ _ (by assumption))))
  go_wp2_with fail
  go_quiet ((go_at_call 53; exact quiet_eq (rdo_v 7 (r b) (r c) n f _ hrb1 hrb2 hrc1 hrc2 hv)))
  go_wp2_with fail
  go_region
  all_goals
    go_wp2_with fail
    exact bodyPost_ret (v := .tuple #[.int .i64 pc, .agg #[.int .i64 (r 0), .int .i64 (r 1), .int .i64 (r 2), .int .i64 (r 3), .int .i64 (r 4), .int .i64 (r 5), .int .i64 (r 6), .int .i64 (r 7)], .agg #[.int .i64 0, .int .i64 0, .int .i64 0, .int .i64 0, .int .i64 0], .int .i64 f]) (by simp [results, Try.results30, go_sem, *]) rfl ⟨rfl, by repeat (first | (with_reducible exact Below.refl _ _) | (with_reducible assumption) | (with_reducible refine below_drewN ?_ _) | (with_reducible refine Below.drew ?_) | (with_reducible refine Below.setCell ?_ ?_ _; rotate_left; focus (first | (simp; done) | (simp; omega))) | (with_reducible refine Below.alloc ?_ ?_ _; rotate_left; focus (first | (simp; done) | (simp; omega))))⟩
end Go.Proofs.Ytpcpohbbmeonbaa.step
