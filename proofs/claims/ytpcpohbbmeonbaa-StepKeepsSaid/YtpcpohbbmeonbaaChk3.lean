/- What is told of an instruction by the document's check: where nothing is wrong, the first operand of each form is in its bounds. -/
import Derived.Test.YtpcpohbbmeonbaaForm3
namespace Go.Proofs.Ytpcpohbbmeonbaa.step
open Go.ChangeShapes Go.WideShapes Go.ChangeAt Go.RowKit
set_option linter.unusedVariables false
set_option linter.unusedSimpArgs false
theorem kc {W W' : World} {B j : Nat} {v : Value} (h : W.cell? ⟨B, j, none⟩ = some v) (hb : Below W.heap.size W W') : W'.cell? ⟨B, j, none⟩ = some v :=
  (hb.cell (p := ⟨B, j, none⟩) (World.block_lt_of_cell? W _ h)).trans h
def ChkP (P : Prop) (w : World) (e : Ending) (w' : World) : Prop := ∃ v : Int, e = .returned (.int .i64 v) ∧ (v = 0 → P) ∧ Below w.heap.size w w'
theorem ChkP.bad {P : Prop} {w w' : World} {v : Int} (hv : v ≠ 0) (hb : Below w.heap.size w w') : ChkP P w (.returned (.int .i64 v)) w' := ⟨v, rfl, fun h => absurd h hv, hb⟩
theorem ChkP.good {P : Prop} {w w' : World} {v : Int} (hp : P) (hb : Below w.heap.size w w') : ChkP P w (.returned (.int .i64 v)) w' := ⟨v, rfl, fun _ => hp, hb⟩
set_option maxHeartbeats 4000000 in
theorem chk_e (op A B C : Int) (w : World) (ho : 0 ≤ op) (ho2 : op ≤ 25) (hf : Hid (∀ w : World, Calls Try.prog 54 #[.int .i64 op] w fun e w' => e = .returned (.string ⟨#[]⟩) ∧ Below w.heap.size w w')) :
    Calls Try.prog 35 #[.agg #[.int .i64 op, .int .i64 A, .int .i64 B, .int .i64 C]] w (ChkP True w) := by
  go_enter Try.func35, Try.ntmps35
  go_wp2_with fail
  refine (hf.out _).mono ?_
  rintro e w1 ⟨rfl, hb⟩
  have r0 : w1.cell? ⟨w.heap.size, 0, none⟩ = some (.int .i64 op) := kc (by go_simp) hb
  have r1 : w1.cell? ⟨w.heap.size, 1, none⟩ = some (.int .i64 A) := kc (by go_simp) hb
  have r2 : w1.cell? ⟨w.heap.size, 2, none⟩ = some (.int .i64 B) := kc (by go_simp) hb
  have r3 : w1.cell? ⟨w.heap.size, 3, none⟩ = some (.int .i64 C) := kc (by go_simp) hb
  have hw1 : Below w.heap.size w w1 := Below.trans (by go_grown) (hb.mono (by simp))
  have HW := Lib.hid (And.intro hw1 hw1.size)
  clear hb hw1
  go_wp2_with fail
  refine wp_loop_rounds 1 ?_
  rw [rounds_succ]
  go_wp2_with fail
  refine wp_loop_rounds 4 ?_
  rw [rounds_succ]
  by_cases z0 : A = 0
  case neg =>
    have zb : (A != 0) = true := by simpa using z0
    go_wp2_with fail
    go_ret
    exact ChkP.bad (by decide) (HW.out.1.alloc HW.out.2 _)
  subst z0
  go_wp2_with fail
  rw [rounds_succ]
  by_cases z1 : B = 0
  case neg =>
    have zb : (B != 0) = true := by simpa using z1
    go_wp2_with fail
    go_ret
    exact ChkP.bad (by decide) (HW.out.1.alloc HW.out.2 _)
  subst z1
  go_wp2_with fail
  rw [rounds_succ]
  by_cases z2 : C = 0
  case neg =>
    have zb : (C != 0) = true := by simpa using z2
    go_wp2_with fail
    go_ret
    exact ChkP.bad (by decide) (HW.out.1.alloc HW.out.2 _)
  subst z2
  go_wp2_with fail
  rw [rounds_succ]
  go_wp2_with fail
  go_ret
  exact ChkP.good trivial (HW.out.1.alloc HW.out.2 _)
set_option maxHeartbeats 4000000 in
theorem chk_rn (op A B C : Int) (w : World) (ho : 0 ≤ op) (ho2 : op ≤ 25) (hf : Hid (∀ w : World, Calls Try.prog 54 #[.int .i64 op] w fun e w' => e = .returned (.string ⟨#[114, 110]⟩) ∧ Below w.heap.size w w')) :
    Calls Try.prog 35 #[.agg #[.int .i64 op, .int .i64 A, .int .i64 B, .int .i64 C]] w (ChkP (0 ≤ A ∧ A ≤ 7) w) := by
  go_enter Try.func35, Try.ntmps35
  go_wp2_with fail
  refine (hf.out _).mono ?_
  rintro e w1 ⟨rfl, hb⟩
  have r0 : w1.cell? ⟨w.heap.size, 0, none⟩ = some (.int .i64 op) := kc (by go_simp) hb
  have r1 : w1.cell? ⟨w.heap.size, 1, none⟩ = some (.int .i64 A) := kc (by go_simp) hb
  have r2 : w1.cell? ⟨w.heap.size, 2, none⟩ = some (.int .i64 B) := kc (by go_simp) hb
  have r3 : w1.cell? ⟨w.heap.size, 3, none⟩ = some (.int .i64 C) := kc (by go_simp) hb
  have hw1 : Below w.heap.size w w1 := Below.trans (by go_grown) (hb.mono (by simp))
  have HW := Lib.hid (And.intro hw1 hw1.size)
  clear hb hw1
  go_wp2_with fail
  refine wp_loop_rounds 3 ?_
  rw [rounds_succ]
  go_wp2_with fail
  refine (ends_r _).mono ?_
  rintro e wz ⟨rfl, rfl⟩
  by_cases lo0 : A < 0
  · go_wp2_with fail
    go_ret
    exact ChkP.bad (by decide) (HW.out.1.alloc HW.out.2 _)
  by_cases hi0 : 7 < A
  · go_wp2_with fail
    go_ret
    exact ChkP.bad (by decide) (HW.out.1.alloc HW.out.2 _)
  go_wp2_with fail
  rw [rounds_succ]
  go_wp2_with fail
  refine (ends_n _).mono ?_
  rintro e wz ⟨rfl, rfl⟩
  by_cases lo1 : B < (-32768)
  · go_wp2_with fail
    go_ret
    exact ChkP.bad (by decide) (HW.out.1.alloc HW.out.2 _)
  by_cases hi1 : 32767 < B
  · go_wp2_with fail
    go_ret
    exact ChkP.bad (by decide) (HW.out.1.alloc HW.out.2 _)
  go_wp2_with fail
  rw [rounds_succ]
  go_wp2_with fail
  refine wp_loop_rounds 2 ?_
  rw [rounds_succ]
  by_cases z2 : C = 0
  case neg =>
    have zb : (C != 0) = true := by simpa using z2
    go_wp2_with fail
    go_ret
    exact ChkP.bad (by decide) (HW.out.1.alloc HW.out.2 _)
  subst z2
  go_wp2_with fail
  rw [rounds_succ]
  go_wp2_with fail
  go_ret
  exact ChkP.good (by omega) (HW.out.1.alloc HW.out.2 _)
set_option maxHeartbeats 4000000 in
theorem chk_rr (op A B C : Int) (w : World) (ho : 0 ≤ op) (ho2 : op ≤ 25) (hf : Hid (∀ w : World, Calls Try.prog 54 #[.int .i64 op] w fun e w' => e = .returned (.string ⟨#[114, 114]⟩) ∧ Below w.heap.size w w')) :
    Calls Try.prog 35 #[.agg #[.int .i64 op, .int .i64 A, .int .i64 B, .int .i64 C]] w (ChkP (0 ≤ A ∧ A ≤ 7) w) := by
  go_enter Try.func35, Try.ntmps35
  go_wp2_with fail
  refine (hf.out _).mono ?_
  rintro e w1 ⟨rfl, hb⟩
  have r0 : w1.cell? ⟨w.heap.size, 0, none⟩ = some (.int .i64 op) := kc (by go_simp) hb
  have r1 : w1.cell? ⟨w.heap.size, 1, none⟩ = some (.int .i64 A) := kc (by go_simp) hb
  have r2 : w1.cell? ⟨w.heap.size, 2, none⟩ = some (.int .i64 B) := kc (by go_simp) hb
  have r3 : w1.cell? ⟨w.heap.size, 3, none⟩ = some (.int .i64 C) := kc (by go_simp) hb
  have hw1 : Below w.heap.size w w1 := Below.trans (by go_grown) (hb.mono (by simp))
  have HW := Lib.hid (And.intro hw1 hw1.size)
  clear hb hw1
  go_wp2_with fail
  refine wp_loop_rounds 3 ?_
  rw [rounds_succ]
  go_wp2_with fail
  refine (ends_r _).mono ?_
  rintro e wz ⟨rfl, rfl⟩
  by_cases lo0 : A < 0
  · go_wp2_with fail
    go_ret
    exact ChkP.bad (by decide) (HW.out.1.alloc HW.out.2 _)
  by_cases hi0 : 7 < A
  · go_wp2_with fail
    go_ret
    exact ChkP.bad (by decide) (HW.out.1.alloc HW.out.2 _)
  go_wp2_with fail
  rw [rounds_succ]
  go_wp2_with fail
  refine (ends_r _).mono ?_
  rintro e wz ⟨rfl, rfl⟩
  by_cases lo1 : B < 0
  · go_wp2_with fail
    go_ret
    exact ChkP.bad (by decide) (HW.out.1.alloc HW.out.2 _)
  by_cases hi1 : 7 < B
  · go_wp2_with fail
    go_ret
    exact ChkP.bad (by decide) (HW.out.1.alloc HW.out.2 _)
  go_wp2_with fail
  rw [rounds_succ]
  go_wp2_with fail
  refine wp_loop_rounds 2 ?_
  rw [rounds_succ]
  by_cases z2 : C = 0
  case neg =>
    have zb : (C != 0) = true := by simpa using z2
    go_wp2_with fail
    go_ret
    exact ChkP.bad (by decide) (HW.out.1.alloc HW.out.2 _)
  subst z2
  go_wp2_with fail
  rw [rounds_succ]
  go_wp2_with fail
  go_ret
  exact ChkP.good (by omega) (HW.out.1.alloc HW.out.2 _)
set_option maxHeartbeats 4000000 in
theorem chk_rrr (op A B C : Int) (w : World) (ho : 0 ≤ op) (ho2 : op ≤ 25) (hf : Hid (∀ w : World, Calls Try.prog 54 #[.int .i64 op] w fun e w' => e = .returned (.string ⟨#[114, 114, 114]⟩) ∧ Below w.heap.size w w')) :
    Calls Try.prog 35 #[.agg #[.int .i64 op, .int .i64 A, .int .i64 B, .int .i64 C]] w (ChkP (0 ≤ A ∧ A ≤ 7) w) := by
  go_enter Try.func35, Try.ntmps35
  go_wp2_with fail
  refine (hf.out _).mono ?_
  rintro e w1 ⟨rfl, hb⟩
  have r0 : w1.cell? ⟨w.heap.size, 0, none⟩ = some (.int .i64 op) := kc (by go_simp) hb
  have r1 : w1.cell? ⟨w.heap.size, 1, none⟩ = some (.int .i64 A) := kc (by go_simp) hb
  have r2 : w1.cell? ⟨w.heap.size, 2, none⟩ = some (.int .i64 B) := kc (by go_simp) hb
  have r3 : w1.cell? ⟨w.heap.size, 3, none⟩ = some (.int .i64 C) := kc (by go_simp) hb
  have hw1 : Below w.heap.size w w1 := Below.trans (by go_grown) (hb.mono (by simp))
  have HW := Lib.hid (And.intro hw1 hw1.size)
  clear hb hw1
  go_wp2_with fail
  refine wp_loop_rounds 4 ?_
  rw [rounds_succ]
  go_wp2_with fail
  refine (ends_r _).mono ?_
  rintro e wz ⟨rfl, rfl⟩
  by_cases lo0 : A < 0
  · go_wp2_with fail
    go_ret
    exact ChkP.bad (by decide) (HW.out.1.alloc HW.out.2 _)
  by_cases hi0 : 7 < A
  · go_wp2_with fail
    go_ret
    exact ChkP.bad (by decide) (HW.out.1.alloc HW.out.2 _)
  go_wp2_with fail
  rw [rounds_succ]
  go_wp2_with fail
  refine (ends_r _).mono ?_
  rintro e wz ⟨rfl, rfl⟩
  by_cases lo1 : B < 0
  · go_wp2_with fail
    go_ret
    exact ChkP.bad (by decide) (HW.out.1.alloc HW.out.2 _)
  by_cases hi1 : 7 < B
  · go_wp2_with fail
    go_ret
    exact ChkP.bad (by decide) (HW.out.1.alloc HW.out.2 _)
  go_wp2_with fail
  rw [rounds_succ]
  go_wp2_with fail
  refine (ends_r _).mono ?_
  rintro e wz ⟨rfl, rfl⟩
  by_cases lo2 : C < 0
  · go_wp2_with fail
    go_ret
    exact ChkP.bad (by decide) (HW.out.1.alloc HW.out.2 _)
  by_cases hi2 : 7 < C
  · go_wp2_with fail
    go_ret
    exact ChkP.bad (by decide) (HW.out.1.alloc HW.out.2 _)
  go_wp2_with fail
  rw [rounds_succ]
  go_wp2_with fail
  refine wp_loop_rounds 1 ?_
  rw [rounds_succ]
  go_wp2_with fail
  go_ret
  exact ChkP.good (by omega) (HW.out.1.alloc HW.out.2 _)
set_option maxHeartbeats 4000000 in
theorem chk_r (op A B C : Int) (w : World) (ho : 0 ≤ op) (ho2 : op ≤ 25) (hf : Hid (∀ w : World, Calls Try.prog 54 #[.int .i64 op] w fun e w' => e = .returned (.string ⟨#[114]⟩) ∧ Below w.heap.size w w')) :
    Calls Try.prog 35 #[.agg #[.int .i64 op, .int .i64 A, .int .i64 B, .int .i64 C]] w (ChkP (0 ≤ A ∧ A ≤ 7) w) := by
  go_enter Try.func35, Try.ntmps35
  go_wp2_with fail
  refine (hf.out _).mono ?_
  rintro e w1 ⟨rfl, hb⟩
  have r0 : w1.cell? ⟨w.heap.size, 0, none⟩ = some (.int .i64 op) := kc (by go_simp) hb
  have r1 : w1.cell? ⟨w.heap.size, 1, none⟩ = some (.int .i64 A) := kc (by go_simp) hb
  have r2 : w1.cell? ⟨w.heap.size, 2, none⟩ = some (.int .i64 B) := kc (by go_simp) hb
  have r3 : w1.cell? ⟨w.heap.size, 3, none⟩ = some (.int .i64 C) := kc (by go_simp) hb
  have hw1 : Below w.heap.size w w1 := Below.trans (by go_grown) (hb.mono (by simp))
  have HW := Lib.hid (And.intro hw1 hw1.size)
  clear hb hw1
  go_wp2_with fail
  refine wp_loop_rounds 2 ?_
  rw [rounds_succ]
  go_wp2_with fail
  refine (ends_r _).mono ?_
  rintro e wz ⟨rfl, rfl⟩
  by_cases lo0 : A < 0
  · go_wp2_with fail
    go_ret
    exact ChkP.bad (by decide) (HW.out.1.alloc HW.out.2 _)
  by_cases hi0 : 7 < A
  · go_wp2_with fail
    go_ret
    exact ChkP.bad (by decide) (HW.out.1.alloc HW.out.2 _)
  go_wp2_with fail
  rw [rounds_succ]
  go_wp2_with fail
  refine wp_loop_rounds 3 ?_
  rw [rounds_succ]
  by_cases z1 : B = 0
  case neg =>
    have zb : (B != 0) = true := by simpa using z1
    go_wp2_with fail
    go_ret
    exact ChkP.bad (by decide) (HW.out.1.alloc HW.out.2 _)
  subst z1
  go_wp2_with fail
  rw [rounds_succ]
  by_cases z2 : C = 0
  case neg =>
    have zb : (C != 0) = true := by simpa using z2
    go_wp2_with fail
    go_ret
    exact ChkP.bad (by decide) (HW.out.1.alloc HW.out.2 _)
  subst z2
  go_wp2_with fail
  rw [rounds_succ]
  go_wp2_with fail
  go_ret
  exact ChkP.good (by omega) (HW.out.1.alloc HW.out.2 _)
set_option maxHeartbeats 4000000 in
theorem chk_t (op A B C : Int) (w : World) (ho : 0 ≤ op) (ho2 : op ≤ 25) (hf : Hid (∀ w : World, Calls Try.prog 54 #[.int .i64 op] w fun e w' => e = .returned (.string ⟨#[116]⟩) ∧ Below w.heap.size w w')) :
    Calls Try.prog 35 #[.agg #[.int .i64 op, .int .i64 A, .int .i64 B, .int .i64 C]] w (ChkP True w) := by
  go_enter Try.func35, Try.ntmps35
  go_wp2_with fail
  refine (hf.out _).mono ?_
  rintro e w1 ⟨rfl, hb⟩
  have r0 : w1.cell? ⟨w.heap.size, 0, none⟩ = some (.int .i64 op) := kc (by go_simp) hb
  have r1 : w1.cell? ⟨w.heap.size, 1, none⟩ = some (.int .i64 A) := kc (by go_simp) hb
  have r2 : w1.cell? ⟨w.heap.size, 2, none⟩ = some (.int .i64 B) := kc (by go_simp) hb
  have r3 : w1.cell? ⟨w.heap.size, 3, none⟩ = some (.int .i64 C) := kc (by go_simp) hb
  have hw1 : Below w.heap.size w w1 := Below.trans (by go_grown) (hb.mono (by simp))
  have HW := Lib.hid (And.intro hw1 hw1.size)
  clear hb hw1
  go_wp2_with fail
  refine wp_loop_rounds 2 ?_
  rw [rounds_succ]
  go_wp2_with fail
  refine (ends_t _).mono ?_
  rintro e wz ⟨rfl, rfl⟩
  by_cases lo0 : A < 0
  · go_wp2_with fail
    go_ret
    exact ChkP.bad (by decide) (HW.out.1.alloc HW.out.2 _)
  by_cases hi0 : 199 < A
  · go_wp2_with fail
    go_ret
    exact ChkP.bad (by decide) (HW.out.1.alloc HW.out.2 _)
  go_wp2_with fail
  rw [rounds_succ]
  go_wp2_with fail
  refine wp_loop_rounds 3 ?_
  rw [rounds_succ]
  by_cases z1 : B = 0
  case neg =>
    have zb : (B != 0) = true := by simpa using z1
    go_wp2_with fail
    go_ret
    exact ChkP.bad (by decide) (HW.out.1.alloc HW.out.2 _)
  subst z1
  go_wp2_with fail
  rw [rounds_succ]
  by_cases z2 : C = 0
  case neg =>
    have zb : (C != 0) = true := by simpa using z2
    go_wp2_with fail
    go_ret
    exact ChkP.bad (by decide) (HW.out.1.alloc HW.out.2 _)
  subst z2
  go_wp2_with fail
  rw [rounds_succ]
  go_wp2_with fail
  go_ret
  exact ChkP.good trivial (HW.out.1.alloc HW.out.2 _)
set_option maxHeartbeats 4000000 in
theorem chk_rt (op A B C : Int) (w : World) (ho : 0 ≤ op) (ho2 : op ≤ 25) (hf : Hid (∀ w : World, Calls Try.prog 54 #[.int .i64 op] w fun e w' => e = .returned (.string ⟨#[114, 116]⟩) ∧ Below w.heap.size w w')) :
    Calls Try.prog 35 #[.agg #[.int .i64 op, .int .i64 A, .int .i64 B, .int .i64 C]] w (ChkP (0 ≤ A ∧ A ≤ 7) w) := by
  go_enter Try.func35, Try.ntmps35
  go_wp2_with fail
  refine (hf.out _).mono ?_
  rintro e w1 ⟨rfl, hb⟩
  have r0 : w1.cell? ⟨w.heap.size, 0, none⟩ = some (.int .i64 op) := kc (by go_simp) hb
  have r1 : w1.cell? ⟨w.heap.size, 1, none⟩ = some (.int .i64 A) := kc (by go_simp) hb
  have r2 : w1.cell? ⟨w.heap.size, 2, none⟩ = some (.int .i64 B) := kc (by go_simp) hb
  have r3 : w1.cell? ⟨w.heap.size, 3, none⟩ = some (.int .i64 C) := kc (by go_simp) hb
  have hw1 : Below w.heap.size w w1 := Below.trans (by go_grown) (hb.mono (by simp))
  have HW := Lib.hid (And.intro hw1 hw1.size)
  clear hb hw1
  go_wp2_with fail
  refine wp_loop_rounds 3 ?_
  rw [rounds_succ]
  go_wp2_with fail
  refine (ends_r _).mono ?_
  rintro e wz ⟨rfl, rfl⟩
  by_cases lo0 : A < 0
  · go_wp2_with fail
    go_ret
    exact ChkP.bad (by decide) (HW.out.1.alloc HW.out.2 _)
  by_cases hi0 : 7 < A
  · go_wp2_with fail
    go_ret
    exact ChkP.bad (by decide) (HW.out.1.alloc HW.out.2 _)
  go_wp2_with fail
  rw [rounds_succ]
  go_wp2_with fail
  refine (ends_t _).mono ?_
  rintro e wz ⟨rfl, rfl⟩
  by_cases lo1 : B < 0
  · go_wp2_with fail
    go_ret
    exact ChkP.bad (by decide) (HW.out.1.alloc HW.out.2 _)
  by_cases hi1 : 199 < B
  · go_wp2_with fail
    go_ret
    exact ChkP.bad (by decide) (HW.out.1.alloc HW.out.2 _)
  go_wp2_with fail
  rw [rounds_succ]
  go_wp2_with fail
  refine wp_loop_rounds 2 ?_
  rw [rounds_succ]
  by_cases z2 : C = 0
  case neg =>
    have zb : (C != 0) = true := by simpa using z2
    go_wp2_with fail
    go_ret
    exact ChkP.bad (by decide) (HW.out.1.alloc HW.out.2 _)
  subst z2
  go_wp2_with fail
  rw [rounds_succ]
  go_wp2_with fail
  go_ret
  exact ChkP.good (by omega) (HW.out.1.alloc HW.out.2 _)
set_option maxHeartbeats 4000000 in
theorem chk_f (op A B C : Int) (w : World) (ho : 0 ≤ op) (ho2 : op ≤ 25) (hf : Hid (∀ w : World, Calls Try.prog 54 #[.int .i64 op] w fun e w' => e = .returned (.string ⟨#[102]⟩) ∧ Below w.heap.size w w')) :
    Calls Try.prog 35 #[.agg #[.int .i64 op, .int .i64 A, .int .i64 B, .int .i64 C]] w (ChkP True w) := by
  go_enter Try.func35, Try.ntmps35
  go_wp2_with fail
  refine (hf.out _).mono ?_
  rintro e w1 ⟨rfl, hb⟩
  have r0 : w1.cell? ⟨w.heap.size, 0, none⟩ = some (.int .i64 op) := kc (by go_simp) hb
  have r1 : w1.cell? ⟨w.heap.size, 1, none⟩ = some (.int .i64 A) := kc (by go_simp) hb
  have r2 : w1.cell? ⟨w.heap.size, 2, none⟩ = some (.int .i64 B) := kc (by go_simp) hb
  have r3 : w1.cell? ⟨w.heap.size, 3, none⟩ = some (.int .i64 C) := kc (by go_simp) hb
  have hw1 : Below w.heap.size w w1 := Below.trans (by go_grown) (hb.mono (by simp))
  have HW := Lib.hid (And.intro hw1 hw1.size)
  clear hb hw1
  go_wp2_with fail
  refine wp_loop_rounds 2 ?_
  rw [rounds_succ]
  go_wp2_with fail
  refine (ends_f _).mono ?_
  rintro e wz ⟨rfl, rfl⟩
  by_cases lo0 : A < 0
  · go_wp2_with fail
    go_ret
    exact ChkP.bad (by decide) (HW.out.1.alloc HW.out.2 _)
  by_cases hi0 : 15 < A
  · go_wp2_with fail
    go_ret
    exact ChkP.bad (by decide) (HW.out.1.alloc HW.out.2 _)
  go_wp2_with fail
  rw [rounds_succ]
  go_wp2_with fail
  refine wp_loop_rounds 3 ?_
  rw [rounds_succ]
  by_cases z1 : B = 0
  case neg =>
    have zb : (B != 0) = true := by simpa using z1
    go_wp2_with fail
    go_ret
    exact ChkP.bad (by decide) (HW.out.1.alloc HW.out.2 _)
  subst z1
  go_wp2_with fail
  rw [rounds_succ]
  by_cases z2 : C = 0
  case neg =>
    have zb : (C != 0) = true := by simpa using z2
    go_wp2_with fail
    go_ret
    exact ChkP.bad (by decide) (HW.out.1.alloc HW.out.2 _)
  subst z2
  go_wp2_with fail
  rw [rounds_succ]
  go_wp2_with fail
  go_ret
  exact ChkP.good trivial (HW.out.1.alloc HW.out.2 _)
def writes (op : Int) : Prop := (1 ≤ op ∧ op ≤ 13) ∨ op = 15 ∨ op = 16 ∨ op = 19
theorem ChkP.imp {P Q : Prop} {w w' : World} {e : Ending} (h : ChkP P w e w') (hpq : P → Q) : ChkP Q w e w' := by
  obtain ⟨v, h1, h2, h3⟩ := h; exact ⟨v, h1, fun h => hpq (h2 h), h3⟩
theorem chk_out (op A B C : Int) (w : World) (ho : op < 0 ∨ 25 < op) : Calls Try.prog 35 #[.agg #[.int .i64 op, .int .i64 A, .int .i64 B, .int .i64 C]] w (ChkP (0 ≤ op ∧ op ≤ 25 ∧ (writes op → 0 ≤ A ∧ A ≤ 7)) w) := by
  rcases ho with ho | ho
  · go_enter Try.func35, Try.ntmps35
    go_wp2_with fail
    go_ret
    exact ChkP.bad (by decide) (by go_grown)
  · have h0 : ¬ op < 0 := by omega
    go_enter Try.func35, Try.ntmps35
    go_wp2_with fail
    go_ret
    exact ChkP.bad (by decide) (by go_grown)
theorem check_v (op A B C : Int) (w : World) : Calls Try.prog 35 #[.agg #[.int .i64 op, .int .i64 A, .int .i64 B, .int .i64 C]] w (ChkP (0 ≤ op ∧ op ≤ 25 ∧ (writes op → 0 ≤ A ∧ A ≤ 7)) w) := by
  by_cases ho : op < 0 ∨ 25 < op
  · exact chk_out op A B C w ho
  by_cases h0 : op = 0
  · subst h0; exact (chk_e 0 A B C w (by decide) (by decide) (Lib.hid form_0)).mono fun _ _ h => h.imp (fun _ => ⟨by decide, by decide, fun h => by unfold writes at h; omega⟩)
  by_cases h1 : op = 1
  · subst h1; exact (chk_rn 1 A B C w (by decide) (by decide) (Lib.hid form_1)).mono fun _ _ h => h.imp (fun h => ⟨by decide, by decide, fun _ => h⟩)
  by_cases h2 : op = 2
  · subst h2; exact (chk_rr 2 A B C w (by decide) (by decide) (Lib.hid form_2)).mono fun _ _ h => h.imp (fun h => ⟨by decide, by decide, fun _ => h⟩)
  by_cases h3 : op = 3
  · subst h3; exact (chk_rrr 3 A B C w (by decide) (by decide) (Lib.hid form_3)).mono fun _ _ h => h.imp (fun h => ⟨by decide, by decide, fun _ => h⟩)
  by_cases h4 : op = 4
  · subst h4; exact (chk_rrr 4 A B C w (by decide) (by decide) (Lib.hid form_4)).mono fun _ _ h => h.imp (fun h => ⟨by decide, by decide, fun _ => h⟩)
  by_cases h5 : op = 5
  · subst h5; exact (chk_rrr 5 A B C w (by decide) (by decide) (Lib.hid form_5)).mono fun _ _ h => h.imp (fun h => ⟨by decide, by decide, fun _ => h⟩)
  by_cases h6 : op = 6
  · subst h6; exact (chk_rrr 6 A B C w (by decide) (by decide) (Lib.hid form_6)).mono fun _ _ h => h.imp (fun h => ⟨by decide, by decide, fun _ => h⟩)
  by_cases h7 : op = 7
  · subst h7; exact (chk_rrr 7 A B C w (by decide) (by decide) (Lib.hid form_7)).mono fun _ _ h => h.imp (fun h => ⟨by decide, by decide, fun _ => h⟩)
  by_cases h8 : op = 8
  · subst h8; exact (chk_rrr 8 A B C w (by decide) (by decide) (Lib.hid form_8)).mono fun _ _ h => h.imp (fun h => ⟨by decide, by decide, fun _ => h⟩)
  by_cases h9 : op = 9
  · subst h9; exact (chk_rrr 9 A B C w (by decide) (by decide) (Lib.hid form_9)).mono fun _ _ h => h.imp (fun h => ⟨by decide, by decide, fun _ => h⟩)
  by_cases h10 : op = 10
  · subst h10; exact (chk_rrr 10 A B C w (by decide) (by decide) (Lib.hid form_10)).mono fun _ _ h => h.imp (fun h => ⟨by decide, by decide, fun _ => h⟩)
  by_cases h11 : op = 11
  · subst h11; exact (chk_rrr 11 A B C w (by decide) (by decide) (Lib.hid form_11)).mono fun _ _ h => h.imp (fun h => ⟨by decide, by decide, fun _ => h⟩)
  by_cases h12 : op = 12
  · subst h12; exact (chk_rrr 12 A B C w (by decide) (by decide) (Lib.hid form_12)).mono fun _ _ h => h.imp (fun h => ⟨by decide, by decide, fun _ => h⟩)
  by_cases h13 : op = 13
  · subst h13; exact (chk_rr 13 A B C w (by decide) (by decide) (Lib.hid form_13)).mono fun _ _ h => h.imp (fun h => ⟨by decide, by decide, fun _ => h⟩)
  by_cases h14 : op = 14
  · subst h14; exact (chk_rr 14 A B C w (by decide) (by decide) (Lib.hid form_14)).mono fun _ _ h => h.imp (fun h => ⟨by decide, by decide, fun _ => h⟩)
  by_cases h15 : op = 15
  · subst h15; exact (chk_rrr 15 A B C w (by decide) (by decide) (Lib.hid form_15)).mono fun _ _ h => h.imp (fun h => ⟨by decide, by decide, fun _ => h⟩)
  by_cases h16 : op = 16
  · subst h16; exact (chk_rrr 16 A B C w (by decide) (by decide) (Lib.hid form_16)).mono fun _ _ h => h.imp (fun h => ⟨by decide, by decide, fun _ => h⟩)
  by_cases h17 : op = 17
  · subst h17; exact (chk_r 17 A B C w (by decide) (by decide) (Lib.hid form_17)).mono fun _ _ h => h.imp (fun h => ⟨by decide, by decide, fun _ => h⟩)
  by_cases h18 : op = 18
  · subst h18; exact (chk_t 18 A B C w (by decide) (by decide) (Lib.hid form_18)).mono fun _ _ h => h.imp (fun _ => ⟨by decide, by decide, fun h => by unfold writes at h; omega⟩)
  by_cases h19 : op = 19
  · subst h19; exact (chk_rt 19 A B C w (by decide) (by decide) (Lib.hid form_19)).mono fun _ _ h => h.imp (fun h => ⟨by decide, by decide, fun _ => h⟩)
  by_cases h20 : op = 20
  · subst h20; exact (chk_f 20 A B C w (by decide) (by decide) (Lib.hid form_20)).mono fun _ _ h => h.imp (fun _ => ⟨by decide, by decide, fun h => by unfold writes at h; omega⟩)
  by_cases h21 : op = 21
  · subst h21; exact (chk_e 21 A B C w (by decide) (by decide) (Lib.hid form_21)).mono fun _ _ h => h.imp (fun _ => ⟨by decide, by decide, fun h => by unfold writes at h; omega⟩)
  by_cases h22 : op = 22
  · subst h22; exact (chk_f 22 A B C w (by decide) (by decide) (Lib.hid form_22)).mono fun _ _ h => h.imp (fun _ => ⟨by decide, by decide, fun h => by unfold writes at h; omega⟩)
  by_cases h23 : op = 23
  · subst h23; exact (chk_r 23 A B C w (by decide) (by decide) (Lib.hid form_23)).mono fun _ _ h => h.imp (fun h => ⟨by decide, by decide, fun _ => h⟩)
  by_cases h24 : op = 24
  · subst h24; exact (chk_r 24 A B C w (by decide) (by decide) (Lib.hid form_24)).mono fun _ _ h => h.imp (fun h => ⟨by decide, by decide, fun _ => h⟩)
  by_cases h25 : op = 25
  · subst h25; exact (chk_e 25 A B C w (by decide) (by decide) (Lib.hid form_25)).mono fun _ _ h => h.imp (fun _ => ⟨by decide, by decide, fun h => by unfold writes at h; omega⟩)
  exfalso; omega
end Go.Proofs.Ytpcpohbbmeonbaa.step
