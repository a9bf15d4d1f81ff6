/- What any instruction does with any registers: the program's answer and the reference's are one, and what it leaves as it was. -/
import Derived.Test.YtpcpohbbmeonbaaSdo0
import Derived.Test.YtpcpohbbmeonbaaSdo1
import Derived.Test.YtpcpohbbmeonbaaSdo2
import Derived.Test.YtpcpohbbmeonbaaSdo3
import Derived.Test.YtpcpohbbmeonbaaRdo0
import Derived.Test.YtpcpohbbmeonbaaRdo1
import Derived.Test.YtpcpohbbmeonbaaRdo2
import Derived.Test.YtpcpohbbmeonbaaRkn0
import Derived.Test.YtpcpohbbmeonbaaRkn1
namespace Go.Proofs.Ytpcpohbbmeonbaa.step
open Go.ChangeShapes Go.WideShapes Go.ChangeAt Go.RowKit
open Go.Proofs.Ytpcpohbbmeonbaa.ref01
set_option linter.unusedVariables false
set_option linter.unusedSimpArgs false
theorem rg_lt (n : Int) : rg n < 8 := by rcases rg_cases n with h | h | h | h | h | h | h | h <;> omega
/-- what is known of an instruction's answer -/
structure Known (op A B C pc : Int) (r s : Nat → Int) (n e0 e1 e2 e3 e4 f : Int) : Prop where
  fault : f ≠ 0 → s = r ∧ n = pc ∧ e0 = 0 ∧ e1 = 0 ∧ e2 = 0 ∧ e3 = 0 ∧ e4 = 0
  keeps : ∀ i, i ≠ rg A → s i = r i
  asks : (e0 ≠ 0 ∨ e1 ≠ 0 ∨ e2 ≠ 0 ∨ e3 ≠ 0 ∨ e4 ≠ 0) → s = r
  reg : e0 = 1 ∨ e0 = 3 ∨ e0 = 4 → e4 = (rg A : Int)
  kind : f = 0 → (e0 ≠ 0 ↔ (op = 0 ∨ (13 ≤ op ∧ op ≤ 17) ∨ (20 ≤ op ∧ op ≤ 25)))
  zero : op = 19 → n = if r (rg A) = 0 then B else pc + 1
  jump : op = 18 → n = A
  goes : f = 0 → n = pc + 1 ∨ (op = 18 ∧ n = A) ∨ (op = 19 ∧ n = B ∧ r (rg A) = 0)
theorem upd_keeps (r : Nat → Int) (a i : Nat) (v : Int) (h : i ≠ a) : upd r a v i = r i := by unfold upd; rw [if_neg h]
theorem doV_f (op a b n f : Int) (h : doV op a b = (n, f)) (hf : ¬ f = 0) : op = 6 ∨ op = 7 := by
  unfold doV at h
  by_cases h6 : op = 6
  · exact .inl h6
  by_cases h7 : op = 7
  · exact .inr h7
  exfalso
  rw [if_neg h6, if_neg h7] at h
  apply hf
  repeat (split at h <;> try (injection h with _ h2; exact h2.symm))
theorem pair (op A B C pc : Int) (r : Nat → Int) (hr : ∀ i, -9223372036854775808 ≤ r i ∧ r i ≤ 9223372036854775807) (hpc : pc ≤ 4611686018427387904) (hpc0 : -9223372036854775808 ≤ pc) :
    ∃ (n : Int) (s : Nat → Int) (e0 e1 e2 e3 e4 f : Int), (∀ w : World, Calls Try.prog 29 #[.agg #[.int .i64 op, .int .i64 A, .int .i64 B, .int .i64 C], .int .i64 pc, .agg #[.int .i64 (r 0), .int .i64 (r 1), .int .i64 (r 2), .int .i64 (r 3), .int .i64 (r 4), .int .i64 (r 5), .int .i64 (r 6), .int .i64 (r 7)]] w fun e w' => e = .returned (.tuple #[.int .i64 n, .agg #[.int .i64 (s 0), .int .i64 (s 1), .int .i64 (s 2), .int .i64 (s 3), .int .i64 (s 4), .int .i64 (s 5), .int .i64 (s 6), .int .i64 (s 7)], .agg #[.int .i64 e0, .int .i64 e1, .int .i64 e2, .int .i64 e3, .int .i64 e4], .int .i64 f]) ∧ Below w.heap.size w w') ∧ (∀ w : World, Calls Try.prog 30 #[.agg #[.int .i64 op, .int .i64 A, .int .i64 B, .int .i64 C], .int .i64 pc, .agg #[.int .i64 (r 0), .int .i64 (r 1), .int .i64 (r 2), .int .i64 (r 3), .int .i64 (r 4), .int .i64 (r 5), .int .i64 (r 6), .int .i64 (r 7)]] w fun e w' => e = .returned (.tuple #[.int .i64 n, .agg #[.int .i64 (s 0), .int .i64 (s 1), .int .i64 (s 2), .int .i64 (s 3), .int .i64 (s 4), .int .i64 (s 5), .int .i64 (s 6), .int .i64 (s 7)], .agg #[.int .i64 e0, .int .i64 e1, .int .i64 e2, .int .i64 e3, .int .i64 e4], .int .i64 f]) ∧ Below w.heap.size w w') ∧ Known op A B C pc r s n e0 e1 e2 e3 e4 f := by
  have ha8 := rg_lt A
  have hb8 := rg_lt B
  have hc8 := rg_lt C
  have hrb := hr (rg B)
  have hrc := hr (rg C)
  by_cases h0 : op = 0
  · subst h0
    exact ⟨pc + 1, r, 12, 0, 0, 0, 0, 0, fun w => sdo_other 0 12 0 0 0 0 A B C pc r (rg A) (rg B) (rg C) w (Lib.hid rfl) (Lib.hid rfl) (Lib.hid rfl) ha8 hb8 hc8 hpc hpc0 (by decide) (by decide) (by decide) (by decide) (Lib.hid (by decide)) (Lib.hid (by simp [effF])), fun w => rdo_0 A B C pc r (rg A) (rg B) (rg C) w (Lib.hid rfl) (Lib.hid rfl) (Lib.hid rfl) ha8 hb8 hc8 hpc hpc0, ⟨fun h => absurd rfl h, fun i hi => rfl, fun _ => rfl, fun h => by first | rfl | (exfalso; omega), fun _ => by omega, fun h => by first | (exfalso; omega) | (rw [if_pos hz]) | (rw [if_neg hz]), fun h => by first | rfl | (exfalso; omega), fun _ => .inl rfl⟩⟩
  by_cases h13 : op = 13
  · subst h13
    exact ⟨pc + 1, r, 1, (r (rg B)), 0, 0, (rg A : Int), 0, fun w => sdo_other 13 1 (r (rg B)) 0 0 (rg A : Int) A B C pc r (rg A) (rg B) (rg C) w (Lib.hid rfl) (Lib.hid rfl) (Lib.hid rfl) ha8 hb8 hc8 hpc hpc0 (by decide) (by decide) (by decide) (by decide) (Lib.hid (by decide)) (Lib.hid (by simp [effF])), fun w => rdo_13 A B C pc r (rg A) (rg B) (rg C) w (Lib.hid rfl) (Lib.hid rfl) (Lib.hid rfl) ha8 hb8 hc8 hpc hpc0, ⟨fun h => absurd rfl h, fun i hi => rfl, fun _ => rfl, fun h => by first | rfl | (exfalso; omega), fun _ => by omega, fun h => by first | (exfalso; omega) | (rw [if_pos hz]) | (rw [if_neg hz]), fun h => by first | rfl | (exfalso; omega), fun _ => .inl rfl⟩⟩
  by_cases h14 : op = 14
  · subst h14
    exact ⟨pc + 1, r, 2, (r (rg A)), (r (rg B)), 0, 0, 0, fun w => sdo_other 14 2 (r (rg A)) (r (rg B)) 0 0 A B C pc r (rg A) (rg B) (rg C) w (Lib.hid rfl) (Lib.hid rfl) (Lib.hid rfl) ha8 hb8 hc8 hpc hpc0 (by decide) (by decide) (by decide) (by decide) (Lib.hid (by decide)) (Lib.hid (by simp [effF])), fun w => rdo_14 A B C pc r (rg A) (rg B) (rg C) w (Lib.hid rfl) (Lib.hid rfl) (Lib.hid rfl) ha8 hb8 hc8 hpc hpc0, ⟨fun h => absurd rfl h, fun i hi => rfl, fun _ => rfl, fun h => by first | rfl | (exfalso; omega), fun _ => by omega, fun h => by first | (exfalso; omega) | (rw [if_pos hz]) | (rw [if_neg hz]), fun h => by first | rfl | (exfalso; omega), fun _ => .inl rfl⟩⟩
  by_cases h15 : op = 15
  · subst h15
    exact ⟨pc + 1, r, 3, (r (rg B)), (r (rg C)), 0, (rg A : Int), 0, fun w => sdo_other 15 3 (r (rg B)) (r (rg C)) 0 (rg A : Int) A B C pc r (rg A) (rg B) (rg C) w (Lib.hid rfl) (Lib.hid rfl) (Lib.hid rfl) ha8 hb8 hc8 hpc hpc0 (by decide) (by decide) (by decide) (by decide) (Lib.hid (by decide)) (Lib.hid (by simp [effF])), fun w => rdo_15 A B C pc r (rg A) (rg B) (rg C) w (Lib.hid rfl) (Lib.hid rfl) (Lib.hid rfl) ha8 hb8 hc8 hpc hpc0, ⟨fun h => absurd rfl h, fun i hi => rfl, fun _ => rfl, fun h => by first | rfl | (exfalso; omega), fun _ => by omega, fun h => by first | (exfalso; omega) | (rw [if_pos hz]) | (rw [if_neg hz]), fun h => by first | rfl | (exfalso; omega), fun _ => .inl rfl⟩⟩
  by_cases h16 : op = 16
  · subst h16
    exact ⟨pc + 1, r, 4, (r (rg B)), (r (rg A)), (r (rg C)), (rg A : Int), 0, fun w => sdo_other 16 4 (r (rg B)) (r (rg A)) (r (rg C)) (rg A : Int) A B C pc r (rg A) (rg B) (rg C) w (Lib.hid rfl) (Lib.hid rfl) (Lib.hid rfl) ha8 hb8 hc8 hpc hpc0 (by decide) (by decide) (by decide) (by decide) (Lib.hid (by decide)) (Lib.hid (by simp [effF])), fun w => rdo_16 A B C pc r (rg A) (rg B) (rg C) w (Lib.hid rfl) (Lib.hid rfl) (Lib.hid rfl) ha8 hb8 hc8 hpc hpc0, ⟨fun h => absurd rfl h, fun i hi => rfl, fun _ => rfl, fun h => by first | rfl | (exfalso; omega), fun _ => by omega, fun h => by first | (exfalso; omega) | (rw [if_pos hz]) | (rw [if_neg hz]), fun h => by first | rfl | (exfalso; omega), fun _ => .inl rfl⟩⟩
  by_cases h17 : op = 17
  · subst h17
    exact ⟨pc + 1, r, 5, 0, (r (rg A)), 0, 0, 0, fun w => sdo_other 17 5 0 (r (rg A)) 0 0 A B C pc r (rg A) (rg B) (rg C) w (Lib.hid rfl) (Lib.hid rfl) (Lib.hid rfl) ha8 hb8 hc8 hpc hpc0 (by decide) (by decide) (by decide) (by decide) (Lib.hid (by decide)) (Lib.hid (by simp [effF])), fun w => rdo_17 A B C pc r (rg A) (rg B) (rg C) w (Lib.hid rfl) (Lib.hid rfl) (Lib.hid rfl) ha8 hb8 hc8 hpc hpc0, ⟨fun h => absurd rfl h, fun i hi => rfl, fun _ => rfl, fun h => by first | rfl | (exfalso; omega), fun _ => by omega, fun h => by first | (exfalso; omega) | (rw [if_pos hz]) | (rw [if_neg hz]), fun h => by first | rfl | (exfalso; omega), fun _ => .inl rfl⟩⟩
  by_cases h20 : op = 20
  · subst h20
    exact ⟨pc + 1, r, 6, 0, A, 0, 0, 0, fun w => sdo_other 20 6 0 A 0 0 A B C pc r (rg A) (rg B) (rg C) w (Lib.hid rfl) (Lib.hid rfl) (Lib.hid rfl) ha8 hb8 hc8 hpc hpc0 (by decide) (by decide) (by decide) (by decide) (Lib.hid (by decide)) (Lib.hid (by simp [effF])), fun w => rdo_20 A B C pc r (rg A) (rg B) (rg C) w (Lib.hid rfl) (Lib.hid rfl) (Lib.hid rfl) ha8 hb8 hc8 hpc hpc0, ⟨fun h => absurd rfl h, fun i hi => rfl, fun _ => rfl, fun h => by first | rfl | (exfalso; omega), fun _ => by omega, fun h => by first | (exfalso; omega) | (rw [if_pos hz]) | (rw [if_neg hz]), fun h => by first | rfl | (exfalso; omega), fun _ => .inl rfl⟩⟩
  by_cases h21 : op = 21
  · subst h21
    exact ⟨pc + 1, r, 7, 0, 0, 0, 0, 0, fun w => sdo_other 21 7 0 0 0 0 A B C pc r (rg A) (rg B) (rg C) w (Lib.hid rfl) (Lib.hid rfl) (Lib.hid rfl) ha8 hb8 hc8 hpc hpc0 (by decide) (by decide) (by decide) (by decide) (Lib.hid (by decide)) (Lib.hid (by simp [effF])), fun w => rdo_21 A B C pc r (rg A) (rg B) (rg C) w (Lib.hid rfl) (Lib.hid rfl) (Lib.hid rfl) ha8 hb8 hc8 hpc hpc0, ⟨fun h => absurd rfl h, fun i hi => rfl, fun _ => rfl, fun h => by first | rfl | (exfalso; omega), fun _ => by omega, fun h => by first | (exfalso; omega) | (rw [if_pos hz]) | (rw [if_neg hz]), fun h => by first | rfl | (exfalso; omega), fun _ => .inl rfl⟩⟩
  by_cases h22 : op = 22
  · subst h22
    exact ⟨pc + 1, r, 8, 0, A, 0, 0, 0, fun w => sdo_other 22 8 0 A 0 0 A B C pc r (rg A) (rg B) (rg C) w (Lib.hid rfl) (Lib.hid rfl) (Lib.hid rfl) ha8 hb8 hc8 hpc hpc0 (by decide) (by decide) (by decide) (by decide) (Lib.hid (by decide)) (Lib.hid (by simp [effF])), fun w => rdo_22 A B C pc r (rg A) (rg B) (rg C) w (Lib.hid rfl) (Lib.hid rfl) (Lib.hid rfl) ha8 hb8 hc8 hpc hpc0, ⟨fun h => absurd rfl h, fun i hi => rfl, fun _ => rfl, fun h => by first | rfl | (exfalso; omega), fun _ => by omega, fun h => by first | (exfalso; omega) | (rw [if_pos hz]) | (rw [if_neg hz]), fun h => by first | rfl | (exfalso; omega), fun _ => .inl rfl⟩⟩
  by_cases h23 : op = 23
  · subst h23
    exact ⟨pc + 1, r, 9, 0, (r (rg A)), 0, 0, 0, fun w => sdo_other 23 9 0 (r (rg A)) 0 0 A B C pc r (rg A) (rg B) (rg C) w (Lib.hid rfl) (Lib.hid rfl) (Lib.hid rfl) ha8 hb8 hc8 hpc hpc0 (by decide) (by decide) (by decide) (by decide) (Lib.hid (by decide)) (Lib.hid (by simp [effF])), fun w => rdo_23 A B C pc r (rg A) (rg B) (rg C) w (Lib.hid rfl) (Lib.hid rfl) (Lib.hid rfl) ha8 hb8 hc8 hpc hpc0, ⟨fun h => absurd rfl h, fun i hi => rfl, fun _ => rfl, fun h => by first | rfl | (exfalso; omega), fun _ => by omega, fun h => by first | (exfalso; omega) | (rw [if_pos hz]) | (rw [if_neg hz]), fun h => by first | rfl | (exfalso; omega), fun _ => .inl rfl⟩⟩
  by_cases h24 : op = 24
  · subst h24
    exact ⟨pc + 1, r, 10, 0, (r (rg A)), 0, 0, 0, fun w => sdo_other 24 10 0 (r (rg A)) 0 0 A B C pc r (rg A) (rg B) (rg C) w (Lib.hid rfl) (Lib.hid rfl) (Lib.hid rfl) ha8 hb8 hc8 hpc hpc0 (by decide) (by decide) (by decide) (by decide) (Lib.hid (by decide)) (Lib.hid (by simp [effF])), fun w => rdo_24 A B C pc r (rg A) (rg B) (rg C) w (Lib.hid rfl) (Lib.hid rfl) (Lib.hid rfl) ha8 hb8 hc8 hpc hpc0, ⟨fun h => absurd rfl h, fun i hi => rfl, fun _ => rfl, fun h => by first | rfl | (exfalso; omega), fun _ => by omega, fun h => by first | (exfalso; omega) | (rw [if_pos hz]) | (rw [if_neg hz]), fun h => by first | rfl | (exfalso; omega), fun _ => .inl rfl⟩⟩
  by_cases h25 : op = 25
  · subst h25
    exact ⟨pc + 1, r, 11, 0, 0, 0, 0, 0, fun w => sdo_other 25 11 0 0 0 0 A B C pc r (rg A) (rg B) (rg C) w (Lib.hid rfl) (Lib.hid rfl) (Lib.hid rfl) ha8 hb8 hc8 hpc hpc0 (by decide) (by decide) (by decide) (by decide) (Lib.hid (by decide)) (Lib.hid (by simp [effF])), fun w => rdo_25 A B C pc r (rg A) (rg B) (rg C) w (Lib.hid rfl) (Lib.hid rfl) (Lib.hid rfl) ha8 hb8 hc8 hpc hpc0, ⟨fun h => absurd rfl h, fun i hi => rfl, fun _ => rfl, fun h => by first | rfl | (exfalso; omega), fun _ => by omega, fun h => by first | (exfalso; omega) | (rw [if_pos hz]) | (rw [if_neg hz]), fun h => by first | rfl | (exfalso; omega), fun _ => .inl rfl⟩⟩
  by_cases h18 : op = 18
  · subst h18
    exact ⟨A, r, 0, 0, 0, 0, 0, 0, fun w => sdo_jump 0 0 0 0 0 A B C pc r (rg A) (rg B) (rg C) w (Lib.hid rfl) (Lib.hid rfl) (Lib.hid rfl) ha8 hb8 hc8 hpc hpc0 (Lib.hid (by decide)) (Lib.hid (by simp [effF])), fun w => rdo_18 A B C pc r (rg A) (rg B) (rg C) w (Lib.hid rfl) (Lib.hid rfl) (Lib.hid rfl) ha8 hb8 hc8 hpc hpc0, ⟨fun h => absurd rfl h, fun i hi => rfl, fun _ => rfl, fun h => by first | rfl | (exfalso; omega), fun _ => by omega, fun h => by first | (exfalso; omega) | (rw [if_pos hz]) | (rw [if_neg hz]), fun h => by first | rfl | (exfalso; omega), fun _ => .inr (.inl ⟨rfl, rfl⟩)⟩⟩
  by_cases h1 : op = 1
  · subst h1
    exact ⟨pc + 1, upd r (rg A) B, 0, 0, 0, 0, 0, 0, fun w => sdo_set 0 0 0 0 0 A B C pc r (rg A) (rg B) (rg C) w (Lib.hid rfl) (Lib.hid rfl) (Lib.hid rfl) ha8 hb8 hc8 hpc hpc0 (Lib.hid (by decide)) (Lib.hid (by simp [effF])), fun w => rdo_1 A B C pc r (rg A) (rg B) (rg C) w (Lib.hid rfl) (Lib.hid rfl) (Lib.hid rfl) ha8 hb8 hc8 hpc hpc0, ⟨fun h => absurd rfl h, fun i hi => upd_keeps r _ i _ hi, fun h => by exfalso; simp at h, fun h => by exfalso; omega, fun _ => by omega, fun h => by exfalso; omega, fun h => by exfalso; omega, fun _ => .inl rfl⟩⟩
  by_cases h2 : op = 2
  · subst h2
    exact ⟨pc + 1, upd r (rg A) (r (rg B)), 0, 0, 0, 0, 0, 0, fun w => sdo_move 0 0 0 0 0 A B C pc r (rg A) (rg B) (rg C) w (Lib.hid rfl) (Lib.hid rfl) (Lib.hid rfl) ha8 hb8 hc8 hpc hpc0 (Lib.hid (by decide)) (Lib.hid (by simp [effF])), fun w => rdo_2 A B C pc r (rg A) (rg B) (rg C) w (Lib.hid rfl) (Lib.hid rfl) (Lib.hid rfl) ha8 hb8 hc8 hpc hpc0, ⟨fun h => absurd rfl h, fun i hi => upd_keeps r _ i _ hi, fun h => by exfalso; simp at h, fun h => by exfalso; omega, fun _ => by omega, fun h => by exfalso; omega, fun h => by exfalso; omega, fun _ => .inl rfl⟩⟩
  by_cases h19 : op = 19
  · subst h19
    by_cases hz : r (rg A) = 0
    · exact ⟨B, r, 0, 0, 0, 0, 0, 0, fun w => sdo_zeroy 0 0 0 0 0 A B C pc r (rg A) (rg B) (rg C) w (Lib.hid rfl) (Lib.hid rfl) (Lib.hid rfl) ha8 hb8 hc8 hpc hpc0 (Lib.hid hz) (Lib.hid (by decide)) (Lib.hid (by simp [effF])), fun w => rdo_19y A B C pc r (rg A) (rg B) (rg C) w (Lib.hid rfl) (Lib.hid rfl) (Lib.hid rfl) ha8 hb8 hc8 hpc hpc0 hz, ⟨fun h => absurd rfl h, fun i hi => rfl, fun _ => rfl, fun h => by first | rfl | (exfalso; omega), fun _ => by omega, fun h => by first | (exfalso; omega) | (rw [if_pos hz]) | (rw [if_neg hz]), fun h => by first | rfl | (exfalso; omega), fun _ => .inr (.inr ⟨rfl, rfl, hz⟩)⟩⟩
    · exact ⟨pc + 1, r, 0, 0, 0, 0, 0, 0, fun w => sdo_zeron 0 0 0 0 0 A B C pc r (rg A) (rg B) (rg C) w (Lib.hid rfl) (Lib.hid rfl) (Lib.hid rfl) ha8 hb8 hc8 hpc hpc0 hz (Lib.hid (by decide)) (Lib.hid (by simp [effF])), fun w => rdo_19n A B C pc r (rg A) (rg B) (rg C) w (Lib.hid rfl) (Lib.hid rfl) (Lib.hid rfl) ha8 hb8 hc8 hpc hpc0 hz, ⟨fun h => absurd rfl h, fun i hi => rfl, fun _ => rfl, fun h => by first | rfl | (exfalso; omega), fun _ => by omega, fun h => by first | (exfalso; omega) | (rw [if_pos hz]) | (rw [if_neg hz]), fun h => by first | rfl | (exfalso; omega), fun _ => .inl rfl⟩⟩
  obtain ⟨n, f, hv⟩ : ∃ n f, doV op (r (rg B)) (r (rg C)) = (n, f) := ⟨_, _, rfl⟩
  by_cases hf : f = 0
  · subst hf
    by_cases h3 : op = 3
    · subst h3
      exact ⟨pc + 1, upd r (rg A) n, 0, 0, 0, 0, 0, 0, fun w => sdo_known 3 n 0 0 0 0 0 0 A B C pc r (rg A) (rg B) (rg C) w (Lib.hid rfl) (Lib.hid rfl) (Lib.hid rfl) ha8 hb8 hc8 hpc hpc0 (Lib.hid hv) rfl (Lib.hid (by decide)) (Lib.hid (by simp [effF])), fun w => rdo_3 n A B C pc r (rg A) (rg B) (rg C) w (Lib.hid rfl) (Lib.hid rfl) (Lib.hid rfl) ha8 hb8 hc8 hpc hpc0 hrb.1 hrb.2 hrc.1 hrc.2 (Lib.hid hv), ⟨fun h => absurd rfl h, fun i hi => upd_keeps r _ i _ hi, fun h => by exfalso; simp at h, fun h => by exfalso; omega, fun _ => by omega, fun h => by exfalso; omega, fun h => by exfalso; omega, fun _ => .inl rfl⟩⟩
    by_cases h4 : op = 4
    · subst h4
      exact ⟨pc + 1, upd r (rg A) n, 0, 0, 0, 0, 0, 0, fun w => sdo_known 4 n 0 0 0 0 0 0 A B C pc r (rg A) (rg B) (rg C) w (Lib.hid rfl) (Lib.hid rfl) (Lib.hid rfl) ha8 hb8 hc8 hpc hpc0 (Lib.hid hv) rfl (Lib.hid (by decide)) (Lib.hid (by simp [effF])), fun w => rdo_4 n A B C pc r (rg A) (rg B) (rg C) w (Lib.hid rfl) (Lib.hid rfl) (Lib.hid rfl) ha8 hb8 hc8 hpc hpc0 hrb.1 hrb.2 hrc.1 hrc.2 (Lib.hid hv), ⟨fun h => absurd rfl h, fun i hi => upd_keeps r _ i _ hi, fun h => by exfalso; simp at h, fun h => by exfalso; omega, fun _ => by omega, fun h => by exfalso; omega, fun h => by exfalso; omega, fun _ => .inl rfl⟩⟩
    by_cases h5 : op = 5
    · subst h5
      exact ⟨pc + 1, upd r (rg A) n, 0, 0, 0, 0, 0, 0, fun w => sdo_known 5 n 0 0 0 0 0 0 A B C pc r (rg A) (rg B) (rg C) w (Lib.hid rfl) (Lib.hid rfl) (Lib.hid rfl) ha8 hb8 hc8 hpc hpc0 (Lib.hid hv) rfl (Lib.hid (by decide)) (Lib.hid (by simp [effF])), fun w => rdo_5 n A B C pc r (rg A) (rg B) (rg C) w (Lib.hid rfl) (Lib.hid rfl) (Lib.hid rfl) ha8 hb8 hc8 hpc hpc0 hrb.1 hrb.2 hrc.1 hrc.2 (Lib.hid hv), ⟨fun h => absurd rfl h, fun i hi => upd_keeps r _ i _ hi, fun h => by exfalso; simp at h, fun h => by exfalso; omega, fun _ => by omega, fun h => by exfalso; omega, fun h => by exfalso; omega, fun _ => .inl rfl⟩⟩
    by_cases h6 : op = 6
    · subst h6
      exact ⟨pc + 1, upd r (rg A) n, 0, 0, 0, 0, 0, 0, fun w => sdo_known 6 n 0 0 0 0 0 0 A B C pc r (rg A) (rg B) (rg C) w (Lib.hid rfl) (Lib.hid rfl) (Lib.hid rfl) ha8 hb8 hc8 hpc hpc0 (Lib.hid hv) rfl (Lib.hid (by decide)) (Lib.hid (by simp [effF])), fun w => rdo_6 n A B C pc r (rg A) (rg B) (rg C) w (Lib.hid rfl) (Lib.hid rfl) (Lib.hid rfl) ha8 hb8 hc8 hpc hpc0 hrb.1 hrb.2 hrc.1 hrc.2 (Lib.hid hv), ⟨fun h => absurd rfl h, fun i hi => upd_keeps r _ i _ hi, fun h => by exfalso; simp at h, fun h => by exfalso; omega, fun _ => by omega, fun h => by exfalso; omega, fun h => by exfalso; omega, fun _ => .inl rfl⟩⟩
    by_cases h7 : op = 7
    · subst h7
      exact ⟨pc + 1, upd r (rg A) n, 0, 0, 0, 0, 0, 0, fun w => sdo_known 7 n 0 0 0 0 0 0 A B C pc r (rg A) (rg B) (rg C) w (Lib.hid rfl) (Lib.hid rfl) (Lib.hid rfl) ha8 hb8 hc8 hpc hpc0 (Lib.hid hv) rfl (Lib.hid (by decide)) (Lib.hid (by simp [effF])), fun w => rdo_7 n A B C pc r (rg A) (rg B) (rg C) w (Lib.hid rfl) (Lib.hid rfl) (Lib.hid rfl) ha8 hb8 hc8 hpc hpc0 hrb.1 hrb.2 hrc.1 hrc.2 (Lib.hid hv), ⟨fun h => absurd rfl h, fun i hi => upd_keeps r _ i _ hi, fun h => by exfalso; simp at h, fun h => by exfalso; omega, fun _ => by omega, fun h => by exfalso; omega, fun h => by exfalso; omega, fun _ => .inl rfl⟩⟩
    by_cases h8 : op = 8
    · subst h8
      exact ⟨pc + 1, upd r (rg A) n, 0, 0, 0, 0, 0, 0, fun w => sdo_known 8 n 0 0 0 0 0 0 A B C pc r (rg A) (rg B) (rg C) w (Lib.hid rfl) (Lib.hid rfl) (Lib.hid rfl) ha8 hb8 hc8 hpc hpc0 (Lib.hid hv) rfl (Lib.hid (by decide)) (Lib.hid (by simp [effF])), fun w => rdo_8 n A B C pc r (rg A) (rg B) (rg C) w (Lib.hid rfl) (Lib.hid rfl) (Lib.hid rfl) ha8 hb8 hc8 hpc hpc0 hrb.1 hrb.2 hrc.1 hrc.2 (Lib.hid hv), ⟨fun h => absurd rfl h, fun i hi => upd_keeps r _ i _ hi, fun h => by exfalso; simp at h, fun h => by exfalso; omega, fun _ => by omega, fun h => by exfalso; omega, fun h => by exfalso; omega, fun _ => .inl rfl⟩⟩
    by_cases h9 : op = 9
    · subst h9
      exact ⟨pc + 1, upd r (rg A) n, 0, 0, 0, 0, 0, 0, fun w => sdo_known 9 n 0 0 0 0 0 0 A B C pc r (rg A) (rg B) (rg C) w (Lib.hid rfl) (Lib.hid rfl) (Lib.hid rfl) ha8 hb8 hc8 hpc hpc0 (Lib.hid hv) rfl (Lib.hid (by decide)) (Lib.hid (by simp [effF])), fun w => rdo_9 n A B C pc r (rg A) (rg B) (rg C) w (Lib.hid rfl) (Lib.hid rfl) (Lib.hid rfl) ha8 hb8 hc8 hpc hpc0 hrb.1 hrb.2 hrc.1 hrc.2 (Lib.hid hv), ⟨fun h => absurd rfl h, fun i hi => upd_keeps r _ i _ hi, fun h => by exfalso; simp at h, fun h => by exfalso; omega, fun _ => by omega, fun h => by exfalso; omega, fun h => by exfalso; omega, fun _ => .inl rfl⟩⟩
    by_cases h10 : op = 10
    · subst h10
      exact ⟨pc + 1, upd r (rg A) n, 0, 0, 0, 0, 0, 0, fun w => sdo_known 10 n 0 0 0 0 0 0 A B C pc r (rg A) (rg B) (rg C) w (Lib.hid rfl) (Lib.hid rfl) (Lib.hid rfl) ha8 hb8 hc8 hpc hpc0 (Lib.hid hv) rfl (Lib.hid (by decide)) (Lib.hid (by simp [effF])), fun w => rdo_10 n A B C pc r (rg A) (rg B) (rg C) w (Lib.hid rfl) (Lib.hid rfl) (Lib.hid rfl) ha8 hb8 hc8 hpc hpc0 hrb.1 hrb.2 hrc.1 hrc.2 (Lib.hid hv), ⟨fun h => absurd rfl h, fun i hi => upd_keeps r _ i _ hi, fun h => by exfalso; simp at h, fun h => by exfalso; omega, fun _ => by omega, fun h => by exfalso; omega, fun h => by exfalso; omega, fun _ => .inl rfl⟩⟩
    by_cases h11 : op = 11
    · subst h11
      exact ⟨pc + 1, upd r (rg A) n, 0, 0, 0, 0, 0, 0, fun w => sdo_known 11 n 0 0 0 0 0 0 A B C pc r (rg A) (rg B) (rg C) w (Lib.hid rfl) (Lib.hid rfl) (Lib.hid rfl) ha8 hb8 hc8 hpc hpc0 (Lib.hid hv) rfl (Lib.hid (by decide)) (Lib.hid (by simp [effF])), fun w => rdo_11 n A B C pc r (rg A) (rg B) (rg C) w (Lib.hid rfl) (Lib.hid rfl) (Lib.hid rfl) ha8 hb8 hc8 hpc hpc0 hrb.1 hrb.2 hrc.1 hrc.2 (Lib.hid hv), ⟨fun h => absurd rfl h, fun i hi => upd_keeps r _ i _ hi, fun h => by exfalso; simp at h, fun h => by exfalso; omega, fun _ => by omega, fun h => by exfalso; omega, fun h => by exfalso; omega, fun _ => .inl rfl⟩⟩
    by_cases h12 : op = 12
    · subst h12
      exact ⟨pc + 1, upd r (rg A) n, 0, 0, 0, 0, 0, 0, fun w => sdo_known 12 n 0 0 0 0 0 0 A B C pc r (rg A) (rg B) (rg C) w (Lib.hid rfl) (Lib.hid rfl) (Lib.hid rfl) ha8 hb8 hc8 hpc hpc0 (Lib.hid hv) rfl (Lib.hid (by decide)) (Lib.hid (by simp [effF])), fun w => rdo_12 n A B C pc r (rg A) (rg B) (rg C) w (Lib.hid rfl) (Lib.hid rfl) (Lib.hid rfl) ha8 hb8 hc8 hpc hpc0 hrb.1 hrb.2 hrc.1 hrc.2 (Lib.hid hv), ⟨fun h => absurd rfl h, fun i hi => upd_keeps r _ i _ hi, fun h => by exfalso; simp at h, fun h => by exfalso; omega, fun _ => by omega, fun h => by exfalso; omega, fun h => by exfalso; omega, fun _ => .inl rfl⟩⟩
    have ho : op < 0 ∨ 25 < op := by omega
    have hk : (decide (3 ≤ op) && decide (op ≤ 12)) = false := by simp; omega
    exact ⟨pc + 1, r, 0, 0, 0, 0, 0, 0, fun w => sdo_other op 0 0 0 0 0 A B C pc r (rg A) (rg B) (rg C) w (Lib.hid rfl) (Lib.hid rfl) (Lib.hid rfl) ha8 hb8 hc8 hpc hpc0 (by omega) (by omega) (by omega) (by omega) (Lib.hid hk) (Lib.hid (by unfold effF; rw [if_neg (by omega), if_neg (by omega), if_neg (by omega), if_neg (by omega), if_neg (by omega), if_neg (by omega), if_neg (by omega), if_neg (by omega), if_neg (by omega), if_neg (by omega), if_neg (by omega), if_neg (by omega)])), fun w => rdo_other op A B C pc r (rg A) (rg B) (rg C) w (Lib.hid rfl) (Lib.hid rfl) (Lib.hid rfl) ha8 hb8 hc8 hpc hpc0 ho, ⟨fun h => absurd rfl h, fun i hi => rfl, fun _ => rfl, fun h => by first | rfl | (exfalso; omega), fun _ => by omega, fun h => by first | (exfalso; omega) | (rw [if_pos hz]) | (rw [if_neg hz]), fun h => by first | rfl | (exfalso; omega), fun _ => .inl rfl⟩⟩
  · have hf2 : (f == 0) = false := by simpa using hf
    rcases doV_f op _ _ n f hv hf with rfl | rfl
    · exact ⟨pc, r, 0, 0, 0, 0, 0, f, fun w => sdo_fault 6 n f A B C pc r (rg A) (rg B) (rg C) w (Lib.hid rfl) (Lib.hid rfl) (Lib.hid rfl) ha8 hb8 hc8 hpc hpc0 (Lib.hid hv) hf2 (Lib.hid (by decide)), fun w => rdo_6f n f A B C pc r (rg A) (rg B) (rg C) w (Lib.hid rfl) (Lib.hid rfl) (Lib.hid rfl) ha8 hb8 hc8 hpc hpc0 hrb.1 hrb.2 hrc.1 hrc.2 (Lib.hid hv) hf2, ⟨fun _ => ⟨rfl, rfl, rfl, rfl, rfl, rfl, rfl⟩, fun i hi => rfl, fun _ => rfl, fun h => by exfalso; omega, fun h => absurd h hf, fun h => by exfalso; omega, fun h => by exfalso; omega, fun h => absurd h hf⟩⟩
    · exact ⟨pc, r, 0, 0, 0, 0, 0, f, fun w => sdo_fault 7 n f A B C pc r (rg A) (rg B) (rg C) w (Lib.hid rfl) (Lib.hid rfl) (Lib.hid rfl) ha8 hb8 hc8 hpc hpc0 (Lib.hid hv) hf2 (Lib.hid (by decide)), fun w => rdo_7f n f A B C pc r (rg A) (rg B) (rg C) w (Lib.hid rfl) (Lib.hid rfl) (Lib.hid rfl) ha8 hb8 hc8 hpc hpc0 hrb.1 hrb.2 hrc.1 hrc.2 (Lib.hid hv) hf2, ⟨fun _ => ⟨rfl, rfl, rfl, rfl, rfl, rfl, rfl⟩, fun i hi => rfl, fun _ => rfl, fun h => by exfalso; omega, fun h => absurd h hf, fun h => by exfalso; omega, fun h => by exfalso; omega, fun h => absurd h hf⟩⟩
end Go.Proofs.Ytpcpohbbmeonbaa.step
