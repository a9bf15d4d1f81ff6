/- The contracts of layer 8 (step) and of its reference. -/
import Derived.Test.YtpcpohbbmeonbaaKit
import Derived.Deep.RegionHeld3
import Derived.Deep.DrawnRows
import Derived.Handy
namespace Go.Proofs.Ytpcpohbbmeonbaa.step
open Go.ChangeShapes Go.WideShapes Go.ChangeAt Go.RowKit
set_option linter.unusedVariables false
set_option linter.unusedSimpArgs false

/-- which register a number names -/
def rg (n : Int) : Nat := if n < 0 then 0 else if 7 < n then 7 else n.toNat
theorem rg_cases (n : Int) : rg n = 0 ∨ rg n = 1 ∨ rg n = 2 ∨ rg n = 3 ∨ rg n = 4 ∨ rg n = 5 ∨ rg n = 6 ∨ rg n = 7 := by unfold rg; split <;> (try split) <;> omega
theorem register_v (n : Int) (j : Nat) (w : World) (hh : Hid (rg n = j)) : Calls Try.prog 48 #[.int .i64 n] w fun e w' => e = .returned (.int .i64 j) ∧ w = w' := by
  have hh := hh.out
  unfold rg at hh
  by_cases h1 : n < 0
  · rw [if_pos h1] at hh
    subst hh
    go_enter Try.func48, Try.ntmps48
    go_wp2
    go_ret
    exact ⟨rfl, rfl⟩
  · by_cases h2 : 7 < n
    · rw [if_neg h1, if_pos h2] at hh
      subst hh
      go_enter Try.func48, Try.ntmps48
      go_wp2
      go_ret
      exact ⟨rfl, rfl⟩
    · rw [if_neg h1, if_neg h2] at hh
      have e : ((j : Nat) : Int) = n := by omega
      rw [e]
      clear hh e
      go_enter Try.func48, Try.ntmps48
      go_wp2
      all_goals (go_ret; exact ⟨rfl, rfl⟩)
theorem held_v (n : Int) (j : Nat) (w : World) (hh : Hid (rg n = j)) : Calls Try.prog 52 #[.int .i64 n] w fun e w' => e = .returned (.int .i64 j) ∧ w = w' := by
  have hh := hh.out
  unfold rg at hh
  by_cases h1 : n < 0
  · rw [if_pos h1] at hh
    subst hh
    go_enter Try.func52, Try.ntmps52
    go_wp2
    go_ret
    exact ⟨rfl, rfl⟩
  · by_cases h2 : 7 < n
    · rw [if_neg h1, if_pos h2] at hh
      subst hh
      go_enter Try.func52, Try.ntmps52
      go_wp2
      go_ret
      exact ⟨rfl, rfl⟩
    · rw [if_neg h1, if_neg h2] at hh
      have e : ((j : Nat) : Int) = n := by omega
      rw [e]
      clear hh e
      go_enter Try.func52, Try.ntmps52
      go_wp2
      all_goals (go_ret; exact ⟨rfl, rfl⟩)
def tookF (r : List Int) (kind val got : Int) (j : Nat) : List Int :=
  if kind = 1 ∨ kind = 3 then r.set j got else if kind = 4 then r.set j (if got = val then 1 else 0) else r
theorem tookF_len (r : List Int) (kind val got : Int) (j : Nat) : (tookF r kind val got j).length = r.length := by
  unfold tookF; split <;> (try split) <;> simp
theorem eight {l : List Int} (h : l.length = 8) : ∃ s0 s1 s2 s3 s4 s5 s6 s7, l = [s0, s1, s2, s3, s4, s5, s6, s7] := by
  match l, h with
  | [s0, s1, s2, s3, s4, s5, s6, s7], _ => exact ⟨s0, s1, s2, s3, s4, s5, s6, s7, rfl⟩
theorem asks_v (kind a v o r : Int) (w : World) : Calls Try.prog 33 #[.agg #[.int .i64 kind, .int .i64 a, .int .i64 v, .int .i64 o, .int .i64 r]] w fun e w' => e = .returned (.bool (decide (1 ≤ kind) && decide (kind ≤ 4))) ∧ Below w.heap.size w w' := by
  rcases show kind = 1 ∨ kind = 2 ∨ kind = 3 ∨ kind = 4 ∨ (kind < 1 ∨ 4 < kind) by omega with rfl | rfl | rfl | rfl | h
  iterate 4
    · go_enter Try.func33, Try.ntmps33
      go_wp2
      go_ret
      exact ⟨rfl, (Below.refl _ _).alloc (Nat.le_refl _) _⟩
  · have e : (decide (1 ≤ kind) && decide (kind ≤ 4)) = false := by simp; omega
    rw [e]
    have h1 : (kind == 1) = false := by simp; omega
    have h2 : (kind == 2) = false := by simp; omega
    have h3 : (kind == 3) = false := by simp; omega
    have h4 : (kind == 4) = false := by simp; omega
    clear e h
    go_enter Try.func33, Try.ntmps33
    go_wp2
    go_ret
    exact ⟨rfl, (Below.refl _ _).alloc (Nat.le_refl _) _⟩
theorem ends_v (kind a v o r : Int) (w : World) : Calls Try.prog 34 #[.agg #[.int .i64 kind, .int .i64 a, .int .i64 v, .int .i64 o, .int .i64 r]] w fun e w' => e = .returned (.bool (decide (7 ≤ kind) && decide (kind ≤ 12))) ∧ Below w.heap.size w w' := by
  rcases show kind = 7 ∨ kind = 8 ∨ kind = 9 ∨ kind = 10 ∨ kind = 11 ∨ kind = 12 ∨ (kind < 7 ∨ 12 < kind) by omega with rfl | rfl | rfl | rfl | rfl | rfl | h
  iterate 6
    · go_enter Try.func34, Try.ntmps34
      go_wp2
      go_ret
      exact ⟨rfl, (Below.refl _ _).alloc (Nat.le_refl _) _⟩
  · have e : (decide (7 ≤ kind) && decide (kind ≤ 12)) = false := by simp; omega
    rw [e]
    have h1 : (kind == 7) = false := by simp; omega
    have h2 : (kind == 8) = false := by simp; omega
    have h3 : (kind == 9) = false := by simp; omega
    have h4 : (kind == 10) = false := by simp; omega
    have h5 : (kind == 11) = false := by simp; omega
    have h6 : (kind == 12) = false := by simp; omega
    clear e h
    go_enter Try.func34, Try.ntmps34
    go_wp2
    go_ret
    exact ⟨rfl, (Below.refl _ _).alloc (Nat.le_refl _) _⟩
theorem took_put1_0 (r0 r1 r2 r3 r4 r5 r6 r7 val at_ oth reg got : Int) (w : World) (hj : Hid (rg reg = 0)) : Calls Try.prog 32 #[.agg #[.int .i64 r0, .int .i64 r1, .int .i64 r2, .int .i64 r3, .int .i64 r4, .int .i64 r5, .int .i64 r6, .int .i64 r7], .agg #[.int .i64 1, .int .i64 at_, .int .i64 val, .int .i64 oth, .int .i64 reg], .int .i64 got] w fun e w' => e = .returned (.agg #[.int .i64 got, .int .i64 r1, .int .i64 r2, .int .i64 r3, .int .i64 r4, .int .i64 r5, .int .i64 r6, .int .i64 r7]) ∧ Below w.heap.size w w' := by
  go_enter Try.func32, Try.ntmps32
  go_wp2_with (go_at_call 48; refine (register_v reg 0 _ hj).mono ?_; rintro e w' ⟨rfl, rfl⟩)
  exact bodyPost_ret (v := .agg #[.int .i64 got, .int .i64 r1, .int .i64 r2, .int .i64 r3, .int .i64 r4, .int .i64 r5, .int .i64 r6, .int .i64 r7]) (by simp [results, Try.results32, go_sem]) rfl ⟨rfl, by go_grown⟩
theorem took_put1_1 (r0 r1 r2 r3 r4 r5 r6 r7 val at_ oth reg got : Int) (w : World) (hj : Hid (rg reg = 1)) : Calls Try.prog 32 #[.agg #[.int .i64 r0, .int .i64 r1, .int .i64 r2, .int .i64 r3, .int .i64 r4, .int .i64 r5, .int .i64 r6, .int .i64 r7], .agg #[.int .i64 1, .int .i64 at_, .int .i64 val, .int .i64 oth, .int .i64 reg], .int .i64 got] w fun e w' => e = .returned (.agg #[.int .i64 r0, .int .i64 got, .int .i64 r2, .int .i64 r3, .int .i64 r4, .int .i64 r5, .int .i64 r6, .int .i64 r7]) ∧ Below w.heap.size w w' := by
  go_enter Try.func32, Try.ntmps32
  go_wp2_with (go_at_call 48; refine (register_v reg 1 _ hj).mono ?_; rintro e w' ⟨rfl, rfl⟩)
  exact bodyPost_ret (v := .agg #[.int .i64 r0, .int .i64 got, .int .i64 r2, .int .i64 r3, .int .i64 r4, .int .i64 r5, .int .i64 r6, .int .i64 r7]) (by simp [results, Try.results32, go_sem]) rfl ⟨rfl, by go_grown⟩
theorem took_put1_2 (r0 r1 r2 r3 r4 r5 r6 r7 val at_ oth reg got : Int) (w : World) (hj : Hid (rg reg = 2)) : Calls Try.prog 32 #[.agg #[.int .i64 r0, .int .i64 r1, .int .i64 r2, .int .i64 r3, .int .i64 r4, .int .i64 r5, .int .i64 r6, .int .i64 r7], .agg #[.int .i64 1, .int .i64 at_, .int .i64 val, .int .i64 oth, .int .i64 reg], .int .i64 got] w fun e w' => e = .returned (.agg #[.int .i64 r0, .int .i64 r1, .int .i64 got, .int .i64 r3, .int .i64 r4, .int .i64 r5, .int .i64 r6, .int .i64 r7]) ∧ Below w.heap.size w w' := by
  go_enter Try.func32, Try.ntmps32
  go_wp2_with (go_at_call 48; refine (register_v reg 2 _ hj).mono ?_; rintro e w' ⟨rfl, rfl⟩)
  exact bodyPost_ret (v := .agg #[.int .i64 r0, .int .i64 r1, .int .i64 got, .int .i64 r3, .int .i64 r4, .int .i64 r5, .int .i64 r6, .int .i64 r7]) (by simp [results, Try.results32, go_sem]) rfl ⟨rfl, by go_grown⟩
theorem took_put1_3 (r0 r1 r2 r3 r4 r5 r6 r7 val at_ oth reg got : Int) (w : World) (hj : Hid (rg reg = 3)) : Calls Try.prog 32 #[.agg #[.int .i64 r0, .int .i64 r1, .int .i64 r2, .int .i64 r3, .int .i64 r4, .int .i64 r5, .int .i64 r6, .int .i64 r7], .agg #[.int .i64 1, .int .i64 at_, .int .i64 val, .int .i64 oth, .int .i64 reg], .int .i64 got] w fun e w' => e = .returned (.agg #[.int .i64 r0, .int .i64 r1, .int .i64 r2, .int .i64 got, .int .i64 r4, .int .i64 r5, .int .i64 r6, .int .i64 r7]) ∧ Below w.heap.size w w' := by
  go_enter Try.func32, Try.ntmps32
  go_wp2_with (go_at_call 48; refine (register_v reg 3 _ hj).mono ?_; rintro e w' ⟨rfl, rfl⟩)
  exact bodyPost_ret (v := .agg #[.int .i64 r0, .int .i64 r1, .int .i64 r2, .int .i64 got, .int .i64 r4, .int .i64 r5, .int .i64 r6, .int .i64 r7]) (by simp [results, Try.results32, go_sem]) rfl ⟨rfl, by go_grown⟩
theorem took_put1_4 (r0 r1 r2 r3 r4 r5 r6 r7 val at_ oth reg got : Int) (w : World) (hj : Hid (rg reg = 4)) : Calls Try.prog 32 #[.agg #[.int .i64 r0, .int .i64 r1, .int .i64 r2, .int .i64 r3, .int .i64 r4, .int .i64 r5, .int .i64 r6, .int .i64 r7], .agg #[.int .i64 1, .int .i64 at_, .int .i64 val, .int .i64 oth, .int .i64 reg], .int .i64 got] w fun e w' => e = .returned (.agg #[.int .i64 r0, .int .i64 r1, .int .i64 r2, .int .i64 r3, .int .i64 got, .int .i64 r5, .int .i64 r6, .int .i64 r7]) ∧ Below w.heap.size w w' := by
  go_enter Try.func32, Try.ntmps32
  go_wp2_with (go_at_call 48; refine (register_v reg 4 _ hj).mono ?_; rintro e w' ⟨rfl, rfl⟩)
  exact bodyPost_ret (v := .agg #[.int .i64 r0, .int .i64 r1, .int .i64 r2, .int .i64 r3, .int .i64 got, .int .i64 r5, .int .i64 r6, .int .i64 r7]) (by simp [results, Try.results32, go_sem]) rfl ⟨rfl, by go_grown⟩
theorem took_put1_5 (r0 r1 r2 r3 r4 r5 r6 r7 val at_ oth reg got : Int) (w : World) (hj : Hid (rg reg = 5)) : Calls Try.prog 32 #[.agg #[.int .i64 r0, .int .i64 r1, .int .i64 r2, .int .i64 r3, .int .i64 r4, .int .i64 r5, .int .i64 r6, .int .i64 r7], .agg #[.int .i64 1, .int .i64 at_, .int .i64 val, .int .i64 oth, .int .i64 reg], .int .i64 got] w fun e w' => e = .returned (.agg #[.int .i64 r0, .int .i64 r1, .int .i64 r2, .int .i64 r3, .int .i64 r4, .int .i64 got, .int .i64 r6, .int .i64 r7]) ∧ Below w.heap.size w w' := by
  go_enter Try.func32, Try.ntmps32
  go_wp2_with (go_at_call 48; refine (register_v reg 5 _ hj).mono ?_; rintro e w' ⟨rfl, rfl⟩)
  exact bodyPost_ret (v := .agg #[.int .i64 r0, .int .i64 r1, .int .i64 r2, .int .i64 r3, .int .i64 r4, .int .i64 got, .int .i64 r6, .int .i64 r7]) (by simp [results, Try.results32, go_sem]) rfl ⟨rfl, by go_grown⟩
theorem took_put1_6 (r0 r1 r2 r3 r4 r5 r6 r7 val at_ oth reg got : Int) (w : World) (hj : Hid (rg reg = 6)) : Calls Try.prog 32 #[.agg #[.int .i64 r0, .int .i64 r1, .int .i64 r2, .int .i64 r3, .int .i64 r4, .int .i64 r5, .int .i64 r6, .int .i64 r7], .agg #[.int .i64 1, .int .i64 at_, .int .i64 val, .int .i64 oth, .int .i64 reg], .int .i64 got] w fun e w' => e = .returned (.agg #[.int .i64 r0, .int .i64 r1, .int .i64 r2, .int .i64 r3, .int .i64 r4, .int .i64 r5, .int .i64 got, .int .i64 r7]) ∧ Below w.heap.size w w' := by
  go_enter Try.func32, Try.ntmps32
  go_wp2_with (go_at_call 48; refine (register_v reg 6 _ hj).mono ?_; rintro e w' ⟨rfl, rfl⟩)
  exact bodyPost_ret (v := .agg #[.int .i64 r0, .int .i64 r1, .int .i64 r2, .int .i64 r3, .int .i64 r4, .int .i64 r5, .int .i64 got, .int .i64 r7]) (by simp [results, Try.results32, go_sem]) rfl ⟨rfl, by go_grown⟩
theorem took_put1_7 (r0 r1 r2 r3 r4 r5 r6 r7 val at_ oth reg got : Int) (w : World) (hj : Hid (rg reg = 7)) : Calls Try.prog 32 #[.agg #[.int .i64 r0, .int .i64 r1, .int .i64 r2, .int .i64 r3, .int .i64 r4, .int .i64 r5, .int .i64 r6, .int .i64 r7], .agg #[.int .i64 1, .int .i64 at_, .int .i64 val, .int .i64 oth, .int .i64 reg], .int .i64 got] w fun e w' => e = .returned (.agg #[.int .i64 r0, .int .i64 r1, .int .i64 r2, .int .i64 r3, .int .i64 r4, .int .i64 r5, .int .i64 r6, .int .i64 got]) ∧ Below w.heap.size w w' := by
  go_enter Try.func32, Try.ntmps32
  go_wp2_with (go_at_call 48; refine (register_v reg 7 _ hj).mono ?_; rintro e w' ⟨rfl, rfl⟩)
  exact bodyPost_ret (v := .agg #[.int .i64 r0, .int .i64 r1, .int .i64 r2, .int .i64 r3, .int .i64 r4, .int .i64 r5, .int .i64 r6, .int .i64 got]) (by simp [results, Try.results32, go_sem]) rfl ⟨rfl, by go_grown⟩
theorem took_put3_0 (r0 r1 r2 r3 r4 r5 r6 r7 val at_ oth reg got : Int) (w : World) (hj : Hid (rg reg = 0)) : Calls Try.prog 32 #[.agg #[.int .i64 r0, .int .i64 r1, .int .i64 r2, .int .i64 r3, .int .i64 r4, .int .i64 r5, .int .i64 r6, .int .i64 r7], .agg #[.int .i64 3, .int .i64 at_, .int .i64 val, .int .i64 oth, .int .i64 reg], .int .i64 got] w fun e w' => e = .returned (.agg #[.int .i64 got, .int .i64 r1, .int .i64 r2, .int .i64 r3, .int .i64 r4, .int .i64 r5, .int .i64 r6, .int .i64 r7]) ∧ Below w.heap.size w w' := by
  go_enter Try.func32, Try.ntmps32
  go_wp2_with (go_at_call 48; refine (register_v reg 0 _ hj).mono ?_; rintro e w' ⟨rfl, rfl⟩)
  exact bodyPost_ret (v := .agg #[.int .i64 got, .int .i64 r1, .int .i64 r2, .int .i64 r3, .int .i64 r4, .int .i64 r5, .int .i64 r6, .int .i64 r7]) (by simp [results, Try.results32, go_sem]) rfl ⟨rfl, by go_grown⟩
theorem took_put3_1 (r0 r1 r2 r3 r4 r5 r6 r7 val at_ oth reg got : Int) (w : World) (hj : Hid (rg reg = 1)) : Calls Try.prog 32 #[.agg #[.int .i64 r0, .int .i64 r1, .int .i64 r2, .int .i64 r3, .int .i64 r4, .int .i64 r5, .int .i64 r6, .int .i64 r7], .agg #[.int .i64 3, .int .i64 at_, .int .i64 val, .int .i64 oth, .int .i64 reg], .int .i64 got] w fun e w' => e = .returned (.agg #[.int .i64 r0, .int .i64 got, .int .i64 r2, .int .i64 r3, .int .i64 r4, .int .i64 r5, .int .i64 r6, .int .i64 r7]) ∧ Below w.heap.size w w' := by
  go_enter Try.func32, Try.ntmps32
  go_wp2_with (go_at_call 48; refine (register_v reg 1 _ hj).mono ?_; rintro e w' ⟨rfl, rfl⟩)
  exact bodyPost_ret (v := .agg #[.int .i64 r0, .int .i64 got, .int .i64 r2, .int .i64 r3, .int .i64 r4, .int .i64 r5, .int .i64 r6, .int .i64 r7]) (by simp [results, Try.results32, go_sem]) rfl ⟨rfl, by go_grown⟩
theorem took_put3_2 (r0 r1 r2 r3 r4 r5 r6 r7 val at_ oth reg got : Int) (w : World) (hj : Hid (rg reg = 2)) : Calls Try.prog 32 #[.agg #[.int .i64 r0, .int .i64 r1, .int .i64 r2, .int .i64 r3, .int .i64 r4, .int .i64 r5, .int .i64 r6, .int .i64 r7], .agg #[.int .i64 3, .int .i64 at_, .int .i64 val, .int .i64 oth, .int .i64 reg], .int .i64 got] w fun e w' => e = .returned (.agg #[.int .i64 r0, .int .i64 r1, .int .i64 got, .int .i64 r3, .int .i64 r4, .int .i64 r5, .int .i64 r6, .int .i64 r7]) ∧ Below w.heap.size w w' := by
  go_enter Try.func32, Try.ntmps32
  go_wp2_with (go_at_call 48; refine (register_v reg 2 _ hj).mono ?_; rintro e w' ⟨rfl, rfl⟩)
  exact bodyPost_ret (v := .agg #[.int .i64 r0, .int .i64 r1, .int .i64 got, .int .i64 r3, .int .i64 r4, .int .i64 r5, .int .i64 r6, .int .i64 r7]) (by simp [results, Try.results32, go_sem]) rfl ⟨rfl, by go_grown⟩
theorem took_put3_3 (r0 r1 r2 r3 r4 r5 r6 r7 val at_ oth reg got : Int) (w : World) (hj : Hid (rg reg = 3)) : Calls Try.prog 32 #[.agg #[.int .i64 r0, .int .i64 r1, .int .i64 r2, .int .i64 r3, .int .i64 r4, .int .i64 r5, .int .i64 r6, .int .i64 r7], .agg #[.int .i64 3, .int .i64 at_, .int .i64 val, .int .i64 oth, .int .i64 reg], .int .i64 got] w fun e w' => e = .returned (.agg #[.int .i64 r0, .int .i64 r1, .int .i64 r2, .int .i64 got, .int .i64 r4, .int .i64 r5, .int .i64 r6, .int .i64 r7]) ∧ Below w.heap.size w w' := by
  go_enter Try.func32, Try.ntmps32
  go_wp2_with (go_at_call 48; refine (register_v reg 3 _ hj).mono ?_; rintro e w' ⟨rfl, rfl⟩)
  exact bodyPost_ret (v := .agg #[.int .i64 r0, .int .i64 r1, .int .i64 r2, .int .i64 got, .int .i64 r4, .int .i64 r5, .int .i64 r6, .int .i64 r7]) (by simp [results, Try.results32, go_sem]) rfl ⟨rfl, by go_grown⟩
theorem took_put3_4 (r0 r1 r2 r3 r4 r5 r6 r7 val at_ oth reg got : Int) (w : World) (hj : Hid (rg reg = 4)) : Calls Try.prog 32 #[.agg #[.int .i64 r0, .int .i64 r1, .int .i64 r2, .int .i64 r3, .int .i64 r4, .int .i64 r5, .int .i64 r6, .int .i64 r7], .agg #[.int .i64 3, .int .i64 at_, .int .i64 val, .int .i64 oth, .int .i64 reg], .int .i64 got] w fun e w' => e = .returned (.agg #[.int .i64 r0, .int .i64 r1, .int .i64 r2, .int .i64 r3, .int .i64 got, .int .i64 r5, .int .i64 r6, .int .i64 r7]) ∧ Below w.heap.size w w' := by
  go_enter Try.func32, Try.ntmps32
  go_wp2_with (go_at_call 48; refine (register_v reg 4 _ hj).mono ?_; rintro e w' ⟨rfl, rfl⟩)
  exact bodyPost_ret (v := .agg #[.int .i64 r0, .int .i64 r1, .int .i64 r2, .int .i64 r3, .int .i64 got, .int .i64 r5, .int .i64 r6, .int .i64 r7]) (by simp [results, Try.results32, go_sem]) rfl ⟨rfl, by go_grown⟩
theorem took_put3_5 (r0 r1 r2 r3 r4 r5 r6 r7 val at_ oth reg got : Int) (w : World) (hj : Hid (rg reg = 5)) : Calls Try.prog 32 #[.agg #[.int .i64 r0, .int .i64 r1, .int .i64 r2, .int .i64 r3, .int .i64 r4, .int .i64 r5, .int .i64 r6, .int .i64 r7], .agg #[.int .i64 3, .int .i64 at_, .int .i64 val, .int .i64 oth, .int .i64 reg], .int .i64 got] w fun e w' => e = .returned (.agg #[.int .i64 r0, .int .i64 r1, .int .i64 r2, .int .i64 r3, .int .i64 r4, .int .i64 got, .int .i64 r6, .int .i64 r7]) ∧ Below w.heap.size w w' := by
  go_enter Try.func32, Try.ntmps32
  go_wp2_with (go_at_call 48; refine (register_v reg 5 _ hj).mono ?_; rintro e w' ⟨rfl, rfl⟩)
  exact bodyPost_ret (v := .agg #[.int .i64 r0, .int .i64 r1, .int .i64 r2, .int .i64 r3, .int .i64 r4, .int .i64 got, .int .i64 r6, .int .i64 r7]) (by simp [results, Try.results32, go_sem]) rfl ⟨rfl, by go_grown⟩
theorem took_put3_6 (r0 r1 r2 r3 r4 r5 r6 r7 val at_ oth reg got : Int) (w : World) (hj : Hid (rg reg = 6)) : Calls Try.prog 32 #[.agg #[.int .i64 r0, .int .i64 r1, .int .i64 r2, .int .i64 r3, .int .i64 r4, .int .i64 r5, .int .i64 r6, .int .i64 r7], .agg #[.int .i64 3, .int .i64 at_, .int .i64 val, .int .i64 oth, .int .i64 reg], .int .i64 got] w fun e w' => e = .returned (.agg #[.int .i64 r0, .int .i64 r1, .int .i64 r2, .int .i64 r3, .int .i64 r4, .int .i64 r5, .int .i64 got, .int .i64 r7]) ∧ Below w.heap.size w w' := by
  go_enter Try.func32, Try.ntmps32
  go_wp2_with (go_at_call 48; refine (register_v reg 6 _ hj).mono ?_; rintro e w' ⟨rfl, rfl⟩)
  exact bodyPost_ret (v := .agg #[.int .i64 r0, .int .i64 r1, .int .i64 r2, .int .i64 r3, .int .i64 r4, .int .i64 r5, .int .i64 got, .int .i64 r7]) (by simp [results, Try.results32, go_sem]) rfl ⟨rfl, by go_grown⟩
theorem took_put3_7 (r0 r1 r2 r3 r4 r5 r6 r7 val at_ oth reg got : Int) (w : World) (hj : Hid (rg reg = 7)) : Calls Try.prog 32 #[.agg #[.int .i64 r0, .int .i64 r1, .int .i64 r2, .int .i64 r3, .int .i64 r4, .int .i64 r5, .int .i64 r6, .int .i64 r7], .agg #[.int .i64 3, .int .i64 at_, .int .i64 val, .int .i64 oth, .int .i64 reg], .int .i64 got] w fun e w' => e = .returned (.agg #[.int .i64 r0, .int .i64 r1, .int .i64 r2, .int .i64 r3, .int .i64 r4, .int .i64 r5, .int .i64 r6, .int .i64 got]) ∧ Below w.heap.size w w' := by
  go_enter Try.func32, Try.ntmps32
  go_wp2_with (go_at_call 48; refine (register_v reg 7 _ hj).mono ?_; rintro e w' ⟨rfl, rfl⟩)
  exact bodyPost_ret (v := .agg #[.int .i64 r0, .int .i64 r1, .int .i64 r2, .int .i64 r3, .int .i64 r4, .int .i64 r5, .int .i64 r6, .int .i64 got]) (by simp [results, Try.results32, go_sem]) rfl ⟨rfl, by go_grown⟩
theorem took_yes_0 (r0 r1 r2 r3 r4 r5 r6 r7 at_ oth reg got : Int) (w : World) (hj : Hid (rg reg = 0)) : Calls Try.prog 32 #[.agg #[.int .i64 r0, .int .i64 r1, .int .i64 r2, .int .i64 r3, .int .i64 r4, .int .i64 r5, .int .i64 r6, .int .i64 r7], .agg #[.int .i64 4, .int .i64 at_, .int .i64 got, .int .i64 oth, .int .i64 reg], .int .i64 got] w fun e w' => e = .returned (.agg #[.int .i64 1, .int .i64 r1, .int .i64 r2, .int .i64 r3, .int .i64 r4, .int .i64 r5, .int .i64 r6, .int .i64 r7]) ∧ Below w.heap.size w w' := by
  go_enter Try.func32, Try.ntmps32
  go_wp2_with (go_at_call 48; refine (register_v reg 0 _ hj).mono ?_; rintro e w' ⟨rfl, rfl⟩)
  exact bodyPost_ret (v := .agg #[.int .i64 1, .int .i64 r1, .int .i64 r2, .int .i64 r3, .int .i64 r4, .int .i64 r5, .int .i64 r6, .int .i64 r7]) (by simp [results, Try.results32, go_sem]) rfl ⟨rfl, by go_grown⟩
theorem took_yes_1 (r0 r1 r2 r3 r4 r5 r6 r7 at_ oth reg got : Int) (w : World) (hj : Hid (rg reg = 1)) : Calls Try.prog 32 #[.agg #[.int .i64 r0, .int .i64 r1, .int .i64 r2, .int .i64 r3, .int .i64 r4, .int .i64 r5, .int .i64 r6, .int .i64 r7], .agg #[.int .i64 4, .int .i64 at_, .int .i64 got, .int .i64 oth, .int .i64 reg], .int .i64 got] w fun e w' => e = .returned (.agg #[.int .i64 r0, .int .i64 1, .int .i64 r2, .int .i64 r3, .int .i64 r4, .int .i64 r5, .int .i64 r6, .int .i64 r7]) ∧ Below w.heap.size w w' := by
  go_enter Try.func32, Try.ntmps32
  go_wp2_with (go_at_call 48; refine (register_v reg 1 _ hj).mono ?_; rintro e w' ⟨rfl, rfl⟩)
  exact bodyPost_ret (v := .agg #[.int .i64 r0, .int .i64 1, .int .i64 r2, .int .i64 r3, .int .i64 r4, .int .i64 r5, .int .i64 r6, .int .i64 r7]) (by simp [results, Try.results32, go_sem]) rfl ⟨rfl, by go_grown⟩
theorem took_yes_2 (r0 r1 r2 r3 r4 r5 r6 r7 at_ oth reg got : Int) (w : World) (hj : Hid (rg reg = 2)) : Calls Try.prog 32 #[.agg #[.int .i64 r0, .int .i64 r1, .int .i64 r2, .int .i64 r3, .int .i64 r4, .int .i64 r5, .int .i64 r6, .int .i64 r7], .agg #[.int .i64 4, .int .i64 at_, .int .i64 got, .int .i64 oth, .int .i64 reg], .int .i64 got] w fun e w' => e = .returned (.agg #[.int .i64 r0, .int .i64 r1, .int .i64 1, .int .i64 r3, .int .i64 r4, .int .i64 r5, .int .i64 r6, .int .i64 r7]) ∧ Below w.heap.size w w' := by
  go_enter Try.func32, Try.ntmps32
  go_wp2_with (go_at_call 48; refine (register_v reg 2 _ hj).mono ?_; rintro e w' ⟨rfl, rfl⟩)
  exact bodyPost_ret (v := .agg #[.int .i64 r0, .int .i64 r1, .int .i64 1, .int .i64 r3, .int .i64 r4, .int .i64 r5, .int .i64 r6, .int .i64 r7]) (by simp [results, Try.results32, go_sem]) rfl ⟨rfl, by go_grown⟩
theorem took_yes_3 (r0 r1 r2 r3 r4 r5 r6 r7 at_ oth reg got : Int) (w : World) (hj : Hid (rg reg = 3)) : Calls Try.prog 32 #[.agg #[.int .i64 r0, .int .i64 r1, .int .i64 r2, .int .i64 r3, .int .i64 r4, .int .i64 r5, .int .i64 r6, .int .i64 r7], .agg #[.int .i64 4, .int .i64 at_, .int .i64 got, .int .i64 oth, .int .i64 reg], .int .i64 got] w fun e w' => e = .returned (.agg #[.int .i64 r0, .int .i64 r1, .int .i64 r2, .int .i64 1, .int .i64 r4, .int .i64 r5, .int .i64 r6, .int .i64 r7]) ∧ Below w.heap.size w w' := by
  go_enter Try.func32, Try.ntmps32
  go_wp2_with (go_at_call 48; refine (register_v reg 3 _ hj).mono ?_; rintro e w' ⟨rfl, rfl⟩)
  exact bodyPost_ret (v := .agg #[.int .i64 r0, .int .i64 r1, .int .i64 r2, .int .i64 1, .int .i64 r4, .int .i64 r5, .int .i64 r6, .int .i64 r7]) (by simp [results, Try.results32, go_sem]) rfl ⟨rfl, by go_grown⟩
theorem took_yes_4 (r0 r1 r2 r3 r4 r5 r6 r7 at_ oth reg got : Int) (w : World) (hj : Hid (rg reg = 4)) : Calls Try.prog 32 #[.agg #[.int .i64 r0, .int .i64 r1, .int .i64 r2, .int .i64 r3, .int .i64 r4, .int .i64 r5, .int .i64 r6, .int .i64 r7], .agg #[.int .i64 4, .int .i64 at_, .int .i64 got, .int .i64 oth, .int .i64 reg], .int .i64 got] w fun e w' => e = .returned (.agg #[.int .i64 r0, .int .i64 r1, .int .i64 r2, .int .i64 r3, .int .i64 1, .int .i64 r5, .int .i64 r6, .int .i64 r7]) ∧ Below w.heap.size w w' := by
  go_enter Try.func32, Try.ntmps32
  go_wp2_with (go_at_call 48; refine (register_v reg 4 _ hj).mono ?_; rintro e w' ⟨rfl, rfl⟩)
  exact bodyPost_ret (v := .agg #[.int .i64 r0, .int .i64 r1, .int .i64 r2, .int .i64 r3, .int .i64 1, .int .i64 r5, .int .i64 r6, .int .i64 r7]) (by simp [results, Try.results32, go_sem]) rfl ⟨rfl, by go_grown⟩
theorem took_yes_5 (r0 r1 r2 r3 r4 r5 r6 r7 at_ oth reg got : Int) (w : World) (hj : Hid (rg reg = 5)) : Calls Try.prog 32 #[.agg #[.int .i64 r0, .int .i64 r1, .int .i64 r2, .int .i64 r3, .int .i64 r4, .int .i64 r5, .int .i64 r6, .int .i64 r7], .agg #[.int .i64 4, .int .i64 at_, .int .i64 got, .int .i64 oth, .int .i64 reg], .int .i64 got] w fun e w' => e = .returned (.agg #[.int .i64 r0, .int .i64 r1, .int .i64 r2, .int .i64 r3, .int .i64 r4, .int .i64 1, .int .i64 r6, .int .i64 r7]) ∧ Below w.heap.size w w' := by
  go_enter Try.func32, Try.ntmps32
  go_wp2_with (go_at_call 48; refine (register_v reg 5 _ hj).mono ?_; rintro e w' ⟨rfl, rfl⟩)
  exact bodyPost_ret (v := .agg #[.int .i64 r0, .int .i64 r1, .int .i64 r2, .int .i64 r3, .int .i64 r4, .int .i64 1, .int .i64 r6, .int .i64 r7]) (by simp [results, Try.results32, go_sem]) rfl ⟨rfl, by go_grown⟩
theorem took_yes_6 (r0 r1 r2 r3 r4 r5 r6 r7 at_ oth reg got : Int) (w : World) (hj : Hid (rg reg = 6)) : Calls Try.prog 32 #[.agg #[.int .i64 r0, .int .i64 r1, .int .i64 r2, .int .i64 r3, .int .i64 r4, .int .i64 r5, .int .i64 r6, .int .i64 r7], .agg #[.int .i64 4, .int .i64 at_, .int .i64 got, .int .i64 oth, .int .i64 reg], .int .i64 got] w fun e w' => e = .returned (.agg #[.int .i64 r0, .int .i64 r1, .int .i64 r2, .int .i64 r3, .int .i64 r4, .int .i64 r5, .int .i64 1, .int .i64 r7]) ∧ Below w.heap.size w w' := by
  go_enter Try.func32, Try.ntmps32
  go_wp2_with (go_at_call 48; refine (register_v reg 6 _ hj).mono ?_; rintro e w' ⟨rfl, rfl⟩)
  exact bodyPost_ret (v := .agg #[.int .i64 r0, .int .i64 r1, .int .i64 r2, .int .i64 r3, .int .i64 r4, .int .i64 r5, .int .i64 1, .int .i64 r7]) (by simp [results, Try.results32, go_sem]) rfl ⟨rfl, by go_grown⟩
theorem took_yes_7 (r0 r1 r2 r3 r4 r5 r6 r7 at_ oth reg got : Int) (w : World) (hj : Hid (rg reg = 7)) : Calls Try.prog 32 #[.agg #[.int .i64 r0, .int .i64 r1, .int .i64 r2, .int .i64 r3, .int .i64 r4, .int .i64 r5, .int .i64 r6, .int .i64 r7], .agg #[.int .i64 4, .int .i64 at_, .int .i64 got, .int .i64 oth, .int .i64 reg], .int .i64 got] w fun e w' => e = .returned (.agg #[.int .i64 r0, .int .i64 r1, .int .i64 r2, .int .i64 r3, .int .i64 r4, .int .i64 r5, .int .i64 r6, .int .i64 1]) ∧ Below w.heap.size w w' := by
  go_enter Try.func32, Try.ntmps32
  go_wp2_with (go_at_call 48; refine (register_v reg 7 _ hj).mono ?_; rintro e w' ⟨rfl, rfl⟩)
  exact bodyPost_ret (v := .agg #[.int .i64 r0, .int .i64 r1, .int .i64 r2, .int .i64 r3, .int .i64 r4, .int .i64 r5, .int .i64 r6, .int .i64 1]) (by simp [results, Try.results32, go_sem]) rfl ⟨rfl, by go_grown⟩
theorem took_no_0 (r0 r1 r2 r3 r4 r5 r6 r7 val at_ oth reg got : Int) (w : World) (hn : (got == val) = false) (hj : Hid (rg reg = 0)) : Calls Try.prog 32 #[.agg #[.int .i64 r0, .int .i64 r1, .int .i64 r2, .int .i64 r3, .int .i64 r4, .int .i64 r5, .int .i64 r6, .int .i64 r7], .agg #[.int .i64 4, .int .i64 at_, .int .i64 val, .int .i64 oth, .int .i64 reg], .int .i64 got] w fun e w' => e = .returned (.agg #[.int .i64 0, .int .i64 r1, .int .i64 r2, .int .i64 r3, .int .i64 r4, .int .i64 r5, .int .i64 r6, .int .i64 r7]) ∧ Below w.heap.size w w' := by
  go_enter Try.func32, Try.ntmps32
  go_wp2_with (go_at_call 48; refine (register_v reg 0 _ hj).mono ?_; rintro e w' ⟨rfl, rfl⟩)
  exact bodyPost_ret (v := .agg #[.int .i64 0, .int .i64 r1, .int .i64 r2, .int .i64 r3, .int .i64 r4, .int .i64 r5, .int .i64 r6, .int .i64 r7]) (by simp [results, Try.results32, go_sem]) rfl ⟨rfl, by go_grown⟩
theorem took_no_1 (r0 r1 r2 r3 r4 r5 r6 r7 val at_ oth reg got : Int) (w : World) (hn : (got == val) = false) (hj : Hid (rg reg = 1)) : Calls Try.prog 32 #[.agg #[.int .i64 r0, .int .i64 r1, .int .i64 r2, .int .i64 r3, .int .i64 r4, .int .i64 r5, .int .i64 r6, .int .i64 r7], .agg #[.int .i64 4, .int .i64 at_, .int .i64 val, .int .i64 oth, .int .i64 reg], .int .i64 got] w fun e w' => e = .returned (.agg #[.int .i64 r0, .int .i64 0, .int .i64 r2, .int .i64 r3, .int .i64 r4, .int .i64 r5, .int .i64 r6, .int .i64 r7]) ∧ Below w.heap.size w w' := by
  go_enter Try.func32, Try.ntmps32
  go_wp2_with (go_at_call 48; refine (register_v reg 1 _ hj).mono ?_; rintro e w' ⟨rfl, rfl⟩)
  exact bodyPost_ret (v := .agg #[.int .i64 r0, .int .i64 0, .int .i64 r2, .int .i64 r3, .int .i64 r4, .int .i64 r5, .int .i64 r6, .int .i64 r7]) (by simp [results, Try.results32, go_sem]) rfl ⟨rfl, by go_grown⟩
theorem took_no_2 (r0 r1 r2 r3 r4 r5 r6 r7 val at_ oth reg got : Int) (w : World) (hn : (got == val) = false) (hj : Hid (rg reg = 2)) : Calls Try.prog 32 #[.agg #[.int .i64 r0, .int .i64 r1, .int .i64 r2, .int .i64 r3, .int .i64 r4, .int .i64 r5, .int .i64 r6, .int .i64 r7], .agg #[.int .i64 4, .int .i64 at_, .int .i64 val, .int .i64 oth, .int .i64 reg], .int .i64 got] w fun e w' => e = .returned (.agg #[.int .i64 r0, .int .i64 r1, .int .i64 0, .int .i64 r3, .int .i64 r4, .int .i64 r5, .int .i64 r6, .int .i64 r7]) ∧ Below w.heap.size w w' := by
  go_enter Try.func32, Try.ntmps32
  go_wp2_with (go_at_call 48; refine (register_v reg 2 _ hj).mono ?_; rintro e w' ⟨rfl, rfl⟩)
  exact bodyPost_ret (v := .agg #[.int .i64 r0, .int .i64 r1, .int .i64 0, .int .i64 r3, .int .i64 r4, .int .i64 r5, .int .i64 r6, .int .i64 r7]) (by simp [results, Try.results32, go_sem]) rfl ⟨rfl, by go_grown⟩
theorem took_no_3 (r0 r1 r2 r3 r4 r5 r6 r7 val at_ oth reg got : Int) (w : World) (hn : (got == val) = false) (hj : Hid (rg reg = 3)) : Calls Try.prog 32 #[.agg #[.int .i64 r0, .int .i64 r1, .int .i64 r2, .int .i64 r3, .int .i64 r4, .int .i64 r5, .int .i64 r6, .int .i64 r7], .agg #[.int .i64 4, .int .i64 at_, .int .i64 val, .int .i64 oth, .int .i64 reg], .int .i64 got] w fun e w' => e = .returned (.agg #[.int .i64 r0, .int .i64 r1, .int .i64 r2, .int .i64 0, .int .i64 r4, .int .i64 r5, .int .i64 r6, .int .i64 r7]) ∧ Below w.heap.size w w' := by
  go_enter Try.func32, Try.ntmps32
  go_wp2_with (go_at_call 48; refine (register_v reg 3 _ hj).mono ?_; rintro e w' ⟨rfl, rfl⟩)
  exact bodyPost_ret (v := .agg #[.int .i64 r0, .int .i64 r1, .int .i64 r2, .int .i64 0, .int .i64 r4, .int .i64 r5, .int .i64 r6, .int .i64 r7]) (by simp [results, Try.results32, go_sem]) rfl ⟨rfl, by go_grown⟩
theorem took_no_4 (r0 r1 r2 r3 r4 r5 r6 r7 val at_ oth reg got : Int) (w : World) (hn : (got == val) = false) (hj : Hid (rg reg = 4)) : Calls Try.prog 32 #[.agg #[.int .i64 r0, .int .i64 r1, .int .i64 r2, .int .i64 r3, .int .i64 r4, .int .i64 r5, .int .i64 r6, .int .i64 r7], .agg #[.int .i64 4, .int .i64 at_, .int .i64 val, .int .i64 oth, .int .i64 reg], .int .i64 got] w fun e w' => e = .returned (.agg #[.int .i64 r0, .int .i64 r1, .int .i64 r2, .int .i64 r3, .int .i64 0, .int .i64 r5, .int .i64 r6, .int .i64 r7]) ∧ Below w.heap.size w w' := by
  go_enter Try.func32, Try.ntmps32
  go_wp2_with (go_at_call 48; refine (register_v reg 4 _ hj).mono ?_; rintro e w' ⟨rfl, rfl⟩)
  exact bodyPost_ret (v := .agg #[.int .i64 r0, .int .i64 r1, .int .i64 r2, .int .i64 r3, .int .i64 0, .int .i64 r5, .int .i64 r6, .int .i64 r7]) (by simp [results, Try.results32, go_sem]) rfl ⟨rfl, by go_grown⟩
theorem took_no_5 (r0 r1 r2 r3 r4 r5 r6 r7 val at_ oth reg got : Int) (w : World) (hn : (got == val) = false) (hj : Hid (rg reg = 5)) : Calls Try.prog 32 #[.agg #[.int .i64 r0, .int .i64 r1, .int .i64 r2, .int .i64 r3, .int .i64 r4, .int .i64 r5, .int .i64 r6, .int .i64 r7], .agg #[.int .i64 4, .int .i64 at_, .int .i64 val, .int .i64 oth, .int .i64 reg], .int .i64 got] w fun e w' => e = .returned (.agg #[.int .i64 r0, .int .i64 r1, .int .i64 r2, .int .i64 r3, .int .i64 r4, .int .i64 0, .int .i64 r6, .int .i64 r7]) ∧ Below w.heap.size w w' := by
  go_enter Try.func32, Try.ntmps32
  go_wp2_with (go_at_call 48; refine (register_v reg 5 _ hj).mono ?_; rintro e w' ⟨rfl, rfl⟩)
  exact bodyPost_ret (v := .agg #[.int .i64 r0, .int .i64 r1, .int .i64 r2, .int .i64 r3, .int .i64 r4, .int .i64 0, .int .i64 r6, .int .i64 r7]) (by simp [results, Try.results32, go_sem]) rfl ⟨rfl, by go_grown⟩
theorem took_no_6 (r0 r1 r2 r3 r4 r5 r6 r7 val at_ oth reg got : Int) (w : World) (hn : (got == val) = false) (hj : Hid (rg reg = 6)) : Calls Try.prog 32 #[.agg #[.int .i64 r0, .int .i64 r1, .int .i64 r2, .int .i64 r3, .int .i64 r4, .int .i64 r5, .int .i64 r6, .int .i64 r7], .agg #[.int .i64 4, .int .i64 at_, .int .i64 val, .int .i64 oth, .int .i64 reg], .int .i64 got] w fun e w' => e = .returned (.agg #[.int .i64 r0, .int .i64 r1, .int .i64 r2, .int .i64 r3, .int .i64 r4, .int .i64 r5, .int .i64 0, .int .i64 r7]) ∧ Below w.heap.size w w' := by
  go_enter Try.func32, Try.ntmps32
  go_wp2_with (go_at_call 48; refine (register_v reg 6 _ hj).mono ?_; rintro e w' ⟨rfl, rfl⟩)
  exact bodyPost_ret (v := .agg #[.int .i64 r0, .int .i64 r1, .int .i64 r2, .int .i64 r3, .int .i64 r4, .int .i64 r5, .int .i64 0, .int .i64 r7]) (by simp [results, Try.results32, go_sem]) rfl ⟨rfl, by go_grown⟩
theorem took_no_7 (r0 r1 r2 r3 r4 r5 r6 r7 val at_ oth reg got : Int) (w : World) (hn : (got == val) = false) (hj : Hid (rg reg = 7)) : Calls Try.prog 32 #[.agg #[.int .i64 r0, .int .i64 r1, .int .i64 r2, .int .i64 r3, .int .i64 r4, .int .i64 r5, .int .i64 r6, .int .i64 r7], .agg #[.int .i64 4, .int .i64 at_, .int .i64 val, .int .i64 oth, .int .i64 reg], .int .i64 got] w fun e w' => e = .returned (.agg #[.int .i64 r0, .int .i64 r1, .int .i64 r2, .int .i64 r3, .int .i64 r4, .int .i64 r5, .int .i64 r6, .int .i64 0]) ∧ Below w.heap.size w w' := by
  go_enter Try.func32, Try.ntmps32
  go_wp2_with (go_at_call 48; refine (register_v reg 7 _ hj).mono ?_; rintro e w' ⟨rfl, rfl⟩)
  exact bodyPost_ret (v := .agg #[.int .i64 r0, .int .i64 r1, .int .i64 r2, .int .i64 r3, .int .i64 r4, .int .i64 r5, .int .i64 r6, .int .i64 0]) (by simp [results, Try.results32, go_sem]) rfl ⟨rfl, by go_grown⟩
theorem took_other_0 (r0 r1 r2 r3 r4 r5 r6 r7 kind val at_ oth reg got : Int) (w : World) (k1 : (kind == 1) = false) (k3 : (kind == 3) = false) (k4 : (kind == 4) = false) (hj : Hid (rg reg = 0)) : Calls Try.prog 32 #[.agg #[.int .i64 r0, .int .i64 r1, .int .i64 r2, .int .i64 r3, .int .i64 r4, .int .i64 r5, .int .i64 r6, .int .i64 r7], .agg #[.int .i64 kind, .int .i64 at_, .int .i64 val, .int .i64 oth, .int .i64 reg], .int .i64 got] w fun e w' => e = .returned (.agg #[.int .i64 r0, .int .i64 r1, .int .i64 r2, .int .i64 r3, .int .i64 r4, .int .i64 r5, .int .i64 r6, .int .i64 r7]) ∧ Below w.heap.size w w' := by
  go_enter Try.func32, Try.ntmps32
  go_wp2_with (go_at_call 48; refine (register_v reg 0 _ hj).mono ?_; rintro e w' ⟨rfl, rfl⟩)
  exact bodyPost_ret (v := .agg #[.int .i64 r0, .int .i64 r1, .int .i64 r2, .int .i64 r3, .int .i64 r4, .int .i64 r5, .int .i64 r6, .int .i64 r7]) (by simp [results, Try.results32, go_sem]) rfl ⟨rfl, by go_grown⟩
theorem took_other_1 (r0 r1 r2 r3 r4 r5 r6 r7 kind val at_ oth reg got : Int) (w : World) (k1 : (kind == 1) = false) (k3 : (kind == 3) = false) (k4 : (kind == 4) = false) (hj : Hid (rg reg = 1)) : Calls Try.prog 32 #[.agg #[.int .i64 r0, .int .i64 r1, .int .i64 r2, .int .i64 r3, .int .i64 r4, .int .i64 r5, .int .i64 r6, .int .i64 r7], .agg #[.int .i64 kind, .int .i64 at_, .int .i64 val, .int .i64 oth, .int .i64 reg], .int .i64 got] w fun e w' => e = .returned (.agg #[.int .i64 r0, .int .i64 r1, .int .i64 r2, .int .i64 r3, .int .i64 r4, .int .i64 r5, .int .i64 r6, .int .i64 r7]) ∧ Below w.heap.size w w' := by
  go_enter Try.func32, Try.ntmps32
  go_wp2_with (go_at_call 48; refine (register_v reg 1 _ hj).mono ?_; rintro e w' ⟨rfl, rfl⟩)
  exact bodyPost_ret (v := .agg #[.int .i64 r0, .int .i64 r1, .int .i64 r2, .int .i64 r3, .int .i64 r4, .int .i64 r5, .int .i64 r6, .int .i64 r7]) (by simp [results, Try.results32, go_sem]) rfl ⟨rfl, by go_grown⟩
theorem took_other_2 (r0 r1 r2 r3 r4 r5 r6 r7 kind val at_ oth reg got : Int) (w : World) (k1 : (kind == 1) = false) (k3 : (kind == 3) = false) (k4 : (kind == 4) = false) (hj : Hid (rg reg = 2)) : Calls Try.prog 32 #[.agg #[.int .i64 r0, .int .i64 r1, .int .i64 r2, .int .i64 r3, .int .i64 r4, .int .i64 r5, .int .i64 r6, .int .i64 r7], .agg #[.int .i64 kind, .int .i64 at_, .int .i64 val, .int .i64 oth, .int .i64 reg], .int .i64 got] w fun e w' => e = .returned (.agg #[.int .i64 r0, .int .i64 r1, .int .i64 r2, .int .i64 r3, .int .i64 r4, .int .i64 r5, .int .i64 r6, .int .i64 r7]) ∧ Below w.heap.size w w' := by
  go_enter Try.func32, Try.ntmps32
  go_wp2_with (go_at_call 48; refine (register_v reg 2 _ hj).mono ?_; rintro e w' ⟨rfl, rfl⟩)
  exact bodyPost_ret (v := .agg #[.int .i64 r0, .int .i64 r1, .int .i64 r2, .int .i64 r3, .int .i64 r4, .int .i64 r5, .int .i64 r6, .int .i64 r7]) (by simp [results, Try.results32, go_sem]) rfl ⟨rfl, by go_grown⟩
theorem took_other_3 (r0 r1 r2 r3 r4 r5 r6 r7 kind val at_ oth reg got : Int) (w : World) (k1 : (kind == 1) = false) (k3 : (kind == 3) = false) (k4 : (kind == 4) = false) (hj : Hid (rg reg = 3)) : Calls Try.prog 32 #[.agg #[.int .i64 r0, .int .i64 r1, .int .i64 r2, .int .i64 r3, .int .i64 r4, .int .i64 r5, .int .i64 r6, .int .i64 r7], .agg #[.int .i64 kind, .int .i64 at_, .int .i64 val, .int .i64 oth, .int .i64 reg], .int .i64 got] w fun e w' => e = .returned (.agg #[.int .i64 r0, .int .i64 r1, .int .i64 r2, .int .i64 r3, .int .i64 r4, .int .i64 r5, .int .i64 r6, .int .i64 r7]) ∧ Below w.heap.size w w' := by
  go_enter Try.func32, Try.ntmps32
  go_wp2_with (go_at_call 48; refine (register_v reg 3 _ hj).mono ?_; rintro e w' ⟨rfl, rfl⟩)
  exact bodyPost_ret (v := .agg #[.int .i64 r0, .int .i64 r1, .int .i64 r2, .int .i64 r3, .int .i64 r4, .int .i64 r5, .int .i64 r6, .int .i64 r7]) (by simp [results, Try.results32, go_sem]) rfl ⟨rfl, by go_grown⟩
theorem took_other_4 (r0 r1 r2 r3 r4 r5 r6 r7 kind val at_ oth reg got : Int) (w : World) (k1 : (kind == 1) = false) (k3 : (kind == 3) = false) (k4 : (kind == 4) = false) (hj : Hid (rg reg = 4)) : Calls Try.prog 32 #[.agg #[.int .i64 r0, .int .i64 r1, .int .i64 r2, .int .i64 r3, .int .i64 r4, .int .i64 r5, .int .i64 r6, .int .i64 r7], .agg #[.int .i64 kind, .int .i64 at_, .int .i64 val, .int .i64 oth, .int .i64 reg], .int .i64 got] w fun e w' => e = .returned (.agg #[.int .i64 r0, .int .i64 r1, .int .i64 r2, .int .i64 r3, .int .i64 r4, .int .i64 r5, .int .i64 r6, .int .i64 r7]) ∧ Below w.heap.size w w' := by
  go_enter Try.func32, Try.ntmps32
  go_wp2_with (go_at_call 48; refine (register_v reg 4 _ hj).mono ?_; rintro e w' ⟨rfl, rfl⟩)
  exact bodyPost_ret (v := .agg #[.int .i64 r0, .int .i64 r1, .int .i64 r2, .int .i64 r3, .int .i64 r4, .int .i64 r5, .int .i64 r6, .int .i64 r7]) (by simp [results, Try.results32, go_sem]) rfl ⟨rfl, by go_grown⟩
theorem took_other_5 (r0 r1 r2 r3 r4 r5 r6 r7 kind val at_ oth reg got : Int) (w : World) (k1 : (kind == 1) = false) (k3 : (kind == 3) = false) (k4 : (kind == 4) = false) (hj : Hid (rg reg = 5)) : Calls Try.prog 32 #[.agg #[.int .i64 r0, .int .i64 r1, .int .i64 r2, .int .i64 r3, .int .i64 r4, .int .i64 r5, .int .i64 r6, .int .i64 r7], .agg #[.int .i64 kind, .int .i64 at_, .int .i64 val, .int .i64 oth, .int .i64 reg], .int .i64 got] w fun e w' => e = .returned (.agg #[.int .i64 r0, .int .i64 r1, .int .i64 r2, .int .i64 r3, .int .i64 r4, .int .i64 r5, .int .i64 r6, .int .i64 r7]) ∧ Below w.heap.size w w' := by
  go_enter Try.func32, Try.ntmps32
  go_wp2_with (go_at_call 48; refine (register_v reg 5 _ hj).mono ?_; rintro e w' ⟨rfl, rfl⟩)
  exact bodyPost_ret (v := .agg #[.int .i64 r0, .int .i64 r1, .int .i64 r2, .int .i64 r3, .int .i64 r4, .int .i64 r5, .int .i64 r6, .int .i64 r7]) (by simp [results, Try.results32, go_sem]) rfl ⟨rfl, by go_grown⟩
theorem took_other_6 (r0 r1 r2 r3 r4 r5 r6 r7 kind val at_ oth reg got : Int) (w : World) (k1 : (kind == 1) = false) (k3 : (kind == 3) = false) (k4 : (kind == 4) = false) (hj : Hid (rg reg = 6)) : Calls Try.prog 32 #[.agg #[.int .i64 r0, .int .i64 r1, .int .i64 r2, .int .i64 r3, .int .i64 r4, .int .i64 r5, .int .i64 r6, .int .i64 r7], .agg #[.int .i64 kind, .int .i64 at_, .int .i64 val, .int .i64 oth, .int .i64 reg], .int .i64 got] w fun e w' => e = .returned (.agg #[.int .i64 r0, .int .i64 r1, .int .i64 r2, .int .i64 r3, .int .i64 r4, .int .i64 r5, .int .i64 r6, .int .i64 r7]) ∧ Below w.heap.size w w' := by
  go_enter Try.func32, Try.ntmps32
  go_wp2_with (go_at_call 48; refine (register_v reg 6 _ hj).mono ?_; rintro e w' ⟨rfl, rfl⟩)
  exact bodyPost_ret (v := .agg #[.int .i64 r0, .int .i64 r1, .int .i64 r2, .int .i64 r3, .int .i64 r4, .int .i64 r5, .int .i64 r6, .int .i64 r7]) (by simp [results, Try.results32, go_sem]) rfl ⟨rfl, by go_grown⟩
theorem took_other_7 (r0 r1 r2 r3 r4 r5 r6 r7 kind val at_ oth reg got : Int) (w : World) (k1 : (kind == 1) = false) (k3 : (kind == 3) = false) (k4 : (kind == 4) = false) (hj : Hid (rg reg = 7)) : Calls Try.prog 32 #[.agg #[.int .i64 r0, .int .i64 r1, .int .i64 r2, .int .i64 r3, .int .i64 r4, .int .i64 r5, .int .i64 r6, .int .i64 r7], .agg #[.int .i64 kind, .int .i64 at_, .int .i64 val, .int .i64 oth, .int .i64 reg], .int .i64 got] w fun e w' => e = .returned (.agg #[.int .i64 r0, .int .i64 r1, .int .i64 r2, .int .i64 r3, .int .i64 r4, .int .i64 r5, .int .i64 r6, .int .i64 r7]) ∧ Below w.heap.size w w' := by
  go_enter Try.func32, Try.ntmps32
  go_wp2_with (go_at_call 48; refine (register_v reg 7 _ hj).mono ?_; rintro e w' ⟨rfl, rfl⟩)
  exact bodyPost_ret (v := .agg #[.int .i64 r0, .int .i64 r1, .int .i64 r2, .int .i64 r3, .int .i64 r4, .int .i64 r5, .int .i64 r6, .int .i64 r7]) (by simp [results, Try.results32, go_sem]) rfl ⟨rfl, by go_grown⟩
theorem took_v (r0 r1 r2 r3 r4 r5 r6 r7 kind at_ val oth reg got s0 s1 s2 s3 s4 s5 s6 s7 : Int) (w : World) (h : Hid (tookF [r0, r1, r2, r3, r4, r5, r6, r7] kind val got (rg reg) = [s0, s1, s2, s3, s4, s5, s6, s7])) : Calls Try.prog 32 #[.agg #[.int .i64 r0, .int .i64 r1, .int .i64 r2, .int .i64 r3, .int .i64 r4, .int .i64 r5, .int .i64 r6, .int .i64 r7], .agg #[.int .i64 kind, .int .i64 at_, .int .i64 val, .int .i64 oth, .int .i64 reg], .int .i64 got] w fun e w' => e = .returned (.agg #[.int .i64 s0, .int .i64 s1, .int .i64 s2, .int .i64 s3, .int .i64 s4, .int .i64 s5, .int .i64 s6, .int .i64 s7]) ∧ Below w.heap.size w w' := by
  have h := h.out
  unfold tookF at h
  by_cases h1 : kind = 1
  · subst h1
    rw [if_pos (Or.inl rfl)] at h
    rcases rg_cases reg with hj | hj | hj | hj | hj | hj | hj | hj <;> rw [hj] at h <;> simp at h <;> obtain ⟨rfl, rfl, rfl, rfl, rfl, rfl, rfl, rfl⟩ := h
    · exact took_put1_0 r0 r1 r2 r3 r4 r5 r6 r7 val at_ oth reg got w hj
    · exact took_put1_1 r0 r1 r2 r3 r4 r5 r6 r7 val at_ oth reg got w hj
    · exact took_put1_2 r0 r1 r2 r3 r4 r5 r6 r7 val at_ oth reg got w hj
    · exact took_put1_3 r0 r1 r2 r3 r4 r5 r6 r7 val at_ oth reg got w hj
    · exact took_put1_4 r0 r1 r2 r3 r4 r5 r6 r7 val at_ oth reg got w hj
    · exact took_put1_5 r0 r1 r2 r3 r4 r5 r6 r7 val at_ oth reg got w hj
    · exact took_put1_6 r0 r1 r2 r3 r4 r5 r6 r7 val at_ oth reg got w hj
    · exact took_put1_7 r0 r1 r2 r3 r4 r5 r6 r7 val at_ oth reg got w hj
  by_cases h3 : kind = 3
  · subst h3
    rw [if_pos (Or.inr rfl)] at h
    rcases rg_cases reg with hj | hj | hj | hj | hj | hj | hj | hj <;> rw [hj] at h <;> simp at h <;> obtain ⟨rfl, rfl, rfl, rfl, rfl, rfl, rfl, rfl⟩ := h
    · exact took_put3_0 r0 r1 r2 r3 r4 r5 r6 r7 val at_ oth reg got w hj
    · exact took_put3_1 r0 r1 r2 r3 r4 r5 r6 r7 val at_ oth reg got w hj
    · exact took_put3_2 r0 r1 r2 r3 r4 r5 r6 r7 val at_ oth reg got w hj
    · exact took_put3_3 r0 r1 r2 r3 r4 r5 r6 r7 val at_ oth reg got w hj
    · exact took_put3_4 r0 r1 r2 r3 r4 r5 r6 r7 val at_ oth reg got w hj
    · exact took_put3_5 r0 r1 r2 r3 r4 r5 r6 r7 val at_ oth reg got w hj
    · exact took_put3_6 r0 r1 r2 r3 r4 r5 r6 r7 val at_ oth reg got w hj
    · exact took_put3_7 r0 r1 r2 r3 r4 r5 r6 r7 val at_ oth reg got w hj
  rw [if_neg (by omega)] at h
  by_cases h4 : kind = 4
  · subst h4
    rw [if_pos rfl] at h
    by_cases hg : got = val
    · subst hg
      rw [if_pos rfl] at h
      rcases rg_cases reg with hj | hj | hj | hj | hj | hj | hj | hj <;> rw [hj] at h <;> simp at h <;> obtain ⟨rfl, rfl, rfl, rfl, rfl, rfl, rfl, rfl⟩ := h
      · exact took_yes_0 r0 r1 r2 r3 r4 r5 r6 r7 at_ oth reg got w hj
      · exact took_yes_1 r0 r1 r2 r3 r4 r5 r6 r7 at_ oth reg got w hj
      · exact took_yes_2 r0 r1 r2 r3 r4 r5 r6 r7 at_ oth reg got w hj
      · exact took_yes_3 r0 r1 r2 r3 r4 r5 r6 r7 at_ oth reg got w hj
      · exact took_yes_4 r0 r1 r2 r3 r4 r5 r6 r7 at_ oth reg got w hj
      · exact took_yes_5 r0 r1 r2 r3 r4 r5 r6 r7 at_ oth reg got w hj
      · exact took_yes_6 r0 r1 r2 r3 r4 r5 r6 r7 at_ oth reg got w hj
      · exact took_yes_7 r0 r1 r2 r3 r4 r5 r6 r7 at_ oth reg got w hj
    · rw [if_neg hg] at h
      have hn : (got == val) = false := by simpa using hg
      rcases rg_cases reg with hj | hj | hj | hj | hj | hj | hj | hj <;> rw [hj] at h <;> simp at h <;> obtain ⟨rfl, rfl, rfl, rfl, rfl, rfl, rfl, rfl⟩ := h
      · exact took_no_0 r0 r1 r2 r3 r4 r5 r6 r7 val at_ oth reg got w hn hj
      · exact took_no_1 r0 r1 r2 r3 r4 r5 r6 r7 val at_ oth reg got w hn hj
      · exact took_no_2 r0 r1 r2 r3 r4 r5 r6 r7 val at_ oth reg got w hn hj
      · exact took_no_3 r0 r1 r2 r3 r4 r5 r6 r7 val at_ oth reg got w hn hj
      · exact took_no_4 r0 r1 r2 r3 r4 r5 r6 r7 val at_ oth reg got w hn hj
      · exact took_no_5 r0 r1 r2 r3 r4 r5 r6 r7 val at_ oth reg got w hn hj
      · exact took_no_6 r0 r1 r2 r3 r4 r5 r6 r7 val at_ oth reg got w hn hj
      · exact took_no_7 r0 r1 r2 r3 r4 r5 r6 r7 val at_ oth reg got w hn hj
  · rw [if_neg h4] at h
    have k1 : (kind == 1) = false := by simpa using h1
    have k3 : (kind == 3) = false := by simpa using h3
    have k4 : (kind == 4) = false := by simpa using h4
    simp at h
    obtain ⟨rfl, rfl, rfl, rfl, rfl, rfl, rfl, rfl⟩ := h
    rcases rg_cases reg with hj | hj | hj | hj | hj | hj | hj | hj
    · exact took_other_0 r0 r1 r2 r3 r4 r5 r6 r7 kind val at_ oth reg got w k1 k3 k4 hj
    · exact took_other_1 r0 r1 r2 r3 r4 r5 r6 r7 kind val at_ oth reg got w k1 k3 k4 hj
    · exact took_other_2 r0 r1 r2 r3 r4 r5 r6 r7 kind val at_ oth reg got w k1 k3 k4 hj
    · exact took_other_3 r0 r1 r2 r3 r4 r5 r6 r7 kind val at_ oth reg got w k1 k3 k4 hj
    · exact took_other_4 r0 r1 r2 r3 r4 r5 r6 r7 kind val at_ oth reg got w k1 k3 k4 hj
    · exact took_other_5 r0 r1 r2 r3 r4 r5 r6 r7 kind val at_ oth reg got w k1 k3 k4 hj
    · exact took_other_6 r0 r1 r2 r3 r4 r5 r6 r7 kind val at_ oth reg got w k1 k3 k4 hj
    · exact took_other_7 r0 r1 r2 r3 r4 r5 r6 r7 kind val at_ oth reg got w k1 k3 k4 hj
theorem rtook_put1_0 (r0 r1 r2 r3 r4 r5 r6 r7 val at_ oth reg got : Int) (w : World) (hj : Hid (rg reg = 0)) : Calls Try.prog 31 #[.agg #[.int .i64 r0, .int .i64 r1, .int .i64 r2, .int .i64 r3, .int .i64 r4, .int .i64 r5, .int .i64 r6, .int .i64 r7], .agg #[.int .i64 1, .int .i64 at_, .int .i64 val, .int .i64 oth, .int .i64 reg], .int .i64 got] w fun e w' => e = .returned (.agg #[.int .i64 got, .int .i64 r1, .int .i64 r2, .int .i64 r3, .int .i64 r4, .int .i64 r5, .int .i64 r6, .int .i64 r7]) ∧ Below w.heap.size w w' := by
  go_enter Try.func31, Try.ntmps31
  go_wp2_with (go_at_call 52; refine (held_v reg 0 _ hj).mono ?_; rintro e w' ⟨rfl, rfl⟩)
  exact bodyPost_ret (v := .agg #[.int .i64 got, .int .i64 r1, .int .i64 r2, .int .i64 r3, .int .i64 r4, .int .i64 r5, .int .i64 r6, .int .i64 r7]) (by simp [results, Try.results31, go_sem]) rfl ⟨rfl, by go_grown⟩
theorem rtook_put1_1 (r0 r1 r2 r3 r4 r5 r6 r7 val at_ oth reg got : Int) (w : World) (hj : Hid (rg reg = 1)) : Calls Try.prog 31 #[.agg #[.int .i64 r0, .int .i64 r1, .int .i64 r2, .int .i64 r3, .int .i64 r4, .int .i64 r5, .int .i64 r6, .int .i64 r7], .agg #[.int .i64 1, .int .i64 at_, .int .i64 val, .int .i64 oth, .int .i64 reg], .int .i64 got] w fun e w' => e = .returned (.agg #[.int .i64 r0, .int .i64 got, .int .i64 r2, .int .i64 r3, .int .i64 r4, .int .i64 r5, .int .i64 r6, .int .i64 r7]) ∧ Below w.heap.size w w' := by
  go_enter Try.func31, Try.ntmps31
  go_wp2_with (go_at_call 52; refine (held_v reg 1 _ hj).mono ?_; rintro e w' ⟨rfl, rfl⟩)
  exact bodyPost_ret (v := .agg #[.int .i64 r0, .int .i64 got, .int .i64 r2, .int .i64 r3, .int .i64 r4, .int .i64 r5, .int .i64 r6, .int .i64 r7]) (by simp [results, Try.results31, go_sem]) rfl ⟨rfl, by go_grown⟩
theorem rtook_put1_2 (r0 r1 r2 r3 r4 r5 r6 r7 val at_ oth reg got : Int) (w : World) (hj : Hid (rg reg = 2)) : Calls Try.prog 31 #[.agg #[.int .i64 r0, .int .i64 r1, .int .i64 r2, .int .i64 r3, .int .i64 r4, .int .i64 r5, .int .i64 r6, .int .i64 r7], .agg #[.int .i64 1, .int .i64 at_, .int .i64 val, .int .i64 oth, .int .i64 reg], .int .i64 got] w fun e w' => e = .returned (.agg #[.int .i64 r0, .int .i64 r1, .int .i64 got, .int .i64 r3, .int .i64 r4, .int .i64 r5, .int .i64 r6, .int .i64 r7]) ∧ Below w.heap.size w w' := by
  go_enter Try.func31, Try.ntmps31
  go_wp2_with (go_at_call 52; refine (held_v reg 2 _ hj).mono ?_; rintro e w' ⟨rfl, rfl⟩)
  exact bodyPost_ret (v := .agg #[.int .i64 r0, .int .i64 r1, .int .i64 got, .int .i64 r3, .int .i64 r4, .int .i64 r5, .int .i64 r6, .int .i64 r7]) (by simp [results, Try.results31, go_sem]) rfl ⟨rfl, by go_grown⟩
theorem rtook_put1_3 (r0 r1 r2 r3 r4 r5 r6 r7 val at_ oth reg got : Int) (w : World) (hj : Hid (rg reg = 3)) : Calls Try.prog 31 #[.agg #[.int .i64 r0, .int .i64 r1, .int .i64 r2, .int .i64 r3, .int .i64 r4, .int .i64 r5, .int .i64 r6, .int .i64 r7], .agg #[.int .i64 1, .int .i64 at_, .int .i64 val, .int .i64 oth, .int .i64 reg], .int .i64 got] w fun e w' => e = .returned (.agg #[.int .i64 r0, .int .i64 r1, .int .i64 r2, .int .i64 got, .int .i64 r4, .int .i64 r5, .int .i64 r6, .int .i64 r7]) ∧ Below w.heap.size w w' := by
  go_enter Try.func31, Try.ntmps31
  go_wp2_with (go_at_call 52; refine (held_v reg 3 _ hj).mono ?_; rintro e w' ⟨rfl, rfl⟩)
  exact bodyPost_ret (v := .agg #[.int .i64 r0, .int .i64 r1, .int .i64 r2, .int .i64 got, .int .i64 r4, .int .i64 r5, .int .i64 r6, .int .i64 r7]) (by simp [results, Try.results31, go_sem]) rfl ⟨rfl, by go_grown⟩
theorem rtook_put1_4 (r0 r1 r2 r3 r4 r5 r6 r7 val at_ oth reg got : Int) (w : World) (hj : Hid (rg reg = 4)) : Calls Try.prog 31 #[.agg #[.int .i64 r0, .int .i64 r1, .int .i64 r2, .int .i64 r3, .int .i64 r4, .int .i64 r5, .int .i64 r6, .int .i64 r7], .agg #[.int .i64 1, .int .i64 at_, .int .i64 val, .int .i64 oth, .int .i64 reg], .int .i64 got] w fun e w' => e = .returned (.agg #[.int .i64 r0, .int .i64 r1, .int .i64 r2, .int .i64 r3, .int .i64 got, .int .i64 r5, .int .i64 r6, .int .i64 r7]) ∧ Below w.heap.size w w' := by
  go_enter Try.func31, Try.ntmps31
  go_wp2_with (go_at_call 52; refine (held_v reg 4 _ hj).mono ?_; rintro e w' ⟨rfl, rfl⟩)
  exact bodyPost_ret (v := .agg #[.int .i64 r0, .int .i64 r1, .int .i64 r2, .int .i64 r3, .int .i64 got, .int .i64 r5, .int .i64 r6, .int .i64 r7]) (by simp [results, Try.results31, go_sem]) rfl ⟨rfl, by go_grown⟩
theorem rtook_put1_5 (r0 r1 r2 r3 r4 r5 r6 r7 val at_ oth reg got : Int) (w : World) (hj : Hid (rg reg = 5)) : Calls Try.prog 31 #[.agg #[.int .i64 r0, .int .i64 r1, .int .i64 r2, .int .i64 r3, .int .i64 r4, .int .i64 r5, .int .i64 r6, .int .i64 r7], .agg #[.int .i64 1, .int .i64 at_, .int .i64 val, .int .i64 oth, .int .i64 reg], .int .i64 got] w fun e w' => e = .returned (.agg #[.int .i64 r0, .int .i64 r1, .int .i64 r2, .int .i64 r3, .int .i64 r4, .int .i64 got, .int .i64 r6, .int .i64 r7]) ∧ Below w.heap.size w w' := by
  go_enter Try.func31, Try.ntmps31
  go_wp2_with (go_at_call 52; refine (held_v reg 5 _ hj).mono ?_; rintro e w' ⟨rfl, rfl⟩)
  exact bodyPost_ret (v := .agg #[.int .i64 r0, .int .i64 r1, .int .i64 r2, .int .i64 r3, .int .i64 r4, .int .i64 got, .int .i64 r6, .int .i64 r7]) (by simp [results, Try.results31, go_sem]) rfl ⟨rfl, by go_grown⟩
theorem rtook_put1_6 (r0 r1 r2 r3 r4 r5 r6 r7 val at_ oth reg got : Int) (w : World) (hj : Hid (rg reg = 6)) : Calls Try.prog 31 #[.agg #[.int .i64 r0, .int .i64 r1, .int .i64 r2, .int .i64 r3, .int .i64 r4, .int .i64 r5, .int .i64 r6, .int .i64 r7], .agg #[.int .i64 1, .int .i64 at_, .int .i64 val, .int .i64 oth, .int .i64 reg], .int .i64 got] w fun e w' => e = .returned (.agg #[.int .i64 r0, .int .i64 r1, .int .i64 r2, .int .i64 r3, .int .i64 r4, .int .i64 r5, .int .i64 got, .int .i64 r7]) ∧ Below w.heap.size w w' := by
  go_enter Try.func31, Try.ntmps31
  go_wp2_with (go_at_call 52; refine (held_v reg 6 _ hj).mono ?_; rintro e w' ⟨rfl, rfl⟩)
  exact bodyPost_ret (v := .agg #[.int .i64 r0, .int .i64 r1, .int .i64 r2, .int .i64 r3, .int .i64 r4, .int .i64 r5, .int .i64 got, .int .i64 r7]) (by simp [results, Try.results31, go_sem]) rfl ⟨rfl, by go_grown⟩
theorem rtook_put1_7 (r0 r1 r2 r3 r4 r5 r6 r7 val at_ oth reg got : Int) (w : World) (hj : Hid (rg reg = 7)) : Calls Try.prog 31 #[.agg #[.int .i64 r0, .int .i64 r1, .int .i64 r2, .int .i64 r3, .int .i64 r4, .int .i64 r5, .int .i64 r6, .int .i64 r7], .agg #[.int .i64 1, .int .i64 at_, .int .i64 val, .int .i64 oth, .int .i64 reg], .int .i64 got] w fun e w' => e = .returned (.agg #[.int .i64 r0, .int .i64 r1, .int .i64 r2, .int .i64 r3, .int .i64 r4, .int .i64 r5, .int .i64 r6, .int .i64 got]) ∧ Below w.heap.size w w' := by
  go_enter Try.func31, Try.ntmps31
  go_wp2_with (go_at_call 52; refine (held_v reg 7 _ hj).mono ?_; rintro e w' ⟨rfl, rfl⟩)
  exact bodyPost_ret (v := .agg #[.int .i64 r0, .int .i64 r1, .int .i64 r2, .int .i64 r3, .int .i64 r4, .int .i64 r5, .int .i64 r6, .int .i64 got]) (by simp [results, Try.results31, go_sem]) rfl ⟨rfl, by go_grown⟩
theorem rtook_put3_0 (r0 r1 r2 r3 r4 r5 r6 r7 val at_ oth reg got : Int) (w : World) (hj : Hid (rg reg = 0)) : Calls Try.prog 31 #[.agg #[.int .i64 r0, .int .i64 r1, .int .i64 r2, .int .i64 r3, .int .i64 r4, .int .i64 r5, .int .i64 r6, .int .i64 r7], .agg #[.int .i64 3, .int .i64 at_, .int .i64 val, .int .i64 oth, .int .i64 reg], .int .i64 got] w fun e w' => e = .returned (.agg #[.int .i64 got, .int .i64 r1, .int .i64 r2, .int .i64 r3, .int .i64 r4, .int .i64 r5, .int .i64 r6, .int .i64 r7]) ∧ Below w.heap.size w w' := by
  go_enter Try.func31, Try.ntmps31
  go_wp2_with (go_at_call 52; refine (held_v reg 0 _ hj).mono ?_; rintro e w' ⟨rfl, rfl⟩)
  exact bodyPost_ret (v := .agg #[.int .i64 got, .int .i64 r1, .int .i64 r2, .int .i64 r3, .int .i64 r4, .int .i64 r5, .int .i64 r6, .int .i64 r7]) (by simp [results, Try.results31, go_sem]) rfl ⟨rfl, by go_grown⟩
theorem rtook_put3_1 (r0 r1 r2 r3 r4 r5 r6 r7 val at_ oth reg got : Int) (w : World) (hj : Hid (rg reg = 1)) : Calls Try.prog 31 #[.agg #[.int .i64 r0, .int .i64 r1, .int .i64 r2, .int .i64 r3, .int .i64 r4, .int .i64 r5, .int .i64 r6, .int .i64 r7], .agg #[.int .i64 3, .int .i64 at_, .int .i64 val, .int .i64 oth, .int .i64 reg], .int .i64 got] w fun e w' => e = .returned (.agg #[.int .i64 r0, .int .i64 got, .int .i64 r2, .int .i64 r3, .int .i64 r4, .int .i64 r5, .int .i64 r6, .int .i64 r7]) ∧ Below w.heap.size w w' := by
  go_enter Try.func31, Try.ntmps31
  go_wp2_with (go_at_call 52; refine (held_v reg 1 _ hj).mono ?_; rintro e w' ⟨rfl, rfl⟩)
  exact bodyPost_ret (v := .agg #[.int .i64 r0, .int .i64 got, .int .i64 r2, .int .i64 r3, .int .i64 r4, .int .i64 r5, .int .i64 r6, .int .i64 r7]) (by simp [results, Try.results31, go_sem]) rfl ⟨rfl, by go_grown⟩
theorem rtook_put3_2 (r0 r1 r2 r3 r4 r5 r6 r7 val at_ oth reg got : Int) (w : World) (hj : Hid (rg reg = 2)) : Calls Try.prog 31 #[.agg #[.int .i64 r0, .int .i64 r1, .int .i64 r2, .int .i64 r3, .int .i64 r4, .int .i64 r5, .int .i64 r6, .int .i64 r7], .agg #[.int .i64 3, .int .i64 at_, .int .i64 val, .int .i64 oth, .int .i64 reg], .int .i64 got] w fun e w' => e = .returned (.agg #[.int .i64 r0, .int .i64 r1, .int .i64 got, .int .i64 r3, .int .i64 r4, .int .i64 r5, .int .i64 r6, .int .i64 r7]) ∧ Below w.heap.size w w' := by
  go_enter Try.func31, Try.ntmps31
  go_wp2_with (go_at_call 52; refine (held_v reg 2 _ hj).mono ?_; rintro e w' ⟨rfl, rfl⟩)
  exact bodyPost_ret (v := .agg #[.int .i64 r0, .int .i64 r1, .int .i64 got, .int .i64 r3, .int .i64 r4, .int .i64 r5, .int .i64 r6, .int .i64 r7]) (by simp [results, Try.results31, go_sem]) rfl ⟨rfl, by go_grown⟩
theorem rtook_put3_3 (r0 r1 r2 r3 r4 r5 r6 r7 val at_ oth reg got : Int) (w : World) (hj : Hid (rg reg = 3)) : Calls Try.prog 31 #[.agg #[.int .i64 r0, .int .i64 r1, .int .i64 r2, .int .i64 r3, .int .i64 r4, .int .i64 r5, .int .i64 r6, .int .i64 r7], .agg #[.int .i64 3, .int .i64 at_, .int .i64 val, .int .i64 oth, .int .i64 reg], .int .i64 got] w fun e w' => e = .returned (.agg #[.int .i64 r0, .int .i64 r1, .int .i64 r2, .int .i64 got, .int .i64 r4, .int .i64 r5, .int .i64 r6, .int .i64 r7]) ∧ Below w.heap.size w w' := by
  go_enter Try.func31, Try.ntmps31
  go_wp2_with (go_at_call 52; refine (held_v reg 3 _ hj).mono ?_; rintro e w' ⟨rfl, rfl⟩)
  exact bodyPost_ret (v := .agg #[.int .i64 r0, .int .i64 r1, .int .i64 r2, .int .i64 got, .int .i64 r4, .int .i64 r5, .int .i64 r6, .int .i64 r7]) (by simp [results, Try.results31, go_sem]) rfl ⟨rfl, by go_grown⟩
theorem rtook_put3_4 (r0 r1 r2 r3 r4 r5 r6 r7 val at_ oth reg got : Int) (w : World) (hj : Hid (rg reg = 4)) : Calls Try.prog 31 #[.agg #[.int .i64 r0, .int .i64 r1, .int .i64 r2, .int .i64 r3, .int .i64 r4, .int .i64 r5, .int .i64 r6, .int .i64 r7], .agg #[.int .i64 3, .int .i64 at_, .int .i64 val, .int .i64 oth, .int .i64 reg], .int .i64 got] w fun e w' => e = .returned (.agg #[.int .i64 r0, .int .i64 r1, .int .i64 r2, .int .i64 r3, .int .i64 got, .int .i64 r5, .int .i64 r6, .int .i64 r7]) ∧ Below w.heap.size w w' := by
  go_enter Try.func31, Try.ntmps31
  go_wp2_with (go_at_call 52; refine (held_v reg 4 _ hj).mono ?_; rintro e w' ⟨rfl, rfl⟩)
  exact bodyPost_ret (v := .agg #[.int .i64 r0, .int .i64 r1, .int .i64 r2, .int .i64 r3, .int .i64 got, .int .i64 r5, .int .i64 r6, .int .i64 r7]) (by simp [results, Try.results31, go_sem]) rfl ⟨rfl, by go_grown⟩
theorem rtook_put3_5 (r0 r1 r2 r3 r4 r5 r6 r7 val at_ oth reg got : Int) (w : World) (hj : Hid (rg reg = 5)) : Calls Try.prog 31 #[.agg #[.int .i64 r0, .int .i64 r1, .int .i64 r2, .int .i64 r3, .int .i64 r4, .int .i64 r5, .int .i64 r6, .int .i64 r7], .agg #[.int .i64 3, .int .i64 at_, .int .i64 val, .int .i64 oth, .int .i64 reg], .int .i64 got] w fun e w' => e = .returned (.agg #[.int .i64 r0, .int .i64 r1, .int .i64 r2, .int .i64 r3, .int .i64 r4, .int .i64 got, .int .i64 r6, .int .i64 r7]) ∧ Below w.heap.size w w' := by
  go_enter Try.func31, Try.ntmps31
  go_wp2_with (go_at_call 52; refine (held_v reg 5 _ hj).mono ?_; rintro e w' ⟨rfl, rfl⟩)
  exact bodyPost_ret (v := .agg #[.int .i64 r0, .int .i64 r1, .int .i64 r2, .int .i64 r3, .int .i64 r4, .int .i64 got, .int .i64 r6, .int .i64 r7]) (by simp [results, Try.results31, go_sem]) rfl ⟨rfl, by go_grown⟩
theorem rtook_put3_6 (r0 r1 r2 r3 r4 r5 r6 r7 val at_ oth reg got : Int) (w : World) (hj : Hid (rg reg = 6)) : Calls Try.prog 31 #[.agg #[.int .i64 r0, .int .i64 r1, .int .i64 r2, .int .i64 r3, .int .i64 r4, .int .i64 r5, .int .i64 r6, .int .i64 r7], .agg #[.int .i64 3, .int .i64 at_, .int .i64 val, .int .i64 oth, .int .i64 reg], .int .i64 got] w fun e w' => e = .returned (.agg #[.int .i64 r0, .int .i64 r1, .int .i64 r2, .int .i64 r3, .int .i64 r4, .int .i64 r5, .int .i64 got, .int .i64 r7]) ∧ Below w.heap.size w w' := by
  go_enter Try.func31, Try.ntmps31
  go_wp2_with (go_at_call 52; refine (held_v reg 6 _ hj).mono ?_; rintro e w' ⟨rfl, rfl⟩)
  exact bodyPost_ret (v := .agg #[.int .i64 r0, .int .i64 r1, .int .i64 r2, .int .i64 r3, .int .i64 r4, .int .i64 r5, .int .i64 got, .int .i64 r7]) (by simp [results, Try.results31, go_sem]) rfl ⟨rfl, by go_grown⟩
theorem rtook_put3_7 (r0 r1 r2 r3 r4 r5 r6 r7 val at_ oth reg got : Int) (w : World) (hj : Hid (rg reg = 7)) : Calls Try.prog 31 #[.agg #[.int .i64 r0, .int .i64 r1, .int .i64 r2, .int .i64 r3, .int .i64 r4, .int .i64 r5, .int .i64 r6, .int .i64 r7], .agg #[.int .i64 3, .int .i64 at_, .int .i64 val, .int .i64 oth, .int .i64 reg], .int .i64 got] w fun e w' => e = .returned (.agg #[.int .i64 r0, .int .i64 r1, .int .i64 r2, .int .i64 r3, .int .i64 r4, .int .i64 r5, .int .i64 r6, .int .i64 got]) ∧ Below w.heap.size w w' := by
  go_enter Try.func31, Try.ntmps31
  go_wp2_with (go_at_call 52; refine (held_v reg 7 _ hj).mono ?_; rintro e w' ⟨rfl, rfl⟩)
  exact bodyPost_ret (v := .agg #[.int .i64 r0, .int .i64 r1, .int .i64 r2, .int .i64 r3, .int .i64 r4, .int .i64 r5, .int .i64 r6, .int .i64 got]) (by simp [results, Try.results31, go_sem]) rfl ⟨rfl, by go_grown⟩
theorem rtook_yes_0 (r0 r1 r2 r3 r4 r5 r6 r7 at_ oth reg got : Int) (w : World) (hj : Hid (rg reg = 0)) : Calls Try.prog 31 #[.agg #[.int .i64 r0, .int .i64 r1, .int .i64 r2, .int .i64 r3, .int .i64 r4, .int .i64 r5, .int .i64 r6, .int .i64 r7], .agg #[.int .i64 4, .int .i64 at_, .int .i64 got, .int .i64 oth, .int .i64 reg], .int .i64 got] w fun e w' => e = .returned (.agg #[.int .i64 1, .int .i64 r1, .int .i64 r2, .int .i64 r3, .int .i64 r4, .int .i64 r5, .int .i64 r6, .int .i64 r7]) ∧ Below w.heap.size w w' := by
  go_enter Try.func31, Try.ntmps31
  go_wp2_with (go_at_call 52; refine (held_v reg 0 _ hj).mono ?_; rintro e w' ⟨rfl, rfl⟩)
  exact bodyPost_ret (v := .agg #[.int .i64 1, .int .i64 r1, .int .i64 r2, .int .i64 r3, .int .i64 r4, .int .i64 r5, .int .i64 r6, .int .i64 r7]) (by simp [results, Try.results31, go_sem]) rfl ⟨rfl, by go_grown⟩
theorem rtook_yes_1 (r0 r1 r2 r3 r4 r5 r6 r7 at_ oth reg got : Int) (w : World) (hj : Hid (rg reg = 1)) : Calls Try.prog 31 #[.agg #[.int .i64 r0, .int .i64 r1, .int .i64 r2, .int .i64 r3, .int .i64 r4, .int .i64 r5, .int .i64 r6, .int .i64 r7], .agg #[.int .i64 4, .int .i64 at_, .int .i64 got, .int .i64 oth, .int .i64 reg], .int .i64 got] w fun e w' => e = .returned (.agg #[.int .i64 r0, .int .i64 1, .int .i64 r2, .int .i64 r3, .int .i64 r4, .int .i64 r5, .int .i64 r6, .int .i64 r7]) ∧ Below w.heap.size w w' := by
  go_enter Try.func31, Try.ntmps31
  go_wp2_with (go_at_call 52; refine (held_v reg 1 _ hj).mono ?_; rintro e w' ⟨rfl, rfl⟩)
  exact bodyPost_ret (v := .agg #[.int .i64 r0, .int .i64 1, .int .i64 r2, .int .i64 r3, .int .i64 r4, .int .i64 r5, .int .i64 r6, .int .i64 r7]) (by simp [results, Try.results31, go_sem]) rfl ⟨rfl, by go_grown⟩
theorem rtook_yes_2 (r0 r1 r2 r3 r4 r5 r6 r7 at_ oth reg got : Int) (w : World) (hj : Hid (rg reg = 2)) : Calls Try.prog 31 #[.agg #[.int .i64 r0, .int .i64 r1, .int .i64 r2, .int .i64 r3, .int .i64 r4, .int .i64 r5, .int .i64 r6, .int .i64 r7], .agg #[.int .i64 4, .int .i64 at_, .int .i64 got, .int .i64 oth, .int .i64 reg], .int .i64 got] w fun e w' => e = .returned (.agg #[.int .i64 r0, .int .i64 r1, .int .i64 1, .int .i64 r3, .int .i64 r4, .int .i64 r5, .int .i64 r6, .int .i64 r7]) ∧ Below w.heap.size w w' := by
  go_enter Try.func31, Try.ntmps31
  go_wp2_with (go_at_call 52; refine (held_v reg 2 _ hj).mono ?_; rintro e w' ⟨rfl, rfl⟩)
  exact bodyPost_ret (v := .agg #[.int .i64 r0, .int .i64 r1, .int .i64 1, .int .i64 r3, .int .i64 r4, .int .i64 r5, .int .i64 r6, .int .i64 r7]) (by simp [results, Try.results31, go_sem]) rfl ⟨rfl, by go_grown⟩
theorem rtook_yes_3 (r0 r1 r2 r3 r4 r5 r6 r7 at_ oth reg got : Int) (w : World) (hj : Hid (rg reg = 3)) : Calls Try.prog 31 #[.agg #[.int .i64 r0, .int .i64 r1, .int .i64 r2, .int .i64 r3, .int .i64 r4, .int .i64 r5, .int .i64 r6, .int .i64 r7], .agg #[.int .i64 4, .int .i64 at_, .int .i64 got, .int .i64 oth, .int .i64 reg], .int .i64 got] w fun e w' => e = .returned (.agg #[.int .i64 r0, .int .i64 r1, .int .i64 r2, .int .i64 1, .int .i64 r4, .int .i64 r5, .int .i64 r6, .int .i64 r7]) ∧ Below w.heap.size w w' := by
  go_enter Try.func31, Try.ntmps31
  go_wp2_with (go_at_call 52; refine (held_v reg 3 _ hj).mono ?_; rintro e w' ⟨rfl, rfl⟩)
  exact bodyPost_ret (v := .agg #[.int .i64 r0, .int .i64 r1, .int .i64 r2, .int .i64 1, .int .i64 r4, .int .i64 r5, .int .i64 r6, .int .i64 r7]) (by simp [results, Try.results31, go_sem]) rfl ⟨rfl, by go_grown⟩
theorem rtook_yes_4 (r0 r1 r2 r3 r4 r5 r6 r7 at_ oth reg got : Int) (w : World) (hj : Hid (rg reg = 4)) : Calls Try.prog 31 #[.agg #[.int .i64 r0, .int .i64 r1, .int .i64 r2, .int .i64 r3, .int .i64 r4, .int .i64 r5, .int .i64 r6, .int .i64 r7], .agg #[.int .i64 4, .int .i64 at_, .int .i64 got, .int .i64 oth, .int .i64 reg], .int .i64 got] w fun e w' => e = .returned (.agg #[.int .i64 r0, .int .i64 r1, .int .i64 r2, .int .i64 r3, .int .i64 1, .int .i64 r5, .int .i64 r6, .int .i64 r7]) ∧ Below w.heap.size w w' := by
  go_enter Try.func31, Try.ntmps31
  go_wp2_with (go_at_call 52; refine (held_v reg 4 _ hj).mono ?_; rintro e w' ⟨rfl, rfl⟩)
  exact bodyPost_ret (v := .agg #[.int .i64 r0, .int .i64 r1, .int .i64 r2, .int .i64 r3, .int .i64 1, .int .i64 r5, .int .i64 r6, .int .i64 r7]) (by simp [results, Try.results31, go_sem]) rfl ⟨rfl, by go_grown⟩
theorem rtook_yes_5 (r0 r1 r2 r3 r4 r5 r6 r7 at_ oth reg got : Int) (w : World) (hj : Hid (rg reg = 5)) : Calls Try.prog 31 #[.agg #[.int .i64 r0, .int .i64 r1, .int .i64 r2, .int .i64 r3, .int .i64 r4, .int .i64 r5, .int .i64 r6, .int .i64 r7], .agg #[.int .i64 4, .int .i64 at_, .int .i64 got, .int .i64 oth, .int .i64 reg], .int .i64 got] w fun e w' => e = .returned (.agg #[.int .i64 r0, .int .i64 r1, .int .i64 r2, .int .i64 r3, .int .i64 r4, .int .i64 1, .int .i64 r6, .int .i64 r7]) ∧ Below w.heap.size w w' := by
  go_enter Try.func31, Try.ntmps31
  go_wp2_with (go_at_call 52; refine (held_v reg 5 _ hj).mono ?_; rintro e w' ⟨rfl, rfl⟩)
  exact bodyPost_ret (v := .agg #[.int .i64 r0, .int .i64 r1, .int .i64 r2, .int .i64 r3, .int .i64 r4, .int .i64 1, .int .i64 r6, .int .i64 r7]) (by simp [results, Try.results31, go_sem]) rfl ⟨rfl, by go_grown⟩
theorem rtook_yes_6 (r0 r1 r2 r3 r4 r5 r6 r7 at_ oth reg got : Int) (w : World) (hj : Hid (rg reg = 6)) : Calls Try.prog 31 #[.agg #[.int .i64 r0, .int .i64 r1, .int .i64 r2, .int .i64 r3, .int .i64 r4, .int .i64 r5, .int .i64 r6, .int .i64 r7], .agg #[.int .i64 4, .int .i64 at_, .int .i64 got, .int .i64 oth, .int .i64 reg], .int .i64 got] w fun e w' => e = .returned (.agg #[.int .i64 r0, .int .i64 r1, .int .i64 r2, .int .i64 r3, .int .i64 r4, .int .i64 r5, .int .i64 1, .int .i64 r7]) ∧ Below w.heap.size w w' := by
  go_enter Try.func31, Try.ntmps31
  go_wp2_with (go_at_call 52; refine (held_v reg 6 _ hj).mono ?_; rintro e w' ⟨rfl, rfl⟩)
  exact bodyPost_ret (v := .agg #[.int .i64 r0, .int .i64 r1, .int .i64 r2, .int .i64 r3, .int .i64 r4, .int .i64 r5, .int .i64 1, .int .i64 r7]) (by simp [results, Try.results31, go_sem]) rfl ⟨rfl, by go_grown⟩
theorem rtook_yes_7 (r0 r1 r2 r3 r4 r5 r6 r7 at_ oth reg got : Int) (w : World) (hj : Hid (rg reg = 7)) : Calls Try.prog 31 #[.agg #[.int .i64 r0, .int .i64 r1, .int .i64 r2, .int .i64 r3, .int .i64 r4, .int .i64 r5, .int .i64 r6, .int .i64 r7], .agg #[.int .i64 4, .int .i64 at_, .int .i64 got, .int .i64 oth, .int .i64 reg], .int .i64 got] w fun e w' => e = .returned (.agg #[.int .i64 r0, .int .i64 r1, .int .i64 r2, .int .i64 r3, .int .i64 r4, .int .i64 r5, .int .i64 r6, .int .i64 1]) ∧ Below w.heap.size w w' := by
  go_enter Try.func31, Try.ntmps31
  go_wp2_with (go_at_call 52; refine (held_v reg 7 _ hj).mono ?_; rintro e w' ⟨rfl, rfl⟩)
  exact bodyPost_ret (v := .agg #[.int .i64 r0, .int .i64 r1, .int .i64 r2, .int .i64 r3, .int .i64 r4, .int .i64 r5, .int .i64 r6, .int .i64 1]) (by simp [results, Try.results31, go_sem]) rfl ⟨rfl, by go_grown⟩
theorem rtook_no_0 (r0 r1 r2 r3 r4 r5 r6 r7 val at_ oth reg got : Int) (w : World) (hn : (got == val) = false) (hj : Hid (rg reg = 0)) : Calls Try.prog 31 #[.agg #[.int .i64 r0, .int .i64 r1, .int .i64 r2, .int .i64 r3, .int .i64 r4, .int .i64 r5, .int .i64 r6, .int .i64 r7], .agg #[.int .i64 4, .int .i64 at_, .int .i64 val, .int .i64 oth, .int .i64 reg], .int .i64 got] w fun e w' => e = .returned (.agg #[.int .i64 0, .int .i64 r1, .int .i64 r2, .int .i64 r3, .int .i64 r4, .int .i64 r5, .int .i64 r6, .int .i64 r7]) ∧ Below w.heap.size w w' := by
  go_enter Try.func31, Try.ntmps31
  go_wp2_with (go_at_call 52; refine (held_v reg 0 _ hj).mono ?_; rintro e w' ⟨rfl, rfl⟩)
  exact bodyPost_ret (v := .agg #[.int .i64 0, .int .i64 r1, .int .i64 r2, .int .i64 r3, .int .i64 r4, .int .i64 r5, .int .i64 r6, .int .i64 r7]) (by simp [results, Try.results31, go_sem]) rfl ⟨rfl, by go_grown⟩
theorem rtook_no_1 (r0 r1 r2 r3 r4 r5 r6 r7 val at_ oth reg got : Int) (w : World) (hn : (got == val) = false) (hj : Hid (rg reg = 1)) : Calls Try.prog 31 #[.agg #[.int .i64 r0, .int .i64 r1, .int .i64 r2, .int .i64 r3, .int .i64 r4, .int .i64 r5, .int .i64 r6, .int .i64 r7], .agg #[.int .i64 4, .int .i64 at_, .int .i64 val, .int .i64 oth, .int .i64 reg], .int .i64 got] w fun e w' => e = .returned (.agg #[.int .i64 r0, .int .i64 0, .int .i64 r2, .int .i64 r3, .int .i64 r4, .int .i64 r5, .int .i64 r6, .int .i64 r7]) ∧ Below w.heap.size w w' := by
  go_enter Try.func31, Try.ntmps31
  go_wp2_with (go_at_call 52; refine (held_v reg 1 _ hj).mono ?_; rintro e w' ⟨rfl, rfl⟩)
  exact bodyPost_ret (v := .agg #[.int .i64 r0, .int .i64 0, .int .i64 r2, .int .i64 r3, .int .i64 r4, .int .i64 r5, .int .i64 r6, .int .i64 r7]) (by simp [results, Try.results31, go_sem]) rfl ⟨rfl, by go_grown⟩
theorem rtook_no_2 (r0 r1 r2 r3 r4 r5 r6 r7 val at_ oth reg got : Int) (w : World) (hn : (got == val) = false) (hj : Hid (rg reg = 2)) : Calls Try.prog 31 #[.agg #[.int .i64 r0, .int .i64 r1, .int .i64 r2, .int .i64 r3, .int .i64 r4, .int .i64 r5, .int .i64 r6, .int .i64 r7], .agg #[.int .i64 4, .int .i64 at_, .int .i64 val, .int .i64 oth, .int .i64 reg], .int .i64 got] w fun e w' => e = .returned (.agg #[.int .i64 r0, .int .i64 r1, .int .i64 0, .int .i64 r3, .int .i64 r4, .int .i64 r5, .int .i64 r6, .int .i64 r7]) ∧ Below w.heap.size w w' := by
  go_enter Try.func31, Try.ntmps31
  go_wp2_with (go_at_call 52; refine (held_v reg 2 _ hj).mono ?_; rintro e w' ⟨rfl, rfl⟩)
  exact bodyPost_ret (v := .agg #[.int .i64 r0, .int .i64 r1, .int .i64 0, .int .i64 r3, .int .i64 r4, .int .i64 r5, .int .i64 r6, .int .i64 r7]) (by simp [results, Try.results31, go_sem]) rfl ⟨rfl, by go_grown⟩
theorem rtook_no_3 (r0 r1 r2 r3 r4 r5 r6 r7 val at_ oth reg got : Int) (w : World) (hn : (got == val) = false) (hj : Hid (rg reg = 3)) : Calls Try.prog 31 #[.agg #[.int .i64 r0, .int .i64 r1, .int .i64 r2, .int .i64 r3, .int .i64 r4, .int .i64 r5, .int .i64 r6, .int .i64 r7], .agg #[.int .i64 4, .int .i64 at_, .int .i64 val, .int .i64 oth, .int .i64 reg], .int .i64 got] w fun e w' => e = .returned (.agg #[.int .i64 r0, .int .i64 r1, .int .i64 r2, .int .i64 0, .int .i64 r4, .int .i64 r5, .int .i64 r6, .int .i64 r7]) ∧ Below w.heap.size w w' := by
  go_enter Try.func31, Try.ntmps31
  go_wp2_with (go_at_call 52; refine (held_v reg 3 _ hj).mono ?_; rintro e w' ⟨rfl, rfl⟩)
  exact bodyPost_ret (v := .agg #[.int .i64 r0, .int .i64 r1, .int .i64 r2, .int .i64 0, .int .i64 r4, .int .i64 r5, .int .i64 r6, .int .i64 r7]) (by simp [results, Try.results31, go_sem]) rfl ⟨rfl, by go_grown⟩
theorem rtook_no_4 (r0 r1 r2 r3 r4 r5 r6 r7 val at_ oth reg got : Int) (w : World) (hn : (got == val) = false) (hj : Hid (rg reg = 4)) : Calls Try.prog 31 #[.agg #[.int .i64 r0, .int .i64 r1, .int .i64 r2, .int .i64 r3, .int .i64 r4, .int .i64 r5, .int .i64 r6, .int .i64 r7], .agg #[.int .i64 4, .int .i64 at_, .int .i64 val, .int .i64 oth, .int .i64 reg], .int .i64 got] w fun e w' => e = .returned (.agg #[.int .i64 r0, .int .i64 r1, .int .i64 r2, .int .i64 r3, .int .i64 0, .int .i64 r5, .int .i64 r6, .int .i64 r7]) ∧ Below w.heap.size w w' := by
  go_enter Try.func31, Try.ntmps31
  go_wp2_with (go_at_call 52; refine (held_v reg 4 _ hj).mono ?_; rintro e w' ⟨rfl, rfl⟩)
  exact bodyPost_ret (v := .agg #[.int .i64 r0, .int .i64 r1, .int .i64 r2, .int .i64 r3, .int .i64 0, .int .i64 r5, .int .i64 r6, .int .i64 r7]) (by simp [results, Try.results31, go_sem]) rfl ⟨rfl, by go_grown⟩
theorem rtook_no_5 (r0 r1 r2 r3 r4 r5 r6 r7 val at_ oth reg got : Int) (w : World) (hn : (got == val) = false) (hj : Hid (rg reg = 5)) : Calls Try.prog 31 #[.agg #[.int .i64 r0, .int .i64 r1, .int .i64 r2, .int .i64 r3, .int .i64 r4, .int .i64 r5, .int .i64 r6, .int .i64 r7], .agg #[.int .i64 4, .int .i64 at_, .int .i64 val, .int .i64 oth, .int .i64 reg], .int .i64 got] w fun e w' => e = .returned (.agg #[.int .i64 r0, .int .i64 r1, .int .i64 r2, .int .i64 r3, .int .i64 r4, .int .i64 0, .int .i64 r6, .int .i64 r7]) ∧ Below w.heap.size w w' := by
  go_enter Try.func31, Try.ntmps31
  go_wp2_with (go_at_call 52; refine (held_v reg 5 _ hj).mono ?_; rintro e w' ⟨rfl, rfl⟩)
  exact bodyPost_ret (v := .agg #[.int .i64 r0, .int .i64 r1, .int .i64 r2, .int .i64 r3, .int .i64 r4, .int .i64 0, .int .i64 r6, .int .i64 r7]) (by simp [results, Try.results31, go_sem]) rfl ⟨rfl, by go_grown⟩
theorem rtook_no_6 (r0 r1 r2 r3 r4 r5 r6 r7 val at_ oth reg got : Int) (w : World) (hn : (got == val) = false) (hj : Hid (rg reg = 6)) : Calls Try.prog 31 #[.agg #[.int .i64 r0, .int .i64 r1, .int .i64 r2, .int .i64 r3, .int .i64 r4, .int .i64 r5, .int .i64 r6, .int .i64 r7], .agg #[.int .i64 4, .int .i64 at_, .int .i64 val, .int .i64 oth, .int .i64 reg], .int .i64 got] w fun e w' => e = .returned (.agg #[.int .i64 r0, .int .i64 r1, .int .i64 r2, .int .i64 r3, .int .i64 r4, .int .i64 r5, .int .i64 0, .int .i64 r7]) ∧ Below w.heap.size w w' := by
  go_enter Try.func31, Try.ntmps31
  go_wp2_with (go_at_call 52; refine (held_v reg 6 _ hj).mono ?_; rintro e w' ⟨rfl, rfl⟩)
  exact bodyPost_ret (v := .agg #[.int .i64 r0, .int .i64 r1, .int .i64 r2, .int .i64 r3, .int .i64 r4, .int .i64 r5, .int .i64 0, .int .i64 r7]) (by simp [results, Try.results31, go_sem]) rfl ⟨rfl, by go_grown⟩
theorem rtook_no_7 (r0 r1 r2 r3 r4 r5 r6 r7 val at_ oth reg got : Int) (w : World) (hn : (got == val) = false) (hj : Hid (rg reg = 7)) : Calls Try.prog 31 #[.agg #[.int .i64 r0, .int .i64 r1, .int .i64 r2, .int .i64 r3, .int .i64 r4, .int .i64 r5, .int .i64 r6, .int .i64 r7], .agg #[.int .i64 4, .int .i64 at_, .int .i64 val, .int .i64 oth, .int .i64 reg], .int .i64 got] w fun e w' => e = .returned (.agg #[.int .i64 r0, .int .i64 r1, .int .i64 r2, .int .i64 r3, .int .i64 r4, .int .i64 r5, .int .i64 r6, .int .i64 0]) ∧ Below w.heap.size w w' := by
  go_enter Try.func31, Try.ntmps31
  go_wp2_with (go_at_call 52; refine (held_v reg 7 _ hj).mono ?_; rintro e w' ⟨rfl, rfl⟩)
  exact bodyPost_ret (v := .agg #[.int .i64 r0, .int .i64 r1, .int .i64 r2, .int .i64 r3, .int .i64 r4, .int .i64 r5, .int .i64 r6, .int .i64 0]) (by simp [results, Try.results31, go_sem]) rfl ⟨rfl, by go_grown⟩
theorem rtook_other_0 (r0 r1 r2 r3 r4 r5 r6 r7 kind val at_ oth reg got : Int) (w : World) (k1 : (kind == 1) = false) (k3 : (kind == 3) = false) (k4 : (kind == 4) = false) (hj : Hid (rg reg = 0)) : Calls Try.prog 31 #[.agg #[.int .i64 r0, .int .i64 r1, .int .i64 r2, .int .i64 r3, .int .i64 r4, .int .i64 r5, .int .i64 r6, .int .i64 r7], .agg #[.int .i64 kind, .int .i64 at_, .int .i64 val, .int .i64 oth, .int .i64 reg], .int .i64 got] w fun e w' => e = .returned (.agg #[.int .i64 r0, .int .i64 r1, .int .i64 r2, .int .i64 r3, .int .i64 r4, .int .i64 r5, .int .i64 r6, .int .i64 r7]) ∧ Below w.heap.size w w' := by
  go_enter Try.func31, Try.ntmps31
  go_wp2_with (go_at_call 52; refine (held_v reg 0 _ hj).mono ?_; rintro e w' ⟨rfl, rfl⟩)
  exact bodyPost_ret (v := .agg #[.int .i64 r0, .int .i64 r1, .int .i64 r2, .int .i64 r3, .int .i64 r4, .int .i64 r5, .int .i64 r6, .int .i64 r7]) (by simp [results, Try.results31, go_sem]) rfl ⟨rfl, by go_grown⟩
theorem rtook_other_1 (r0 r1 r2 r3 r4 r5 r6 r7 kind val at_ oth reg got : Int) (w : World) (k1 : (kind == 1) = false) (k3 : (kind == 3) = false) (k4 : (kind == 4) = false) (hj : Hid (rg reg = 1)) : Calls Try.prog 31 #[.agg #[.int .i64 r0, .int .i64 r1, .int .i64 r2, .int .i64 r3, .int .i64 r4, .int .i64 r5, .int .i64 r6, .int .i64 r7], .agg #[.int .i64 kind, .int .i64 at_, .int .i64 val, .int .i64 oth, .int .i64 reg], .int .i64 got] w fun e w' => e = .returned (.agg #[.int .i64 r0, .int .i64 r1, .int .i64 r2, .int .i64 r3, .int .i64 r4, .int .i64 r5, .int .i64 r6, .int .i64 r7]) ∧ Below w.heap.size w w' := by
  go_enter Try.func31, Try.ntmps31
  go_wp2_with (go_at_call 52; refine (held_v reg 1 _ hj).mono ?_; rintro e w' ⟨rfl, rfl⟩)
  exact bodyPost_ret (v := .agg #[.int .i64 r0, .int .i64 r1, .int .i64 r2, .int .i64 r3, .int .i64 r4, .int .i64 r5, .int .i64 r6, .int .i64 r7]) (by simp [results, Try.results31, go_sem]) rfl ⟨rfl, by go_grown⟩
theorem rtook_other_2 (r0 r1 r2 r3 r4 r5 r6 r7 kind val at_ oth reg got : Int) (w : World) (k1 : (kind == 1) = false) (k3 : (kind == 3) = false) (k4 : (kind == 4) = false) (hj : Hid (rg reg = 2)) : Calls Try.prog 31 #[.agg #[.int .i64 r0, .int .i64 r1, .int .i64 r2, .int .i64 r3, .int .i64 r4, .int .i64 r5, .int .i64 r6, .int .i64 r7], .agg #[.int .i64 kind, .int .i64 at_, .int .i64 val, .int .i64 oth, .int .i64 reg], .int .i64 got] w fun e w' => e = .returned (.agg #[.int .i64 r0, .int .i64 r1, .int .i64 r2, .int .i64 r3, .int .i64 r4, .int .i64 r5, .int .i64 r6, .int .i64 r7]) ∧ Below w.heap.size w w' := by
  go_enter Try.func31, Try.ntmps31
  go_wp2_with (go_at_call 52; refine (held_v reg 2 _ hj).mono ?_; rintro e w' ⟨rfl, rfl⟩)
  exact bodyPost_ret (v := .agg #[.int .i64 r0, .int .i64 r1, .int .i64 r2, .int .i64 r3, .int .i64 r4, .int .i64 r5, .int .i64 r6, .int .i64 r7]) (by simp [results, Try.results31, go_sem]) rfl ⟨rfl, by go_grown⟩
theorem rtook_other_3 (r0 r1 r2 r3 r4 r5 r6 r7 kind val at_ oth reg got : Int) (w : World) (k1 : (kind == 1) = false) (k3 : (kind == 3) = false) (k4 : (kind == 4) = false) (hj : Hid (rg reg = 3)) : Calls Try.prog 31 #[.agg #[.int .i64 r0, .int .i64 r1, .int .i64 r2, .int .i64 r3, .int .i64 r4, .int .i64 r5, .int .i64 r6, .int .i64 r7], .agg #[.int .i64 kind, .int .i64 at_, .int .i64 val, .int .i64 oth, .int .i64 reg], .int .i64 got] w fun e w' => e = .returned (.agg #[.int .i64 r0, .int .i64 r1, .int .i64 r2, .int .i64 r3, .int .i64 r4, .int .i64 r5, .int .i64 r6, .int .i64 r7]) ∧ Below w.heap.size w w' := by
  go_enter Try.func31, Try.ntmps31
  go_wp2_with (go_at_call 52; refine (held_v reg 3 _ hj).mono ?_; rintro e w' ⟨rfl, rfl⟩)
  exact bodyPost_ret (v := .agg #[.int .i64 r0, .int .i64 r1, .int .i64 r2, .int .i64 r3, .int .i64 r4, .int .i64 r5, .int .i64 r6, .int .i64 r7]) (by simp [results, Try.results31, go_sem]) rfl ⟨rfl, by go_grown⟩
theorem rtook_other_4 (r0 r1 r2 r3 r4 r5 r6 r7 kind val at_ oth reg got : Int) (w : World) (k1 : (kind == 1) = false) (k3 : (kind == 3) = false) (k4 : (kind == 4) = false) (hj : Hid (rg reg = 4)) : Calls Try.prog 31 #[.agg #[.int .i64 r0, .int .i64 r1, .int .i64 r2, .int .i64 r3, .int .i64 r4, .int .i64 r5, .int .i64 r6, .int .i64 r7], .agg #[.int .i64 kind, .int .i64 at_, .int .i64 val, .int .i64 oth, .int .i64 reg], .int .i64 got] w fun e w' => e = .returned (.agg #[.int .i64 r0, .int .i64 r1, .int .i64 r2, .int .i64 r3, .int .i64 r4, .int .i64 r5, .int .i64 r6, .int .i64 r7]) ∧ Below w.heap.size w w' := by
  go_enter Try.func31, Try.ntmps31
  go_wp2_with (go_at_call 52; refine (held_v reg 4 _ hj).mono ?_; rintro e w' ⟨rfl, rfl⟩)
  exact bodyPost_ret (v := .agg #[.int .i64 r0, .int .i64 r1, .int .i64 r2, .int .i64 r3, .int .i64 r4, .int .i64 r5, .int .i64 r6, .int .i64 r7]) (by simp [results, Try.results31, go_sem]) rfl ⟨rfl, by go_grown⟩
theorem rtook_other_5 (r0 r1 r2 r3 r4 r5 r6 r7 kind val at_ oth reg got : Int) (w : World) (k1 : (kind == 1) = false) (k3 : (kind == 3) = false) (k4 : (kind == 4) = false) (hj : Hid (rg reg = 5)) : Calls Try.prog 31 #[.agg #[.int .i64 r0, .int .i64 r1, .int .i64 r2, .int .i64 r3, .int .i64 r4, .int .i64 r5, .int .i64 r6, .int .i64 r7], .agg #[.int .i64 kind, .int .i64 at_, .int .i64 val, .int .i64 oth, .int .i64 reg], .int .i64 got] w fun e w' => e = .returned (.agg #[.int .i64 r0, .int .i64 r1, .int .i64 r2, .int .i64 r3, .int .i64 r4, .int .i64 r5, .int .i64 r6, .int .i64 r7]) ∧ Below w.heap.size w w' := by
  go_enter Try.func31, Try.ntmps31
  go_wp2_with (go_at_call 52; refine (held_v reg 5 _ hj).mono ?_; rintro e w' ⟨rfl, rfl⟩)
  exact bodyPost_ret (v := .agg #[.int .i64 r0, .int .i64 r1, .int .i64 r2, .int .i64 r3, .int .i64 r4, .int .i64 r5, .int .i64 r6, .int .i64 r7]) (by simp [results, Try.results31, go_sem]) rfl ⟨rfl, by go_grown⟩
theorem rtook_other_6 (r0 r1 r2 r3 r4 r5 r6 r7 kind val at_ oth reg got : Int) (w : World) (k1 : (kind == 1) = false) (k3 : (kind == 3) = false) (k4 : (kind == 4) = false) (hj : Hid (rg reg = 6)) : Calls Try.prog 31 #[.agg #[.int .i64 r0, .int .i64 r1, .int .i64 r2, .int .i64 r3, .int .i64 r4, .int .i64 r5, .int .i64 r6, .int .i64 r7], .agg #[.int .i64 kind, .int .i64 at_, .int .i64 val, .int .i64 oth, .int .i64 reg], .int .i64 got] w fun e w' => e = .returned (.agg #[.int .i64 r0, .int .i64 r1, .int .i64 r2, .int .i64 r3, .int .i64 r4, .int .i64 r5, .int .i64 r6, .int .i64 r7]) ∧ Below w.heap.size w w' := by
  go_enter Try.func31, Try.ntmps31
  go_wp2_with (go_at_call 52; refine (held_v reg 6 _ hj).mono ?_; rintro e w' ⟨rfl, rfl⟩)
  exact bodyPost_ret (v := .agg #[.int .i64 r0, .int .i64 r1, .int .i64 r2, .int .i64 r3, .int .i64 r4, .int .i64 r5, .int .i64 r6, .int .i64 r7]) (by simp [results, Try.results31, go_sem]) rfl ⟨rfl, by go_grown⟩
theorem rtook_other_7 (r0 r1 r2 r3 r4 r5 r6 r7 kind val at_ oth reg got : Int) (w : World) (k1 : (kind == 1) = false) (k3 : (kind == 3) = false) (k4 : (kind == 4) = false) (hj : Hid (rg reg = 7)) : Calls Try.prog 31 #[.agg #[.int .i64 r0, .int .i64 r1, .int .i64 r2, .int .i64 r3, .int .i64 r4, .int .i64 r5, .int .i64 r6, .int .i64 r7], .agg #[.int .i64 kind, .int .i64 at_, .int .i64 val, .int .i64 oth, .int .i64 reg], .int .i64 got] w fun e w' => e = .returned (.agg #[.int .i64 r0, .int .i64 r1, .int .i64 r2, .int .i64 r3, .int .i64 r4, .int .i64 r5, .int .i64 r6, .int .i64 r7]) ∧ Below w.heap.size w w' := by
  go_enter Try.func31, Try.ntmps31
  go_wp2_with (go_at_call 52; refine (held_v reg 7 _ hj).mono ?_; rintro e w' ⟨rfl, rfl⟩)
  exact bodyPost_ret (v := .agg #[.int .i64 r0, .int .i64 r1, .int .i64 r2, .int .i64 r3, .int .i64 r4, .int .i64 r5, .int .i64 r6, .int .i64 r7]) (by simp [results, Try.results31, go_sem]) rfl ⟨rfl, by go_grown⟩
theorem rtook_v (r0 r1 r2 r3 r4 r5 r6 r7 kind at_ val oth reg got s0 s1 s2 s3 s4 s5 s6 s7 : Int) (w : World) (h : Hid (tookF [r0, r1, r2, r3, r4, r5, r6, r7] kind val got (rg reg) = [s0, s1, s2, s3, s4, s5, s6, s7])) : Calls Try.prog 31 #[.agg #[.int .i64 r0, .int .i64 r1, .int .i64 r2, .int .i64 r3, .int .i64 r4, .int .i64 r5, .int .i64 r6, .int .i64 r7], .agg #[.int .i64 kind, .int .i64 at_, .int .i64 val, .int .i64 oth, .int .i64 reg], .int .i64 got] w fun e w' => e = .returned (.agg #[.int .i64 s0, .int .i64 s1, .int .i64 s2, .int .i64 s3, .int .i64 s4, .int .i64 s5, .int .i64 s6, .int .i64 s7]) ∧ Below w.heap.size w w' := by
  have h := h.out
  unfold tookF at h
  by_cases h1 : kind = 1
  · subst h1
    rw [if_pos (Or.inl rfl)] at h
    rcases rg_cases reg with hj | hj | hj | hj | hj | hj | hj | hj <;> rw [hj] at h <;> simp at h <;> obtain ⟨rfl, rfl, rfl, rfl, rfl, rfl, rfl, rfl⟩ := h
    · exact rtook_put1_0 r0 r1 r2 r3 r4 r5 r6 r7 val at_ oth reg got w hj
    · exact rtook_put1_1 r0 r1 r2 r3 r4 r5 r6 r7 val at_ oth reg got w hj
    · exact rtook_put1_2 r0 r1 r2 r3 r4 r5 r6 r7 val at_ oth reg got w hj
    · exact rtook_put1_3 r0 r1 r2 r3 r4 r5 r6 r7 val at_ oth reg got w hj
    · exact rtook_put1_4 r0 r1 r2 r3 r4 r5 r6 r7 val at_ oth reg got w hj
    · exact rtook_put1_5 r0 r1 r2 r3 r4 r5 r6 r7 val at_ oth reg got w hj
    · exact rtook_put1_6 r0 r1 r2 r3 r4 r5 r6 r7 val at_ oth reg got w hj
    · exact rtook_put1_7 r0 r1 r2 r3 r4 r5 r6 r7 val at_ oth reg got w hj
  by_cases h3 : kind = 3
  · subst h3
    rw [if_pos (Or.inr rfl)] at h
    rcases rg_cases reg with hj | hj | hj | hj | hj | hj | hj | hj <;> rw [hj] at h <;> simp at h <;> obtain ⟨rfl, rfl, rfl, rfl, rfl, rfl, rfl, rfl⟩ := h
    · exact rtook_put3_0 r0 r1 r2 r3 r4 r5 r6 r7 val at_ oth reg got w hj
    · exact rtook_put3_1 r0 r1 r2 r3 r4 r5 r6 r7 val at_ oth reg got w hj
    · exact rtook_put3_2 r0 r1 r2 r3 r4 r5 r6 r7 val at_ oth reg got w hj
    · exact rtook_put3_3 r0 r1 r2 r3 r4 r5 r6 r7 val at_ oth reg got w hj
    · exact rtook_put3_4 r0 r1 r2 r3 r4 r5 r6 r7 val at_ oth reg got w hj
    · exact rtook_put3_5 r0 r1 r2 r3 r4 r5 r6 r7 val at_ oth reg got w hj
    · exact rtook_put3_6 r0 r1 r2 r3 r4 r5 r6 r7 val at_ oth reg got w hj
    · exact rtook_put3_7 r0 r1 r2 r3 r4 r5 r6 r7 val at_ oth reg got w hj
  rw [if_neg (by omega)] at h
  by_cases h4 : kind = 4
  · subst h4
    rw [if_pos rfl] at h
    by_cases hg : got = val
    · subst hg
      rw [if_pos rfl] at h
      rcases rg_cases reg with hj | hj | hj | hj | hj | hj | hj | hj <;> rw [hj] at h <;> simp at h <;> obtain ⟨rfl, rfl, rfl, rfl, rfl, rfl, rfl, rfl⟩ := h
      · exact rtook_yes_0 r0 r1 r2 r3 r4 r5 r6 r7 at_ oth reg got w hj
      · exact rtook_yes_1 r0 r1 r2 r3 r4 r5 r6 r7 at_ oth reg got w hj
      · exact rtook_yes_2 r0 r1 r2 r3 r4 r5 r6 r7 at_ oth reg got w hj
      · exact rtook_yes_3 r0 r1 r2 r3 r4 r5 r6 r7 at_ oth reg got w hj
      · exact rtook_yes_4 r0 r1 r2 r3 r4 r5 r6 r7 at_ oth reg got w hj
      · exact rtook_yes_5 r0 r1 r2 r3 r4 r5 r6 r7 at_ oth reg got w hj
      · exact rtook_yes_6 r0 r1 r2 r3 r4 r5 r6 r7 at_ oth reg got w hj
      · exact rtook_yes_7 r0 r1 r2 r3 r4 r5 r6 r7 at_ oth reg got w hj
    · rw [if_neg hg] at h
      have hn : (got == val) = false := by simpa using hg
      rcases rg_cases reg with hj | hj | hj | hj | hj | hj | hj | hj <;> rw [hj] at h <;> simp at h <;> obtain ⟨rfl, rfl, rfl, rfl, rfl, rfl, rfl, rfl⟩ := h
      · exact rtook_no_0 r0 r1 r2 r3 r4 r5 r6 r7 val at_ oth reg got w hn hj
      · exact rtook_no_1 r0 r1 r2 r3 r4 r5 r6 r7 val at_ oth reg got w hn hj
      · exact rtook_no_2 r0 r1 r2 r3 r4 r5 r6 r7 val at_ oth reg got w hn hj
      · exact rtook_no_3 r0 r1 r2 r3 r4 r5 r6 r7 val at_ oth reg got w hn hj
      · exact rtook_no_4 r0 r1 r2 r3 r4 r5 r6 r7 val at_ oth reg got w hn hj
      · exact rtook_no_5 r0 r1 r2 r3 r4 r5 r6 r7 val at_ oth reg got w hn hj
      · exact rtook_no_6 r0 r1 r2 r3 r4 r5 r6 r7 val at_ oth reg got w hn hj
      · exact rtook_no_7 r0 r1 r2 r3 r4 r5 r6 r7 val at_ oth reg got w hn hj
  · rw [if_neg h4] at h
    have k1 : (kind == 1) = false := by simpa using h1
    have k3 : (kind == 3) = false := by simpa using h3
    have k4 : (kind == 4) = false := by simpa using h4
    simp at h
    obtain ⟨rfl, rfl, rfl, rfl, rfl, rfl, rfl, rfl⟩ := h
    rcases rg_cases reg with hj | hj | hj | hj | hj | hj | hj | hj
    · exact rtook_other_0 r0 r1 r2 r3 r4 r5 r6 r7 kind val at_ oth reg got w k1 k3 k4 hj
    · exact rtook_other_1 r0 r1 r2 r3 r4 r5 r6 r7 kind val at_ oth reg got w k1 k3 k4 hj
    · exact rtook_other_2 r0 r1 r2 r3 r4 r5 r6 r7 kind val at_ oth reg got w k1 k3 k4 hj
    · exact rtook_other_3 r0 r1 r2 r3 r4 r5 r6 r7 kind val at_ oth reg got w k1 k3 k4 hj
    · exact rtook_other_4 r0 r1 r2 r3 r4 r5 r6 r7 kind val at_ oth reg got w k1 k3 k4 hj
    · exact rtook_other_5 r0 r1 r2 r3 r4 r5 r6 r7 kind val at_ oth reg got w k1 k3 k4 hj
    · exact rtook_other_6 r0 r1 r2 r3 r4 r5 r6 r7 kind val at_ oth reg got w k1 k3 k4 hj
    · exact rtook_other_7 r0 r1 r2 r3 r4 r5 r6 r7 kind val at_ oth reg got w k1 k3 k4 hj
end Go.Proofs.Ytpcpohbbmeonbaa.step
