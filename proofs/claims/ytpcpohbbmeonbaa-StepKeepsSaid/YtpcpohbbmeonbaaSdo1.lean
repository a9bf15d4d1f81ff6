/- The contracts of layer 8's Do, and of the reference's: what an instruction does, an operation each (part s1). -/
import Derived.Test.YtpcpohbbmeonbaaStep
import Derived.Test.YtpcpohbbmeonbaaDo01
import Derived.Test.YtpcpohbbmeonbaaAt8
import Derived.Test.YtpcpohbbmeonbaaEff
import Derived.RegionTactic
import Derived.Deep.RegionHeld3
import Derived.Outline
namespace Go.Proofs.Ytpcpohbbmeonbaa.step
open Go.ChangeShapes Go.WideShapes Go.ChangeAt Go.RowKit
open Go.Proofs.Ytpcpohbbmeonbaa.ref01
attribute [local go_sem ↓] Go.wp_at_zero Go.wp_at_succ
set_option linter.unusedVariables false
set_option linter.unusedSimpArgs false
set_option maxHeartbeats 8000000 in
set_option maxRecDepth 20000 in
theorem sdo_move (e0 e1 e2 e3 e4 A B C pc : Int) (r : Nat → Int) (a b c : Nat) (w : World) (ha : Hid (rg A = a)) (hb : Hid (rg B = b)) (hc : Hid (rg C = c)) (ha8 : a < 8) (hb8 : b < 8) (hc8 : c < 8) (hpc : pc ≤ 4611686018427387904) (hpc0 : -9223372036854775808 ≤ pc) (hK : Hid ((decide (3 ≤ (2 : Int)) && decide ((2 : Int) ≤ 12)) = false)) (hE : Hid (effF 2 A a (upd r a (r b) a) (upd r a (r b) b) (upd r a (r b) c) = [e0, e1, e2, e3, e4])) :
    Calls Try.prog 29 #[.agg #[.int .i64 2, .int .i64 A, .int .i64 B, .int .i64 C], .int .i64 pc, .agg #[.int .i64 (r 0), .int .i64 (r 1), .int .i64 (r 2), .int .i64 (r 3), .int .i64 (r 4), .int .i64 (r 5), .int .i64 (r 6), .int .i64 (r 7)]] w fun e w' => e = .returned (.tuple #[.int .i64 (pc + 1), .agg #[.int .i64 (upd r a (r b) 0), .int .i64 (upd r a (r b) 1), .int .i64 (upd r a (r b) 2), .int .i64 (upd r a (r b) 3), .int .i64 (upd r a (r b) 4), .int .i64 (upd r a (r b) 5), .int .i64 (upd r a (r b) 6), .int .i64 (upd r a (r b) 7)], .agg #[.int .i64 e0, .int .i64 e1, .int .i64 e2, .int .i64 e3, .int .i64 e4], .int .i64 0]) ∧ Below w.heap.size w w' := by
  have hsd : ∀ (u : World) (m : Nat) (p : Addr) (x : Value), (u.drewN m).setCell p x = (u.setCell p x).drewN m := fun _ _ _ _ => rfl
  have hal := at8 r a
  have hbl := at8 r b
  have hcl := at8 r c
  have gA : (0 : Int) ≤ (a : Int) := by omega
  have gA8 : (a : Int) < 8 := by omega
  have gB : (0 : Int) ≤ (b : Int) := by omega
  have gB8 : (b : Int) < 8 := by omega
  have gC : (0 : Int) ≤ (c : Int) := by omega
  have gC8 : (c : Int) < 8 := by omega
  have hset := set8 r a (r b) ha8
  go_enter Try.func29, Try.ntmps29
  go_wp2_with fail
  go_quiet ((go_at_call 48; exact quiet_eq (register_v _ _ _ (by assumption))))
  go_wp2_with (go_at_call 49; refine (known_b _ false _ hK).mono ?_; rintro e w' ⟨rfl, rfl⟩)
  obtain ⟨W, hW⟩ : ∃ W, W = ((((w.alloc (Obj.cells #[.int .i64 2, .int .i64 A, .int .i64 B, .int .i64 C] 39)).alloc (Obj.cells #[.int .i64 (upd r a (r b) 0), .int .i64 (upd r a (r b) 1), .int .i64 (upd r a (r b) 2), .int .i64 (upd r a (r b) 3), .int .i64 (upd r a (r b) 4), .int .i64 (upd r a (r b) 5), .int .i64 (upd r a (r b) 6), .int .i64 (upd r a (r b) 7)] 40)).alloc (Obj.cells #[.int .i64 0, .int .i64 0, .int .i64 0, .int .i64 0, .int .i64 0, .int .i64 0, .int .i64 0, .int .i64 0] 40)).alloc (Obj.cells #[.int .i64 0, .int .i64 0, .int .i64 0, .int .i64 0, .int .i64 0] 42)).drewN nq := ⟨_, rfl⟩
  have x0 : W.cell? ⟨w.heap.size, 0, none⟩ = some (.int .i64 2) := by rw [hW]; go_simp
  have x1 : W.cell? ⟨w.heap.size, 1, none⟩ = some (.int .i64 A) := by rw [hW]; go_simp
  have x2 : W.cell? ⟨w.heap.size, 2, none⟩ = some (.int .i64 B) := by rw [hW]; go_simp
  have x3 : W.cell? ⟨w.heap.size, 3, none⟩ = some (.int .i64 C) := by rw [hW]; go_simp
  have s0 : W.cell? ⟨(w.heap.size + 1), 0, none⟩ = some (.int .i64 (upd r a (r b) 0)) := by rw [hW]; go_simp
  have s1 : W.cell? ⟨(w.heap.size + 1), 1, none⟩ = some (.int .i64 (upd r a (r b) 1)) := by rw [hW]; go_simp
  have s2 : W.cell? ⟨(w.heap.size + 1), 2, none⟩ = some (.int .i64 (upd r a (r b) 2)) := by rw [hW]; go_simp
  have s3 : W.cell? ⟨(w.heap.size + 1), 3, none⟩ = some (.int .i64 (upd r a (r b) 3)) := by rw [hW]; go_simp
  have s4 : W.cell? ⟨(w.heap.size + 1), 4, none⟩ = some (.int .i64 (upd r a (r b) 4)) := by rw [hW]; go_simp
  have s5 : W.cell? ⟨(w.heap.size + 1), 5, none⟩ = some (.int .i64 (upd r a (r b) 5)) := by rw [hW]; go_simp
  have s6 : W.cell? ⟨(w.heap.size + 1), 6, none⟩ = some (.int .i64 (upd r a (r b) 6)) := by rw [hW]; go_simp
  have s7 : W.cell? ⟨(w.heap.size + 1), 7, none⟩ = some (.int .i64 (upd r a (r b) 7)) := by rw [hW]; go_simp
  have sa : W.cell? ⟨(w.heap.size + 1), a, none⟩ = some (.int .i64 (upd r a (r b) a)) := by first | (rw [hW]; go_simp; done) | (have h8 := eightc s0 s1 s2 s3 s4 s5 s6 s7; exact h8 a ha8)
  have sb : W.cell? ⟨(w.heap.size + 1), b, none⟩ = some (.int .i64 (upd r a (r b) b)) := by first | (rw [hW]; go_simp; done) | (have h8 := eightc s0 s1 s2 s3 s4 s5 s6 s7; exact h8 b hb8)
  have sc : W.cell? ⟨(w.heap.size + 1), c, none⟩ = some (.int .i64 (upd r a (r b) c)) := by first | (rw [hW]; go_simp; done) | (have h8 := eightc s0 s1 s2 s3 s4 s5 s6 s7; exact h8 c hc8)
  have p0 : W.cell? ⟨(w.heap.size + 1 + 1), 0, none⟩ = some (.int .i64 0) := by rw [hW]; go_simp
  have q0 : W.frozen? ⟨(w.heap.size + 1 + 1), 0, none⟩ = false := by rw [hW]; go_simp
  have p1 : W.cell? ⟨(w.heap.size + 1 + 1), 1, none⟩ = some (.int .i64 0) := by rw [hW]; go_simp
  have q1 : W.frozen? ⟨(w.heap.size + 1 + 1), 1, none⟩ = false := by rw [hW]; go_simp
  have p2 : W.cell? ⟨(w.heap.size + 1 + 1), 2, none⟩ = some (.int .i64 0) := by rw [hW]; go_simp
  have q2 : W.frozen? ⟨(w.heap.size + 1 + 1), 2, none⟩ = false := by rw [hW]; go_simp
  have p3 : W.cell? ⟨(w.heap.size + 1 + 1), 3, none⟩ = some (.int .i64 0) := by rw [hW]; go_simp
  have q3 : W.frozen? ⟨(w.heap.size + 1 + 1), 3, none⟩ = false := by rw [hW]; go_simp
  have p4 : W.cell? ⟨(w.heap.size + 1 + 1), 4, none⟩ = some (.int .i64 0) := by rw [hW]; go_simp
  have q4 : W.frozen? ⟨(w.heap.size + 1 + 1), 4, none⟩ = false := by rw [hW]; go_simp
  have p5 : W.cell? ⟨(w.heap.size + 1 + 1), 5, none⟩ = some (.int .i64 0) := by rw [hW]; go_simp
  have q5 : W.frozen? ⟨(w.heap.size + 1 + 1), 5, none⟩ = false := by rw [hW]; go_simp
  have p6 : W.cell? ⟨(w.heap.size + 1 + 1), 6, none⟩ = some (.int .i64 0) := by rw [hW]; go_simp
  have q6 : W.frozen? ⟨(w.heap.size + 1 + 1), 6, none⟩ = false := by rw [hW]; go_simp
  have p7 : W.cell? ⟨(w.heap.size + 1 + 1), 7, none⟩ = some (.int .i64 0) := by rw [hW]; go_simp
  have q7 : W.frozen? ⟨(w.heap.size + 1 + 1), 7, none⟩ = false := by rw [hW]; go_simp
  have y0 : W.cell? ⟨(w.heap.size + 1 + 1 + 1), 0, none⟩ = some (.int .i64 0) := by rw [hW]; go_simp
  have z0 : W.frozen? ⟨(w.heap.size + 1 + 1 + 1), 0, none⟩ = false := by rw [hW]; go_simp
  have y1 : W.cell? ⟨(w.heap.size + 1 + 1 + 1), 1, none⟩ = some (.int .i64 0) := by rw [hW]; go_simp
  have z1 : W.frozen? ⟨(w.heap.size + 1 + 1 + 1), 1, none⟩ = false := by rw [hW]; go_simp
  have y2 : W.cell? ⟨(w.heap.size + 1 + 1 + 1), 2, none⟩ = some (.int .i64 0) := by rw [hW]; go_simp
  have z2 : W.frozen? ⟨(w.heap.size + 1 + 1 + 1), 2, none⟩ = false := by rw [hW]; go_simp
  have y3 : W.cell? ⟨(w.heap.size + 1 + 1 + 1), 3, none⟩ = some (.int .i64 0) := by rw [hW]; go_simp
  have z3 : W.frozen? ⟨(w.heap.size + 1 + 1 + 1), 3, none⟩ = false := by rw [hW]; go_simp
  have y4 : W.cell? ⟨(w.heap.size + 1 + 1 + 1), 4, none⟩ = some (.int .i64 0) := by rw [hW]; go_simp
  have z4 : W.frozen? ⟨(w.heap.size + 1 + 1 + 1), 4, none⟩ = false := by rw [hW]; go_simp
  have hbW : Below w.heap.size w W := by rw [hW]; exact below_drewN (by go_grown) _
  have hsz : w.heap.size + 1 + 1 + 1 < W.heap.size := by rw [hW]; simp
  have hS : W.cell? ⟨w.heap.size, 0, none⟩ = some (.int .i64 2) ∧ W.cell? ⟨w.heap.size, 1, none⟩ = some (.int .i64 A) ∧ W.cell? ⟨w.heap.size, 2, none⟩ = some (.int .i64 B) ∧ W.cell? ⟨w.heap.size, 3, none⟩ = some (.int .i64 C) ∧ W.cell? ⟨(w.heap.size + 1), 0, none⟩ = some (.int .i64 (upd r a (r b) 0)) ∧ W.cell? ⟨(w.heap.size + 1), 1, none⟩ = some (.int .i64 (upd r a (r b) 1)) ∧ W.cell? ⟨(w.heap.size + 1), 2, none⟩ = some (.int .i64 (upd r a (r b) 2)) ∧ W.cell? ⟨(w.heap.size + 1), 3, none⟩ = some (.int .i64 (upd r a (r b) 3)) ∧ W.cell? ⟨(w.heap.size + 1), 4, none⟩ = some (.int .i64 (upd r a (r b) 4)) ∧ W.cell? ⟨(w.heap.size + 1), 5, none⟩ = some (.int .i64 (upd r a (r b) 5)) ∧ W.cell? ⟨(w.heap.size + 1), 6, none⟩ = some (.int .i64 (upd r a (r b) 6)) ∧ W.cell? ⟨(w.heap.size + 1), 7, none⟩ = some (.int .i64 (upd r a (r b) 7)) ∧ W.cell? ⟨(w.heap.size + 1), a, none⟩ = some (.int .i64 (upd r a (r b) a)) ∧ W.cell? ⟨(w.heap.size + 1), b, none⟩ = some (.int .i64 (upd r a (r b) b)) ∧ W.cell? ⟨(w.heap.size + 1), c, none⟩ = some (.int .i64 (upd r a (r b) c)) := ⟨x0, x1, x2, x3, s0, s1, s2, s3, s4, s5, s6, s7, sa, sb, sc⟩
  rw [← hW]
  have HSZ := Lib.hid hsz
  clear hW hsz x0 x1 x2 x3 s0 s1 s2 s3 s4 s5 s6 s7 sa sb sc hal hbl hcl
  have hSd := keepS hS (W' := W.drew) (Below.drew (Below.refl _ _))
  have HS := Lib.hid hSd
  clear hS
  go_region_held3 (fun w' => w'.cell? ⟨w.heap.size, 0, none⟩ = some (.int .i64 2) ∧ w'.cell? ⟨w.heap.size, 1, none⟩ = some (.int .i64 A) ∧ w'.cell? ⟨w.heap.size, 2, none⟩ = some (.int .i64 B) ∧ w'.cell? ⟨w.heap.size, 3, none⟩ = some (.int .i64 C) ∧ w'.cell? ⟨(w.heap.size + 1), 0, none⟩ = some (.int .i64 (upd r a (r b) 0)) ∧ w'.cell? ⟨(w.heap.size + 1), 1, none⟩ = some (.int .i64 (upd r a (r b) 1)) ∧ w'.cell? ⟨(w.heap.size + 1), 2, none⟩ = some (.int .i64 (upd r a (r b) 2)) ∧ w'.cell? ⟨(w.heap.size + 1), 3, none⟩ = some (.int .i64 (upd r a (r b) 3)) ∧ w'.cell? ⟨(w.heap.size + 1), 4, none⟩ = some (.int .i64 (upd r a (r b) 4)) ∧ w'.cell? ⟨(w.heap.size + 1), 5, none⟩ = some (.int .i64 (upd r a (r b) 5)) ∧ w'.cell? ⟨(w.heap.size + 1), 6, none⟩ = some (.int .i64 (upd r a (r b) 6)) ∧ w'.cell? ⟨(w.heap.size + 1), 7, none⟩ = some (.int .i64 (upd r a (r b) 7)) ∧ w'.cell? ⟨(w.heap.size + 1), a, none⟩ = some (.int .i64 (upd r a (r b) a)) ∧ w'.cell? ⟨(w.heap.size + 1), b, none⟩ = some (.int .i64 (upd r a (r b) b)) ∧ w'.cell? ⟨(w.heap.size + 1), c, none⟩ = some (.int .i64 (upd r a (r b) c))) (first | (with_reducible assumption) | (with_reducible exact hSd) | ((iterate 8 (refine keepT ?_ (by omega) (by omega))); (with_reducible assumption)) | ((iterate 13 (refine keepT ?_ (by omega) (by omega))); (with_reducible assumption)))
    ((go_at_call 51; refine (effect_v _ _ _ _ _ _ _ _ e0 e1 e2 e3 e4 _ hE).mono ?_; rintro e w2 ⟨rfl, hb2⟩; have hS2 := keepS HS.out hb2; have hbw2 : Below w.heap.size w w2 := Below.trans (Below.drew hbW) (hb2.mono (by have := HSZ.out; simp; omega)); have p0 := keepc (keepc p0 (by go_grown)) hb2; have q0 := keepf (keepf q0 (Nat.lt_of_succ_lt HSZ.out) (by go_grown)) (by have := HSZ.out; simp; omega) hb2; have p1 := keepc (keepc p1 (by go_grown)) hb2; have q1 := keepf (keepf q1 (Nat.lt_of_succ_lt HSZ.out) (by go_grown)) (by have := HSZ.out; simp; omega) hb2; have p2 := keepc (keepc p2 (by go_grown)) hb2; have q2 := keepf (keepf q2 (Nat.lt_of_succ_lt HSZ.out) (by go_grown)) (by have := HSZ.out; simp; omega) hb2; have p3 := keepc (keepc p3 (by go_grown)) hb2; have q3 := keepf (keepf q3 (Nat.lt_of_succ_lt HSZ.out) (by go_grown)) (by have := HSZ.out; simp; omega) hb2; have p4 := keepc (keepc p4 (by go_grown)) hb2; have q4 := keepf (keepf q4 (Nat.lt_of_succ_lt HSZ.out) (by go_grown)) (by have := HSZ.out; simp; omega) hb2; have p5 := keepc (keepc p5 (by go_grown)) hb2; have q5 := keepf (keepf q5 (Nat.lt_of_succ_lt HSZ.out) (by go_grown)) (by have := HSZ.out; simp; omega) hb2; have p6 := keepc (keepc p6 (by go_grown)) hb2; have q6 := keepf (keepf q6 (Nat.lt_of_succ_lt HSZ.out) (by go_grown)) (by have := HSZ.out; simp; omega) hb2; have p7 := keepc (keepc p7 (by go_grown)) hb2; have q7 := keepf (keepf q7 (Nat.lt_of_succ_lt HSZ.out) (by go_grown)) (by have := HSZ.out; simp; omega) hb2; have y0 := keepc (keepc y0 (by go_grown)) hb2; have z0 := keepf (keepf z0 HSZ.out (by go_grown)) (by have := HSZ.out; simp; omega) hb2; have y1 := keepc (keepc y1 (by go_grown)) hb2; have z1 := keepf (keepf z1 HSZ.out (by go_grown)) (by have := HSZ.out; simp; omega) hb2; have y2 := keepc (keepc y2 (by go_grown)) hb2; have z2 := keepf (keepf z2 HSZ.out (by go_grown)) (by have := HSZ.out; simp; omega) hb2; have y3 := keepc (keepc y3 (by go_grown)) hb2; have z3 := keepf (keepf z3 HSZ.out (by go_grown)) (by have := HSZ.out; simp; omega) hb2; have y4 := keepc (keepc y4 (by go_grown)) hb2; have z4 := keepf (keepf z4 HSZ.out (by go_grown)) (by have := HSZ.out; simp; omega) hb2))
  all_goals
    go_wp2_with fail
    exact bodyPost_ret (v := .tuple #[.int .i64 (pc + 1), .agg #[.int .i64 (upd r a (r b) 0), .int .i64 (upd r a (r b) 1), .int .i64 (upd r a (r b) 2), .int .i64 (upd r a (r b) 3), .int .i64 (upd r a (r b) 4), .int .i64 (upd r a (r b) 5), .int .i64 (upd r a (r b) 6), .int .i64 (upd r a (r b) 7)], .agg #[.int .i64 e0, .int .i64 e1, .int .i64 e2, .int .i64 e3, .int .i64 e4], .int .i64 0]) (by simp [results, Try.results29, go_sem, *]) rfl ⟨rfl, by repeat (first | (with_reducible assumption) | (with_reducible refine Below.setCell ?_ ?_ _; rotate_left; focus (first | (simp; done) | (simp; omega))) | (with_reducible refine Below.drew ?_))⟩
set_option maxHeartbeats 8000000 in
set_option maxRecDepth 20000 in
theorem sdo_other (op e0 e1 e2 e3 e4 A B C pc : Int) (r : Nat → Int) (a b c : Nat) (w : World) (ha : Hid (rg A = a)) (hb : Hid (rg B = b)) (hc : Hid (rg C = c)) (ha8 : a < 8) (hb8 : b < 8) (hc8 : c < 8) (hpc : pc ≤ 4611686018427387904) (hpc0 : -9223372036854775808 ≤ pc) (h1 : ¬ op = 1) (h2 : ¬ op = 2) (h18 : ¬ op = 18) (h19 : ¬ op = 19) (hK : Hid ((decide (3 ≤ (op : Int)) && decide ((op : Int) ≤ 12)) = false)) (hE : Hid (effF op A a (r a) (r b) (r c) = [e0, e1, e2, e3, e4])) :
    Calls Try.prog 29 #[.agg #[.int .i64 op, .int .i64 A, .int .i64 B, .int .i64 C], .int .i64 pc, .agg #[.int .i64 (r 0), .int .i64 (r 1), .int .i64 (r 2), .int .i64 (r 3), .int .i64 (r 4), .int .i64 (r 5), .int .i64 (r 6), .int .i64 (r 7)]] w fun e w' => e = .returned (.tuple #[.int .i64 (pc + 1), .agg #[.int .i64 (r 0), .int .i64 (r 1), .int .i64 (r 2), .int .i64 (r 3), .int .i64 (r 4), .int .i64 (r 5), .int .i64 (r 6), .int .i64 (r 7)], .agg #[.int .i64 e0, .int .i64 e1, .int .i64 e2, .int .i64 e3, .int .i64 e4], .int .i64 0]) ∧ Below w.heap.size w w' := by
  have e1' : (op == 1) = false := by simpa using h1
  have e2' : (op == 2) = false := by simpa using h2
  have e18' : (op == 18) = false := by simpa using h18
  have e19' : (op == 19) = false := by simpa using h19
  clear h1 h2 h18 h19
  have hal := at8 r a
  have hbl := at8 r b
  have hcl := at8 r c
  have gA : (0 : Int) ≤ (a : Int) := by omega
  have gA8 : (a : Int) < 8 := by omega
  have gB : (0 : Int) ≤ (b : Int) := by omega
  have gB8 : (b : Int) < 8 := by omega
  have gC : (0 : Int) ≤ (c : Int) := by omega
  have gC8 : (c : Int) < 8 := by omega
  go_enter Try.func29, Try.ntmps29
  go_wp2_with fail
  go_quiet ((go_at_call 48; exact quiet_eq (register_v _ _ _ (by assumption))))
  go_wp2_with (go_at_call 49; refine (known_b _ false _ hK).mono ?_; rintro e w' ⟨rfl, rfl⟩)
  obtain ⟨W, hW⟩ : ∃ W, W = ((((w.alloc (Obj.cells #[.int .i64 op, .int .i64 A, .int .i64 B, .int .i64 C] 39)).alloc (Obj.cells #[.int .i64 (r 0), .int .i64 (r 1), .int .i64 (r 2), .int .i64 (r 3), .int .i64 (r 4), .int .i64 (r 5), .int .i64 (r 6), .int .i64 (r 7)] 40)).alloc (Obj.cells #[.int .i64 0, .int .i64 0, .int .i64 0, .int .i64 0, .int .i64 0, .int .i64 0, .int .i64 0, .int .i64 0] 40)).alloc (Obj.cells #[.int .i64 0, .int .i64 0, .int .i64 0, .int .i64 0, .int .i64 0] 42)).drewN nq := ⟨_, rfl⟩
  have x0 : W.cell? ⟨w.heap.size, 0, none⟩ = some (.int .i64 op) := by rw [hW]; go_simp
  have x1 : W.cell? ⟨w.heap.size, 1, none⟩ = some (.int .i64 A) := by rw [hW]; go_simp
  have x2 : W.cell? ⟨w.heap.size, 2, none⟩ = some (.int .i64 B) := by rw [hW]; go_simp
  have x3 : W.cell? ⟨w.heap.size, 3, none⟩ = some (.int .i64 C) := by rw [hW]; go_simp
  have s0 : W.cell? ⟨(w.heap.size + 1), 0, none⟩ = some (.int .i64 (r 0)) := by rw [hW]; go_simp
  have s1 : W.cell? ⟨(w.heap.size + 1), 1, none⟩ = some (.int .i64 (r 1)) := by rw [hW]; go_simp
  have s2 : W.cell? ⟨(w.heap.size + 1), 2, none⟩ = some (.int .i64 (r 2)) := by rw [hW]; go_simp
  have s3 : W.cell? ⟨(w.heap.size + 1), 3, none⟩ = some (.int .i64 (r 3)) := by rw [hW]; go_simp
  have s4 : W.cell? ⟨(w.heap.size + 1), 4, none⟩ = some (.int .i64 (r 4)) := by rw [hW]; go_simp
  have s5 : W.cell? ⟨(w.heap.size + 1), 5, none⟩ = some (.int .i64 (r 5)) := by rw [hW]; go_simp
  have s6 : W.cell? ⟨(w.heap.size + 1), 6, none⟩ = some (.int .i64 (r 6)) := by rw [hW]; go_simp
  have s7 : W.cell? ⟨(w.heap.size + 1), 7, none⟩ = some (.int .i64 (r 7)) := by rw [hW]; go_simp
  have sa : W.cell? ⟨(w.heap.size + 1), a, none⟩ = some (.int .i64 (r a)) := by first | (rw [hW]; go_simp; done) | (have h8 := eightc s0 s1 s2 s3 s4 s5 s6 s7; exact h8 a ha8)
  have sb : W.cell? ⟨(w.heap.size + 1), b, none⟩ = some (.int .i64 (r b)) := by first | (rw [hW]; go_simp; done) | (have h8 := eightc s0 s1 s2 s3 s4 s5 s6 s7; exact h8 b hb8)
  have sc : W.cell? ⟨(w.heap.size + 1), c, none⟩ = some (.int .i64 (r c)) := by first | (rw [hW]; go_simp; done) | (have h8 := eightc s0 s1 s2 s3 s4 s5 s6 s7; exact h8 c hc8)
  have p0 : W.cell? ⟨(w.heap.size + 1 + 1), 0, none⟩ = some (.int .i64 0) := by rw [hW]; go_simp
  have q0 : W.frozen? ⟨(w.heap.size + 1 + 1), 0, none⟩ = false := by rw [hW]; go_simp
  have p1 : W.cell? ⟨(w.heap.size + 1 + 1), 1, none⟩ = some (.int .i64 0) := by rw [hW]; go_simp
  have q1 : W.frozen? ⟨(w.heap.size + 1 + 1), 1, none⟩ = false := by rw [hW]; go_simp
  have p2 : W.cell? ⟨(w.heap.size + 1 + 1), 2, none⟩ = some (.int .i64 0) := by rw [hW]; go_simp
  have q2 : W.frozen? ⟨(w.heap.size + 1 + 1), 2, none⟩ = false := by rw [hW]; go_simp
  have p3 : W.cell? ⟨(w.heap.size + 1 + 1), 3, none⟩ = some (.int .i64 0) := by rw [hW]; go_simp
  have q3 : W.frozen? ⟨(w.heap.size + 1 + 1), 3, none⟩ = false := by rw [hW]; go_simp
  have p4 : W.cell? ⟨(w.heap.size + 1 + 1), 4, none⟩ = some (.int .i64 0) := by rw [hW]; go_simp
  have q4 : W.frozen? ⟨(w.heap.size + 1 + 1), 4, none⟩ = false := by rw [hW]; go_simp
  have p5 : W.cell? ⟨(w.heap.size + 1 + 1), 5, none⟩ = some (.int .i64 0) := by rw [hW]; go_simp
  have q5 : W.frozen? ⟨(w.heap.size + 1 + 1), 5, none⟩ = false := by rw [hW]; go_simp
  have p6 : W.cell? ⟨(w.heap.size + 1 + 1), 6, none⟩ = some (.int .i64 0) := by rw [hW]; go_simp
  have q6 : W.frozen? ⟨(w.heap.size + 1 + 1), 6, none⟩ = false := by rw [hW]; go_simp
  have p7 : W.cell? ⟨(w.heap.size + 1 + 1), 7, none⟩ = some (.int .i64 0) := by rw [hW]; go_simp
  have q7 : W.frozen? ⟨(w.heap.size + 1 + 1), 7, none⟩ = false := by rw [hW]; go_simp
  have y0 : W.cell? ⟨(w.heap.size + 1 + 1 + 1), 0, none⟩ = some (.int .i64 0) := by rw [hW]; go_simp
  have z0 : W.frozen? ⟨(w.heap.size + 1 + 1 + 1), 0, none⟩ = false := by rw [hW]; go_simp
  have y1 : W.cell? ⟨(w.heap.size + 1 + 1 + 1), 1, none⟩ = some (.int .i64 0) := by rw [hW]; go_simp
  have z1 : W.frozen? ⟨(w.heap.size + 1 + 1 + 1), 1, none⟩ = false := by rw [hW]; go_simp
  have y2 : W.cell? ⟨(w.heap.size + 1 + 1 + 1), 2, none⟩ = some (.int .i64 0) := by rw [hW]; go_simp
  have z2 : W.frozen? ⟨(w.heap.size + 1 + 1 + 1), 2, none⟩ = false := by rw [hW]; go_simp
  have y3 : W.cell? ⟨(w.heap.size + 1 + 1 + 1), 3, none⟩ = some (.int .i64 0) := by rw [hW]; go_simp
  have z3 : W.frozen? ⟨(w.heap.size + 1 + 1 + 1), 3, none⟩ = false := by rw [hW]; go_simp
  have y4 : W.cell? ⟨(w.heap.size + 1 + 1 + 1), 4, none⟩ = some (.int .i64 0) := by rw [hW]; go_simp
  have z4 : W.frozen? ⟨(w.heap.size + 1 + 1 + 1), 4, none⟩ = false := by rw [hW]; go_simp
  have hbW : Below w.heap.size w W := by rw [hW]; exact below_drewN (by go_grown) _
  have hsz : w.heap.size + 1 + 1 + 1 < W.heap.size := by rw [hW]; simp
  have hS : W.cell? ⟨w.heap.size, 0, none⟩ = some (.int .i64 op) ∧ W.cell? ⟨w.heap.size, 1, none⟩ = some (.int .i64 A) ∧ W.cell? ⟨w.heap.size, 2, none⟩ = some (.int .i64 B) ∧ W.cell? ⟨w.heap.size, 3, none⟩ = some (.int .i64 C) ∧ W.cell? ⟨(w.heap.size + 1), 0, none⟩ = some (.int .i64 (r 0)) ∧ W.cell? ⟨(w.heap.size + 1), 1, none⟩ = some (.int .i64 (r 1)) ∧ W.cell? ⟨(w.heap.size + 1), 2, none⟩ = some (.int .i64 (r 2)) ∧ W.cell? ⟨(w.heap.size + 1), 3, none⟩ = some (.int .i64 (r 3)) ∧ W.cell? ⟨(w.heap.size + 1), 4, none⟩ = some (.int .i64 (r 4)) ∧ W.cell? ⟨(w.heap.size + 1), 5, none⟩ = some (.int .i64 (r 5)) ∧ W.cell? ⟨(w.heap.size + 1), 6, none⟩ = some (.int .i64 (r 6)) ∧ W.cell? ⟨(w.heap.size + 1), 7, none⟩ = some (.int .i64 (r 7)) ∧ W.cell? ⟨(w.heap.size + 1), a, none⟩ = some (.int .i64 (r a)) ∧ W.cell? ⟨(w.heap.size + 1), b, none⟩ = some (.int .i64 (r b)) ∧ W.cell? ⟨(w.heap.size + 1), c, none⟩ = some (.int .i64 (r c)) := ⟨x0, x1, x2, x3, s0, s1, s2, s3, s4, s5, s6, s7, sa, sb, sc⟩
  rw [← hW]
  have HSZ := Lib.hid hsz
  clear hW hsz x0 x1 x2 x3 s0 s1 s2 s3 s4 s5 s6 s7 sa sb sc hal hbl hcl
  have hSd := keepS hS (W' := W.drew) (Below.drew (Below.refl _ _))
  have HS := Lib.hid hSd
  clear hS
  go_region_held3 (fun w' => w'.cell? ⟨w.heap.size, 0, none⟩ = some (.int .i64 op) ∧ w'.cell? ⟨w.heap.size, 1, none⟩ = some (.int .i64 A) ∧ w'.cell? ⟨w.heap.size, 2, none⟩ = some (.int .i64 B) ∧ w'.cell? ⟨w.heap.size, 3, none⟩ = some (.int .i64 C) ∧ w'.cell? ⟨(w.heap.size + 1), 0, none⟩ = some (.int .i64 (r 0)) ∧ w'.cell? ⟨(w.heap.size + 1), 1, none⟩ = some (.int .i64 (r 1)) ∧ w'.cell? ⟨(w.heap.size + 1), 2, none⟩ = some (.int .i64 (r 2)) ∧ w'.cell? ⟨(w.heap.size + 1), 3, none⟩ = some (.int .i64 (r 3)) ∧ w'.cell? ⟨(w.heap.size + 1), 4, none⟩ = some (.int .i64 (r 4)) ∧ w'.cell? ⟨(w.heap.size + 1), 5, none⟩ = some (.int .i64 (r 5)) ∧ w'.cell? ⟨(w.heap.size + 1), 6, none⟩ = some (.int .i64 (r 6)) ∧ w'.cell? ⟨(w.heap.size + 1), 7, none⟩ = some (.int .i64 (r 7)) ∧ w'.cell? ⟨(w.heap.size + 1), a, none⟩ = some (.int .i64 (r a)) ∧ w'.cell? ⟨(w.heap.size + 1), b, none⟩ = some (.int .i64 (r b)) ∧ w'.cell? ⟨(w.heap.size + 1), c, none⟩ = some (.int .i64 (r c))) (first | (with_reducible assumption) | (with_reducible exact hSd) | ((iterate 8 (refine keepT ?_ (by omega) (by omega))); (with_reducible assumption)) | ((iterate 13 (refine keepT ?_ (by omega) (by omega))); (with_reducible assumption)))
    ((go_at_call 51; refine (effect_v _ _ _ _ _ _ _ _ e0 e1 e2 e3 e4 _ hE).mono ?_; rintro e w2 ⟨rfl, hb2⟩; have hS2 := keepS HS.out hb2; have hbw2 : Below w.heap.size w w2 := Below.trans (Below.drew hbW) (hb2.mono (by have := HSZ.out; simp; omega)); have p0 := keepc (keepc p0 (by go_grown)) hb2; have q0 := keepf (keepf q0 (Nat.lt_of_succ_lt HSZ.out) (by go_grown)) (by have := HSZ.out; simp; omega) hb2; have p1 := keepc (keepc p1 (by go_grown)) hb2; have q1 := keepf (keepf q1 (Nat.lt_of_succ_lt HSZ.out) (by go_grown)) (by have := HSZ.out; simp; omega) hb2; have p2 := keepc (keepc p2 (by go_grown)) hb2; have q2 := keepf (keepf q2 (Nat.lt_of_succ_lt HSZ.out) (by go_grown)) (by have := HSZ.out; simp; omega) hb2; have p3 := keepc (keepc p3 (by go_grown)) hb2; have q3 := keepf (keepf q3 (Nat.lt_of_succ_lt HSZ.out) (by go_grown)) (by have := HSZ.out; simp; omega) hb2; have p4 := keepc (keepc p4 (by go_grown)) hb2; have q4 := keepf (keepf q4 (Nat.lt_of_succ_lt HSZ.out) (by go_grown)) (by have := HSZ.out; simp; omega) hb2; have p5 := keepc (keepc p5 (by go_grown)) hb2; have q5 := keepf (keepf q5 (Nat.lt_of_succ_lt HSZ.out) (by go_grown)) (by have := HSZ.out; simp; omega) hb2; have p6 := keepc (keepc p6 (by go_grown)) hb2; have q6 := keepf (keepf q6 (Nat.lt_of_succ_lt HSZ.out) (by go_grown)) (by have := HSZ.out; simp; omega) hb2; have p7 := keepc (keepc p7 (by go_grown)) hb2; have q7 := keepf (keepf q7 (Nat.lt_of_succ_lt HSZ.out) (by go_grown)) (by have := HSZ.out; simp; omega) hb2; have y0 := keepc (keepc y0 (by go_grown)) hb2; have z0 := keepf (keepf z0 HSZ.out (by go_grown)) (by have := HSZ.out; simp; omega) hb2; have y1 := keepc (keepc y1 (by go_grown)) hb2; have z1 := keepf (keepf z1 HSZ.out (by go_grown)) (by have := HSZ.out; simp; omega) hb2; have y2 := keepc (keepc y2 (by go_grown)) hb2; have z2 := keepf (keepf z2 HSZ.out (by go_grown)) (by have := HSZ.out; simp; omega) hb2; have y3 := keepc (keepc y3 (by go_grown)) hb2; have z3 := keepf (keepf z3 HSZ.out (by go_grown)) (by have := HSZ.out; simp; omega) hb2; have y4 := keepc (keepc y4 (by go_grown)) hb2; have z4 := keepf (keepf z4 HSZ.out (by go_grown)) (by have := HSZ.out; simp; omega) hb2))
  all_goals
    go_wp2_with fail
    exact bodyPost_ret (v := .tuple #[.int .i64 (pc + 1), .agg #[.int .i64 (r 0), .int .i64 (r 1), .int .i64 (r 2), .int .i64 (r 3), .int .i64 (r 4), .int .i64 (r 5), .int .i64 (r 6), .int .i64 (r 7)], .agg #[.int .i64 e0, .int .i64 e1, .int .i64 e2, .int .i64 e3, .int .i64 e4], .int .i64 0]) (by simp [results, Try.results29, go_sem, *]) rfl ⟨rfl, by repeat (first | (with_reducible assumption) | (with_reducible refine Below.setCell ?_ ?_ _; rotate_left; focus (first | (simp; done) | (simp; omega))) | (with_reducible refine Below.drew ?_))⟩
end Go.Proofs.Ytpcpohbbmeonbaa.step
