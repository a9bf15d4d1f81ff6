/- Not another one's: the law RingOwn answers true. No condition. -/
import Derived.Test.YtemboonjikccnaaMay
namespace Go.Proofs.Ytemboonjikccnaa.ringOwn
open Go.ChangeShapes Go.WideShapes Go.ChangeAt Go.RowKit
set_option linter.unusedVariables false
set_option linter.unusedSimpArgs false
def own17 (T1 T2 : Int) (q : Nat) : List Int := (((List.replicate 88 (0 : Int)).set (19 + 4 * q) T1).set (21 + 4 * q) T2).set 17 T2
theorem own_len (T1 T2 : Int) (q : Nat) : (own17 T1 T2 q).length = 88 := by simp [own17]
set_option maxHeartbeats 2000000 in
set_option maxRecDepth 20000 in
theorem core_ff (x0 x2 y0 y2 : Int) (i k : Nat) (w : World) (w0 : 0 ≤ x0 ∧ x0 ≤ 65535) (w1 : i ≤ 65535) (w2 : 0 ≤ x2 ∧ x2 ≤ 65535) (w3 : 0 ≤ y0 ∧ y0 ≤ 65535) (w4 : k ≤ 65535) (w5 : 0 ≤ y2 ∧ y2 ≤ 65535)
    (hF : Hid ((2 : Int) * (4 + 4) + (1 - 1) * (2 + (3 + 1) * 4) = 16)) (hqi : Hid ((i : Int).tmod (3 + 1) = ((i % 4 : Nat) : Int))) (hqk : Hid ((k : Int).tmod (3 + 1) = ((k % 4 : Nat) : Int)))
    (hki : Hid ((16 : Int) + 2 + ((i % 4 : Nat) : Int) * 4 + 1 = ((19 + 4 * (i % 4) : Nat) : Int))) (hdi : Hid ((16 : Int) + 2 + ((i % 4 : Nat) : Int) * 4 + 3 = ((21 + 4 * (i % 4) : Nat) : Int)))
    (hkk : Hid ((16 : Int) + 2 + ((k % 4 : Nat) : Int) * 4 + 1 = ((19 + 4 * (k % 4) : Nat) : Int))) (hdk : Hid ((16 : Int) + 2 + ((k % 4 : Nat) : Int) * 4 + 3 = ((21 + 4 * (k % 4) : Nat) : Int)))
    (T1 T2 v21 : Int) (hT1 : Hid (tOf (x0 + 1) i x2 = T1)) (hT2 : Hid (tOf (x0 + 1) i 0 = T2)) (hv21 : Hid ((own17 T1 T2 (i % 4)).getD (21 + 4 * (k % 4)) 0 = v21)) (hv17 : Hid ((own17 T1 T2 (i % 4)).getD 17 0 = T2))
    (v19 : Int) (hsame : ¬ x0 = y0) (hE : Hid ((v21 == tOf (y0 + 1) k 0) = false)) (hS : Hid ((T2 == tOf (y0 + 1) k 0) = false)) (hv19 : Hid ((own17 T1 T2 (i % 4)).getD (19 + 4 * (k % 4)) 0 = v19)) (hv19n : Hid (v19 ≠ tOf (y0 + 1) k y2)) (hr17n : Hid (T2 ≠ tOf (y0 + 1) k 0))
    (hx19y : Hid ((own17 T1 T2 (i % 4)).getD (19 + 4 * (i % 4)) 0 = tOf (x0 + 1) i x2)) (hx17y : Hid (((own17 T1 T2 (i % 4)).set (19 + 4 * (i % 4)) 0).getD 17 0 = tOf (x0 + 1) i 0)) :
    Calls Try.prog 9 #[.agg #[.int .u16 x0, .int .u16 i, .int .u16 x2], .agg #[.int .u16 y0, .int .u16 k, .int .u16 y2]] w fun e w' => e = .returned (.bool true) ∧ Below w.heap.size w w' := by
  have wx2 : IntKind.i64.wrap x2 = x2 := by rw [IntKind.wrap_i64]; omega
  have wi : IntKind.i64.wrap ((i : Nat) : Int) = ((i : Nat) : Int) := by rw [IntKind.wrap_i64]; omega
  have wk : IntKind.i64.wrap ((k : Nat) : Int) = ((k : Nat) : Int) := by rw [IntKind.wrap_i64]; omega
  have wy2 : IntKind.i64.wrap y2 = y2 := by rw [IntKind.wrap_i64]; omega
  go_enter Try.func9, Try.ntmps9
  go_wp2_with (first | (go_at_call 48; refine (works17 _).mono ?_; rintro e w1 ⟨rfl, hb1⟩))
  have a0 : w1.cell? ⟨w.heap.size, 0, none⟩ = some (.int .u16 x0) := keepc (by go_simp) hb1
  have a1 : w1.cell? ⟨w.heap.size, 1, none⟩ = some (.int .u16 ((i : Nat) : Int)) := keepc (by go_simp) hb1
  have a2 : w1.cell? ⟨w.heap.size, 2, none⟩ = some (.int .u16 x2) := keepc (by go_simp) hb1
  have c0 : w1.cell? ⟨w.heap.size + 1, 0, none⟩ = some (.int .u16 y0) := keepc (by go_simp) hb1
  have c1 : w1.cell? ⟨w.heap.size + 1, 1, none⟩ = some (.int .u16 ((k : Nat) : Int)) := keepc (by go_simp) hb1
  have c2 : w1.cell? ⟨w.heap.size + 1, 2, none⟩ = some (.int .u16 y2) := keepc (by go_simp) hb1
  have hsA : w.heap.size + 1 < w1.heap.size := by have := hb1.size; simp at this; omega
  have hb : Below w.heap.size w w1 := btr (by go_grown) hb1
  clear hb1
  refine (plan17 w1).mono ?_
  rintro e w2 ⟨rfl, hb2⟩
  replace a0 := keepc a0 hb2
  replace a1 := keepc a1 hb2
  replace a2 := keepc a2 hb2
  replace c0 := keepc c0 hb2
  replace c1 := keepc c1 hb2
  replace c2 := keepc c2 hb2
  replace hb := btr hb hb2
  replace hsA := Nat.lt_of_lt_of_le hsA hb2.size
  clear hb2
  go_wp2_with fail
  obtain ⟨W, hW⟩ : ∃ W, W = w2.alloc (Obj.cells #[Value.int IntKind.i64 2, Value.int IntKind.i64 4, Value.int IntKind.i64 3, Value.int IntKind.i64 4] 63) := ⟨_, rfl⟩
  have p0 : W.cell? ⟨w2.heap.size, 0, none⟩ = some (.int .i64 (2)) := by rw [hW]; go_simp
  have p1 : W.cell? ⟨w2.heap.size, 1, none⟩ = some (.int .i64 (4)) := by rw [hW]; go_simp
  have p2 : W.cell? ⟨w2.heap.size, 2, none⟩ = some (.int .i64 (3)) := by rw [hW]; go_simp
  have p3 : W.cell? ⟨w2.heap.size, 3, none⟩ = some (.int .i64 (4)) := by rw [hW]; go_simp
  have hbA : Below w2.heap.size w2 W := by rw [hW]; go_grown
  have hlA : w2.heap.size < W.heap.size := by rw [hW]; simp
  rw [← hW]
  clear hW
  replace a0 := keepc a0 hbA
  replace a1 := keepc a1 hbA
  replace a2 := keepc a2 hbA
  replace c0 := keepc c0 hbA
  replace c1 := keepc c1 hbA
  replace c2 := keepc c2 hbA
  replace hb := btr hb hbA
  have hsP : w.heap.size + 1 < w2.heap.size := hsA
  refine (size_of 2 4 3 4 16 72 _ okay17 (Lib.hid (by decide)) (Lib.hid (by decide))).mono ?_
  rintro e w3 ⟨rfl, hb2⟩
  replace a0 := keepc a0 hb2
  replace a1 := keepc a1 hb2
  replace a2 := keepc a2 hb2
  replace c0 := keepc c0 hb2
  replace c1 := keepc c1 hb2
  replace c2 := keepc c2 hb2
  replace p0 := keepc p0 hb2
  replace p1 := keepc p1 hb2
  replace p2 := keepc p2 hb2
  replace p3 := keepc p3 hb2
  replace hb := btr hb hb2
  have hlP := Nat.lt_of_lt_of_le hlA hb2.size
  clear hb2 hbA hlA
  go_wp2_with fail
  refine (new_n 88 w3 (by decide)).mono ?_
  rintro e w4 ⟨rfl, hs, hb2⟩
  have h : J w w4 (w3.heap.size + 1) w3.heap.size (List.replicate 88 0) := ⟨hs, btr hb hb2, hb.size⟩
  replace a0 := keepc a0 hb2
  replace a1 := keepc a1 hb2
  replace a2 := keepc a2 hb2
  replace c0 := keepc c0 hb2
  replace c1 := keepc c1 hb2
  replace c2 := keepc c2 hb2
  replace p0 := keepc p0 hb2
  replace p1 := keepc p1 hb2
  replace p2 := keepc p2 hb2
  replace p3 := keepc p3 hb2
  have hne0 : w.heap.size ≠ w3.heap.size ∧ w.heap.size + 1 ≠ w3.heap.size ∧ w2.heap.size ≠ w3.heap.size := by omega
  have hA := Lib.hid hne0.1
  have hC := Lib.hid hne0.2.1
  have hP := Lib.hid hne0.2.2
  clear hb hb2 hs hne0 hlP hsP hsA
  generalize w3.heap.size + 1 = S at *
  generalize w3.heap.size = g at *
  generalize w2.heap.size = P at *
  have HAA := Lib.hid (rfl : w.heap.size = w.heap.size)
  go_wp2_with fail
  refine (new17 1 (x0 + 1) _).mono ?_
  rintro e w5 ⟨rfl, hb2⟩
  replace a0 := keepc a0 hb2
  replace a1 := keepc a1 hb2
  replace a2 := keepc a2 hb2
  replace c0 := keepc c0 hb2
  replace c1 := keepc c1 hb2
  replace c2 := keepc c2 hb2
  replace p0 := keepc p0 hb2
  replace p1 := keepc p1 hb2
  replace p2 := keepc p2 hb2
  replace p3 := keepc p3 hb2
  replace h := h.below' hb2
  clear hb2
  have q_a0 := fun o => keepc (W' := w5.alloc o) a0 (by go_grown)
  have q_a1 := fun o => keepc (W' := w5.alloc o) a1 (by go_grown)
  have q_a2 := fun o => keepc (W' := w5.alloc o) a2 (by go_grown)
  have q_c0 := fun o => keepc (W' := w5.alloc o) c0 (by go_grown)
  have q_c1 := fun o => keepc (W' := w5.alloc o) c1 (by go_grown)
  have q_c2 := fun o => keepc (W' := w5.alloc o) c2 (by go_grown)
  have q_p0 := fun o => keepc (W' := w5.alloc o) p0 (by go_grown)
  have q_p1 := fun o => keepc (W' := w5.alloc o) p1 (by go_grown)
  have q_p2 := fun o => keepc (W' := w5.alloc o) p2 (by go_grown)
  have q_p3 := fun o => keepc (W' := w5.alloc o) p3 (by go_grown)
  go_wp2_with fail
  obtain ⟨W, hW⟩ : ∃ W, W = w5.alloc (Obj.cells #[Value.int IntKind.i64 2, Value.int IntKind.i64 4, Value.int IntKind.i64 3, Value.int IntKind.i64 4, Value.int IntKind.i64 1, Value.int IntKind.i64 (x0 + 1)] 94) := ⟨_, rfl⟩
  have xr0 : W.cell? ⟨w5.heap.size, 0, none⟩ = some (.int .i64 (2)) := by rw [hW]; go_simp
  have xr1 : W.cell? ⟨w5.heap.size, 1, none⟩ = some (.int .i64 (4)) := by rw [hW]; go_simp
  have xr2 : W.cell? ⟨w5.heap.size, 2, none⟩ = some (.int .i64 (3)) := by rw [hW]; go_simp
  have xr3 : W.cell? ⟨w5.heap.size, 3, none⟩ = some (.int .i64 (4)) := by rw [hW]; go_simp
  have xr4 : W.cell? ⟨w5.heap.size, 4, none⟩ = some (.int .i64 (1)) := by rw [hW]; go_simp
  have xr5 : W.cell? ⟨w5.heap.size, 5, none⟩ = some (.int .i64 (x0 + 1)) := by rw [hW]; go_simp
  have hbA : Below w5.heap.size w5 W := by rw [hW]; go_grown
  have hlA : w5.heap.size < W.heap.size := by rw [hW]; simp
  rw [← hW]
  clear hW
  clear q_a0 q_a1 q_a2 q_c0 q_c1 q_c2 q_p0 q_p1 q_p2 q_p3
  replace a0 := keepc a0 hbA
  replace a1 := keepc a1 hbA
  replace a2 := keepc a2 hbA
  replace c0 := keepc c0 hbA
  replace c1 := keepc c1 hbA
  replace c2 := keepc c2 hbA
  replace p0 := keepc p0 hbA
  replace p1 := keepc p1 hbA
  replace p2 := keepc p2 hbA
  replace p3 := keepc p3 hbA
  have hX0 : w5.heap.size ≠ g := by have := h.1.facts.2.2.2.2.2; omega
  have hX := Lib.hid hX0
  replace h := h.below' hbA
  clear hbA hlA hX0
  generalize w5.heap.size = X at *
  refine (new17 1 (y0 + 1) _).mono ?_
  rintro e w5 ⟨rfl, hb2⟩
  replace a0 := keepc a0 hb2
  replace a1 := keepc a1 hb2
  replace a2 := keepc a2 hb2
  replace c0 := keepc c0 hb2
  replace c1 := keepc c1 hb2
  replace c2 := keepc c2 hb2
  replace p0 := keepc p0 hb2
  replace p1 := keepc p1 hb2
  replace p2 := keepc p2 hb2
  replace p3 := keepc p3 hb2
  replace xr0 := keepc xr0 hb2
  replace xr1 := keepc xr1 hb2
  replace xr2 := keepc xr2 hb2
  replace xr3 := keepc xr3 hb2
  replace xr4 := keepc xr4 hb2
  replace xr5 := keepc xr5 hb2
  replace h := h.below' hb2
  clear hb2
  have q_a0 := fun o => keepc (W' := w5.alloc o) a0 (by go_grown)
  have q_a1 := fun o => keepc (W' := w5.alloc o) a1 (by go_grown)
  have q_a2 := fun o => keepc (W' := w5.alloc o) a2 (by go_grown)
  have q_c0 := fun o => keepc (W' := w5.alloc o) c0 (by go_grown)
  have q_c1 := fun o => keepc (W' := w5.alloc o) c1 (by go_grown)
  have q_c2 := fun o => keepc (W' := w5.alloc o) c2 (by go_grown)
  have q_p0 := fun o => keepc (W' := w5.alloc o) p0 (by go_grown)
  have q_p1 := fun o => keepc (W' := w5.alloc o) p1 (by go_grown)
  have q_p2 := fun o => keepc (W' := w5.alloc o) p2 (by go_grown)
  have q_p3 := fun o => keepc (W' := w5.alloc o) p3 (by go_grown)
  have q_xr0 := fun o => keepc (W' := w5.alloc o) xr0 (by go_grown)
  have q_xr1 := fun o => keepc (W' := w5.alloc o) xr1 (by go_grown)
  have q_xr2 := fun o => keepc (W' := w5.alloc o) xr2 (by go_grown)
  have q_xr3 := fun o => keepc (W' := w5.alloc o) xr3 (by go_grown)
  have q_xr4 := fun o => keepc (W' := w5.alloc o) xr4 (by go_grown)
  have q_xr5 := fun o => keepc (W' := w5.alloc o) xr5 (by go_grown)
  go_wp2_with fail
  obtain ⟨W, hW⟩ : ∃ W, W = w5.alloc (Obj.cells #[Value.int IntKind.i64 2, Value.int IntKind.i64 4, Value.int IntKind.i64 3, Value.int IntKind.i64 4, Value.int IntKind.i64 1, Value.int IntKind.i64 (y0 + 1)] 94) := ⟨_, rfl⟩
  have yr0 : W.cell? ⟨w5.heap.size, 0, none⟩ = some (.int .i64 (2)) := by rw [hW]; go_simp
  have yr1 : W.cell? ⟨w5.heap.size, 1, none⟩ = some (.int .i64 (4)) := by rw [hW]; go_simp
  have yr2 : W.cell? ⟨w5.heap.size, 2, none⟩ = some (.int .i64 (3)) := by rw [hW]; go_simp
  have yr3 : W.cell? ⟨w5.heap.size, 3, none⟩ = some (.int .i64 (4)) := by rw [hW]; go_simp
  have yr4 : W.cell? ⟨w5.heap.size, 4, none⟩ = some (.int .i64 (1)) := by rw [hW]; go_simp
  have yr5 : W.cell? ⟨w5.heap.size, 5, none⟩ = some (.int .i64 (y0 + 1)) := by rw [hW]; go_simp
  have hbA : Below w5.heap.size w5 W := by rw [hW]; go_grown
  have hlA : w5.heap.size < W.heap.size := by rw [hW]; simp
  rw [← hW]
  clear hW
  clear q_a0 q_a1 q_a2 q_c0 q_c1 q_c2 q_p0 q_p1 q_p2 q_p3 q_xr0 q_xr1 q_xr2 q_xr3 q_xr4 q_xr5
  replace a0 := keepc a0 hbA
  replace a1 := keepc a1 hbA
  replace a2 := keepc a2 hbA
  replace c0 := keepc c0 hbA
  replace c1 := keepc c1 hbA
  replace c2 := keepc c2 hbA
  replace p0 := keepc p0 hbA
  replace p1 := keepc p1 hbA
  replace p2 := keepc p2 hbA
  replace p3 := keepc p3 hbA
  replace xr0 := keepc xr0 hbA
  replace xr1 := keepc xr1 hbA
  replace xr2 := keepc xr2 hbA
  replace xr3 := keepc xr3 hbA
  replace xr4 := keepc xr4 hbA
  replace xr5 := keepc xr5 hbA
  have hY0 : w5.heap.size ≠ g := by have := h.1.facts.2.2.2.2.2; omega
  have hY := Lib.hid hY0
  replace h := h.below' hbA
  clear hbA hlA hY0
  generalize w5.heap.size = Y at *
  have hl0 : ((List.replicate 88 (0 : Int))).length = 88 := by simp
  go_region_held3 (fun w' => w'.cell? ⟨w.heap.size, 1, none⟩ = some (.int .u16 ((i : Nat) : Int)) ∧ w'.cell? ⟨w.heap.size + 1, 1, none⟩ = some (.int .u16 ((k : Nat) : Int))) (first | (with_reducible assumption) | exact ⟨a1, c1⟩) (fail)
  obtain ⟨V, hV⟩ : ∃ V, V = W.drew := ⟨_, rfl⟩
  rw [← hV]
  have hbV : Below W.heap.size W V := by rw [hV]; go_grown
  clear hV
  replace a0 := keepc a0 hbV
  replace a1 := keepc a1 hbV
  replace a2 := keepc a2 hbV
  replace c0 := keepc c0 hbV
  replace c1 := keepc c1 hbV
  replace c2 := keepc c2 hbV
  replace p0 := keepc p0 hbV
  replace p1 := keepc p1 hbV
  replace p2 := keepc p2 hbV
  replace p3 := keepc p3 hbV
  replace xr0 := keepc xr0 hbV
  replace xr1 := keepc xr1 hbV
  replace xr2 := keepc xr2 hbV
  replace xr3 := keepc xr3 hbV
  replace xr4 := keepc xr4 hbV
  replace xr5 := keepc xr5 hbV
  replace yr0 := keepc yr0 hbV
  replace yr1 := keepc yr1 hbV
  replace yr2 := keepc yr2 hbV
  replace yr3 := keepc yr3 hbV
  replace yr4 := keepc yr4 hbV
  replace yr5 := keepc yr5 hbV
  replace h := h.below' hbV
  clear hbV
  go_wp2_with fail
  refine (rwait_j S g (19 + 4 * (i % 4)) (List.replicate 88 0) 1 (x0 + 1) i 16 ((i % 4 : Nat) : Int) x2 w _ h (by decide) (by decide) hF (by omega) hqi hki (by rw [hl0]; omega) (by rw [hl0]; decide)).mono ?_
  rintro e wz ⟨rfl, hj, hk⟩
  replace h := hj
  replace a0 := hk.cell a0 hA.out
  replace a1 := hk.cell a1 hA.out
  replace a2 := hk.cell a2 hA.out
  replace c0 := hk.cell c0 hC.out
  replace c1 := hk.cell c1 hC.out
  replace c2 := hk.cell c2 hC.out
  replace p0 := hk.cell p0 hP.out
  replace p1 := hk.cell p1 hP.out
  replace p2 := hk.cell p2 hP.out
  replace p3 := hk.cell p3 hP.out
  replace xr0 := hk.cell xr0 hX.out
  replace xr1 := hk.cell xr1 hX.out
  replace xr2 := hk.cell xr2 hX.out
  replace xr3 := hk.cell xr3 hX.out
  replace xr4 := hk.cell xr4 hX.out
  replace xr5 := hk.cell xr5 hX.out
  replace yr0 := hk.cell yr0 hY.out
  replace yr1 := hk.cell yr1 hY.out
  replace yr2 := hk.cell yr2 hY.out
  replace yr3 := hk.cell yr3 hY.out
  replace yr4 := hk.cell yr4 hY.out
  replace yr5 := hk.cell yr5 hY.out
  clear hj hk
  go_wp2_with fail
  refine (rend_j S g (21 + 4 * (i % 4)) _ 1 (x0 + 1) i 16 ((i % 4 : Nat) : Int) w _ h (by decide) (by decide) hF (by omega) hqi hdi (by rw [List.length_set, hl0]; omega) (by rw [List.length_set, hl0]; decide)).mono ?_
  rintro e wz ⟨rfl, hj, hk⟩
  replace h := hj
  replace a0 := hk.cell a0 hA.out
  replace a1 := hk.cell a1 hA.out
  replace a2 := hk.cell a2 hA.out
  replace c0 := hk.cell c0 hC.out
  replace c1 := hk.cell c1 hC.out
  replace c2 := hk.cell c2 hC.out
  replace p0 := hk.cell p0 hP.out
  replace p1 := hk.cell p1 hP.out
  replace p2 := hk.cell p2 hP.out
  replace p3 := hk.cell p3 hP.out
  replace xr0 := hk.cell xr0 hX.out
  replace xr1 := hk.cell xr1 hX.out
  replace xr2 := hk.cell xr2 hX.out
  replace xr3 := hk.cell xr3 hX.out
  replace xr4 := hk.cell xr4 hX.out
  replace xr5 := hk.cell xr5 hX.out
  replace yr0 := hk.cell yr0 hY.out
  replace yr1 := hk.cell yr1 hY.out
  replace yr2 := hk.cell yr2 hY.out
  replace yr3 := hk.cell yr3 hY.out
  replace yr4 := hk.cell yr4 hY.out
  replace yr5 := hk.cell yr5 hY.out
  clear hj hk
  go_wp2_with fail
  refine (rsleep_j S g 17 _ 1 (x0 + 1) i 16 0 w _ h (by decide) (by decide) hF (Lib.hid (by decide)) (by rw [List.length_set, List.length_set, hl0]; decide) (by rw [List.length_set, List.length_set, hl0]; decide)).mono ?_
  rintro e wz ⟨rfl, hj, hk⟩
  replace h := hj
  replace a0 := hk.cell a0 hA.out
  replace a1 := hk.cell a1 hA.out
  replace a2 := hk.cell a2 hA.out
  replace c0 := hk.cell c0 hC.out
  replace c1 := hk.cell c1 hC.out
  replace c2 := hk.cell c2 hC.out
  replace p0 := hk.cell p0 hP.out
  replace p1 := hk.cell p1 hP.out
  replace p2 := hk.cell p2 hP.out
  replace p3 := hk.cell p3 hP.out
  replace xr0 := hk.cell xr0 hX.out
  replace xr1 := hk.cell xr1 hX.out
  replace xr2 := hk.cell xr2 hX.out
  replace xr3 := hk.cell xr3 hX.out
  replace xr4 := hk.cell xr4 hX.out
  replace xr5 := hk.cell xr5 hX.out
  replace yr0 := hk.cell yr0 hY.out
  replace yr1 := hk.cell yr1 hY.out
  replace yr2 := hk.cell yr2 hY.out
  replace yr3 := hk.cell yr3 hY.out
  replace yr4 := hk.cell yr4 hY.out
  replace yr5 := hk.cell yr5 hY.out
  clear hj hk
  rw [hT1.out, hT2.out] at h
  change J w _ S g (own17 T1 T2 (i % 4)) at h
  go_wp2_with fail
  refine (rended_j S g (21 + 4 * (k % 4)) _ 1 (y0 + 1) k 16 ((k % 4 : Nat) : Int) v21 false w _ h (by decide) (by decide) hF (by omega) hqk hdk hv21 hE (by rw [own_len]; omega) (by rw [own_len]; decide)).mono ?_
  rintro e wz ⟨rfl, hj, hk⟩
  replace h := hj
  replace a0 := hk.cell a0 hA.out
  replace a1 := hk.cell a1 hA.out
  replace a2 := hk.cell a2 hA.out
  replace c0 := hk.cell c0 hC.out
  replace c1 := hk.cell c1 hC.out
  replace c2 := hk.cell c2 hC.out
  replace p0 := hk.cell p0 hP.out
  replace p1 := hk.cell p1 hP.out
  replace p2 := hk.cell p2 hP.out
  replace p3 := hk.cell p3 hP.out
  replace xr0 := hk.cell xr0 hX.out
  replace xr1 := hk.cell xr1 hX.out
  replace xr2 := hk.cell xr2 hX.out
  replace xr3 := hk.cell xr3 hX.out
  replace xr4 := hk.cell xr4 hX.out
  replace xr5 := hk.cell xr5 hX.out
  replace yr0 := hk.cell yr0 hY.out
  replace yr1 := hk.cell yr1 hY.out
  replace yr2 := hk.cell yr2 hY.out
  replace yr3 := hk.cell yr3 hY.out
  replace yr4 := hk.cell yr4 hY.out
  replace yr5 := hk.cell yr5 hY.out
  clear hj hk
  go_wp2_with fail
  refine (rsleeps_j S g 17 _ 1 (y0 + 1) k 16 0 T2 false w _ h (by decide) (by decide) hF (Lib.hid (by decide)) hv17 hS (by rw [own_len]; omega) (by rw [own_len]; decide)).mono ?_
  rintro e wz ⟨rfl, hj, hk⟩
  replace h := hj
  replace a0 := hk.cell a0 hA.out
  replace a1 := hk.cell a1 hA.out
  replace a2 := hk.cell a2 hA.out
  replace c0 := hk.cell c0 hC.out
  replace c1 := hk.cell c1 hC.out
  replace c2 := hk.cell c2 hC.out
  replace p0 := hk.cell p0 hP.out
  replace p1 := hk.cell p1 hP.out
  replace p2 := hk.cell p2 hP.out
  replace p3 := hk.cell p3 hP.out
  replace xr0 := hk.cell xr0 hX.out
  replace xr1 := hk.cell xr1 hX.out
  replace xr2 := hk.cell xr2 hX.out
  replace xr3 := hk.cell xr3 hX.out
  replace xr4 := hk.cell xr4 hX.out
  replace xr5 := hk.cell xr5 hX.out
  replace yr0 := hk.cell yr0 hY.out
  replace yr1 := hk.cell yr1 hY.out
  replace yr2 := hk.cell yr2 hY.out
  replace yr3 := hk.cell yr3 hY.out
  replace yr4 := hk.cell yr4 hY.out
  replace yr5 := hk.cell yr5 hY.out
  clear hj hk
  go_wp2_with fail
  have hdr := h.below' (w' := wz.drew) (by go_grown)
  have kp : ∀ W W' : World, Keep g W W' → Keep g wz W ∧ W.cell? ⟨Y, 0, none⟩ = some (.int .i64 2) ∧ W.cell? ⟨Y, 1, none⟩ = some (.int .i64 4) ∧ W.cell? ⟨Y, 2, none⟩ = some (.int .i64 3) ∧ W.cell? ⟨Y, 3, none⟩ = some (.int .i64 4) ∧ W.cell? ⟨Y, 4, none⟩ = some (.int .i64 1) ∧ W.cell? ⟨Y, 5, none⟩ = some (.int .i64 (y0 + 1)) ∧ W.cell? ⟨w.heap.size + 1, 2, none⟩ = some (.int .u16 y2) → Keep g wz W' ∧ W'.cell? ⟨Y, 0, none⟩ = some (.int .i64 2) ∧ W'.cell? ⟨Y, 1, none⟩ = some (.int .i64 4) ∧ W'.cell? ⟨Y, 2, none⟩ = some (.int .i64 3) ∧ W'.cell? ⟨Y, 3, none⟩ = some (.int .i64 4) ∧ W'.cell? ⟨Y, 4, none⟩ = some (.int .i64 1) ∧ W'.cell? ⟨Y, 5, none⟩ = some (.int .i64 (y0 + 1)) ∧ W'.cell? ⟨w.heap.size + 1, 2, none⟩ = some (.int .u16 y2) := fun W W' hk hh => ⟨hh.1.trans hk, hk.cell hh.2.1 hY.out, hk.cell hh.2.2.1 hY.out, hk.cell hh.2.2.2.1 hY.out, hk.cell hh.2.2.2.2.1 hY.out, hk.cell hh.2.2.2.2.2.1 hY.out, hk.cell hh.2.2.2.2.2.2.1 hY.out, hk.cell hh.2.2.2.2.2.2.2 hC.out⟩
  go_region_held3 (fun w' => Keep g wz w' ∧ w'.cell? ⟨Y, 0, none⟩ = some (.int .i64 2) ∧ w'.cell? ⟨Y, 1, none⟩ = some (.int .i64 4) ∧ w'.cell? ⟨Y, 2, none⟩ = some (.int .i64 3) ∧ w'.cell? ⟨Y, 3, none⟩ = some (.int .i64 4) ∧ w'.cell? ⟨Y, 4, none⟩ = some (.int .i64 1) ∧ w'.cell? ⟨Y, 5, none⟩ = some (.int .i64 (y0 + 1)) ∧ w'.cell? ⟨w.heap.size + 1, 2, none⟩ = some (.int .u16 y2)) (first | (with_reducible assumption) | (refine kp _ _ hkv ?_; with_reducible assumption) | (refine ⟨Keep.of_below ?_, yr0, yr1, yr2, yr3, yr4, yr5, c2⟩; go_grown; done)) (first | (go_at_call 56; refine (rfree_no S g (19 + 4 * (k % 4)) _ 1 (y0 + 1) k 16 ((k % 4 : Nat) : Int) y2 v19 w _ hdr (by decide) (by decide) hF (by omega) hqk hkk hv19 hv19n (by rw [own_len]; omega) (by rw [own_len]; decide)).mono ?_; rintro e wv ⟨rfl, hf, hkv⟩) | (go_at_call 57; refine (rrouse_no S g 17 _ 1 (y0 + 1) k 16 0 T2 w _ hf (by decide) (by decide) hF (Lib.hid (by decide)) hv17 hr17n (by simp [own17] <;> omega) (by simp [own17])).mono ?_; rintro e wv ⟨rfl, hr, hkv⟩))
  all_goals
    clear hdr kp
    replace h := hr
    have hkz : Keep g wz _ := And.left (by with_reducible assumption)
    replace a0 := hkz.cell a0 hA.out
    replace a1 := hkz.cell a1 hA.out
    replace a2 := hkz.cell a2 hA.out
    replace c0 := hkz.cell c0 hC.out
    replace c1 := hkz.cell c1 hC.out
    replace c2 := hkz.cell c2 hC.out
    replace p0 := hkz.cell p0 hP.out
    replace p1 := hkz.cell p1 hP.out
    replace p2 := hkz.cell p2 hP.out
    replace p3 := hkz.cell p3 hP.out
    replace xr0 := hkz.cell xr0 hX.out
    replace xr1 := hkz.cell xr1 hX.out
    replace xr2 := hkz.cell xr2 hX.out
    replace xr3 := hkz.cell xr3 hX.out
    replace xr4 := hkz.cell xr4 hX.out
    replace xr5 := hkz.cell xr5 hX.out
    replace yr0 := hkz.cell yr0 hY.out
    replace yr1 := hkz.cell yr1 hY.out
    replace yr2 := hkz.cell yr2 hY.out
    replace yr3 := hkz.cell yr3 hY.out
    replace yr4 := hkz.cell yr4 hY.out
    replace yr5 := hkz.cell yr5 hY.out
    clear hkz
    go_wp2_with fail
    refine (rfree_yes S g (19 + 4 * (i % 4)) _ 1 (x0 + 1) i 16 ((i % 4 : Nat) : Int) x2 w _ h (by decide) (by decide) hF (by omega) hqi hki hx19y (by simp [own17] <;> omega) (by simp [own17])).mono ?_
    rintro e wz ⟨rfl, hj, hk⟩
    replace h := hj
    replace a0 := hk.cell a0 hA.out
    replace a1 := hk.cell a1 hA.out
    replace a2 := hk.cell a2 hA.out
    replace c0 := hk.cell c0 hC.out
    replace c1 := hk.cell c1 hC.out
    replace c2 := hk.cell c2 hC.out
    replace p0 := hk.cell p0 hP.out
    replace p1 := hk.cell p1 hP.out
    replace p2 := hk.cell p2 hP.out
    replace p3 := hk.cell p3 hP.out
    replace xr0 := hk.cell xr0 hX.out
    replace xr1 := hk.cell xr1 hX.out
    replace xr2 := hk.cell xr2 hX.out
    replace xr3 := hk.cell xr3 hX.out
    replace xr4 := hk.cell xr4 hX.out
    replace xr5 := hk.cell xr5 hX.out
    replace yr0 := hk.cell yr0 hY.out
    replace yr1 := hk.cell yr1 hY.out
    replace yr2 := hk.cell yr2 hY.out
    replace yr3 := hk.cell yr3 hY.out
    replace yr4 := hk.cell yr4 hY.out
    replace yr5 := hk.cell yr5 hY.out
    clear hj hk
    go_wp2_with fail
    refine (rrouse_yes S g 17 _ 1 (x0 + 1) i 16 0 w _ h (by decide) (by decide) hF (Lib.hid (by decide)) hx17y (by simp [own17] <;> omega) (by simp [own17])).mono ?_
    rintro e wz ⟨rfl, hj, hk⟩
    replace h := hj
    replace a0 := hk.cell a0 hA.out
    replace a1 := hk.cell a1 hA.out
    replace a2 := hk.cell a2 hA.out
    replace c0 := hk.cell c0 hC.out
    replace c1 := hk.cell c1 hC.out
    replace c2 := hk.cell c2 hC.out
    replace p0 := hk.cell p0 hP.out
    replace p1 := hk.cell p1 hP.out
    replace p2 := hk.cell p2 hP.out
    replace p3 := hk.cell p3 hP.out
    replace xr0 := hk.cell xr0 hX.out
    replace xr1 := hk.cell xr1 hX.out
    replace xr2 := hk.cell xr2 hX.out
    replace xr3 := hk.cell xr3 hX.out
    replace xr4 := hk.cell xr4 hX.out
    replace xr5 := hk.cell xr5 hX.out
    replace yr0 := hk.cell yr0 hY.out
    replace yr1 := hk.cell yr1 hY.out
    replace yr2 := hk.cell yr2 hY.out
    replace yr3 := hk.cell yr3 hY.out
    replace yr4 := hk.cell yr4 hY.out
    replace yr5 := hk.cell yr5 hY.out
    clear hj hk
    go_wp2_with fail
    go_ret
    refine ⟨?_, h.2.1⟩
    first | rfl | simp [hsame] | simp
set_option maxHeartbeats 2000000 in
set_option maxRecDepth 20000 in
theorem core_fk (x0 x2 y2 : Int) (i k : Nat) (w : World) (w0 : 0 ≤ x0 ∧ x0 ≤ 65535) (w1 : i ≤ 65535) (w2 : 0 ≤ x2 ∧ x2 ≤ 65535) (w4 : k ≤ 65535) (w5 : 0 ≤ y2 ∧ y2 ≤ 65535)
    (hF : Hid ((2 : Int) * (4 + 4) + (1 - 1) * (2 + (3 + 1) * 4) = 16)) (hqi : Hid ((i : Int).tmod (3 + 1) = ((i % 4 : Nat) : Int))) (hqk : Hid ((k : Int).tmod (3 + 1) = ((k % 4 : Nat) : Int)))
    (hki : Hid ((16 : Int) + 2 + ((i % 4 : Nat) : Int) * 4 + 1 = ((19 + 4 * (i % 4) : Nat) : Int))) (hdi : Hid ((16 : Int) + 2 + ((i % 4 : Nat) : Int) * 4 + 3 = ((21 + 4 * (i % 4) : Nat) : Int)))
    (hkk : Hid ((16 : Int) + 2 + ((k % 4 : Nat) : Int) * 4 + 1 = ((19 + 4 * (k % 4) : Nat) : Int))) (hdk : Hid ((16 : Int) + 2 + ((k % 4 : Nat) : Int) * 4 + 3 = ((21 + 4 * (k % 4) : Nat) : Int)))
    (T1 T2 v21 : Int) (hT1 : Hid (tOf (x0 + 1) i x2 = T1)) (hT2 : Hid (tOf (x0 + 1) i 0 = T2)) (hv21 : Hid ((own17 T1 T2 (i % 4)).getD (21 + 4 * (k % 4)) 0 = v21)) (hv17 : Hid ((own17 T1 T2 (i % 4)).getD 17 0 = T2))
    (v19 : Int) (hsame : ¬ ((i : Nat) : Int) = ((k : Nat) : Int)) (hE : Hid ((v21 == tOf (x0 + 1) k 0) = false)) (hS : Hid ((T2 == tOf (x0 + 1) k 0) = false)) (hv19 : Hid ((own17 T1 T2 (i % 4)).getD (19 + 4 * (k % 4)) 0 = v19)) (hv19n : Hid (v19 ≠ tOf (x0 + 1) k y2)) (hr17n : Hid (T2 ≠ tOf (x0 + 1) k 0))
    (hx19y : Hid ((own17 T1 T2 (i % 4)).getD (19 + 4 * (i % 4)) 0 = tOf (x0 + 1) i x2)) (hx17y : Hid (((own17 T1 T2 (i % 4)).set (19 + 4 * (i % 4)) 0).getD 17 0 = tOf (x0 + 1) i 0)) :
    Calls Try.prog 9 #[.agg #[.int .u16 x0, .int .u16 i, .int .u16 x2], .agg #[.int .u16 x0, .int .u16 k, .int .u16 y2]] w fun e w' => e = .returned (.bool true) ∧ Below w.heap.size w w' := by
  have wx2 : IntKind.i64.wrap x2 = x2 := by rw [IntKind.wrap_i64]; omega
  have wi : IntKind.i64.wrap ((i : Nat) : Int) = ((i : Nat) : Int) := by rw [IntKind.wrap_i64]; omega
  have wk : IntKind.i64.wrap ((k : Nat) : Int) = ((k : Nat) : Int) := by rw [IntKind.wrap_i64]; omega
  have wy2 : IntKind.i64.wrap y2 = y2 := by rw [IntKind.wrap_i64]; omega
  go_enter Try.func9, Try.ntmps9
  go_wp2_with (first | (go_at_call 48; refine (works17 _).mono ?_; rintro e w1 ⟨rfl, hb1⟩))
  have a0 : w1.cell? ⟨w.heap.size, 0, none⟩ = some (.int .u16 x0) := keepc (by go_simp) hb1
  have a1 : w1.cell? ⟨w.heap.size, 1, none⟩ = some (.int .u16 ((i : Nat) : Int)) := keepc (by go_simp) hb1
  have a2 : w1.cell? ⟨w.heap.size, 2, none⟩ = some (.int .u16 x2) := keepc (by go_simp) hb1
  have c0 : w1.cell? ⟨w.heap.size + 1, 0, none⟩ = some (.int .u16 x0) := keepc (by go_simp) hb1
  have c1 : w1.cell? ⟨w.heap.size + 1, 1, none⟩ = some (.int .u16 ((k : Nat) : Int)) := keepc (by go_simp) hb1
  have c2 : w1.cell? ⟨w.heap.size + 1, 2, none⟩ = some (.int .u16 y2) := keepc (by go_simp) hb1
  have hsA : w.heap.size + 1 < w1.heap.size := by have := hb1.size; simp at this; omega
  have hb : Below w.heap.size w w1 := btr (by go_grown) hb1
  clear hb1
  refine (plan17 w1).mono ?_
  rintro e w2 ⟨rfl, hb2⟩
  replace a0 := keepc a0 hb2
  replace a1 := keepc a1 hb2
  replace a2 := keepc a2 hb2
  replace c0 := keepc c0 hb2
  replace c1 := keepc c1 hb2
  replace c2 := keepc c2 hb2
  replace hb := btr hb hb2
  replace hsA := Nat.lt_of_lt_of_le hsA hb2.size
  clear hb2
  go_wp2_with fail
  obtain ⟨W, hW⟩ : ∃ W, W = w2.alloc (Obj.cells #[Value.int IntKind.i64 2, Value.int IntKind.i64 4, Value.int IntKind.i64 3, Value.int IntKind.i64 4] 63) := ⟨_, rfl⟩
  have p0 : W.cell? ⟨w2.heap.size, 0, none⟩ = some (.int .i64 (2)) := by rw [hW]; go_simp
  have p1 : W.cell? ⟨w2.heap.size, 1, none⟩ = some (.int .i64 (4)) := by rw [hW]; go_simp
  have p2 : W.cell? ⟨w2.heap.size, 2, none⟩ = some (.int .i64 (3)) := by rw [hW]; go_simp
  have p3 : W.cell? ⟨w2.heap.size, 3, none⟩ = some (.int .i64 (4)) := by rw [hW]; go_simp
  have hbA : Below w2.heap.size w2 W := by rw [hW]; go_grown
  have hlA : w2.heap.size < W.heap.size := by rw [hW]; simp
  rw [← hW]
  clear hW
  replace a0 := keepc a0 hbA
  replace a1 := keepc a1 hbA
  replace a2 := keepc a2 hbA
  replace c0 := keepc c0 hbA
  replace c1 := keepc c1 hbA
  replace c2 := keepc c2 hbA
  replace hb := btr hb hbA
  have hsP : w.heap.size + 1 < w2.heap.size := hsA
  refine (size_of 2 4 3 4 16 72 _ okay17 (Lib.hid (by decide)) (Lib.hid (by decide))).mono ?_
  rintro e w3 ⟨rfl, hb2⟩
  replace a0 := keepc a0 hb2
  replace a1 := keepc a1 hb2
  replace a2 := keepc a2 hb2
  replace c0 := keepc c0 hb2
  replace c1 := keepc c1 hb2
  replace c2 := keepc c2 hb2
  replace p0 := keepc p0 hb2
  replace p1 := keepc p1 hb2
  replace p2 := keepc p2 hb2
  replace p3 := keepc p3 hb2
  replace hb := btr hb hb2
  have hlP := Nat.lt_of_lt_of_le hlA hb2.size
  clear hb2 hbA hlA
  go_wp2_with fail
  refine (new_n 88 w3 (by decide)).mono ?_
  rintro e w4 ⟨rfl, hs, hb2⟩
  have h : J w w4 (w3.heap.size + 1) w3.heap.size (List.replicate 88 0) := ⟨hs, btr hb hb2, hb.size⟩
  replace a0 := keepc a0 hb2
  replace a1 := keepc a1 hb2
  replace a2 := keepc a2 hb2
  replace c0 := keepc c0 hb2
  replace c1 := keepc c1 hb2
  replace c2 := keepc c2 hb2
  replace p0 := keepc p0 hb2
  replace p1 := keepc p1 hb2
  replace p2 := keepc p2 hb2
  replace p3 := keepc p3 hb2
  have hne0 : w.heap.size ≠ w3.heap.size ∧ w.heap.size + 1 ≠ w3.heap.size ∧ w2.heap.size ≠ w3.heap.size := by omega
  have hA := Lib.hid hne0.1
  have hC := Lib.hid hne0.2.1
  have hP := Lib.hid hne0.2.2
  clear hb hb2 hs hne0 hlP hsP hsA
  generalize w3.heap.size + 1 = S at *
  generalize w3.heap.size = g at *
  generalize w2.heap.size = P at *
  have HAA := Lib.hid (rfl : w.heap.size = w.heap.size)
  go_wp2_with fail
  refine (new17 1 (x0 + 1) _).mono ?_
  rintro e w5 ⟨rfl, hb2⟩
  replace a0 := keepc a0 hb2
  replace a1 := keepc a1 hb2
  replace a2 := keepc a2 hb2
  replace c0 := keepc c0 hb2
  replace c1 := keepc c1 hb2
  replace c2 := keepc c2 hb2
  replace p0 := keepc p0 hb2
  replace p1 := keepc p1 hb2
  replace p2 := keepc p2 hb2
  replace p3 := keepc p3 hb2
  replace h := h.below' hb2
  clear hb2
  have q_a0 := fun o => keepc (W' := w5.alloc o) a0 (by go_grown)
  have q_a1 := fun o => keepc (W' := w5.alloc o) a1 (by go_grown)
  have q_a2 := fun o => keepc (W' := w5.alloc o) a2 (by go_grown)
  have q_c0 := fun o => keepc (W' := w5.alloc o) c0 (by go_grown)
  have q_c1 := fun o => keepc (W' := w5.alloc o) c1 (by go_grown)
  have q_c2 := fun o => keepc (W' := w5.alloc o) c2 (by go_grown)
  have q_p0 := fun o => keepc (W' := w5.alloc o) p0 (by go_grown)
  have q_p1 := fun o => keepc (W' := w5.alloc o) p1 (by go_grown)
  have q_p2 := fun o => keepc (W' := w5.alloc o) p2 (by go_grown)
  have q_p3 := fun o => keepc (W' := w5.alloc o) p3 (by go_grown)
  go_wp2_with fail
  obtain ⟨W, hW⟩ : ∃ W, W = w5.alloc (Obj.cells #[Value.int IntKind.i64 2, Value.int IntKind.i64 4, Value.int IntKind.i64 3, Value.int IntKind.i64 4, Value.int IntKind.i64 1, Value.int IntKind.i64 (x0 + 1)] 94) := ⟨_, rfl⟩
  have xr0 : W.cell? ⟨w5.heap.size, 0, none⟩ = some (.int .i64 (2)) := by rw [hW]; go_simp
  have xr1 : W.cell? ⟨w5.heap.size, 1, none⟩ = some (.int .i64 (4)) := by rw [hW]; go_simp
  have xr2 : W.cell? ⟨w5.heap.size, 2, none⟩ = some (.int .i64 (3)) := by rw [hW]; go_simp
  have xr3 : W.cell? ⟨w5.heap.size, 3, none⟩ = some (.int .i64 (4)) := by rw [hW]; go_simp
  have xr4 : W.cell? ⟨w5.heap.size, 4, none⟩ = some (.int .i64 (1)) := by rw [hW]; go_simp
  have xr5 : W.cell? ⟨w5.heap.size, 5, none⟩ = some (.int .i64 (x0 + 1)) := by rw [hW]; go_simp
  have hbA : Below w5.heap.size w5 W := by rw [hW]; go_grown
  have hlA : w5.heap.size < W.heap.size := by rw [hW]; simp
  rw [← hW]
  clear hW
  clear q_a0 q_a1 q_a2 q_c0 q_c1 q_c2 q_p0 q_p1 q_p2 q_p3
  replace a0 := keepc a0 hbA
  replace a1 := keepc a1 hbA
  replace a2 := keepc a2 hbA
  replace c0 := keepc c0 hbA
  replace c1 := keepc c1 hbA
  replace c2 := keepc c2 hbA
  replace p0 := keepc p0 hbA
  replace p1 := keepc p1 hbA
  replace p2 := keepc p2 hbA
  replace p3 := keepc p3 hbA
  have hX0 : w5.heap.size ≠ g := by have := h.1.facts.2.2.2.2.2; omega
  have hX := Lib.hid hX0
  replace h := h.below' hbA
  clear hbA hlA hX0
  generalize w5.heap.size = X at *
  refine (new17 1 (x0 + 1) _).mono ?_
  rintro e w5 ⟨rfl, hb2⟩
  replace a0 := keepc a0 hb2
  replace a1 := keepc a1 hb2
  replace a2 := keepc a2 hb2
  replace c0 := keepc c0 hb2
  replace c1 := keepc c1 hb2
  replace c2 := keepc c2 hb2
  replace p0 := keepc p0 hb2
  replace p1 := keepc p1 hb2
  replace p2 := keepc p2 hb2
  replace p3 := keepc p3 hb2
  replace xr0 := keepc xr0 hb2
  replace xr1 := keepc xr1 hb2
  replace xr2 := keepc xr2 hb2
  replace xr3 := keepc xr3 hb2
  replace xr4 := keepc xr4 hb2
  replace xr5 := keepc xr5 hb2
  replace h := h.below' hb2
  clear hb2
  have q_a0 := fun o => keepc (W' := w5.alloc o) a0 (by go_grown)
  have q_a1 := fun o => keepc (W' := w5.alloc o) a1 (by go_grown)
  have q_a2 := fun o => keepc (W' := w5.alloc o) a2 (by go_grown)
  have q_c0 := fun o => keepc (W' := w5.alloc o) c0 (by go_grown)
  have q_c1 := fun o => keepc (W' := w5.alloc o) c1 (by go_grown)
  have q_c2 := fun o => keepc (W' := w5.alloc o) c2 (by go_grown)
  have q_p0 := fun o => keepc (W' := w5.alloc o) p0 (by go_grown)
  have q_p1 := fun o => keepc (W' := w5.alloc o) p1 (by go_grown)
  have q_p2 := fun o => keepc (W' := w5.alloc o) p2 (by go_grown)
  have q_p3 := fun o => keepc (W' := w5.alloc o) p3 (by go_grown)
  have q_xr0 := fun o => keepc (W' := w5.alloc o) xr0 (by go_grown)
  have q_xr1 := fun o => keepc (W' := w5.alloc o) xr1 (by go_grown)
  have q_xr2 := fun o => keepc (W' := w5.alloc o) xr2 (by go_grown)
  have q_xr3 := fun o => keepc (W' := w5.alloc o) xr3 (by go_grown)
  have q_xr4 := fun o => keepc (W' := w5.alloc o) xr4 (by go_grown)
  have q_xr5 := fun o => keepc (W' := w5.alloc o) xr5 (by go_grown)
  go_wp2_with fail
  obtain ⟨W, hW⟩ : ∃ W, W = w5.alloc (Obj.cells #[Value.int IntKind.i64 2, Value.int IntKind.i64 4, Value.int IntKind.i64 3, Value.int IntKind.i64 4, Value.int IntKind.i64 1, Value.int IntKind.i64 (x0 + 1)] 94) := ⟨_, rfl⟩
  have yr0 : W.cell? ⟨w5.heap.size, 0, none⟩ = some (.int .i64 (2)) := by rw [hW]; go_simp
  have yr1 : W.cell? ⟨w5.heap.size, 1, none⟩ = some (.int .i64 (4)) := by rw [hW]; go_simp
  have yr2 : W.cell? ⟨w5.heap.size, 2, none⟩ = some (.int .i64 (3)) := by rw [hW]; go_simp
  have yr3 : W.cell? ⟨w5.heap.size, 3, none⟩ = some (.int .i64 (4)) := by rw [hW]; go_simp
  have yr4 : W.cell? ⟨w5.heap.size, 4, none⟩ = some (.int .i64 (1)) := by rw [hW]; go_simp
  have yr5 : W.cell? ⟨w5.heap.size, 5, none⟩ = some (.int .i64 (x0 + 1)) := by rw [hW]; go_simp
  have hbA : Below w5.heap.size w5 W := by rw [hW]; go_grown
  have hlA : w5.heap.size < W.heap.size := by rw [hW]; simp
  rw [← hW]
  clear hW
  clear q_a0 q_a1 q_a2 q_c0 q_c1 q_c2 q_p0 q_p1 q_p2 q_p3 q_xr0 q_xr1 q_xr2 q_xr3 q_xr4 q_xr5
  replace a0 := keepc a0 hbA
  replace a1 := keepc a1 hbA
  replace a2 := keepc a2 hbA
  replace c0 := keepc c0 hbA
  replace c1 := keepc c1 hbA
  replace c2 := keepc c2 hbA
  replace p0 := keepc p0 hbA
  replace p1 := keepc p1 hbA
  replace p2 := keepc p2 hbA
  replace p3 := keepc p3 hbA
  replace xr0 := keepc xr0 hbA
  replace xr1 := keepc xr1 hbA
  replace xr2 := keepc xr2 hbA
  replace xr3 := keepc xr3 hbA
  replace xr4 := keepc xr4 hbA
  replace xr5 := keepc xr5 hbA
  have hY0 : w5.heap.size ≠ g := by have := h.1.facts.2.2.2.2.2; omega
  have hY := Lib.hid hY0
  replace h := h.below' hbA
  clear hbA hlA hY0
  generalize w5.heap.size = Y at *
  have hl0 : ((List.replicate 88 (0 : Int))).length = 88 := by simp
  go_region_held3 (fun w' => w'.cell? ⟨w.heap.size, 1, none⟩ = some (.int .u16 ((i : Nat) : Int)) ∧ w'.cell? ⟨w.heap.size + 1, 1, none⟩ = some (.int .u16 ((k : Nat) : Int))) (first | (with_reducible assumption) | exact ⟨a1, c1⟩) (fail)
  obtain ⟨V, hV⟩ : ∃ V, V = W.drew := ⟨_, rfl⟩
  rw [← hV]
  have hbV : Below W.heap.size W V := by rw [hV]; go_grown
  clear hV
  replace a0 := keepc a0 hbV
  replace a1 := keepc a1 hbV
  replace a2 := keepc a2 hbV
  replace c0 := keepc c0 hbV
  replace c1 := keepc c1 hbV
  replace c2 := keepc c2 hbV
  replace p0 := keepc p0 hbV
  replace p1 := keepc p1 hbV
  replace p2 := keepc p2 hbV
  replace p3 := keepc p3 hbV
  replace xr0 := keepc xr0 hbV
  replace xr1 := keepc xr1 hbV
  replace xr2 := keepc xr2 hbV
  replace xr3 := keepc xr3 hbV
  replace xr4 := keepc xr4 hbV
  replace xr5 := keepc xr5 hbV
  replace yr0 := keepc yr0 hbV
  replace yr1 := keepc yr1 hbV
  replace yr2 := keepc yr2 hbV
  replace yr3 := keepc yr3 hbV
  replace yr4 := keepc yr4 hbV
  replace yr5 := keepc yr5 hbV
  replace h := h.below' hbV
  clear hbV
  go_wp2_with fail
  refine (rwait_j S g (19 + 4 * (i % 4)) (List.replicate 88 0) 1 (x0 + 1) i 16 ((i % 4 : Nat) : Int) x2 w _ h (by decide) (by decide) hF (by omega) hqi hki (by rw [hl0]; omega) (by rw [hl0]; decide)).mono ?_
  rintro e wz ⟨rfl, hj, hk⟩
  replace h := hj
  replace a0 := hk.cell a0 hA.out
  replace a1 := hk.cell a1 hA.out
  replace a2 := hk.cell a2 hA.out
  replace c0 := hk.cell c0 hC.out
  replace c1 := hk.cell c1 hC.out
  replace c2 := hk.cell c2 hC.out
  replace p0 := hk.cell p0 hP.out
  replace p1 := hk.cell p1 hP.out
  replace p2 := hk.cell p2 hP.out
  replace p3 := hk.cell p3 hP.out
  replace xr0 := hk.cell xr0 hX.out
  replace xr1 := hk.cell xr1 hX.out
  replace xr2 := hk.cell xr2 hX.out
  replace xr3 := hk.cell xr3 hX.out
  replace xr4 := hk.cell xr4 hX.out
  replace xr5 := hk.cell xr5 hX.out
  replace yr0 := hk.cell yr0 hY.out
  replace yr1 := hk.cell yr1 hY.out
  replace yr2 := hk.cell yr2 hY.out
  replace yr3 := hk.cell yr3 hY.out
  replace yr4 := hk.cell yr4 hY.out
  replace yr5 := hk.cell yr5 hY.out
  clear hj hk
  go_wp2_with fail
  refine (rend_j S g (21 + 4 * (i % 4)) _ 1 (x0 + 1) i 16 ((i % 4 : Nat) : Int) w _ h (by decide) (by decide) hF (by omega) hqi hdi (by rw [List.length_set, hl0]; omega) (by rw [List.length_set, hl0]; decide)).mono ?_
  rintro e wz ⟨rfl, hj, hk⟩
  replace h := hj
  replace a0 := hk.cell a0 hA.out
  replace a1 := hk.cell a1 hA.out
  replace a2 := hk.cell a2 hA.out
  replace c0 := hk.cell c0 hC.out
  replace c1 := hk.cell c1 hC.out
  replace c2 := hk.cell c2 hC.out
  replace p0 := hk.cell p0 hP.out
  replace p1 := hk.cell p1 hP.out
  replace p2 := hk.cell p2 hP.out
  replace p3 := hk.cell p3 hP.out
  replace xr0 := hk.cell xr0 hX.out
  replace xr1 := hk.cell xr1 hX.out
  replace xr2 := hk.cell xr2 hX.out
  replace xr3 := hk.cell xr3 hX.out
  replace xr4 := hk.cell xr4 hX.out
  replace xr5 := hk.cell xr5 hX.out
  replace yr0 := hk.cell yr0 hY.out
  replace yr1 := hk.cell yr1 hY.out
  replace yr2 := hk.cell yr2 hY.out
  replace yr3 := hk.cell yr3 hY.out
  replace yr4 := hk.cell yr4 hY.out
  replace yr5 := hk.cell yr5 hY.out
  clear hj hk
  go_wp2_with fail
  refine (rsleep_j S g 17 _ 1 (x0 + 1) i 16 0 w _ h (by decide) (by decide) hF (Lib.hid (by decide)) (by rw [List.length_set, List.length_set, hl0]; decide) (by rw [List.length_set, List.length_set, hl0]; decide)).mono ?_
  rintro e wz ⟨rfl, hj, hk⟩
  replace h := hj
  replace a0 := hk.cell a0 hA.out
  replace a1 := hk.cell a1 hA.out
  replace a2 := hk.cell a2 hA.out
  replace c0 := hk.cell c0 hC.out
  replace c1 := hk.cell c1 hC.out
  replace c2 := hk.cell c2 hC.out
  replace p0 := hk.cell p0 hP.out
  replace p1 := hk.cell p1 hP.out
  replace p2 := hk.cell p2 hP.out
  replace p3 := hk.cell p3 hP.out
  replace xr0 := hk.cell xr0 hX.out
  replace xr1 := hk.cell xr1 hX.out
  replace xr2 := hk.cell xr2 hX.out
  replace xr3 := hk.cell xr3 hX.out
  replace xr4 := hk.cell xr4 hX.out
  replace xr5 := hk.cell xr5 hX.out
  replace yr0 := hk.cell yr0 hY.out
  replace yr1 := hk.cell yr1 hY.out
  replace yr2 := hk.cell yr2 hY.out
  replace yr3 := hk.cell yr3 hY.out
  replace yr4 := hk.cell yr4 hY.out
  replace yr5 := hk.cell yr5 hY.out
  clear hj hk
  rw [hT1.out, hT2.out] at h
  change J w _ S g (own17 T1 T2 (i % 4)) at h
  go_wp2_with fail
  refine (rended_j S g (21 + 4 * (k % 4)) _ 1 (x0 + 1) k 16 ((k % 4 : Nat) : Int) v21 false w _ h (by decide) (by decide) hF (by omega) hqk hdk hv21 hE (by rw [own_len]; omega) (by rw [own_len]; decide)).mono ?_
  rintro e wz ⟨rfl, hj, hk⟩
  replace h := hj
  replace a0 := hk.cell a0 hA.out
  replace a1 := hk.cell a1 hA.out
  replace a2 := hk.cell a2 hA.out
  replace c0 := hk.cell c0 hC.out
  replace c1 := hk.cell c1 hC.out
  replace c2 := hk.cell c2 hC.out
  replace p0 := hk.cell p0 hP.out
  replace p1 := hk.cell p1 hP.out
  replace p2 := hk.cell p2 hP.out
  replace p3 := hk.cell p3 hP.out
  replace xr0 := hk.cell xr0 hX.out
  replace xr1 := hk.cell xr1 hX.out
  replace xr2 := hk.cell xr2 hX.out
  replace xr3 := hk.cell xr3 hX.out
  replace xr4 := hk.cell xr4 hX.out
  replace xr5 := hk.cell xr5 hX.out
  replace yr0 := hk.cell yr0 hY.out
  replace yr1 := hk.cell yr1 hY.out
  replace yr2 := hk.cell yr2 hY.out
  replace yr3 := hk.cell yr3 hY.out
  replace yr4 := hk.cell yr4 hY.out
  replace yr5 := hk.cell yr5 hY.out
  clear hj hk
  go_wp2_with fail
  refine (rsleeps_j S g 17 _ 1 (x0 + 1) k 16 0 T2 false w _ h (by decide) (by decide) hF (Lib.hid (by decide)) hv17 hS (by rw [own_len]; omega) (by rw [own_len]; decide)).mono ?_
  rintro e wz ⟨rfl, hj, hk⟩
  replace h := hj
  replace a0 := hk.cell a0 hA.out
  replace a1 := hk.cell a1 hA.out
  replace a2 := hk.cell a2 hA.out
  replace c0 := hk.cell c0 hC.out
  replace c1 := hk.cell c1 hC.out
  replace c2 := hk.cell c2 hC.out
  replace p0 := hk.cell p0 hP.out
  replace p1 := hk.cell p1 hP.out
  replace p2 := hk.cell p2 hP.out
  replace p3 := hk.cell p3 hP.out
  replace xr0 := hk.cell xr0 hX.out
  replace xr1 := hk.cell xr1 hX.out
  replace xr2 := hk.cell xr2 hX.out
  replace xr3 := hk.cell xr3 hX.out
  replace xr4 := hk.cell xr4 hX.out
  replace xr5 := hk.cell xr5 hX.out
  replace yr0 := hk.cell yr0 hY.out
  replace yr1 := hk.cell yr1 hY.out
  replace yr2 := hk.cell yr2 hY.out
  replace yr3 := hk.cell yr3 hY.out
  replace yr4 := hk.cell yr4 hY.out
  replace yr5 := hk.cell yr5 hY.out
  clear hj hk
  go_wp2_with fail
  have hdr := h.below' (w' := wz.drew) (by go_grown)
  have kp : ∀ W W' : World, Keep g W W' → Keep g wz W ∧ W.cell? ⟨Y, 0, none⟩ = some (.int .i64 2) ∧ W.cell? ⟨Y, 1, none⟩ = some (.int .i64 4) ∧ W.cell? ⟨Y, 2, none⟩ = some (.int .i64 3) ∧ W.cell? ⟨Y, 3, none⟩ = some (.int .i64 4) ∧ W.cell? ⟨Y, 4, none⟩ = some (.int .i64 1) ∧ W.cell? ⟨Y, 5, none⟩ = some (.int .i64 (x0 + 1)) ∧ W.cell? ⟨w.heap.size + 1, 2, none⟩ = some (.int .u16 y2) → Keep g wz W' ∧ W'.cell? ⟨Y, 0, none⟩ = some (.int .i64 2) ∧ W'.cell? ⟨Y, 1, none⟩ = some (.int .i64 4) ∧ W'.cell? ⟨Y, 2, none⟩ = some (.int .i64 3) ∧ W'.cell? ⟨Y, 3, none⟩ = some (.int .i64 4) ∧ W'.cell? ⟨Y, 4, none⟩ = some (.int .i64 1) ∧ W'.cell? ⟨Y, 5, none⟩ = some (.int .i64 (x0 + 1)) ∧ W'.cell? ⟨w.heap.size + 1, 2, none⟩ = some (.int .u16 y2) := fun W W' hk hh => ⟨hh.1.trans hk, hk.cell hh.2.1 hY.out, hk.cell hh.2.2.1 hY.out, hk.cell hh.2.2.2.1 hY.out, hk.cell hh.2.2.2.2.1 hY.out, hk.cell hh.2.2.2.2.2.1 hY.out, hk.cell hh.2.2.2.2.2.2.1 hY.out, hk.cell hh.2.2.2.2.2.2.2 hC.out⟩
  go_region_held3 (fun w' => Keep g wz w' ∧ w'.cell? ⟨Y, 0, none⟩ = some (.int .i64 2) ∧ w'.cell? ⟨Y, 1, none⟩ = some (.int .i64 4) ∧ w'.cell? ⟨Y, 2, none⟩ = some (.int .i64 3) ∧ w'.cell? ⟨Y, 3, none⟩ = some (.int .i64 4) ∧ w'.cell? ⟨Y, 4, none⟩ = some (.int .i64 1) ∧ w'.cell? ⟨Y, 5, none⟩ = some (.int .i64 (x0 + 1)) ∧ w'.cell? ⟨w.heap.size + 1, 2, none⟩ = some (.int .u16 y2)) (first | (with_reducible assumption) | (refine kp _ _ hkv ?_; with_reducible assumption) | (refine ⟨Keep.of_below ?_, yr0, yr1, yr2, yr3, yr4, yr5, c2⟩; go_grown; done)) (first | (go_at_call 56; refine (rfree_no S g (19 + 4 * (k % 4)) _ 1 (x0 + 1) k 16 ((k % 4 : Nat) : Int) y2 v19 w _ hdr (by decide) (by decide) hF (by omega) hqk hkk hv19 hv19n (by rw [own_len]; omega) (by rw [own_len]; decide)).mono ?_; rintro e wv ⟨rfl, hf, hkv⟩) | (go_at_call 57; refine (rrouse_no S g 17 _ 1 (x0 + 1) k 16 0 T2 w _ hf (by decide) (by decide) hF (Lib.hid (by decide)) hv17 hr17n (by simp [own17] <;> omega) (by simp [own17])).mono ?_; rintro e wv ⟨rfl, hr, hkv⟩))
  all_goals
    clear hdr kp
    replace h := hr
    have hkz : Keep g wz _ := And.left (by with_reducible assumption)
    replace a0 := hkz.cell a0 hA.out
    replace a1 := hkz.cell a1 hA.out
    replace a2 := hkz.cell a2 hA.out
    replace c0 := hkz.cell c0 hC.out
    replace c1 := hkz.cell c1 hC.out
    replace c2 := hkz.cell c2 hC.out
    replace p0 := hkz.cell p0 hP.out
    replace p1 := hkz.cell p1 hP.out
    replace p2 := hkz.cell p2 hP.out
    replace p3 := hkz.cell p3 hP.out
    replace xr0 := hkz.cell xr0 hX.out
    replace xr1 := hkz.cell xr1 hX.out
    replace xr2 := hkz.cell xr2 hX.out
    replace xr3 := hkz.cell xr3 hX.out
    replace xr4 := hkz.cell xr4 hX.out
    replace xr5 := hkz.cell xr5 hX.out
    replace yr0 := hkz.cell yr0 hY.out
    replace yr1 := hkz.cell yr1 hY.out
    replace yr2 := hkz.cell yr2 hY.out
    replace yr3 := hkz.cell yr3 hY.out
    replace yr4 := hkz.cell yr4 hY.out
    replace yr5 := hkz.cell yr5 hY.out
    clear hkz
    go_wp2_with fail
    refine (rfree_yes S g (19 + 4 * (i % 4)) _ 1 (x0 + 1) i 16 ((i % 4 : Nat) : Int) x2 w _ h (by decide) (by decide) hF (by omega) hqi hki hx19y (by simp [own17] <;> omega) (by simp [own17])).mono ?_
    rintro e wz ⟨rfl, hj, hk⟩
    replace h := hj
    replace a0 := hk.cell a0 hA.out
    replace a1 := hk.cell a1 hA.out
    replace a2 := hk.cell a2 hA.out
    replace c0 := hk.cell c0 hC.out
    replace c1 := hk.cell c1 hC.out
    replace c2 := hk.cell c2 hC.out
    replace p0 := hk.cell p0 hP.out
    replace p1 := hk.cell p1 hP.out
    replace p2 := hk.cell p2 hP.out
    replace p3 := hk.cell p3 hP.out
    replace xr0 := hk.cell xr0 hX.out
    replace xr1 := hk.cell xr1 hX.out
    replace xr2 := hk.cell xr2 hX.out
    replace xr3 := hk.cell xr3 hX.out
    replace xr4 := hk.cell xr4 hX.out
    replace xr5 := hk.cell xr5 hX.out
    replace yr0 := hk.cell yr0 hY.out
    replace yr1 := hk.cell yr1 hY.out
    replace yr2 := hk.cell yr2 hY.out
    replace yr3 := hk.cell yr3 hY.out
    replace yr4 := hk.cell yr4 hY.out
    replace yr5 := hk.cell yr5 hY.out
    clear hj hk
    go_wp2_with fail
    refine (rrouse_yes S g 17 _ 1 (x0 + 1) i 16 0 w _ h (by decide) (by decide) hF (Lib.hid (by decide)) hx17y (by simp [own17] <;> omega) (by simp [own17])).mono ?_
    rintro e wz ⟨rfl, hj, hk⟩
    replace h := hj
    replace a0 := hk.cell a0 hA.out
    replace a1 := hk.cell a1 hA.out
    replace a2 := hk.cell a2 hA.out
    replace c0 := hk.cell c0 hC.out
    replace c1 := hk.cell c1 hC.out
    replace c2 := hk.cell c2 hC.out
    replace p0 := hk.cell p0 hP.out
    replace p1 := hk.cell p1 hP.out
    replace p2 := hk.cell p2 hP.out
    replace p3 := hk.cell p3 hP.out
    replace xr0 := hk.cell xr0 hX.out
    replace xr1 := hk.cell xr1 hX.out
    replace xr2 := hk.cell xr2 hX.out
    replace xr3 := hk.cell xr3 hX.out
    replace xr4 := hk.cell xr4 hX.out
    replace xr5 := hk.cell xr5 hX.out
    replace yr0 := hk.cell yr0 hY.out
    replace yr1 := hk.cell yr1 hY.out
    replace yr2 := hk.cell yr2 hY.out
    replace yr3 := hk.cell yr3 hY.out
    replace yr4 := hk.cell yr4 hY.out
    replace yr5 := hk.cell yr5 hY.out
    clear hj hk
    go_wp2_with fail
    go_ret
    refine ⟨?_, h.2.1⟩
    first | rfl | simp [hsame] | simp
set_option maxHeartbeats 2000000 in
set_option maxRecDepth 20000 in
theorem core_tf (x0 x2 y2 : Int) (i : Nat) (w : World) (w0 : 0 ≤ x0 ∧ x0 ≤ 65535) (w1 : i ≤ 65535) (w2 : 0 ≤ x2 ∧ x2 ≤ 65535) (w5 : 0 ≤ y2 ∧ y2 ≤ 65535)
    (hF : Hid ((2 : Int) * (4 + 4) + (1 - 1) * (2 + (3 + 1) * 4) = 16)) (hqi : Hid ((i : Int).tmod (3 + 1) = ((i % 4 : Nat) : Int))) (hqk : Hid ((i : Int).tmod (3 + 1) = ((i % 4 : Nat) : Int)))
    (hki : Hid ((16 : Int) + 2 + ((i % 4 : Nat) : Int) * 4 + 1 = ((19 + 4 * (i % 4) : Nat) : Int))) (hdi : Hid ((16 : Int) + 2 + ((i % 4 : Nat) : Int) * 4 + 3 = ((21 + 4 * (i % 4) : Nat) : Int)))
    (hkk : Hid ((16 : Int) + 2 + ((i % 4 : Nat) : Int) * 4 + 1 = ((19 + 4 * (i % 4) : Nat) : Int))) (hdk : Hid ((16 : Int) + 2 + ((i % 4 : Nat) : Int) * 4 + 3 = ((21 + 4 * (i % 4) : Nat) : Int)))
    (T1 T2 v21 : Int) (hT1 : Hid (tOf (x0 + 1) i x2 = T1)) (hT2 : Hid (tOf (x0 + 1) i 0 = T2)) (hv21 : Hid ((own17 T1 T2 (i % 4)).getD (21 + 4 * (i % 4)) 0 = v21)) (hv17 : Hid ((own17 T1 T2 (i % 4)).getD 17 0 = T2))
    (v19 : Int) (hsame : ¬ x2 = y2) (hE : Hid ((v21 == tOf (x0 + 1) i 0) = true)) (hS : Hid ((T2 == tOf (x0 + 1) i 0) = true)) (hv19 : Hid ((own17 T1 T2 (i % 4)).getD (19 + 4 * (i % 4)) 0 = v19)) (hv19n : Hid (v19 ≠ tOf (x0 + 1) i y2)) (hr17y : Hid ((own17 T1 T2 (i % 4)).getD 17 0 = tOf (x0 + 1) i 0))
    (hx19y : Hid (((own17 T1 T2 (i % 4)).set 17 0).getD (19 + 4 * (i % 4)) 0 = tOf (x0 + 1) i x2)) (hx17n : Hid ((((own17 T1 T2 (i % 4)).set 17 0).set (19 + 4 * (i % 4)) 0).getD 17 0 = 0)) (hx17z : Hid (0 ≠ tOf (x0 + 1) i 0)) :
    Calls Try.prog 9 #[.agg #[.int .u16 x0, .int .u16 i, .int .u16 x2], .agg #[.int .u16 x0, .int .u16 i, .int .u16 y2]] w fun e w' => e = .returned (.bool true) ∧ Below w.heap.size w w' := by
  have wx2 : IntKind.i64.wrap x2 = x2 := by rw [IntKind.wrap_i64]; omega
  have wi : IntKind.i64.wrap ((i : Nat) : Int) = ((i : Nat) : Int) := by rw [IntKind.wrap_i64]; omega
  have wk : IntKind.i64.wrap ((i : Nat) : Int) = ((i : Nat) : Int) := by rw [IntKind.wrap_i64]; omega
  have wy2 : IntKind.i64.wrap y2 = y2 := by rw [IntKind.wrap_i64]; omega
  go_enter Try.func9, Try.ntmps9
  go_wp2_with (first | (go_at_call 48; refine (works17 _).mono ?_; rintro e w1 ⟨rfl, hb1⟩))
  have a0 : w1.cell? ⟨w.heap.size, 0, none⟩ = some (.int .u16 x0) := keepc (by go_simp) hb1
  have a1 : w1.cell? ⟨w.heap.size, 1, none⟩ = some (.int .u16 ((i : Nat) : Int)) := keepc (by go_simp) hb1
  have a2 : w1.cell? ⟨w.heap.size, 2, none⟩ = some (.int .u16 x2) := keepc (by go_simp) hb1
  have c0 : w1.cell? ⟨w.heap.size + 1, 0, none⟩ = some (.int .u16 x0) := keepc (by go_simp) hb1
  have c1 : w1.cell? ⟨w.heap.size + 1, 1, none⟩ = some (.int .u16 ((i : Nat) : Int)) := keepc (by go_simp) hb1
  have c2 : w1.cell? ⟨w.heap.size + 1, 2, none⟩ = some (.int .u16 y2) := keepc (by go_simp) hb1
  have hsA : w.heap.size + 1 < w1.heap.size := by have := hb1.size; simp at this; omega
  have hb : Below w.heap.size w w1 := btr (by go_grown) hb1
  clear hb1
  refine (plan17 w1).mono ?_
  rintro e w2 ⟨rfl, hb2⟩
  replace a0 := keepc a0 hb2
  replace a1 := keepc a1 hb2
  replace a2 := keepc a2 hb2
  replace c0 := keepc c0 hb2
  replace c1 := keepc c1 hb2
  replace c2 := keepc c2 hb2
  replace hb := btr hb hb2
  replace hsA := Nat.lt_of_lt_of_le hsA hb2.size
  clear hb2
  go_wp2_with fail
  obtain ⟨W, hW⟩ : ∃ W, W = w2.alloc (Obj.cells #[Value.int IntKind.i64 2, Value.int IntKind.i64 4, Value.int IntKind.i64 3, Value.int IntKind.i64 4] 63) := ⟨_, rfl⟩
  have p0 : W.cell? ⟨w2.heap.size, 0, none⟩ = some (.int .i64 (2)) := by rw [hW]; go_simp
  have p1 : W.cell? ⟨w2.heap.size, 1, none⟩ = some (.int .i64 (4)) := by rw [hW]; go_simp
  have p2 : W.cell? ⟨w2.heap.size, 2, none⟩ = some (.int .i64 (3)) := by rw [hW]; go_simp
  have p3 : W.cell? ⟨w2.heap.size, 3, none⟩ = some (.int .i64 (4)) := by rw [hW]; go_simp
  have hbA : Below w2.heap.size w2 W := by rw [hW]; go_grown
  have hlA : w2.heap.size < W.heap.size := by rw [hW]; simp
  rw [← hW]
  clear hW
  replace a0 := keepc a0 hbA
  replace a1 := keepc a1 hbA
  replace a2 := keepc a2 hbA
  replace c0 := keepc c0 hbA
  replace c1 := keepc c1 hbA
  replace c2 := keepc c2 hbA
  replace hb := btr hb hbA
  have hsP : w.heap.size + 1 < w2.heap.size := hsA
  refine (size_of 2 4 3 4 16 72 _ okay17 (Lib.hid (by decide)) (Lib.hid (by decide))).mono ?_
  rintro e w3 ⟨rfl, hb2⟩
  replace a0 := keepc a0 hb2
  replace a1 := keepc a1 hb2
  replace a2 := keepc a2 hb2
  replace c0 := keepc c0 hb2
  replace c1 := keepc c1 hb2
  replace c2 := keepc c2 hb2
  replace p0 := keepc p0 hb2
  replace p1 := keepc p1 hb2
  replace p2 := keepc p2 hb2
  replace p3 := keepc p3 hb2
  replace hb := btr hb hb2
  have hlP := Nat.lt_of_lt_of_le hlA hb2.size
  clear hb2 hbA hlA
  go_wp2_with fail
  refine (new_n 88 w3 (by decide)).mono ?_
  rintro e w4 ⟨rfl, hs, hb2⟩
  have h : J w w4 (w3.heap.size + 1) w3.heap.size (List.replicate 88 0) := ⟨hs, btr hb hb2, hb.size⟩
  replace a0 := keepc a0 hb2
  replace a1 := keepc a1 hb2
  replace a2 := keepc a2 hb2
  replace c0 := keepc c0 hb2
  replace c1 := keepc c1 hb2
  replace c2 := keepc c2 hb2
  replace p0 := keepc p0 hb2
  replace p1 := keepc p1 hb2
  replace p2 := keepc p2 hb2
  replace p3 := keepc p3 hb2
  have hne0 : w.heap.size ≠ w3.heap.size ∧ w.heap.size + 1 ≠ w3.heap.size ∧ w2.heap.size ≠ w3.heap.size := by omega
  have hA := Lib.hid hne0.1
  have hC := Lib.hid hne0.2.1
  have hP := Lib.hid hne0.2.2
  clear hb hb2 hs hne0 hlP hsP hsA
  generalize w3.heap.size + 1 = S at *
  generalize w3.heap.size = g at *
  generalize w2.heap.size = P at *
  have HAA := Lib.hid (rfl : w.heap.size = w.heap.size)
  go_wp2_with fail
  refine (new17 1 (x0 + 1) _).mono ?_
  rintro e w5 ⟨rfl, hb2⟩
  replace a0 := keepc a0 hb2
  replace a1 := keepc a1 hb2
  replace a2 := keepc a2 hb2
  replace c0 := keepc c0 hb2
  replace c1 := keepc c1 hb2
  replace c2 := keepc c2 hb2
  replace p0 := keepc p0 hb2
  replace p1 := keepc p1 hb2
  replace p2 := keepc p2 hb2
  replace p3 := keepc p3 hb2
  replace h := h.below' hb2
  clear hb2
  have q_a0 := fun o => keepc (W' := w5.alloc o) a0 (by go_grown)
  have q_a1 := fun o => keepc (W' := w5.alloc o) a1 (by go_grown)
  have q_a2 := fun o => keepc (W' := w5.alloc o) a2 (by go_grown)
  have q_c0 := fun o => keepc (W' := w5.alloc o) c0 (by go_grown)
  have q_c1 := fun o => keepc (W' := w5.alloc o) c1 (by go_grown)
  have q_c2 := fun o => keepc (W' := w5.alloc o) c2 (by go_grown)
  have q_p0 := fun o => keepc (W' := w5.alloc o) p0 (by go_grown)
  have q_p1 := fun o => keepc (W' := w5.alloc o) p1 (by go_grown)
  have q_p2 := fun o => keepc (W' := w5.alloc o) p2 (by go_grown)
  have q_p3 := fun o => keepc (W' := w5.alloc o) p3 (by go_grown)
  go_wp2_with fail
  obtain ⟨W, hW⟩ : ∃ W, W = w5.alloc (Obj.cells #[Value.int IntKind.i64 2, Value.int IntKind.i64 4, Value.int IntKind.i64 3, Value.int IntKind.i64 4, Value.int IntKind.i64 1, Value.int IntKind.i64 (x0 + 1)] 94) := ⟨_, rfl⟩
  have xr0 : W.cell? ⟨w5.heap.size, 0, none⟩ = some (.int .i64 (2)) := by rw [hW]; go_simp
  have xr1 : W.cell? ⟨w5.heap.size, 1, none⟩ = some (.int .i64 (4)) := by rw [hW]; go_simp
  have xr2 : W.cell? ⟨w5.heap.size, 2, none⟩ = some (.int .i64 (3)) := by rw [hW]; go_simp
  have xr3 : W.cell? ⟨w5.heap.size, 3, none⟩ = some (.int .i64 (4)) := by rw [hW]; go_simp
  have xr4 : W.cell? ⟨w5.heap.size, 4, none⟩ = some (.int .i64 (1)) := by rw [hW]; go_simp
  have xr5 : W.cell? ⟨w5.heap.size, 5, none⟩ = some (.int .i64 (x0 + 1)) := by rw [hW]; go_simp
  have hbA : Below w5.heap.size w5 W := by rw [hW]; go_grown
  have hlA : w5.heap.size < W.heap.size := by rw [hW]; simp
  rw [← hW]
  clear hW
  clear q_a0 q_a1 q_a2 q_c0 q_c1 q_c2 q_p0 q_p1 q_p2 q_p3
  replace a0 := keepc a0 hbA
  replace a1 := keepc a1 hbA
  replace a2 := keepc a2 hbA
  replace c0 := keepc c0 hbA
  replace c1 := keepc c1 hbA
  replace c2 := keepc c2 hbA
  replace p0 := keepc p0 hbA
  replace p1 := keepc p1 hbA
  replace p2 := keepc p2 hbA
  replace p3 := keepc p3 hbA
  have hX0 : w5.heap.size ≠ g := by have := h.1.facts.2.2.2.2.2; omega
  have hX := Lib.hid hX0
  replace h := h.below' hbA
  clear hbA hlA hX0
  generalize w5.heap.size = X at *
  refine (new17 1 (x0 + 1) _).mono ?_
  rintro e w5 ⟨rfl, hb2⟩
  replace a0 := keepc a0 hb2
  replace a1 := keepc a1 hb2
  replace a2 := keepc a2 hb2
  replace c0 := keepc c0 hb2
  replace c1 := keepc c1 hb2
  replace c2 := keepc c2 hb2
  replace p0 := keepc p0 hb2
  replace p1 := keepc p1 hb2
  replace p2 := keepc p2 hb2
  replace p3 := keepc p3 hb2
  replace xr0 := keepc xr0 hb2
  replace xr1 := keepc xr1 hb2
  replace xr2 := keepc xr2 hb2
  replace xr3 := keepc xr3 hb2
  replace xr4 := keepc xr4 hb2
  replace xr5 := keepc xr5 hb2
  replace h := h.below' hb2
  clear hb2
  have q_a0 := fun o => keepc (W' := w5.alloc o) a0 (by go_grown)
  have q_a1 := fun o => keepc (W' := w5.alloc o) a1 (by go_grown)
  have q_a2 := fun o => keepc (W' := w5.alloc o) a2 (by go_grown)
  have q_c0 := fun o => keepc (W' := w5.alloc o) c0 (by go_grown)
  have q_c1 := fun o => keepc (W' := w5.alloc o) c1 (by go_grown)
  have q_c2 := fun o => keepc (W' := w5.alloc o) c2 (by go_grown)
  have q_p0 := fun o => keepc (W' := w5.alloc o) p0 (by go_grown)
  have q_p1 := fun o => keepc (W' := w5.alloc o) p1 (by go_grown)
  have q_p2 := fun o => keepc (W' := w5.alloc o) p2 (by go_grown)
  have q_p3 := fun o => keepc (W' := w5.alloc o) p3 (by go_grown)
  have q_xr0 := fun o => keepc (W' := w5.alloc o) xr0 (by go_grown)
  have q_xr1 := fun o => keepc (W' := w5.alloc o) xr1 (by go_grown)
  have q_xr2 := fun o => keepc (W' := w5.alloc o) xr2 (by go_grown)
  have q_xr3 := fun o => keepc (W' := w5.alloc o) xr3 (by go_grown)
  have q_xr4 := fun o => keepc (W' := w5.alloc o) xr4 (by go_grown)
  have q_xr5 := fun o => keepc (W' := w5.alloc o) xr5 (by go_grown)
  go_wp2_with fail
  obtain ⟨W, hW⟩ : ∃ W, W = w5.alloc (Obj.cells #[Value.int IntKind.i64 2, Value.int IntKind.i64 4, Value.int IntKind.i64 3, Value.int IntKind.i64 4, Value.int IntKind.i64 1, Value.int IntKind.i64 (x0 + 1)] 94) := ⟨_, rfl⟩
  have yr0 : W.cell? ⟨w5.heap.size, 0, none⟩ = some (.int .i64 (2)) := by rw [hW]; go_simp
  have yr1 : W.cell? ⟨w5.heap.size, 1, none⟩ = some (.int .i64 (4)) := by rw [hW]; go_simp
  have yr2 : W.cell? ⟨w5.heap.size, 2, none⟩ = some (.int .i64 (3)) := by rw [hW]; go_simp
  have yr3 : W.cell? ⟨w5.heap.size, 3, none⟩ = some (.int .i64 (4)) := by rw [hW]; go_simp
  have yr4 : W.cell? ⟨w5.heap.size, 4, none⟩ = some (.int .i64 (1)) := by rw [hW]; go_simp
  have yr5 : W.cell? ⟨w5.heap.size, 5, none⟩ = some (.int .i64 (x0 + 1)) := by rw [hW]; go_simp
  have hbA : Below w5.heap.size w5 W := by rw [hW]; go_grown
  have hlA : w5.heap.size < W.heap.size := by rw [hW]; simp
  rw [← hW]
  clear hW
  clear q_a0 q_a1 q_a2 q_c0 q_c1 q_c2 q_p0 q_p1 q_p2 q_p3 q_xr0 q_xr1 q_xr2 q_xr3 q_xr4 q_xr5
  replace a0 := keepc a0 hbA
  replace a1 := keepc a1 hbA
  replace a2 := keepc a2 hbA
  replace c0 := keepc c0 hbA
  replace c1 := keepc c1 hbA
  replace c2 := keepc c2 hbA
  replace p0 := keepc p0 hbA
  replace p1 := keepc p1 hbA
  replace p2 := keepc p2 hbA
  replace p3 := keepc p3 hbA
  replace xr0 := keepc xr0 hbA
  replace xr1 := keepc xr1 hbA
  replace xr2 := keepc xr2 hbA
  replace xr3 := keepc xr3 hbA
  replace xr4 := keepc xr4 hbA
  replace xr5 := keepc xr5 hbA
  have hY0 : w5.heap.size ≠ g := by have := h.1.facts.2.2.2.2.2; omega
  have hY := Lib.hid hY0
  replace h := h.below' hbA
  clear hbA hlA hY0
  generalize w5.heap.size = Y at *
  have hl0 : ((List.replicate 88 (0 : Int))).length = 88 := by simp
  go_region_held3 (fun w' => w'.cell? ⟨w.heap.size, 1, none⟩ = some (.int .u16 ((i : Nat) : Int)) ∧ w'.cell? ⟨w.heap.size + 1, 1, none⟩ = some (.int .u16 ((i : Nat) : Int))) (first | (with_reducible assumption) | exact ⟨a1, c1⟩) (fail)
  obtain ⟨V, hV⟩ : ∃ V, V = W.drew := ⟨_, rfl⟩
  rw [← hV]
  have hbV : Below W.heap.size W V := by rw [hV]; go_grown
  clear hV
  replace a0 := keepc a0 hbV
  replace a1 := keepc a1 hbV
  replace a2 := keepc a2 hbV
  replace c0 := keepc c0 hbV
  replace c1 := keepc c1 hbV
  replace c2 := keepc c2 hbV
  replace p0 := keepc p0 hbV
  replace p1 := keepc p1 hbV
  replace p2 := keepc p2 hbV
  replace p3 := keepc p3 hbV
  replace xr0 := keepc xr0 hbV
  replace xr1 := keepc xr1 hbV
  replace xr2 := keepc xr2 hbV
  replace xr3 := keepc xr3 hbV
  replace xr4 := keepc xr4 hbV
  replace xr5 := keepc xr5 hbV
  replace yr0 := keepc yr0 hbV
  replace yr1 := keepc yr1 hbV
  replace yr2 := keepc yr2 hbV
  replace yr3 := keepc yr3 hbV
  replace yr4 := keepc yr4 hbV
  replace yr5 := keepc yr5 hbV
  replace h := h.below' hbV
  clear hbV
  go_wp2_with fail
  refine (rwait_j S g (19 + 4 * (i % 4)) (List.replicate 88 0) 1 (x0 + 1) i 16 ((i % 4 : Nat) : Int) x2 w _ h (by decide) (by decide) hF (by omega) hqi hki (by rw [hl0]; omega) (by rw [hl0]; decide)).mono ?_
  rintro e wz ⟨rfl, hj, hk⟩
  replace h := hj
  replace a0 := hk.cell a0 hA.out
  replace a1 := hk.cell a1 hA.out
  replace a2 := hk.cell a2 hA.out
  replace c0 := hk.cell c0 hC.out
  replace c1 := hk.cell c1 hC.out
  replace c2 := hk.cell c2 hC.out
  replace p0 := hk.cell p0 hP.out
  replace p1 := hk.cell p1 hP.out
  replace p2 := hk.cell p2 hP.out
  replace p3 := hk.cell p3 hP.out
  replace xr0 := hk.cell xr0 hX.out
  replace xr1 := hk.cell xr1 hX.out
  replace xr2 := hk.cell xr2 hX.out
  replace xr3 := hk.cell xr3 hX.out
  replace xr4 := hk.cell xr4 hX.out
  replace xr5 := hk.cell xr5 hX.out
  replace yr0 := hk.cell yr0 hY.out
  replace yr1 := hk.cell yr1 hY.out
  replace yr2 := hk.cell yr2 hY.out
  replace yr3 := hk.cell yr3 hY.out
  replace yr4 := hk.cell yr4 hY.out
  replace yr5 := hk.cell yr5 hY.out
  clear hj hk
  go_wp2_with fail
  refine (rend_j S g (21 + 4 * (i % 4)) _ 1 (x0 + 1) i 16 ((i % 4 : Nat) : Int) w _ h (by decide) (by decide) hF (by omega) hqi hdi (by rw [List.length_set, hl0]; omega) (by rw [List.length_set, hl0]; decide)).mono ?_
  rintro e wz ⟨rfl, hj, hk⟩
  replace h := hj
  replace a0 := hk.cell a0 hA.out
  replace a1 := hk.cell a1 hA.out
  replace a2 := hk.cell a2 hA.out
  replace c0 := hk.cell c0 hC.out
  replace c1 := hk.cell c1 hC.out
  replace c2 := hk.cell c2 hC.out
  replace p0 := hk.cell p0 hP.out
  replace p1 := hk.cell p1 hP.out
  replace p2 := hk.cell p2 hP.out
  replace p3 := hk.cell p3 hP.out
  replace xr0 := hk.cell xr0 hX.out
  replace xr1 := hk.cell xr1 hX.out
  replace xr2 := hk.cell xr2 hX.out
  replace xr3 := hk.cell xr3 hX.out
  replace xr4 := hk.cell xr4 hX.out
  replace xr5 := hk.cell xr5 hX.out
  replace yr0 := hk.cell yr0 hY.out
  replace yr1 := hk.cell yr1 hY.out
  replace yr2 := hk.cell yr2 hY.out
  replace yr3 := hk.cell yr3 hY.out
  replace yr4 := hk.cell yr4 hY.out
  replace yr5 := hk.cell yr5 hY.out
  clear hj hk
  go_wp2_with fail
  refine (rsleep_j S g 17 _ 1 (x0 + 1) i 16 0 w _ h (by decide) (by decide) hF (Lib.hid (by decide)) (by rw [List.length_set, List.length_set, hl0]; decide) (by rw [List.length_set, List.length_set, hl0]; decide)).mono ?_
  rintro e wz ⟨rfl, hj, hk⟩
  replace h := hj
  replace a0 := hk.cell a0 hA.out
  replace a1 := hk.cell a1 hA.out
  replace a2 := hk.cell a2 hA.out
  replace c0 := hk.cell c0 hC.out
  replace c1 := hk.cell c1 hC.out
  replace c2 := hk.cell c2 hC.out
  replace p0 := hk.cell p0 hP.out
  replace p1 := hk.cell p1 hP.out
  replace p2 := hk.cell p2 hP.out
  replace p3 := hk.cell p3 hP.out
  replace xr0 := hk.cell xr0 hX.out
  replace xr1 := hk.cell xr1 hX.out
  replace xr2 := hk.cell xr2 hX.out
  replace xr3 := hk.cell xr3 hX.out
  replace xr4 := hk.cell xr4 hX.out
  replace xr5 := hk.cell xr5 hX.out
  replace yr0 := hk.cell yr0 hY.out
  replace yr1 := hk.cell yr1 hY.out
  replace yr2 := hk.cell yr2 hY.out
  replace yr3 := hk.cell yr3 hY.out
  replace yr4 := hk.cell yr4 hY.out
  replace yr5 := hk.cell yr5 hY.out
  clear hj hk
  rw [hT1.out, hT2.out] at h
  change J w _ S g (own17 T1 T2 (i % 4)) at h
  go_wp2_with fail
  refine (rended_j S g (21 + 4 * (i % 4)) _ 1 (x0 + 1) i 16 ((i % 4 : Nat) : Int) v21 true w _ h (by decide) (by decide) hF (by omega) hqk hdk hv21 hE (by rw [own_len]; omega) (by rw [own_len]; decide)).mono ?_
  rintro e wz ⟨rfl, hj, hk⟩
  replace h := hj
  replace a0 := hk.cell a0 hA.out
  replace a1 := hk.cell a1 hA.out
  replace a2 := hk.cell a2 hA.out
  replace c0 := hk.cell c0 hC.out
  replace c1 := hk.cell c1 hC.out
  replace c2 := hk.cell c2 hC.out
  replace p0 := hk.cell p0 hP.out
  replace p1 := hk.cell p1 hP.out
  replace p2 := hk.cell p2 hP.out
  replace p3 := hk.cell p3 hP.out
  replace xr0 := hk.cell xr0 hX.out
  replace xr1 := hk.cell xr1 hX.out
  replace xr2 := hk.cell xr2 hX.out
  replace xr3 := hk.cell xr3 hX.out
  replace xr4 := hk.cell xr4 hX.out
  replace xr5 := hk.cell xr5 hX.out
  replace yr0 := hk.cell yr0 hY.out
  replace yr1 := hk.cell yr1 hY.out
  replace yr2 := hk.cell yr2 hY.out
  replace yr3 := hk.cell yr3 hY.out
  replace yr4 := hk.cell yr4 hY.out
  replace yr5 := hk.cell yr5 hY.out
  clear hj hk
  go_wp2_with fail
  refine (rsleeps_j S g 17 _ 1 (x0 + 1) i 16 0 T2 true w _ h (by decide) (by decide) hF (Lib.hid (by decide)) hv17 hS (by rw [own_len]; omega) (by rw [own_len]; decide)).mono ?_
  rintro e wz ⟨rfl, hj, hk⟩
  replace h := hj
  replace a0 := hk.cell a0 hA.out
  replace a1 := hk.cell a1 hA.out
  replace a2 := hk.cell a2 hA.out
  replace c0 := hk.cell c0 hC.out
  replace c1 := hk.cell c1 hC.out
  replace c2 := hk.cell c2 hC.out
  replace p0 := hk.cell p0 hP.out
  replace p1 := hk.cell p1 hP.out
  replace p2 := hk.cell p2 hP.out
  replace p3 := hk.cell p3 hP.out
  replace xr0 := hk.cell xr0 hX.out
  replace xr1 := hk.cell xr1 hX.out
  replace xr2 := hk.cell xr2 hX.out
  replace xr3 := hk.cell xr3 hX.out
  replace xr4 := hk.cell xr4 hX.out
  replace xr5 := hk.cell xr5 hX.out
  replace yr0 := hk.cell yr0 hY.out
  replace yr1 := hk.cell yr1 hY.out
  replace yr2 := hk.cell yr2 hY.out
  replace yr3 := hk.cell yr3 hY.out
  replace yr4 := hk.cell yr4 hY.out
  replace yr5 := hk.cell yr5 hY.out
  clear hj hk
  go_wp2_with fail
  have hdr := h.below' (w' := wz.drew) (by go_grown)
  have kp : ∀ W W' : World, Keep g W W' → Keep g wz W ∧ W.cell? ⟨Y, 0, none⟩ = some (.int .i64 2) ∧ W.cell? ⟨Y, 1, none⟩ = some (.int .i64 4) ∧ W.cell? ⟨Y, 2, none⟩ = some (.int .i64 3) ∧ W.cell? ⟨Y, 3, none⟩ = some (.int .i64 4) ∧ W.cell? ⟨Y, 4, none⟩ = some (.int .i64 1) ∧ W.cell? ⟨Y, 5, none⟩ = some (.int .i64 (x0 + 1)) ∧ W.cell? ⟨w.heap.size + 1, 2, none⟩ = some (.int .u16 y2) → Keep g wz W' ∧ W'.cell? ⟨Y, 0, none⟩ = some (.int .i64 2) ∧ W'.cell? ⟨Y, 1, none⟩ = some (.int .i64 4) ∧ W'.cell? ⟨Y, 2, none⟩ = some (.int .i64 3) ∧ W'.cell? ⟨Y, 3, none⟩ = some (.int .i64 4) ∧ W'.cell? ⟨Y, 4, none⟩ = some (.int .i64 1) ∧ W'.cell? ⟨Y, 5, none⟩ = some (.int .i64 (x0 + 1)) ∧ W'.cell? ⟨w.heap.size + 1, 2, none⟩ = some (.int .u16 y2) := fun W W' hk hh => ⟨hh.1.trans hk, hk.cell hh.2.1 hY.out, hk.cell hh.2.2.1 hY.out, hk.cell hh.2.2.2.1 hY.out, hk.cell hh.2.2.2.2.1 hY.out, hk.cell hh.2.2.2.2.2.1 hY.out, hk.cell hh.2.2.2.2.2.2.1 hY.out, hk.cell hh.2.2.2.2.2.2.2 hC.out⟩
  go_region_held3 (fun w' => Keep g wz w' ∧ w'.cell? ⟨Y, 0, none⟩ = some (.int .i64 2) ∧ w'.cell? ⟨Y, 1, none⟩ = some (.int .i64 4) ∧ w'.cell? ⟨Y, 2, none⟩ = some (.int .i64 3) ∧ w'.cell? ⟨Y, 3, none⟩ = some (.int .i64 4) ∧ w'.cell? ⟨Y, 4, none⟩ = some (.int .i64 1) ∧ w'.cell? ⟨Y, 5, none⟩ = some (.int .i64 (x0 + 1)) ∧ w'.cell? ⟨w.heap.size + 1, 2, none⟩ = some (.int .u16 y2)) (first | (with_reducible assumption) | (refine kp _ _ hkv ?_; with_reducible assumption) | (refine ⟨Keep.of_below ?_, yr0, yr1, yr2, yr3, yr4, yr5, c2⟩; go_grown; done)) (first | (go_at_call 56; refine (rfree_no S g (19 + 4 * (i % 4)) _ 1 (x0 + 1) i 16 ((i % 4 : Nat) : Int) y2 v19 w _ hdr (by decide) (by decide) hF (by omega) hqk hkk hv19 hv19n (by rw [own_len]; omega) (by rw [own_len]; decide)).mono ?_; rintro e wv ⟨rfl, hf, hkv⟩) | (go_at_call 57; refine (rrouse_yes S g 17 _ 1 (x0 + 1) i 16 0 w _ hf (by decide) (by decide) hF (Lib.hid (by decide)) hr17y (by simp [own17] <;> omega) (by simp [own17])).mono ?_; rintro e wv ⟨rfl, hr, hkv⟩))
  all_goals
    clear hdr kp
    replace h := hr
    have hkz : Keep g wz _ := And.left (by with_reducible assumption)
    replace a0 := hkz.cell a0 hA.out
    replace a1 := hkz.cell a1 hA.out
    replace a2 := hkz.cell a2 hA.out
    replace c0 := hkz.cell c0 hC.out
    replace c1 := hkz.cell c1 hC.out
    replace c2 := hkz.cell c2 hC.out
    replace p0 := hkz.cell p0 hP.out
    replace p1 := hkz.cell p1 hP.out
    replace p2 := hkz.cell p2 hP.out
    replace p3 := hkz.cell p3 hP.out
    replace xr0 := hkz.cell xr0 hX.out
    replace xr1 := hkz.cell xr1 hX.out
    replace xr2 := hkz.cell xr2 hX.out
    replace xr3 := hkz.cell xr3 hX.out
    replace xr4 := hkz.cell xr4 hX.out
    replace xr5 := hkz.cell xr5 hX.out
    replace yr0 := hkz.cell yr0 hY.out
    replace yr1 := hkz.cell yr1 hY.out
    replace yr2 := hkz.cell yr2 hY.out
    replace yr3 := hkz.cell yr3 hY.out
    replace yr4 := hkz.cell yr4 hY.out
    replace yr5 := hkz.cell yr5 hY.out
    clear hkz
    go_wp2_with fail
    refine (rfree_yes S g (19 + 4 * (i % 4)) _ 1 (x0 + 1) i 16 ((i % 4 : Nat) : Int) x2 w _ h (by decide) (by decide) hF (by omega) hqi hki hx19y (by simp [own17] <;> omega) (by simp [own17])).mono ?_
    rintro e wz ⟨rfl, hj, hk⟩
    replace h := hj
    replace a0 := hk.cell a0 hA.out
    replace a1 := hk.cell a1 hA.out
    replace a2 := hk.cell a2 hA.out
    replace c0 := hk.cell c0 hC.out
    replace c1 := hk.cell c1 hC.out
    replace c2 := hk.cell c2 hC.out
    replace p0 := hk.cell p0 hP.out
    replace p1 := hk.cell p1 hP.out
    replace p2 := hk.cell p2 hP.out
    replace p3 := hk.cell p3 hP.out
    replace xr0 := hk.cell xr0 hX.out
    replace xr1 := hk.cell xr1 hX.out
    replace xr2 := hk.cell xr2 hX.out
    replace xr3 := hk.cell xr3 hX.out
    replace xr4 := hk.cell xr4 hX.out
    replace xr5 := hk.cell xr5 hX.out
    replace yr0 := hk.cell yr0 hY.out
    replace yr1 := hk.cell yr1 hY.out
    replace yr2 := hk.cell yr2 hY.out
    replace yr3 := hk.cell yr3 hY.out
    replace yr4 := hk.cell yr4 hY.out
    replace yr5 := hk.cell yr5 hY.out
    clear hj hk
    go_wp2_with fail
    refine (rrouse_no S g 17 _ 1 (x0 + 1) i 16 0 0 w _ h (by decide) (by decide) hF (Lib.hid (by decide)) hx17n hx17z (by simp [own17] <;> omega) (by simp [own17])).mono ?_
    rintro e wz ⟨rfl, hj, hk⟩
    replace h := hj
    replace a0 := hk.cell a0 hA.out
    replace a1 := hk.cell a1 hA.out
    replace a2 := hk.cell a2 hA.out
    replace c0 := hk.cell c0 hC.out
    replace c1 := hk.cell c1 hC.out
    replace c2 := hk.cell c2 hC.out
    replace p0 := hk.cell p0 hP.out
    replace p1 := hk.cell p1 hP.out
    replace p2 := hk.cell p2 hP.out
    replace p3 := hk.cell p3 hP.out
    replace xr0 := hk.cell xr0 hX.out
    replace xr1 := hk.cell xr1 hX.out
    replace xr2 := hk.cell xr2 hX.out
    replace xr3 := hk.cell xr3 hX.out
    replace xr4 := hk.cell xr4 hX.out
    replace xr5 := hk.cell xr5 hX.out
    replace yr0 := hk.cell yr0 hY.out
    replace yr1 := hk.cell yr1 hY.out
    replace yr2 := hk.cell yr2 hY.out
    replace yr3 := hk.cell yr3 hY.out
    replace yr4 := hk.cell yr4 hY.out
    replace yr5 := hk.cell yr5 hY.out
    clear hj hk
    go_wp2_with fail
    go_ret
    refine ⟨?_, h.2.1⟩
    first | rfl | simp [hsame] | simp
set_option maxHeartbeats 2000000 in
set_option maxRecDepth 20000 in
theorem core_tt (x0 x2 : Int) (i : Nat) (w : World) (w0 : 0 ≤ x0 ∧ x0 ≤ 65535) (w1 : i ≤ 65535) (w2 : 0 ≤ x2 ∧ x2 ≤ 65535)
    (hF : Hid ((2 : Int) * (4 + 4) + (1 - 1) * (2 + (3 + 1) * 4) = 16)) (hqi : Hid ((i : Int).tmod (3 + 1) = ((i % 4 : Nat) : Int))) (hqk : Hid ((i : Int).tmod (3 + 1) = ((i % 4 : Nat) : Int)))
    (hki : Hid ((16 : Int) + 2 + ((i % 4 : Nat) : Int) * 4 + 1 = ((19 + 4 * (i % 4) : Nat) : Int))) (hdi : Hid ((16 : Int) + 2 + ((i % 4 : Nat) : Int) * 4 + 3 = ((21 + 4 * (i % 4) : Nat) : Int)))
    (hkk : Hid ((16 : Int) + 2 + ((i % 4 : Nat) : Int) * 4 + 1 = ((19 + 4 * (i % 4) : Nat) : Int))) (hdk : Hid ((16 : Int) + 2 + ((i % 4 : Nat) : Int) * 4 + 3 = ((21 + 4 * (i % 4) : Nat) : Int)))
    (T1 T2 v21 : Int) (hT1 : Hid (tOf (x0 + 1) i x2 = T1)) (hT2 : Hid (tOf (x0 + 1) i 0 = T2)) (hv21 : Hid ((own17 T1 T2 (i % 4)).getD (21 + 4 * (i % 4)) 0 = v21)) (hv17 : Hid ((own17 T1 T2 (i % 4)).getD 17 0 = T2))
    (hE : Hid ((v21 == tOf (x0 + 1) i 0) = true)) (hS : Hid ((T2 == tOf (x0 + 1) i 0) = true)) (hv19y : Hid ((own17 T1 T2 (i % 4)).getD (19 + 4 * (i % 4)) 0 = tOf (x0 + 1) i x2)) (hr17y2 : Hid (((own17 T1 T2 (i % 4)).set (19 + 4 * (i % 4)) 0).getD 17 0 = tOf (x0 + 1) i 0))
    (hx19n : Hid ((((own17 T1 T2 (i % 4)).set (19 + 4 * (i % 4)) 0).set 17 0).getD (19 + 4 * (i % 4)) 0 = 0)) (hx19z : Hid (0 ≠ tOf (x0 + 1) i x2)) (hx17n : Hid ((((own17 T1 T2 (i % 4)).set (19 + 4 * (i % 4)) 0).set 17 0).getD 17 0 = 0)) (hx17z : Hid (0 ≠ tOf (x0 + 1) i 0)) :
    Calls Try.prog 9 #[.agg #[.int .u16 x0, .int .u16 i, .int .u16 x2], .agg #[.int .u16 x0, .int .u16 i, .int .u16 x2]] w fun e w' => e = .returned (.bool true) ∧ Below w.heap.size w w' := by
  have wx2 : IntKind.i64.wrap x2 = x2 := by rw [IntKind.wrap_i64]; omega
  have wi : IntKind.i64.wrap ((i : Nat) : Int) = ((i : Nat) : Int) := by rw [IntKind.wrap_i64]; omega
  have wk : IntKind.i64.wrap ((i : Nat) : Int) = ((i : Nat) : Int) := by rw [IntKind.wrap_i64]; omega
  have wy2 : IntKind.i64.wrap x2 = x2 := by rw [IntKind.wrap_i64]; omega
  go_enter Try.func9, Try.ntmps9
  go_wp2_with (first | (go_at_call 48; refine (works17 _).mono ?_; rintro e w1 ⟨rfl, hb1⟩))
  have a0 : w1.cell? ⟨w.heap.size, 0, none⟩ = some (.int .u16 x0) := keepc (by go_simp) hb1
  have a1 : w1.cell? ⟨w.heap.size, 1, none⟩ = some (.int .u16 ((i : Nat) : Int)) := keepc (by go_simp) hb1
  have a2 : w1.cell? ⟨w.heap.size, 2, none⟩ = some (.int .u16 x2) := keepc (by go_simp) hb1
  have c0 : w1.cell? ⟨w.heap.size + 1, 0, none⟩ = some (.int .u16 x0) := keepc (by go_simp) hb1
  have c1 : w1.cell? ⟨w.heap.size + 1, 1, none⟩ = some (.int .u16 ((i : Nat) : Int)) := keepc (by go_simp) hb1
  have c2 : w1.cell? ⟨w.heap.size + 1, 2, none⟩ = some (.int .u16 x2) := keepc (by go_simp) hb1
  have hsA : w.heap.size + 1 < w1.heap.size := by have := hb1.size; simp at this; omega
  have hb : Below w.heap.size w w1 := btr (by go_grown) hb1
  clear hb1
  refine (plan17 w1).mono ?_
  rintro e w2 ⟨rfl, hb2⟩
  replace a0 := keepc a0 hb2
  replace a1 := keepc a1 hb2
  replace a2 := keepc a2 hb2
  replace c0 := keepc c0 hb2
  replace c1 := keepc c1 hb2
  replace c2 := keepc c2 hb2
  replace hb := btr hb hb2
  replace hsA := Nat.lt_of_lt_of_le hsA hb2.size
  clear hb2
  go_wp2_with fail
  obtain ⟨W, hW⟩ : ∃ W, W = w2.alloc (Obj.cells #[Value.int IntKind.i64 2, Value.int IntKind.i64 4, Value.int IntKind.i64 3, Value.int IntKind.i64 4] 63) := ⟨_, rfl⟩
  have p0 : W.cell? ⟨w2.heap.size, 0, none⟩ = some (.int .i64 (2)) := by rw [hW]; go_simp
  have p1 : W.cell? ⟨w2.heap.size, 1, none⟩ = some (.int .i64 (4)) := by rw [hW]; go_simp
  have p2 : W.cell? ⟨w2.heap.size, 2, none⟩ = some (.int .i64 (3)) := by rw [hW]; go_simp
  have p3 : W.cell? ⟨w2.heap.size, 3, none⟩ = some (.int .i64 (4)) := by rw [hW]; go_simp
  have hbA : Below w2.heap.size w2 W := by rw [hW]; go_grown
  have hlA : w2.heap.size < W.heap.size := by rw [hW]; simp
  rw [← hW]
  clear hW
  replace a0 := keepc a0 hbA
  replace a1 := keepc a1 hbA
  replace a2 := keepc a2 hbA
  replace c0 := keepc c0 hbA
  replace c1 := keepc c1 hbA
  replace c2 := keepc c2 hbA
  replace hb := btr hb hbA
  have hsP : w.heap.size + 1 < w2.heap.size := hsA
  refine (size_of 2 4 3 4 16 72 _ okay17 (Lib.hid (by decide)) (Lib.hid (by decide))).mono ?_
  rintro e w3 ⟨rfl, hb2⟩
  replace a0 := keepc a0 hb2
  replace a1 := keepc a1 hb2
  replace a2 := keepc a2 hb2
  replace c0 := keepc c0 hb2
  replace c1 := keepc c1 hb2
  replace c2 := keepc c2 hb2
  replace p0 := keepc p0 hb2
  replace p1 := keepc p1 hb2
  replace p2 := keepc p2 hb2
  replace p3 := keepc p3 hb2
  replace hb := btr hb hb2
  have hlP := Nat.lt_of_lt_of_le hlA hb2.size
  clear hb2 hbA hlA
  go_wp2_with fail
  refine (new_n 88 w3 (by decide)).mono ?_
  rintro e w4 ⟨rfl, hs, hb2⟩
  have h : J w w4 (w3.heap.size + 1) w3.heap.size (List.replicate 88 0) := ⟨hs, btr hb hb2, hb.size⟩
  replace a0 := keepc a0 hb2
  replace a1 := keepc a1 hb2
  replace a2 := keepc a2 hb2
  replace c0 := keepc c0 hb2
  replace c1 := keepc c1 hb2
  replace c2 := keepc c2 hb2
  replace p0 := keepc p0 hb2
  replace p1 := keepc p1 hb2
  replace p2 := keepc p2 hb2
  replace p3 := keepc p3 hb2
  have hne0 : w.heap.size ≠ w3.heap.size ∧ w.heap.size + 1 ≠ w3.heap.size ∧ w2.heap.size ≠ w3.heap.size := by omega
  have hA := Lib.hid hne0.1
  have hC := Lib.hid hne0.2.1
  have hP := Lib.hid hne0.2.2
  clear hb hb2 hs hne0 hlP hsP hsA
  generalize w3.heap.size + 1 = S at *
  generalize w3.heap.size = g at *
  generalize w2.heap.size = P at *
  have HAA := Lib.hid (rfl : w.heap.size = w.heap.size)
  go_wp2_with fail
  refine (new17 1 (x0 + 1) _).mono ?_
  rintro e w5 ⟨rfl, hb2⟩
  replace a0 := keepc a0 hb2
  replace a1 := keepc a1 hb2
  replace a2 := keepc a2 hb2
  replace c0 := keepc c0 hb2
  replace c1 := keepc c1 hb2
  replace c2 := keepc c2 hb2
  replace p0 := keepc p0 hb2
  replace p1 := keepc p1 hb2
  replace p2 := keepc p2 hb2
  replace p3 := keepc p3 hb2
  replace h := h.below' hb2
  clear hb2
  have q_a0 := fun o => keepc (W' := w5.alloc o) a0 (by go_grown)
  have q_a1 := fun o => keepc (W' := w5.alloc o) a1 (by go_grown)
  have q_a2 := fun o => keepc (W' := w5.alloc o) a2 (by go_grown)
  have q_c0 := fun o => keepc (W' := w5.alloc o) c0 (by go_grown)
  have q_c1 := fun o => keepc (W' := w5.alloc o) c1 (by go_grown)
  have q_c2 := fun o => keepc (W' := w5.alloc o) c2 (by go_grown)
  have q_p0 := fun o => keepc (W' := w5.alloc o) p0 (by go_grown)
  have q_p1 := fun o => keepc (W' := w5.alloc o) p1 (by go_grown)
  have q_p2 := fun o => keepc (W' := w5.alloc o) p2 (by go_grown)
  have q_p3 := fun o => keepc (W' := w5.alloc o) p3 (by go_grown)
  go_wp2_with fail
  obtain ⟨W, hW⟩ : ∃ W, W = w5.alloc (Obj.cells #[Value.int IntKind.i64 2, Value.int IntKind.i64 4, Value.int IntKind.i64 3, Value.int IntKind.i64 4, Value.int IntKind.i64 1, Value.int IntKind.i64 (x0 + 1)] 94) := ⟨_, rfl⟩
  have xr0 : W.cell? ⟨w5.heap.size, 0, none⟩ = some (.int .i64 (2)) := by rw [hW]; go_simp
  have xr1 : W.cell? ⟨w5.heap.size, 1, none⟩ = some (.int .i64 (4)) := by rw [hW]; go_simp
  have xr2 : W.cell? ⟨w5.heap.size, 2, none⟩ = some (.int .i64 (3)) := by rw [hW]; go_simp
  have xr3 : W.cell? ⟨w5.heap.size, 3, none⟩ = some (.int .i64 (4)) := by rw [hW]; go_simp
  have xr4 : W.cell? ⟨w5.heap.size, 4, none⟩ = some (.int .i64 (1)) := by rw [hW]; go_simp
  have xr5 : W.cell? ⟨w5.heap.size, 5, none⟩ = some (.int .i64 (x0 + 1)) := by rw [hW]; go_simp
  have hbA : Below w5.heap.size w5 W := by rw [hW]; go_grown
  have hlA : w5.heap.size < W.heap.size := by rw [hW]; simp
  rw [← hW]
  clear hW
  clear q_a0 q_a1 q_a2 q_c0 q_c1 q_c2 q_p0 q_p1 q_p2 q_p3
  replace a0 := keepc a0 hbA
  replace a1 := keepc a1 hbA
  replace a2 := keepc a2 hbA
  replace c0 := keepc c0 hbA
  replace c1 := keepc c1 hbA
  replace c2 := keepc c2 hbA
  replace p0 := keepc p0 hbA
  replace p1 := keepc p1 hbA
  replace p2 := keepc p2 hbA
  replace p3 := keepc p3 hbA
  have hX0 : w5.heap.size ≠ g := by have := h.1.facts.2.2.2.2.2; omega
  have hX := Lib.hid hX0
  replace h := h.below' hbA
  clear hbA hlA hX0
  generalize w5.heap.size = X at *
  refine (new17 1 (x0 + 1) _).mono ?_
  rintro e w5 ⟨rfl, hb2⟩
  replace a0 := keepc a0 hb2
  replace a1 := keepc a1 hb2
  replace a2 := keepc a2 hb2
  replace c0 := keepc c0 hb2
  replace c1 := keepc c1 hb2
  replace c2 := keepc c2 hb2
  replace p0 := keepc p0 hb2
  replace p1 := keepc p1 hb2
  replace p2 := keepc p2 hb2
  replace p3 := keepc p3 hb2
  replace xr0 := keepc xr0 hb2
  replace xr1 := keepc xr1 hb2
  replace xr2 := keepc xr2 hb2
  replace xr3 := keepc xr3 hb2
  replace xr4 := keepc xr4 hb2
  replace xr5 := keepc xr5 hb2
  replace h := h.below' hb2
  clear hb2
  have q_a0 := fun o => keepc (W' := w5.alloc o) a0 (by go_grown)
  have q_a1 := fun o => keepc (W' := w5.alloc o) a1 (by go_grown)
  have q_a2 := fun o => keepc (W' := w5.alloc o) a2 (by go_grown)
  have q_c0 := fun o => keepc (W' := w5.alloc o) c0 (by go_grown)
  have q_c1 := fun o => keepc (W' := w5.alloc o) c1 (by go_grown)
  have q_c2 := fun o => keepc (W' := w5.alloc o) c2 (by go_grown)
  have q_p0 := fun o => keepc (W' := w5.alloc o) p0 (by go_grown)
  have q_p1 := fun o => keepc (W' := w5.alloc o) p1 (by go_grown)
  have q_p2 := fun o => keepc (W' := w5.alloc o) p2 (by go_grown)
  have q_p3 := fun o => keepc (W' := w5.alloc o) p3 (by go_grown)
  have q_xr0 := fun o => keepc (W' := w5.alloc o) xr0 (by go_grown)
  have q_xr1 := fun o => keepc (W' := w5.alloc o) xr1 (by go_grown)
  have q_xr2 := fun o => keepc (W' := w5.alloc o) xr2 (by go_grown)
  have q_xr3 := fun o => keepc (W' := w5.alloc o) xr3 (by go_grown)
  have q_xr4 := fun o => keepc (W' := w5.alloc o) xr4 (by go_grown)
  have q_xr5 := fun o => keepc (W' := w5.alloc o) xr5 (by go_grown)
  go_wp2_with fail
  obtain ⟨W, hW⟩ : ∃ W, W = w5.alloc (Obj.cells #[Value.int IntKind.i64 2, Value.int IntKind.i64 4, Value.int IntKind.i64 3, Value.int IntKind.i64 4, Value.int IntKind.i64 1, Value.int IntKind.i64 (x0 + 1)] 94) := ⟨_, rfl⟩
  have yr0 : W.cell? ⟨w5.heap.size, 0, none⟩ = some (.int .i64 (2)) := by rw [hW]; go_simp
  have yr1 : W.cell? ⟨w5.heap.size, 1, none⟩ = some (.int .i64 (4)) := by rw [hW]; go_simp
  have yr2 : W.cell? ⟨w5.heap.size, 2, none⟩ = some (.int .i64 (3)) := by rw [hW]; go_simp
  have yr3 : W.cell? ⟨w5.heap.size, 3, none⟩ = some (.int .i64 (4)) := by rw [hW]; go_simp
  have yr4 : W.cell? ⟨w5.heap.size, 4, none⟩ = some (.int .i64 (1)) := by rw [hW]; go_simp
  have yr5 : W.cell? ⟨w5.heap.size, 5, none⟩ = some (.int .i64 (x0 + 1)) := by rw [hW]; go_simp
  have hbA : Below w5.heap.size w5 W := by rw [hW]; go_grown
  have hlA : w5.heap.size < W.heap.size := by rw [hW]; simp
  rw [← hW]
  clear hW
  clear q_a0 q_a1 q_a2 q_c0 q_c1 q_c2 q_p0 q_p1 q_p2 q_p3 q_xr0 q_xr1 q_xr2 q_xr3 q_xr4 q_xr5
  replace a0 := keepc a0 hbA
  replace a1 := keepc a1 hbA
  replace a2 := keepc a2 hbA
  replace c0 := keepc c0 hbA
  replace c1 := keepc c1 hbA
  replace c2 := keepc c2 hbA
  replace p0 := keepc p0 hbA
  replace p1 := keepc p1 hbA
  replace p2 := keepc p2 hbA
  replace p3 := keepc p3 hbA
  replace xr0 := keepc xr0 hbA
  replace xr1 := keepc xr1 hbA
  replace xr2 := keepc xr2 hbA
  replace xr3 := keepc xr3 hbA
  replace xr4 := keepc xr4 hbA
  replace xr5 := keepc xr5 hbA
  have hY0 : w5.heap.size ≠ g := by have := h.1.facts.2.2.2.2.2; omega
  have hY := Lib.hid hY0
  replace h := h.below' hbA
  clear hbA hlA hY0
  generalize w5.heap.size = Y at *
  have hl0 : ((List.replicate 88 (0 : Int))).length = 88 := by simp
  go_region_held3 (fun w' => w'.cell? ⟨w.heap.size, 1, none⟩ = some (.int .u16 ((i : Nat) : Int)) ∧ w'.cell? ⟨w.heap.size + 1, 1, none⟩ = some (.int .u16 ((i : Nat) : Int))) (first | (with_reducible assumption) | exact ⟨a1, c1⟩) (fail)
  obtain ⟨V, hV⟩ : ∃ V, V = W.drew := ⟨_, rfl⟩
  rw [← hV]
  have hbV : Below W.heap.size W V := by rw [hV]; go_grown
  clear hV
  replace a0 := keepc a0 hbV
  replace a1 := keepc a1 hbV
  replace a2 := keepc a2 hbV
  replace c0 := keepc c0 hbV
  replace c1 := keepc c1 hbV
  replace c2 := keepc c2 hbV
  replace p0 := keepc p0 hbV
  replace p1 := keepc p1 hbV
  replace p2 := keepc p2 hbV
  replace p3 := keepc p3 hbV
  replace xr0 := keepc xr0 hbV
  replace xr1 := keepc xr1 hbV
  replace xr2 := keepc xr2 hbV
  replace xr3 := keepc xr3 hbV
  replace xr4 := keepc xr4 hbV
  replace xr5 := keepc xr5 hbV
  replace yr0 := keepc yr0 hbV
  replace yr1 := keepc yr1 hbV
  replace yr2 := keepc yr2 hbV
  replace yr3 := keepc yr3 hbV
  replace yr4 := keepc yr4 hbV
  replace yr5 := keepc yr5 hbV
  replace h := h.below' hbV
  clear hbV
  go_wp2_with fail
  refine (rwait_j S g (19 + 4 * (i % 4)) (List.replicate 88 0) 1 (x0 + 1) i 16 ((i % 4 : Nat) : Int) x2 w _ h (by decide) (by decide) hF (by omega) hqi hki (by rw [hl0]; omega) (by rw [hl0]; decide)).mono ?_
  rintro e wz ⟨rfl, hj, hk⟩
  replace h := hj
  replace a0 := hk.cell a0 hA.out
  replace a1 := hk.cell a1 hA.out
  replace a2 := hk.cell a2 hA.out
  replace c0 := hk.cell c0 hC.out
  replace c1 := hk.cell c1 hC.out
  replace c2 := hk.cell c2 hC.out
  replace p0 := hk.cell p0 hP.out
  replace p1 := hk.cell p1 hP.out
  replace p2 := hk.cell p2 hP.out
  replace p3 := hk.cell p3 hP.out
  replace xr0 := hk.cell xr0 hX.out
  replace xr1 := hk.cell xr1 hX.out
  replace xr2 := hk.cell xr2 hX.out
  replace xr3 := hk.cell xr3 hX.out
  replace xr4 := hk.cell xr4 hX.out
  replace xr5 := hk.cell xr5 hX.out
  replace yr0 := hk.cell yr0 hY.out
  replace yr1 := hk.cell yr1 hY.out
  replace yr2 := hk.cell yr2 hY.out
  replace yr3 := hk.cell yr3 hY.out
  replace yr4 := hk.cell yr4 hY.out
  replace yr5 := hk.cell yr5 hY.out
  clear hj hk
  go_wp2_with fail
  refine (rend_j S g (21 + 4 * (i % 4)) _ 1 (x0 + 1) i 16 ((i % 4 : Nat) : Int) w _ h (by decide) (by decide) hF (by omega) hqi hdi (by rw [List.length_set, hl0]; omega) (by rw [List.length_set, hl0]; decide)).mono ?_
  rintro e wz ⟨rfl, hj, hk⟩
  replace h := hj
  replace a0 := hk.cell a0 hA.out
  replace a1 := hk.cell a1 hA.out
  replace a2 := hk.cell a2 hA.out
  replace c0 := hk.cell c0 hC.out
  replace c1 := hk.cell c1 hC.out
  replace c2 := hk.cell c2 hC.out
  replace p0 := hk.cell p0 hP.out
  replace p1 := hk.cell p1 hP.out
  replace p2 := hk.cell p2 hP.out
  replace p3 := hk.cell p3 hP.out
  replace xr0 := hk.cell xr0 hX.out
  replace xr1 := hk.cell xr1 hX.out
  replace xr2 := hk.cell xr2 hX.out
  replace xr3 := hk.cell xr3 hX.out
  replace xr4 := hk.cell xr4 hX.out
  replace xr5 := hk.cell xr5 hX.out
  replace yr0 := hk.cell yr0 hY.out
  replace yr1 := hk.cell yr1 hY.out
  replace yr2 := hk.cell yr2 hY.out
  replace yr3 := hk.cell yr3 hY.out
  replace yr4 := hk.cell yr4 hY.out
  replace yr5 := hk.cell yr5 hY.out
  clear hj hk
  go_wp2_with fail
  refine (rsleep_j S g 17 _ 1 (x0 + 1) i 16 0 w _ h (by decide) (by decide) hF (Lib.hid (by decide)) (by rw [List.length_set, List.length_set, hl0]; decide) (by rw [List.length_set, List.length_set, hl0]; decide)).mono ?_
  rintro e wz ⟨rfl, hj, hk⟩
  replace h := hj
  replace a0 := hk.cell a0 hA.out
  replace a1 := hk.cell a1 hA.out
  replace a2 := hk.cell a2 hA.out
  replace c0 := hk.cell c0 hC.out
  replace c1 := hk.cell c1 hC.out
  replace c2 := hk.cell c2 hC.out
  replace p0 := hk.cell p0 hP.out
  replace p1 := hk.cell p1 hP.out
  replace p2 := hk.cell p2 hP.out
  replace p3 := hk.cell p3 hP.out
  replace xr0 := hk.cell xr0 hX.out
  replace xr1 := hk.cell xr1 hX.out
  replace xr2 := hk.cell xr2 hX.out
  replace xr3 := hk.cell xr3 hX.out
  replace xr4 := hk.cell xr4 hX.out
  replace xr5 := hk.cell xr5 hX.out
  replace yr0 := hk.cell yr0 hY.out
  replace yr1 := hk.cell yr1 hY.out
  replace yr2 := hk.cell yr2 hY.out
  replace yr3 := hk.cell yr3 hY.out
  replace yr4 := hk.cell yr4 hY.out
  replace yr5 := hk.cell yr5 hY.out
  clear hj hk
  rw [hT1.out, hT2.out] at h
  change J w _ S g (own17 T1 T2 (i % 4)) at h
  go_wp2_with fail
  refine (rended_j S g (21 + 4 * (i % 4)) _ 1 (x0 + 1) i 16 ((i % 4 : Nat) : Int) v21 true w _ h (by decide) (by decide) hF (by omega) hqk hdk hv21 hE (by rw [own_len]; omega) (by rw [own_len]; decide)).mono ?_
  rintro e wz ⟨rfl, hj, hk⟩
  replace h := hj
  replace a0 := hk.cell a0 hA.out
  replace a1 := hk.cell a1 hA.out
  replace a2 := hk.cell a2 hA.out
  replace c0 := hk.cell c0 hC.out
  replace c1 := hk.cell c1 hC.out
  replace c2 := hk.cell c2 hC.out
  replace p0 := hk.cell p0 hP.out
  replace p1 := hk.cell p1 hP.out
  replace p2 := hk.cell p2 hP.out
  replace p3 := hk.cell p3 hP.out
  replace xr0 := hk.cell xr0 hX.out
  replace xr1 := hk.cell xr1 hX.out
  replace xr2 := hk.cell xr2 hX.out
  replace xr3 := hk.cell xr3 hX.out
  replace xr4 := hk.cell xr4 hX.out
  replace xr5 := hk.cell xr5 hX.out
  replace yr0 := hk.cell yr0 hY.out
  replace yr1 := hk.cell yr1 hY.out
  replace yr2 := hk.cell yr2 hY.out
  replace yr3 := hk.cell yr3 hY.out
  replace yr4 := hk.cell yr4 hY.out
  replace yr5 := hk.cell yr5 hY.out
  clear hj hk
  go_wp2_with fail
  refine (rsleeps_j S g 17 _ 1 (x0 + 1) i 16 0 T2 true w _ h (by decide) (by decide) hF (Lib.hid (by decide)) hv17 hS (by rw [own_len]; omega) (by rw [own_len]; decide)).mono ?_
  rintro e wz ⟨rfl, hj, hk⟩
  replace h := hj
  replace a0 := hk.cell a0 hA.out
  replace a1 := hk.cell a1 hA.out
  replace a2 := hk.cell a2 hA.out
  replace c0 := hk.cell c0 hC.out
  replace c1 := hk.cell c1 hC.out
  replace c2 := hk.cell c2 hC.out
  replace p0 := hk.cell p0 hP.out
  replace p1 := hk.cell p1 hP.out
  replace p2 := hk.cell p2 hP.out
  replace p3 := hk.cell p3 hP.out
  replace xr0 := hk.cell xr0 hX.out
  replace xr1 := hk.cell xr1 hX.out
  replace xr2 := hk.cell xr2 hX.out
  replace xr3 := hk.cell xr3 hX.out
  replace xr4 := hk.cell xr4 hX.out
  replace xr5 := hk.cell xr5 hX.out
  replace yr0 := hk.cell yr0 hY.out
  replace yr1 := hk.cell yr1 hY.out
  replace yr2 := hk.cell yr2 hY.out
  replace yr3 := hk.cell yr3 hY.out
  replace yr4 := hk.cell yr4 hY.out
  replace yr5 := hk.cell yr5 hY.out
  clear hj hk
  go_wp2_with fail
  have hdr := h.below' (w' := wz.drew) (by go_grown)
  have kp : ∀ W W' : World, Keep g W W' → Keep g wz W ∧ W.cell? ⟨Y, 0, none⟩ = some (.int .i64 2) ∧ W.cell? ⟨Y, 1, none⟩ = some (.int .i64 4) ∧ W.cell? ⟨Y, 2, none⟩ = some (.int .i64 3) ∧ W.cell? ⟨Y, 3, none⟩ = some (.int .i64 4) ∧ W.cell? ⟨Y, 4, none⟩ = some (.int .i64 1) ∧ W.cell? ⟨Y, 5, none⟩ = some (.int .i64 (x0 + 1)) ∧ W.cell? ⟨w.heap.size + 1, 2, none⟩ = some (.int .u16 x2) → Keep g wz W' ∧ W'.cell? ⟨Y, 0, none⟩ = some (.int .i64 2) ∧ W'.cell? ⟨Y, 1, none⟩ = some (.int .i64 4) ∧ W'.cell? ⟨Y, 2, none⟩ = some (.int .i64 3) ∧ W'.cell? ⟨Y, 3, none⟩ = some (.int .i64 4) ∧ W'.cell? ⟨Y, 4, none⟩ = some (.int .i64 1) ∧ W'.cell? ⟨Y, 5, none⟩ = some (.int .i64 (x0 + 1)) ∧ W'.cell? ⟨w.heap.size + 1, 2, none⟩ = some (.int .u16 x2) := fun W W' hk hh => ⟨hh.1.trans hk, hk.cell hh.2.1 hY.out, hk.cell hh.2.2.1 hY.out, hk.cell hh.2.2.2.1 hY.out, hk.cell hh.2.2.2.2.1 hY.out, hk.cell hh.2.2.2.2.2.1 hY.out, hk.cell hh.2.2.2.2.2.2.1 hY.out, hk.cell hh.2.2.2.2.2.2.2 hC.out⟩
  go_region_held3 (fun w' => Keep g wz w' ∧ w'.cell? ⟨Y, 0, none⟩ = some (.int .i64 2) ∧ w'.cell? ⟨Y, 1, none⟩ = some (.int .i64 4) ∧ w'.cell? ⟨Y, 2, none⟩ = some (.int .i64 3) ∧ w'.cell? ⟨Y, 3, none⟩ = some (.int .i64 4) ∧ w'.cell? ⟨Y, 4, none⟩ = some (.int .i64 1) ∧ w'.cell? ⟨Y, 5, none⟩ = some (.int .i64 (x0 + 1)) ∧ w'.cell? ⟨w.heap.size + 1, 2, none⟩ = some (.int .u16 x2)) (first | (with_reducible assumption) | (refine kp _ _ hkv ?_; with_reducible assumption) | (refine ⟨Keep.of_below ?_, yr0, yr1, yr2, yr3, yr4, yr5, c2⟩; go_grown; done)) (first | (go_at_call 56; refine (rfree_yes S g (19 + 4 * (i % 4)) _ 1 (x0 + 1) i 16 ((i % 4 : Nat) : Int) x2 w _ hdr (by decide) (by decide) hF (by omega) hqk hkk hv19y (by rw [own_len]; omega) (by rw [own_len]; decide)).mono ?_; rintro e wv ⟨rfl, hf, hkv⟩) | (go_at_call 57; refine (rrouse_yes S g 17 _ 1 (x0 + 1) i 16 0 w _ hf (by decide) (by decide) hF (Lib.hid (by decide)) hr17y2 (by simp [own17] <;> omega) (by simp [own17])).mono ?_; rintro e wv ⟨rfl, hr, hkv⟩))
  all_goals
    clear hdr kp
    replace h := hr
    have hkz : Keep g wz _ := And.left (by with_reducible assumption)
    replace a0 := hkz.cell a0 hA.out
    replace a1 := hkz.cell a1 hA.out
    replace a2 := hkz.cell a2 hA.out
    replace c0 := hkz.cell c0 hC.out
    replace c1 := hkz.cell c1 hC.out
    replace c2 := hkz.cell c2 hC.out
    replace p0 := hkz.cell p0 hP.out
    replace p1 := hkz.cell p1 hP.out
    replace p2 := hkz.cell p2 hP.out
    replace p3 := hkz.cell p3 hP.out
    replace xr0 := hkz.cell xr0 hX.out
    replace xr1 := hkz.cell xr1 hX.out
    replace xr2 := hkz.cell xr2 hX.out
    replace xr3 := hkz.cell xr3 hX.out
    replace xr4 := hkz.cell xr4 hX.out
    replace xr5 := hkz.cell xr5 hX.out
    replace yr0 := hkz.cell yr0 hY.out
    replace yr1 := hkz.cell yr1 hY.out
    replace yr2 := hkz.cell yr2 hY.out
    replace yr3 := hkz.cell yr3 hY.out
    replace yr4 := hkz.cell yr4 hY.out
    replace yr5 := hkz.cell yr5 hY.out
    clear hkz
    go_wp2_with fail
    refine (rfree_no S g (19 + 4 * (i % 4)) _ 1 (x0 + 1) i 16 ((i % 4 : Nat) : Int) x2 0 w _ h (by decide) (by decide) hF (by omega) hqi hki hx19n hx19z (by simp [own17] <;> omega) (by simp [own17])).mono ?_
    rintro e wz ⟨rfl, hj, hk⟩
    replace h := hj
    replace a0 := hk.cell a0 hA.out
    replace a1 := hk.cell a1 hA.out
    replace a2 := hk.cell a2 hA.out
    replace c0 := hk.cell c0 hC.out
    replace c1 := hk.cell c1 hC.out
    replace c2 := hk.cell c2 hC.out
    replace p0 := hk.cell p0 hP.out
    replace p1 := hk.cell p1 hP.out
    replace p2 := hk.cell p2 hP.out
    replace p3 := hk.cell p3 hP.out
    replace xr0 := hk.cell xr0 hX.out
    replace xr1 := hk.cell xr1 hX.out
    replace xr2 := hk.cell xr2 hX.out
    replace xr3 := hk.cell xr3 hX.out
    replace xr4 := hk.cell xr4 hX.out
    replace xr5 := hk.cell xr5 hX.out
    replace yr0 := hk.cell yr0 hY.out
    replace yr1 := hk.cell yr1 hY.out
    replace yr2 := hk.cell yr2 hY.out
    replace yr3 := hk.cell yr3 hY.out
    replace yr4 := hk.cell yr4 hY.out
    replace yr5 := hk.cell yr5 hY.out
    clear hj hk
    go_wp2_with fail
    refine (rrouse_no S g 17 _ 1 (x0 + 1) i 16 0 0 w _ h (by decide) (by decide) hF (Lib.hid (by decide)) hx17n hx17z (by simp [own17] <;> omega) (by simp [own17])).mono ?_
    rintro e wz ⟨rfl, hj, hk⟩
    replace h := hj
    replace a0 := hk.cell a0 hA.out
    replace a1 := hk.cell a1 hA.out
    replace a2 := hk.cell a2 hA.out
    replace c0 := hk.cell c0 hC.out
    replace c1 := hk.cell c1 hC.out
    replace c2 := hk.cell c2 hC.out
    replace p0 := hk.cell p0 hP.out
    replace p1 := hk.cell p1 hP.out
    replace p2 := hk.cell p2 hP.out
    replace p3 := hk.cell p3 hP.out
    replace xr0 := hk.cell xr0 hX.out
    replace xr1 := hk.cell xr1 hX.out
    replace xr2 := hk.cell xr2 hX.out
    replace xr3 := hk.cell xr3 hX.out
    replace xr4 := hk.cell xr4 hX.out
    replace xr5 := hk.cell xr5 hX.out
    replace yr0 := hk.cell yr0 hY.out
    replace yr1 := hk.cell yr1 hY.out
    replace yr2 := hk.cell yr2 hY.out
    replace yr3 := hk.cell yr3 hY.out
    replace yr4 := hk.cell yr4 hY.out
    replace yr5 := hk.cell yr5 hY.out
    clear hj hk
    go_wp2_with fail
    go_ret
    refine ⟨?_, h.2.1⟩
    first | rfl | simp [hsame] | simp
theorem four (n : Nat) : n % 4 = 0 ∨ n % 4 = 1 ∨ n % 4 = 2 ∨ n % 4 = 3 := by omega
theorem get17 (T1 T2 : Int) (i : Nat) : (own17 T1 T2 (i % 4)).getD 17 0 = T2 := by rcases four i with h | h | h | h <;> rw [h] <;> rfl
theorem get19 (T1 T2 : Int) (i : Nat) : (own17 T1 T2 (i % 4)).getD (19 + 4 * (i % 4)) 0 = T1 := by rcases four i with h | h | h | h <;> rw [h] <;> rfl
theorem get21 (T1 T2 : Int) (i : Nat) : (own17 T1 T2 (i % 4)).getD (21 + 4 * (i % 4)) 0 = T2 := by rcases four i with h | h | h | h <;> rw [h] <;> rfl
theorem get19' (T1 T2 : Int) (i k : Nat) (h : i % 4 ≠ k % 4) : (own17 T1 T2 (i % 4)).getD (19 + 4 * (k % 4)) 0 = 0 := by rcases four i with h1 | h1 | h1 | h1 <;> rcases four k with h2 | h2 | h2 | h2 <;> rw [h1, h2] <;> first | rfl | exact absurd (h1.trans h2.symm) h
theorem get21' (T1 T2 : Int) (i k : Nat) (h : i % 4 ≠ k % 4) : (own17 T1 T2 (i % 4)).getD (21 + 4 * (k % 4)) 0 = 0 := by rcases four i with h1 | h1 | h1 | h1 <;> rcases four k with h2 | h2 | h2 | h2 <;> rw [h1, h2] <;> first | rfl | exact absurd (h1.trans h2.symm) h
theorem get17s (T1 T2 : Int) (i : Nat) : ((own17 T1 T2 (i % 4)).set (19 + 4 * (i % 4)) 0).getD 17 0 = T2 := by rcases four i with h | h | h | h <;> rw [h] <;> rfl
theorem get19s (T1 T2 : Int) (i : Nat) : ((own17 T1 T2 (i % 4)).set 17 0).getD (19 + 4 * (i % 4)) 0 = T1 := by rcases four i with h | h | h | h <;> rw [h] <;> rfl
theorem get17ss (T1 T2 : Int) (i : Nat) : (((own17 T1 T2 (i % 4)).set 17 0).set (19 + 4 * (i % 4)) 0).getD 17 0 = 0 := by rcases four i with h | h | h | h <;> rw [h] <;> rfl
theorem get19ss (T1 T2 : Int) (i : Nat) : (((own17 T1 T2 (i % 4)).set (19 + 4 * (i % 4)) 0).set 17 0).getD (19 + 4 * (i % 4)) 0 = 0 := by rcases four i with h | h | h | h <;> rw [h] <;> rfl
theorem get17st (T1 T2 : Int) (i : Nat) : (((own17 T1 T2 (i % 4)).set (19 + 4 * (i % 4)) 0).set 17 0).getD 17 0 = 0 := by rcases four i with h | h | h | h <;> rw [h] <;> rfl
theorem tok17 (a : Int) (i : Nat) (s : Int) (ha : 0 ≤ a ∧ a ≤ 65535) (hi : i ≤ 65535) (hs : 0 ≤ s ∧ s ≤ 65535) : tOf (a + 1) i s = ((a + 1) * 1048576 + i) * 1048576 + s :=
  (tPart_loop (a + 1) i s (by omega) (by omega) (by omega) (by omega) (by omega) (by omega)).1
theorem walk (a0_0 a0_1 a0_2 : Int) (a1_0 a1_1 a1_2 : Int) (w : World) (w0_0 : (Lit.int .u16 a0_0).wf = true) (w0_1 : (Lit.int .u16 a0_1).wf = true) (w0_2 : (Lit.int .u16 a0_2).wf = true) (w1_0 : (Lit.int .u16 a1_0).wf = true) (w1_1 : (Lit.int .u16 a1_1).wf = true) (w1_2 : (Lit.int .u16 a1_2).wf = true) :
    Calls Try.prog 9 #[.agg #[.int .u16 a0_0, .int .u16 a0_1, .int .u16 a0_2], .agg #[.int .u16 a1_0, .int .u16 a1_1, .int .u16 a1_2]] w fun e w' => e = .returned (.bool true) ∧ Below w.heap.size w w' := by
  have b0 := bounds_u16 w0_0
  have b1 := bounds_u16 w0_1
  have b2 := bounds_u16 w0_2
  have b3 := bounds_u16 w1_0
  have b4 := bounds_u16 w1_1
  have b5 := bounds_u16 w1_2
  obtain ⟨i, rfl⟩ := Int.eq_ofNat_of_zero_le b1.1
  obtain ⟨k, rfl⟩ := Int.eq_ofNat_of_zero_le b4.1
  have hi : i ≤ 65535 := by omega
  have hk : k ≤ 65535 := by omega
  have hF : Hid ((2 : Int) * (4 + 4) + (1 - 1) * (2 + (3 + 1) * 4) = 16) := Lib.hid (by decide)
  have hq : ∀ n : Nat, Hid ((n : Int).tmod (3 + 1) = ((n % 4 : Nat) : Int)) := fun n => Lib.hid (by rw [Int.tmod_eq_emod_of_nonneg (by omega)]; omega)
  have h1 : ∀ n : Nat, Hid ((16 : Int) + 2 + ((n % 4 : Nat) : Int) * 4 + 1 = ((19 + 4 * (n % 4) : Nat) : Int)) := fun n => Lib.hid (by omega)
  have h2 : ∀ n : Nat, Hid ((16 : Int) + 2 + ((n % 4 : Nat) : Int) * 4 + 3 = ((21 + 4 * (n % 4) : Nat) : Int)) := fun n => Lib.hid (by omega)
  have z0 : (0 : Int) ≤ 0 ∧ (0 : Int) ≤ 65535 := by omega
  have t1 := tok17 a0_0 i a0_2 b0 hi b2
  have t2 := tok17 a0_0 i 0 b0 hi z0
  have t3 := tok17 a1_0 k a1_2 b3 hk b5
  have t4 := tok17 a1_0 k 0 b3 hk z0
  by_cases hx : a0_0 = a1_0
  · subst hx
    by_cases hik : i = k
    · subst hik
      by_cases hs : a0_2 = a1_2
      · subst hs
        exact core_tt a0_0 a0_2 i w b0 hi b2 hF (hq i) (hq i) (h1 i) (h2 i) (h1 i) (h2 i) _ _ _ (Lib.hid rfl) (Lib.hid rfl) (Lib.hid (get21 _ _ _)) (Lib.hid (get17 _ _ _)) (Lib.hid (by simp)) (Lib.hid (by simp)) (Lib.hid (get19 _ _ _)) (Lib.hid (get17s _ _ _)) (Lib.hid (get19ss _ _ _)) (Lib.hid (by omega)) (Lib.hid (get17st _ _ _)) (Lib.hid (by omega))
      · exact core_tf a0_0 a0_2 a1_2 i w b0 hi b2 b5 hF (hq i) (hq i) (h1 i) (h2 i) (h1 i) (h2 i) _ _ _ (Lib.hid rfl) (Lib.hid rfl) (Lib.hid (get21 _ _ _)) (Lib.hid (get17 _ _ _)) _ hs (Lib.hid (by simp)) (Lib.hid (by simp)) (Lib.hid (get19 _ _ _)) (Lib.hid (by omega)) (Lib.hid (get17 _ _ _)) (Lib.hid (get19s _ _ _)) (Lib.hid (get17ss _ _ _)) (Lib.hid (by omega))
    · obtain ⟨v21, hv21, hv21n⟩ : ∃ v, (own17 (tOf (a0_0 + 1) i a0_2) (tOf (a0_0 + 1) i 0) (i % 4)).getD (21 + 4 * (k % 4)) 0 = v ∧ (v == tOf (a0_0 + 1) k 0) = false := by
        by_cases he : i % 4 = k % 4
        · refine ⟨tOf (a0_0 + 1) i 0, by rw [← he, get21], ?_⟩
          simp; omega
        · refine ⟨0, get21' _ _ _ _ he, ?_⟩
          simp; omega
      obtain ⟨v19, hv19, hv19n⟩ : ∃ v, (own17 (tOf (a0_0 + 1) i a0_2) (tOf (a0_0 + 1) i 0) (i % 4)).getD (19 + 4 * (k % 4)) 0 = v ∧ v ≠ tOf (a0_0 + 1) k a1_2 := by
        by_cases he : i % 4 = k % 4
        · refine ⟨tOf (a0_0 + 1) i a0_2, by rw [← he, get19], ?_⟩
          omega
        · refine ⟨0, get19' _ _ _ _ he, ?_⟩
          omega
      exact core_fk a0_0 a0_2 a1_2 i k w b0 hi b2 hk b5 hF (hq i) (hq k) (h1 i) (h2 i) (h1 k) (h2 k) _ _ v21 (Lib.hid rfl) (Lib.hid rfl) (Lib.hid hv21) (Lib.hid (get17 _ _ _)) v19 (by omega) (Lib.hid hv21n) (Lib.hid (by simp; omega)) (Lib.hid hv19) (Lib.hid hv19n) (Lib.hid (by omega)) (Lib.hid (get19 _ _ _)) (Lib.hid (get17s _ _ _))
  · obtain ⟨v21, hv21, hv21n⟩ : ∃ v, (own17 (tOf (a0_0 + 1) i a0_2) (tOf (a0_0 + 1) i 0) (i % 4)).getD (21 + 4 * (k % 4)) 0 = v ∧ (v == tOf (a1_0 + 1) k 0) = false := by
      by_cases he : i % 4 = k % 4
      · refine ⟨tOf (a0_0 + 1) i 0, by rw [← he, get21], ?_⟩
        simp; omega
      · refine ⟨0, get21' _ _ _ _ he, ?_⟩
        simp; omega
    obtain ⟨v19, hv19, hv19n⟩ : ∃ v, (own17 (tOf (a0_0 + 1) i a0_2) (tOf (a0_0 + 1) i 0) (i % 4)).getD (19 + 4 * (k % 4)) 0 = v ∧ v ≠ tOf (a1_0 + 1) k a1_2 := by
      by_cases he : i % 4 = k % 4
      · refine ⟨tOf (a0_0 + 1) i a0_2, by rw [← he, get19], ?_⟩
        omega
      · refine ⟨0, get19' _ _ _ _ he, ?_⟩
        omega
    exact core_ff a0_0 a0_2 a1_0 a1_2 i k w b0 hi b2 b3 hk b5 hF (hq i) (hq k) (h1 i) (h2 i) (h1 k) (h2 k) _ _ v21 (Lib.hid rfl) (Lib.hid rfl) (Lib.hid hv21) (Lib.hid (get17 _ _ _)) v19 hx (Lib.hid hv21n) (Lib.hid (by simp; omega)) (Lib.hid hv19) (Lib.hid hv19n) (Lib.hid (by omega)) (Lib.hid (get19 _ _ _)) (Lib.hid (get17s _ _ _))
end Go.Proofs.Ytemboonjikccnaa.ringOwn
