/- Params of runs that may not be (their plan may not be, or they have too much output), the reference's plans and steps. -/
import Derived.Test.YtpcpohbbmeonbabNoPlan
import Derived.Test.YtpcpohbbmeonbabSteps
namespace Go.Proofs.Ytpcpohbbmeonbab
open Go.ChangeShapes Go.WideShapes Go.ChangeAt Go.RowKit
set_option linter.unusedVariables false
set_option linter.unusedSimpArgs false
set_option maxHeartbeats 1600000 in
theorem params_no1 (o : Option Addr) (n c : Nat) (f v wk th : Int) (w : World) (hv : Hid ((if f < 1 then 1 else f) = v)) (h0 : 1 ≤ v) (h1 : v ≤ 1099511627776) (hnot : Hid (¬ Okay wk v th (v + 2))) :
    Calls Try.prog 33 #[.agg #[.int .i64 0, .int .i64 0, .slice o n c, .slice none 0 0, .int .i64 0, .int .i64 f, .int .i64 0], .int .i64 wk, .int .i64 th] w fun e w' => e = .returned (.tuple #[.agg #[.int .i64 0, .int .i64 0, .int .i64 0, .int .i64 0, .int .i64 0, .bool false, .bool false], .int .i64 3]) ∧ Below w.heap.size w w' := by
  go_enter Try.func33, Try.ntmps33
  go_upto_region 1 with fail
  obtain ⟨W, hW⟩ : ∃ W, W = ((w.alloc (.cells #[.int .i64 0, .int .i64 0, .slice o n c, .slice none 0 0, .int .i64 0, .int .i64 f, .int .i64 0] 48)).alloc (.cells #[.int .i64 0, .int .i64 0, .int .i64 0, .int .i64 0, .int .i64 0, .bool false, .bool false] 52)) := ⟨_, rfl⟩
  have c0 : W.cell? ⟨w.heap.size, 0, none⟩ = some (.int .i64 0) := by rw [hW]; go_simp
  have c1' : W.cell? ⟨w.heap.size, 1, none⟩ = some (.int .i64 0) := by rw [hW]; go_simp
  have c2 : W.cell? ⟨w.heap.size, 2, none⟩ = some (.slice o n c) := by rw [hW]; go_simp
  have c3 : W.cell? ⟨w.heap.size, 3, none⟩ = some (.slice none 0 0) := by rw [hW]; go_simp
  have c4 : W.cell? ⟨w.heap.size, 4, none⟩ = some (.int .i64 0) := by rw [hW]; go_simp
  have c5 : W.cell? ⟨w.heap.size, 5, none⟩ = some (.int .i64 f) := by rw [hW]; go_simp
  have c6 : W.cell? ⟨w.heap.size, 6, none⟩ = some (.int .i64 0) := by rw [hW]; go_simp
  have r0 : W.cell? ⟨w.heap.size + 1, 0, none⟩ = some (.int .i64 0) := by rw [hW]; go_simp
  have f0 : W.frozen? ⟨w.heap.size + 1, 0, none⟩ = false := by rw [hW]; go_simp
  have r1 : W.cell? ⟨w.heap.size + 1, 1, none⟩ = some (.int .i64 0) := by rw [hW]; go_simp
  have f1 : W.frozen? ⟨w.heap.size + 1, 1, none⟩ = false := by rw [hW]; go_simp
  have r2 : W.cell? ⟨w.heap.size + 1, 2, none⟩ = some (.int .i64 0) := by rw [hW]; go_simp
  have f2 : W.frozen? ⟨w.heap.size + 1, 2, none⟩ = false := by rw [hW]; go_simp
  have r3 : W.cell? ⟨w.heap.size + 1, 3, none⟩ = some (.int .i64 0) := by rw [hW]; go_simp
  have f3 : W.frozen? ⟨w.heap.size + 1, 3, none⟩ = false := by rw [hW]; go_simp
  have r4 : W.cell? ⟨w.heap.size + 1, 4, none⟩ = some (.int .i64 0) := by rw [hW]; go_simp
  have f4 : W.frozen? ⟨w.heap.size + 1, 4, none⟩ = false := by rw [hW]; go_simp
  have r5 : W.cell? ⟨w.heap.size + 1, 5, none⟩ = some (.bool false) := by rw [hW]; go_simp
  have f5 : W.frozen? ⟨w.heap.size + 1, 5, none⟩ = false := by rw [hW]; go_simp
  have r6 : W.cell? ⟨w.heap.size + 1, 6, none⟩ = some (.bool false) := by rw [hW]; go_simp
  have f6 : W.frozen? ⟨w.heap.size + 1, 6, none⟩ = false := by rw [hW]; go_simp
  have hbW : Below w.heap.size w W := by rw [hW]; go_grown
  have hsz : W.heap.size = w.heap.size + 2 := by rw [hW]; simp
  rw [← hW]
  clear hW
  have HSZ := Lib.hid hsz
  clear hsz
  go_cut [8] (fun s8 wx => ∃ g : Nat, s8 = .pointer (some ⟨g, 0, none⟩) ∧ wx.cell? ⟨g, 0, none⟩ = some (.int .i64 wk) ∧ wx.cell? ⟨g, 1, none⟩ = some (.int .i64 v) ∧ wx.cell? ⟨g, 2, none⟩ = some (.int .i64 th) ∧ wx.cell? ⟨g, 3, none⟩ = some (.int .i64 (v + 2)) ∧ Below W.heap.size W wx)
  case first =>
    go_region_held3 (fun w' => w'.cell? ⟨w.heap.size, 0, none⟩ = some (.int .i64 0) ∧ w'.cell? ⟨w.heap.size, 1, none⟩ = some (.int .i64 0) ∧ w'.cell? ⟨w.heap.size, 2, none⟩ = some (.slice o n c) ∧ w'.cell? ⟨w.heap.size, 3, none⟩ = some (.slice none 0 0) ∧ w'.cell? ⟨w.heap.size, 4, none⟩ = some (.int .i64 0) ∧ w'.cell? ⟨w.heap.size, 5, none⟩ = some (.int .i64 f) ∧ w'.cell? ⟨w.heap.size, 6, none⟩ = some (.int .i64 0)) (first | exact ⟨keepc c0 (by go_grown), keepc c1' (by go_grown), keepc c2 (by go_grown), keepc c3 (by go_grown), keepc c4 (by go_grown), keepc c5 (by go_grown), keepc c6 (by go_grown)⟩)
      (first | (go_at_call 29; refine (frames_any _ _ o n c _ f _ v _ hv.out).mono ?_; rintro e w' ⟨rfl, rfl⟩) | (go_at_call 30; refine (deque_any _ _ o n c _ f _ v _ hv h0 (by omega)).mono ?_; rintro e w' ⟨rfl, rfl⟩))
    all_goals
      go_wp2_with fail
      go_meet
      refine ⟨_, rfl, ?_, ?_, ?_, ?_, by go_grown⟩ <;> (first | (go_simp; done) | skip)
  case rest =>
    obtain ⟨g, rfl, g0, g1, g2, g3, hbx⟩ := hcut
    have e2 := keepc c2 hbx
    have hBW : w.heap.size + 1 < W.heap.size := by have := HSZ.out; omega
    have hBx : w.heap.size + 1 < wc.heap.size := Nat.lt_of_lt_of_le hBW hbx.size
    have s0 := keepc r0 hbx
    have t0 := keepf f0 hBW hbx
    have s1 := keepc r1 hbx
    have t1 := keepf f1 hBW hbx
    have s2 := keepc r2 hbx
    have t2 := keepf f2 hBW hbx
    have s3 := keepc r3 hbx
    have t3 := keepf f3 hBW hbx
    have s4 := keepc r4 hbx
    have t4 := keepf f4 hBW hbx
    have s5 := keepc r5 hbx
    have t5 := keepf f5 hBW hbx
    have s6 := keepc r6 hbx
    have t6 := keepf f6 hBW hbx
    have hbw2 := hbW.trans (hbx.mono hbW.size)
    clear c0 c1' c2 c3 c4 c5 c6 hbW hbx HSZ hBW r0 f0 r1 f1 r2 f2 r3 f3 r4 f4 r5 f5 r6 f6
    go_wp2_with fail
    refine (check_no wk v th (v + 2) _ hnot).mono ?_
    rintro e w3 ⟨rfl, hb3⟩
    have e2 := keepc e2 hb3
    have q1 := keepc g1 hb3
    have q3 := keepc g3 hb3
    have s0 := keepc s0 hb3
    have t0 := keepf t0 hBx hb3
    have s1 := keepc s1 hb3
    have t1 := keepf t1 hBx hb3
    have s2 := keepc s2 hb3
    have t2 := keepf t2 hBx hb3
    have s3 := keepc s3 hb3
    have t3 := keepf t3 hBx hb3
    have s4 := keepc s4 hb3
    have t4 := keepf t4 hBx hb3
    have s5 := keepc s5 hb3
    have t5 := keepf t5 hBx hb3
    have s6 := keepc s6 hb3
    have t6 := keepf t6 hBx hb3
    have hbw3 := hbw2.trans (hb3.mono hbw2.size)
    clear g0 g1 g2 g3 hb3 hbw2 hBx
    go_wp2_with fail
    clear h0 h1
    refine bodyPost_ret (v := .tuple #[.agg #[.int .i64 0, .int .i64 0, .int .i64 0, .int .i64 0, .int .i64 0, .bool false, .bool false], .int .i64 3]) ?_ rfl ⟨rfl, ?_⟩
    · simp [results, Try.results33, go_sem, s0, s1, s2, s3, s4, s5, s6]
    · go_grown
set_option maxHeartbeats 1600000 in
theorem params_no2 (o : Option Addr) (n c : Nat) (f v wk th : Int) (w : World) (hv : Hid ((if f < 1 then 1 else f) = v)) (h0 : 1 ≤ v) (h1 : v ≤ 254) (a0 : 1 ≤ wk) (a1 : wk ≤ 64) (c0' : 1 ≤ th) (c1 : th ≤ 64) (hn : 1000 < n) :
    Calls Try.prog 33 #[.agg #[.int .i64 0, .int .i64 0, .slice o n c, .slice none 0 0, .int .i64 0, .int .i64 f, .int .i64 0], .int .i64 wk, .int .i64 th] w fun e w' => e = .returned (.tuple #[.agg #[.int .i64 0, .int .i64 0, .int .i64 0, .int .i64 0, .int .i64 0, .bool false, .bool false], .int .i64 3]) ∧ Below w.heap.size w w' := by
  go_enter Try.func33, Try.ntmps33
  go_upto_region 1 with fail
  obtain ⟨W, hW⟩ : ∃ W, W = ((w.alloc (.cells #[.int .i64 0, .int .i64 0, .slice o n c, .slice none 0 0, .int .i64 0, .int .i64 f, .int .i64 0] 48)).alloc (.cells #[.int .i64 0, .int .i64 0, .int .i64 0, .int .i64 0, .int .i64 0, .bool false, .bool false] 52)) := ⟨_, rfl⟩
  have c0 : W.cell? ⟨w.heap.size, 0, none⟩ = some (.int .i64 0) := by rw [hW]; go_simp
  have c1' : W.cell? ⟨w.heap.size, 1, none⟩ = some (.int .i64 0) := by rw [hW]; go_simp
  have c2 : W.cell? ⟨w.heap.size, 2, none⟩ = some (.slice o n c) := by rw [hW]; go_simp
  have c3 : W.cell? ⟨w.heap.size, 3, none⟩ = some (.slice none 0 0) := by rw [hW]; go_simp
  have c4 : W.cell? ⟨w.heap.size, 4, none⟩ = some (.int .i64 0) := by rw [hW]; go_simp
  have c5 : W.cell? ⟨w.heap.size, 5, none⟩ = some (.int .i64 f) := by rw [hW]; go_simp
  have c6 : W.cell? ⟨w.heap.size, 6, none⟩ = some (.int .i64 0) := by rw [hW]; go_simp
  have r0 : W.cell? ⟨w.heap.size + 1, 0, none⟩ = some (.int .i64 0) := by rw [hW]; go_simp
  have f0 : W.frozen? ⟨w.heap.size + 1, 0, none⟩ = false := by rw [hW]; go_simp
  have r1 : W.cell? ⟨w.heap.size + 1, 1, none⟩ = some (.int .i64 0) := by rw [hW]; go_simp
  have f1 : W.frozen? ⟨w.heap.size + 1, 1, none⟩ = false := by rw [hW]; go_simp
  have r2 : W.cell? ⟨w.heap.size + 1, 2, none⟩ = some (.int .i64 0) := by rw [hW]; go_simp
  have f2 : W.frozen? ⟨w.heap.size + 1, 2, none⟩ = false := by rw [hW]; go_simp
  have r3 : W.cell? ⟨w.heap.size + 1, 3, none⟩ = some (.int .i64 0) := by rw [hW]; go_simp
  have f3 : W.frozen? ⟨w.heap.size + 1, 3, none⟩ = false := by rw [hW]; go_simp
  have r4 : W.cell? ⟨w.heap.size + 1, 4, none⟩ = some (.int .i64 0) := by rw [hW]; go_simp
  have f4 : W.frozen? ⟨w.heap.size + 1, 4, none⟩ = false := by rw [hW]; go_simp
  have r5 : W.cell? ⟨w.heap.size + 1, 5, none⟩ = some (.bool false) := by rw [hW]; go_simp
  have f5 : W.frozen? ⟨w.heap.size + 1, 5, none⟩ = false := by rw [hW]; go_simp
  have r6 : W.cell? ⟨w.heap.size + 1, 6, none⟩ = some (.bool false) := by rw [hW]; go_simp
  have f6 : W.frozen? ⟨w.heap.size + 1, 6, none⟩ = false := by rw [hW]; go_simp
  have hbW : Below w.heap.size w W := by rw [hW]; go_grown
  have hsz : W.heap.size = w.heap.size + 2 := by rw [hW]; simp
  rw [← hW]
  clear hW
  have HSZ := Lib.hid hsz
  clear hsz
  go_cut [8] (fun s8 wx => ∃ g : Nat, s8 = .pointer (some ⟨g, 0, none⟩) ∧ wx.cell? ⟨g, 0, none⟩ = some (.int .i64 wk) ∧ wx.cell? ⟨g, 1, none⟩ = some (.int .i64 v) ∧ wx.cell? ⟨g, 2, none⟩ = some (.int .i64 th) ∧ wx.cell? ⟨g, 3, none⟩ = some (.int .i64 (v + 2)) ∧ Below W.heap.size W wx)
  case first =>
    go_region_held3 (fun w' => w'.cell? ⟨w.heap.size, 0, none⟩ = some (.int .i64 0) ∧ w'.cell? ⟨w.heap.size, 1, none⟩ = some (.int .i64 0) ∧ w'.cell? ⟨w.heap.size, 2, none⟩ = some (.slice o n c) ∧ w'.cell? ⟨w.heap.size, 3, none⟩ = some (.slice none 0 0) ∧ w'.cell? ⟨w.heap.size, 4, none⟩ = some (.int .i64 0) ∧ w'.cell? ⟨w.heap.size, 5, none⟩ = some (.int .i64 f) ∧ w'.cell? ⟨w.heap.size, 6, none⟩ = some (.int .i64 0)) (first | exact ⟨keepc c0 (by go_grown), keepc c1' (by go_grown), keepc c2 (by go_grown), keepc c3 (by go_grown), keepc c4 (by go_grown), keepc c5 (by go_grown), keepc c6 (by go_grown)⟩)
      (first | (go_at_call 29; refine (frames_any _ _ o n c _ f _ v _ hv.out).mono ?_; rintro e w' ⟨rfl, rfl⟩) | (go_at_call 30; refine (deque_any _ _ o n c _ f _ v _ hv h0 (by omega)).mono ?_; rintro e w' ⟨rfl, rfl⟩))
    all_goals
      go_wp2_with fail
      go_meet
      refine ⟨_, rfl, ?_, ?_, ?_, ?_, by go_grown⟩ <;> (first | (go_simp; done) | skip)
  case rest =>
    obtain ⟨g, rfl, g0, g1, g2, g3, hbx⟩ := hcut
    have e2 := keepc c2 hbx
    have hBW : w.heap.size + 1 < W.heap.size := by have := HSZ.out; omega
    have hBx : w.heap.size + 1 < wc.heap.size := Nat.lt_of_lt_of_le hBW hbx.size
    have s0 := keepc r0 hbx
    have t0 := keepf f0 hBW hbx
    have s1 := keepc r1 hbx
    have t1 := keepf f1 hBW hbx
    have s2 := keepc r2 hbx
    have t2 := keepf f2 hBW hbx
    have s3 := keepc r3 hbx
    have t3 := keepf f3 hBW hbx
    have s4 := keepc r4 hbx
    have t4 := keepf f4 hBW hbx
    have s5 := keepc r5 hbx
    have t5 := keepf f5 hBW hbx
    have s6 := keepc r6 hbx
    have t6 := keepf f6 hBW hbx
    have hbw2 := hbW.trans (hbx.mono hbW.size)
    clear c0 c1' c2 c3 c4 c5 c6 hbW hbx HSZ hBW r0 f0 r1 f1 r2 f2 r3 f3 r4 f4 r5 f5 r6 f6
    go_wp2_with fail
    refine (check_ok wk v th (v + 2) _ a0 a1 h0 (by omega) c0' c1 (by omega) (by omega)).mono ?_
    rintro e w3 ⟨rfl, hw3⟩
    have hb3 : Below wc.heap.size wc w3 := by rw [← hw3]; go_grown
    clear hw3
    have e2 := keepc e2 hb3
    have q1 := keepc g1 hb3
    have q3 := keepc g3 hb3
    have s0 := keepc s0 hb3
    have t0 := keepf t0 hBx hb3
    have s1 := keepc s1 hb3
    have t1 := keepf t1 hBx hb3
    have s2 := keepc s2 hb3
    have t2 := keepf t2 hBx hb3
    have s3 := keepc s3 hb3
    have t3 := keepf t3 hBx hb3
    have s4 := keepc s4 hb3
    have t4 := keepf t4 hBx hb3
    have s5 := keepc s5 hb3
    have t5 := keepf t5 hBx hb3
    have s6 := keepc s6 hb3
    have t6 := keepf t6 hBx hb3
    have hbw3 := hbw2.trans (hb3.mono hbw2.size)
    clear g0 g1 g2 g3 hb3 hbw2 hBx
    go_wp2_with fail
    clear c0' c1 hn h0 h1 a0 a1
    refine bodyPost_ret (v := .tuple #[.agg #[.int .i64 0, .int .i64 0, .int .i64 0, .int .i64 0, .int .i64 0, .bool false, .bool false], .int .i64 3]) ?_ rfl ⟨rfl, ?_⟩
    · simp [results, Try.results33, go_sem, s0, s1, s2, s3, s4, s5, s6]
    · go_grown

theorem right_v (a b c d : Int) (v : Bool) (w : World) (hv : Hid (Okay a b c d ↔ v = true)) : Calls Try.prog 34 #[.agg #[.int .i64 a, .int .i64 b, .int .i64 c, .int .i64 d]] w fun e w' => e = .returned (.bool v) ∧ Below w.heap.size w w' := by
  go_enter Try.func34, Try.ntmps34
  go_wp2
  all_goals
    go_ret
    refine ⟨ret_bool ?_, by go_grown⟩
    have hv := hv.out
    unfold Okay at hv
    cases v
    · simp at hv ⊢
      try omega
    · simp at hv ⊢
      try omega
theorem rsteps_any (n p w : Int) (world : World) : Calls Try.prog 32 #[.int .i64 n, .int .i64 p, .int .i64 w] world fun e w' => e = .returned (.int .i64 (stV n p w)) ∧ world = w' := by
  obtain ⟨Nn, hn⟩ : ∃ x, Hid (hd n 0 1048576 = x) := ⟨_, Lib.hid rfl⟩
  obtain ⟨P, hp⟩ : ∃ x, Hid (hd p 1 64 = x) := ⟨_, Lib.hid rfl⟩
  obtain ⟨W, hw⟩ : ∃ x, Hid (hd w 1 1024 = x) := ⟨_, Lib.hid rfl⟩
  have bn := hd_bd n 0 1048576 (by decide)
  have bp := hd_bd p 1 64 (by decide)
  have bw := hd_bd w 1 1024 (by decide)
  rw [hn.out] at bn
  rw [hp.out] at bp
  rw [hw.out] at bw
  obtain ⟨n0, n1⟩ := bn
  obtain ⟨p0, p1⟩ := bp
  obtain ⟨w0, w1⟩ := bw
  obtain ⟨_, _, h3⟩ := st_bd Nn P W n0 n1 p0 p1 w0 w1
  have g1 : 0 ≤ (1 + 64 * (Nn + 2)) * (P + 1) ∧ (1 + 64 * (Nn + 2)) * (P + 1) ≤ 67108993 * 65 := mul_bd (by omega) (by omega) (by omega) (by omega)
  have g2 : 0 ≤ (1 + 64 * (Nn + 2)) * (P + 1) * (P + 1) ∧ (1 + 64 * (Nn + 2)) * (P + 1) * (P + 1) ≤ 67108993 * 65 * 65 := mul_bd g1.1 g1.2 (by omega) (by omega)
  have g3 : 0 ≤ (1 + 64 * (Nn + 2)) * (P + 1) * (P + 1) * W ∧ (1 + 64 * (Nn + 2)) * (P + 1) * (P + 1) * W ≤ 67108993 * 65 * 65 * 1024 := mul_bd g2.1 g2.2 (by omega) (by omega)
  have e4 : Hid ((1 + 64 * (Nn + 2)) * (P + 1) * (P + 1) * W * 16 = stRaw Nn P W) := Lib.hid (by unfold stRaw; rw [Int.add_comm 1 (64 * (Nn + 2))]; ac_rfl)
  obtain ⟨x1, hx1⟩ : ∃ x, (1 + 64 * (Nn + 2)) * (P + 1) = x := ⟨_, rfl⟩
  rw [hx1] at g1 g2 g3 e4
  obtain ⟨x2, hx2⟩ : ∃ x, x1 * (P + 1) = x := ⟨_, rfl⟩
  rw [hx2] at g2 g3 e4
  obtain ⟨x3, hx3⟩ : ∃ x, x2 * W = x := ⟨_, rfl⟩
  rw [hx3] at g3 e4
  obtain ⟨g10, g11⟩ := g1
  obtain ⟨g20, g21⟩ := g2
  obtain ⟨g30, g31⟩ := g3
  have hst : Hid (hd (x3 * 16) 0 1099511627776 = stV n p w) := Lib.hid (by
    rw [e4.out]
    unfold stV
    rw [hn.out, hp.out, hw.out]
    unfold hd
    rw [if_neg (by omega)]
    split <;> split <;> omega)
  go_enter Try.func32, Try.ntmps32
  go_wp2_with fail
  refine (held38 p 1 64 P _ hp.out).mono ?_
  rintro e w' ⟨rfl, rfl⟩
  go_wp2_with fail
  refine (held38 n 0 1048576 Nn _ hn.out).mono ?_
  rintro e w' ⟨rfl, rfl⟩
  go_wp2_with fail
  refine (held38 w 1 1024 W _ hw.out).mono ?_
  rintro e w' ⟨rfl, rfl⟩
  go_wp2_with fail
  refine (held38 _ 0 1099511627776 _ _ hst.out).mono ?_
  rintro e w' ⟨rfl, rfl⟩
  go_wp2_with fail
  go_ret
  exact ⟨rfl, rfl⟩
end Go.Proofs.Ytpcpohbbmeonbab
