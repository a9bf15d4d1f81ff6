/- The contracts of layout.Plan's Check, and of bound's Params, where they are called by works. -/
import Derived.Test.YtpcpohbbmeonbabBound
import Derived.Deep.RegionHeld3
import Derived.Laws.StructEq
import Derived.Handy
import Derived.Deep.DeepCutAuto
namespace Go.Proofs.Ytpcpohbbmeonbab
open Go.ChangeShapes Go.WideShapes Go.ChangeAt Go.RowKit
set_option linter.unusedVariables false
theorem plan_held (a b c d : Int) (w : World) (a0 : 1 ≤ a) (a1 : a ≤ 64) (b0 : 1 ≤ b) (b1 : b ≤ 256) (c0 : 1 ≤ c) (c1 : c ≤ 64) (d0 : 2 ≤ d) (d1 : d ≤ 256) :
    Calls Try.prog 40 #[.agg #[.int .i64 a, .int .i64 b, .int .i64 c, .int .i64 d]] w fun e w' => e = .returned (.agg #[.int .i64 a, .int .i64 b, .int .i64 c, .int .i64 d]) ∧ (w.alloc (.cells #[.int .i64 a, .int .i64 b, .int .i64 c, .int .i64 d] 70)).alloc (.cells #[.int .i64 a, .int .i64 b, .int .i64 c, .int .i64 d] 70) = w' := by
  go_enter Try.func40, Try.ntmps40
  go_wp2_with fail
  exact bodyPost_ret (v := .agg #[.int .i64 a, .int .i64 b, .int .i64 c, .int .i64 d]) (by simp [results, Try.results40, go_sem]) rfl ⟨rfl, rfl⟩

theorem plan_neq (a b c d : Int) (w : World) : (binOp .neq 70 (.agg #[.int .i64 a, .int .i64 b, .int .i64 c, .int .i64 d]) (.agg #[.int .i64 a, .int .i64 b, .int .i64 c, .int .i64 d])).run Try.prog w = .ok (.bool false) w := by
  have h : (Op.equalIn 10000 70 (.agg #[.int .i64 a, .int .i64 b, .int .i64 c, .int .i64 d]) (.agg #[.int .i64 a, .int .i64 b, .int .i64 c, .int .i64 d])).run Try.prog w = .ok true w := by
    rw [show (10000 : Nat) = 9999 + 1 from rfl, run_equalIn_struct w 9999 70 _ _ (by kernel_rfl) (by kernel_rfl)]
    simp [go_sem, Try.underlying70]
  simp only [binOp]
  simp [Op.equal, Op.maxDepth, h]
theorem check_ok (a b c d : Int) (w : World) (a0 : 1 ≤ a) (a1 : a ≤ 64) (b0 : 1 ≤ b) (b1 : b ≤ 256) (c0 : 1 ≤ c) (c1 : c ≤ 64) (d0 : 2 ≤ d) (d1 : d ≤ 256) :
    Calls Try.prog 39 #[.agg #[.int .i64 a, .int .i64 b, .int .i64 c, .int .i64 d]] w fun e w' => e = .returned (.int .i64 0) ∧ (((w.alloc (.cells #[.int .i64 a, .int .i64 b, .int .i64 c, .int .i64 d] 70)).alloc (.cells #[.int .i64 a, .int .i64 b, .int .i64 c, .int .i64 d] 70)).alloc (.cells #[.int .i64 a, .int .i64 b, .int .i64 c, .int .i64 d] 70)).drew = w' := by
  have hq := fun w => plan_neq a b c d w
  go_enter Try.func39, Try.ntmps39
  go_wp2_with fail
  go_region_held3 (fun w' => w'.cell? ⟨w.heap.size, 0, none⟩ = some (.int .i64 a) ∧ w'.cell? ⟨w.heap.size, 1, none⟩ = some (.int .i64 b) ∧ w'.cell? ⟨w.heap.size, 2, none⟩ = some (.int .i64 c) ∧ w'.cell? ⟨w.heap.size, 3, none⟩ = some (.int .i64 d)) (go_keep)
    (first | (go_at_call 40; refine (plan_held a b c d _ a0 a1 b0 b1 c0 c1 d0 d1).mono ?_; rintro e w' ⟨rfl, rfl⟩))
  go_wp2_with fail
  go_ret
  exact ⟨rfl, rfl⟩

theorem keepc {W W' : World} {B j : Nat} {v : Value} (h : W.cell? ⟨B, j, none⟩ = some v) (hb : Below W.heap.size W W') : W'.cell? ⟨B, j, none⟩ = some v :=
  (hb.cell (p := ⟨B, j, none⟩) (World.block_lt_of_cell? W _ h)).trans h
theorem keepf {W W' : World} {B j : Nat} {v : Bool} (h : W.frozen? ⟨B, j, none⟩ = v) (hB : B < W.heap.size) (hb : Below W.heap.size W W') : W'.frozen? ⟨B, j, none⟩ = v :=
  (hb.frozen (p := ⟨B, j, none⟩) hB).trans h
def OutV (s y : Int) (o : Option Addr) (n c : Nat) (st f dp : Int) : Array Value := #[.int .i64 s, .int .i64 y, .slice o n c, .slice none 0 0, .int .i64 st, .int .i64 f, .int .i64 dp]
theorem frames_any (s y : Int) (o : Option Addr) (n c : Nat) (st f dp v : Int) (w : World) (hv : (if f < 1 then 1 else f) = v) :
    Calls Try.prog 29 #[.agg #[.int .i64 s, .int .i64 y, .slice o n c, .slice none 0 0, .int .i64 st, .int .i64 f, .int .i64 dp]] w fun e w' => e = .returned (.int .i64 v) ∧ w.alloc (.cells #[.int .i64 s, .int .i64 y, .slice o n c, .slice none 0 0, .int .i64 st, .int .i64 f, .int .i64 dp] 48) = w' := by
  by_cases h : f < 1
  · rw [if_pos h] at hv
    subst hv
    go_enter Try.func29, Try.ntmps29
    go_wp2
    go_ret
    exact ⟨rfl, rfl⟩
  · rw [if_neg h] at hv
    subst hv
    go_enter Try.func29, Try.ntmps29
    go_wp2
    go_ret
    exact ⟨rfl, rfl⟩
theorem deque_any (s y : Int) (o : Option Addr) (n c : Nat) (st f dp v : Int) (w : World) (hv : Hid ((if f < 1 then 1 else f) = v)) (h0 : 1 ≤ v) (h1 : v ≤ 1099511627776) :
    Calls Try.prog 30 #[.agg #[.int .i64 s, .int .i64 y, .slice o n c, .slice none 0 0, .int .i64 st, .int .i64 f, .int .i64 dp]] w fun e w' => e = .returned (.int .i64 (v + 2)) ∧ (w.alloc (.cells #[.int .i64 s, .int .i64 y, .slice o n c, .slice none 0 0, .int .i64 st, .int .i64 f, .int .i64 dp] 48)).alloc (.cells #[.int .i64 s, .int .i64 y, .slice o n c, .slice none 0 0, .int .i64 st, .int .i64 f, .int .i64 dp] 48) = w' := by
  go_enter Try.func30, Try.ntmps30
  go_wp2_with (go_at_call 29; refine (frames_any s y o n c st f dp v _ hv.out).mono ?_; rintro e w' ⟨rfl, rfl⟩)
  go_ret
  exact ⟨rfl, rfl⟩
set_option maxHeartbeats 1600000 in
theorem params_ok (o : Option Addr) (n c : Nat) (f v wk th : Int) (w : World) (hv : Hid ((if f < 1 then 1 else f) = v)) (h0 : 1 ≤ v) (h1 : v ≤ 254) (a0 : 1 ≤ wk) (a1 : wk ≤ 64) (c0' : 1 ≤ th) (c1 : th ≤ 64) (hn : n ≤ 1000) :
    Calls Try.prog 33 #[.agg #[.int .i64 0, .int .i64 0, .slice o n c, .slice none 0 0, .int .i64 0, .int .i64 f, .int .i64 0], .int .i64 wk, .int .i64 th] w fun e w' => e = .returned (.tuple #[.agg #[.int .i64 wk, .int .i64 th, .int .i64 v, .int .i64 (v + 2), .int .i64 n, .bool false, .bool false], .int .i64 0]) ∧ Below w.heap.size w w' := by
  go_enter Try.func33, Try.ntmps33
  go_upto_region 1 with fail
  obtain ⟨W, hW⟩ : ∃ W, W = ((w.alloc (.cells #[.int .i64 0, .int .i64 0, .slice o n c, .slice none 0 0, .int .i64 0, .int .i64 f, .int .i64 0] 48)).alloc (.cells #[.int .i64 0, .int .i64 0, .int .i64 0, .int .i64 0, .int .i64 0, .bool false, .bool false] 52)) := ⟨_, rfl⟩
  have c0 : W.cell? ⟨w.heap.size, 0, none⟩ = some (.int .i64 0) := by rw [hW]; go_simp
  have c1' : W.cell? ⟨w.heap.size, 1, none⟩ = some (.int .i64 0) := by rw [hW]; go_simp
  have c2 : W.cell? ⟨w.heap.size, 2, none⟩ = some (.slice o n c) := by rw [hW]; go_simp
  have c3 : W.cell? ⟨w.heap.size, 3, none⟩ = some (.slice none 0 0) := by rw [hW]; go_simp
  have c4 : W.cell? ⟨w.heap.size, 4, none⟩ = some (.int .i64 0) := by rw [hW]; go_simp
  have c5 : W.cell? ⟨w.heap.size, 5, none⟩ = some (.int .i64 f) := by rw [hW]; go_simp
  have c6 : W.cell? ⟨w.heap.size, 6, none⟩ = some (.int .i64 0) := by rw [hW]; go_simp
  have r0 : W.cell? ⟨w.heap.size + 1, 0, none⟩ = some (.int .i64 0) := by rw [hW]; go_simp
  have f0 : W.frozen? ⟨w.heap.size + 1, 0, none⟩ = false := by rw [hW]; go_simp
  have r1 : W.cell? ⟨w.heap.size + 1, 1, none⟩ = some (.int .i64 0) := by rw [hW]; go_simp
  have f1 : W.frozen? ⟨w.heap.size + 1, 1, none⟩ = false := by rw [hW]; go_simp
  have r2 : W.cell? ⟨w.heap.size + 1, 2, none⟩ = some (.int .i64 0) := by rw [hW]; go_simp
  have f2 : W.frozen? ⟨w.heap.size + 1, 2, none⟩ = false := by rw [hW]; go_simp
  have r3 : W.cell? ⟨w.heap.size + 1, 3, none⟩ = some (.int .i64 0) := by rw [hW]; go_simp
  have f3 : W.frozen? ⟨w.heap.size + 1, 3, none⟩ = false := by rw [hW]; go_simp
  have r4 : W.cell? ⟨w.heap.size + 1, 4, none⟩ = some (.int .i64 0) := by rw [hW]; go_simp
  have f4 : W.frozen? ⟨w.heap.size + 1, 4, none⟩ = false := by rw [hW]; go_simp
  have r5 : W.cell? ⟨w.heap.size + 1, 5, none⟩ = some (.bool false) := by rw [hW]; go_simp
  have f5 : W.frozen? ⟨w.heap.size + 1, 5, none⟩ = false := by rw [hW]; go_simp
  have r6 : W.cell? ⟨w.heap.size + 1, 6, none⟩ = some (.bool false) := by rw [hW]; go_simp
  have f6 : W.frozen? ⟨w.heap.size + 1, 6, none⟩ = false := by rw [hW]; go_simp
  have hbW : Below w.heap.size w W := by rw [hW]; go_grown
  have hsz : W.heap.size = w.heap.size + 2 := by rw [hW]; simp
  rw [← hW]
  clear hW
  have HSZ := Lib.hid hsz
  clear hsz
  go_cut [8] (fun s8 wx => ∃ g : Nat, s8 = .pointer (some ⟨g, 0, none⟩) ∧ wx.cell? ⟨g, 0, none⟩ = some (.int .i64 wk) ∧ wx.cell? ⟨g, 1, none⟩ = some (.int .i64 v) ∧ wx.cell? ⟨g, 2, none⟩ = some (.int .i64 th) ∧ wx.cell? ⟨g, 3, none⟩ = some (.int .i64 (v + 2)) ∧ Below W.heap.size W wx)
  case first =>
    go_region_held3 (fun w' => w'.cell? ⟨w.heap.size, 0, none⟩ = some (.int .i64 0) ∧ w'.cell? ⟨w.heap.size, 1, none⟩ = some (.int .i64 0) ∧ w'.cell? ⟨w.heap.size, 2, none⟩ = some (.slice o n c) ∧ w'.cell? ⟨w.heap.size, 3, none⟩ = some (.slice none 0 0) ∧ w'.cell? ⟨w.heap.size, 4, none⟩ = some (.int .i64 0) ∧ w'.cell? ⟨w.heap.size, 5, none⟩ = some (.int .i64 f) ∧ w'.cell? ⟨w.heap.size, 6, none⟩ = some (.int .i64 0)) (first | exact ⟨keepc c0 (by go_grown), keepc c1' (by go_grown), keepc c2 (by go_grown), keepc c3 (by go_grown), keepc c4 (by go_grown), keepc c5 (by go_grown), keepc c6 (by go_grown)⟩)
      (first | (go_at_call 29; refine (frames_any _ _ o n c _ f _ v _ hv.out).mono ?_; rintro e w' ⟨rfl, rfl⟩) | (go_at_call 30; refine (deque_any _ _ o n c _ f _ v _ hv h0 (by omega)).mono ?_; rintro e w' ⟨rfl, rfl⟩))
    all_goals
      go_wp2_with fail
      go_meet
      refine ⟨_, rfl, ?_, ?_, ?_, ?_, by go_grown⟩ <;> (first | (go_simp; done) | skip)
  case rest =>
    obtain ⟨g, rfl, g0, g1, g2, g3, hbx⟩ := hcut
    have e2 := keepc c2 hbx
    have hBW : w.heap.size + 1 < W.heap.size := by have := HSZ.out; omega
    have hBx : w.heap.size + 1 < wc.heap.size := Nat.lt_of_lt_of_le hBW hbx.size
    have s0 := keepc r0 hbx
    have t0 := keepf f0 hBW hbx
    have s1 := keepc r1 hbx
    have t1 := keepf f1 hBW hbx
    have s2 := keepc r2 hbx
    have t2 := keepf f2 hBW hbx
    have s3 := keepc r3 hbx
    have t3 := keepf f3 hBW hbx
    have s4 := keepc r4 hbx
    have t4 := keepf f4 hBW hbx
    have s5 := keepc r5 hbx
    have t5 := keepf f5 hBW hbx
    have s6 := keepc r6 hbx
    have t6 := keepf f6 hBW hbx
    have hbw2 := hbW.trans (hbx.mono hbW.size)
    clear c0 c1' c2 c3 c4 c5 c6 hbW hbx HSZ hBW r0 f0 r1 f1 r2 f2 r3 f3 r4 f4 r5 f5 r6 f6
    go_wp2_with fail
    refine (check_ok wk v th (v + 2) _ a0 a1 h0 (by omega) c0' c1 (by omega) (by omega)).mono ?_
    rintro e w3 ⟨rfl, hw3⟩
    have hb3 : Below wc.heap.size wc w3 := by rw [← hw3]; go_grown
    clear hw3
    have e2 := keepc e2 hb3
    have q1 := keepc g1 hb3
    have q3 := keepc g3 hb3
    have s0 := keepc s0 hb3
    have t0 := keepf t0 hBx hb3
    have s1 := keepc s1 hb3
    have t1 := keepf t1 hBx hb3
    have s2 := keepc s2 hb3
    have t2 := keepf t2 hBx hb3
    have s3 := keepc s3 hb3
    have t3 := keepf t3 hBx hb3
    have s4 := keepc s4 hb3
    have t4 := keepf t4 hBx hb3
    have s5 := keepc s5 hb3
    have t5 := keepf t5 hBx hb3
    have s6 := keepc s6 hb3
    have t6 := keepf t6 hBx hb3
    have hbw3 := hbw2.trans (hb3.mono hbw2.size)
    clear g0 g1 g2 g3 hb3 hbw2 hBx
    go_wp2_with fail
    clear c0' c1 hn h0 h1 a0 a1
    refine bodyPost_ret (v := .tuple #[.agg #[.int .i64 wk, .int .i64 th, .int .i64 v, .int .i64 (v + 2), .int .i64 n, .bool false, .bool false], .int .i64 0]) ?_ rfl ⟨rfl, ?_⟩
    · simp [results, Try.results33, go_sem, s0, s1, s2, s3, s4, s5, s6]
    · go_grown
end Go.Proofs.Ytpcpohbbmeonbab
