/- Just as much: the law LayoutGrows answers true. No condition. -/
import Derived.Test.YtfigabjcmpakeaaLay11
import Derived.Deep.DeepCutAuto
namespace Go.Proofs.Ytfigabjcmpakeaa.layoutGrows
open Go.ChangeShapes Go.WideShapes Go.ChangeAt Go.RowKit
set_option linter.unusedVariables false
set_option linter.unusedSimpArgs false
def S12 (w : World) (B Q R : Nat) (a b c d : Int) (w' : World) : Prop := Below w.heap.size w w' ∧ w'.cell? ⟨B, 0, none⟩ = some (.int .i64 (a)) ∧ w'.cell? ⟨B, 1, none⟩ = some (.int .i64 (b)) ∧ w'.cell? ⟨B, 2, none⟩ = some (.int .i64 (c)) ∧ w'.cell? ⟨B, 3, none⟩ = some (.int .i64 (d)) ∧ w'.cell? ⟨Q, 0, none⟩ = some (.int .i64 (a + 1)) ∧ w'.cell? ⟨Q, 1, none⟩ = some (.int .i64 (b)) ∧ w'.cell? ⟨Q, 2, none⟩ = some (.int .i64 (c)) ∧ w'.cell? ⟨Q, 3, none⟩ = some (.int .i64 (d)) ∧ w'.cell? ⟨R, 0, none⟩ = some (.int .i64 (a)) ∧ w'.cell? ⟨R, 1, none⟩ = some (.int .i64 (b + 1)) ∧ w'.cell? ⟨R, 2, none⟩ = some (.int .i64 (c)) ∧ w'.cell? ⟨R, 3, none⟩ = some (.int .i64 (d))
theorem keep12 {w W W' : World} {B Q R : Nat} {a b c d : Int} (h : Below w.heap.size w W ∧ W.cell? ⟨B, 0, none⟩ = some (.int .i64 (a)) ∧ W.cell? ⟨B, 1, none⟩ = some (.int .i64 (b)) ∧ W.cell? ⟨B, 2, none⟩ = some (.int .i64 (c)) ∧ W.cell? ⟨B, 3, none⟩ = some (.int .i64 (d)) ∧ W.cell? ⟨Q, 0, none⟩ = some (.int .i64 (a + 1)) ∧ W.cell? ⟨Q, 1, none⟩ = some (.int .i64 (b)) ∧ W.cell? ⟨Q, 2, none⟩ = some (.int .i64 (c)) ∧ W.cell? ⟨Q, 3, none⟩ = some (.int .i64 (d)) ∧ W.cell? ⟨R, 0, none⟩ = some (.int .i64 (a)) ∧ W.cell? ⟨R, 1, none⟩ = some (.int .i64 (b + 1)) ∧ W.cell? ⟨R, 2, none⟩ = some (.int .i64 (c)) ∧ W.cell? ⟨R, 3, none⟩ = some (.int .i64 (d))) (hb : Below W.heap.size W W') : Below w.heap.size w W' ∧ W'.cell? ⟨B, 0, none⟩ = some (.int .i64 (a)) ∧ W'.cell? ⟨B, 1, none⟩ = some (.int .i64 (b)) ∧ W'.cell? ⟨B, 2, none⟩ = some (.int .i64 (c)) ∧ W'.cell? ⟨B, 3, none⟩ = some (.int .i64 (d)) ∧ W'.cell? ⟨Q, 0, none⟩ = some (.int .i64 (a + 1)) ∧ W'.cell? ⟨Q, 1, none⟩ = some (.int .i64 (b)) ∧ W'.cell? ⟨Q, 2, none⟩ = some (.int .i64 (c)) ∧ W'.cell? ⟨Q, 3, none⟩ = some (.int .i64 (d)) ∧ W'.cell? ⟨R, 0, none⟩ = some (.int .i64 (a)) ∧ W'.cell? ⟨R, 1, none⟩ = some (.int .i64 (b + 1)) ∧ W'.cell? ⟨R, 2, none⟩ = some (.int .i64 (c)) ∧ W'.cell? ⟨R, 3, none⟩ = some (.int .i64 (d)) := by
  obtain ⟨h0, cp0, cp1, cp2, cp3, cq0, cq1, cq2, cq3, cr0, cr1, cr2, cr3⟩ := h
  exact ⟨Below.tr h0 hb, keepc cp0 hb, keepc cp1 hb, keepc cp2 hb, keepc cp3 hb, keepc cq0 hb, keepc cq1 hb, keepc cq2 hb, keepc cq3 hb, keepc cr0 hb, keepc cr1 hb, keepc cr2 hb, keepc cr3 hb⟩
theorem after_sets {w wc : World} {B Q R : Nat} {a b c d : Int} (hb : Below w.heap.size w wc) (oQ : wc.heap[Q]? = some (.cells #[.int .i64 a, .int .i64 b, .int .i64 c, .int .i64 d] 73 (0, 0))) (oR : wc.heap[R]? = some (.cells #[.int .i64 a, .int .i64 b, .int .i64 c, .int .i64 d] 73 (0, 0))) (hQR : Q ≠ R) (hz : w.heap.size ≤ Q ∧ w.heap.size ≤ R ∧ B ≠ Q ∧ B ≠ R) (c0 : wc.cell? ⟨B, 0, none⟩ = some (.int .i64 a)) (c1 : wc.cell? ⟨B, 1, none⟩ = some (.int .i64 b)) (c2 : wc.cell? ⟨B, 2, none⟩ = some (.int .i64 c)) (c3 : wc.cell? ⟨B, 3, none⟩ = some (.int .i64 d)) :
    Below w.heap.size w ((wc.setCell ⟨Q, 0, none⟩ (.int .i64 (a + 1))).setCell ⟨R, 1, none⟩ (.int .i64 (b + 1))) ∧ ((wc.setCell ⟨Q, 0, none⟩ (.int .i64 (a + 1))).setCell ⟨R, 1, none⟩ (.int .i64 (b + 1))).cell? ⟨B, 0, none⟩ = some (.int .i64 (a)) ∧ ((wc.setCell ⟨Q, 0, none⟩ (.int .i64 (a + 1))).setCell ⟨R, 1, none⟩ (.int .i64 (b + 1))).cell? ⟨B, 1, none⟩ = some (.int .i64 (b)) ∧ ((wc.setCell ⟨Q, 0, none⟩ (.int .i64 (a + 1))).setCell ⟨R, 1, none⟩ (.int .i64 (b + 1))).cell? ⟨B, 2, none⟩ = some (.int .i64 (c)) ∧ ((wc.setCell ⟨Q, 0, none⟩ (.int .i64 (a + 1))).setCell ⟨R, 1, none⟩ (.int .i64 (b + 1))).cell? ⟨B, 3, none⟩ = some (.int .i64 (d)) ∧ ((wc.setCell ⟨Q, 0, none⟩ (.int .i64 (a + 1))).setCell ⟨R, 1, none⟩ (.int .i64 (b + 1))).cell? ⟨Q, 0, none⟩ = some (.int .i64 (a + 1)) ∧ ((wc.setCell ⟨Q, 0, none⟩ (.int .i64 (a + 1))).setCell ⟨R, 1, none⟩ (.int .i64 (b + 1))).cell? ⟨Q, 1, none⟩ = some (.int .i64 (b)) ∧ ((wc.setCell ⟨Q, 0, none⟩ (.int .i64 (a + 1))).setCell ⟨R, 1, none⟩ (.int .i64 (b + 1))).cell? ⟨Q, 2, none⟩ = some (.int .i64 (c)) ∧ ((wc.setCell ⟨Q, 0, none⟩ (.int .i64 (a + 1))).setCell ⟨R, 1, none⟩ (.int .i64 (b + 1))).cell? ⟨Q, 3, none⟩ = some (.int .i64 (d)) ∧ ((wc.setCell ⟨Q, 0, none⟩ (.int .i64 (a + 1))).setCell ⟨R, 1, none⟩ (.int .i64 (b + 1))).cell? ⟨R, 0, none⟩ = some (.int .i64 (a)) ∧ ((wc.setCell ⟨Q, 0, none⟩ (.int .i64 (a + 1))).setCell ⟨R, 1, none⟩ (.int .i64 (b + 1))).cell? ⟨R, 1, none⟩ = some (.int .i64 (b + 1)) ∧ ((wc.setCell ⟨Q, 0, none⟩ (.int .i64 (a + 1))).setCell ⟨R, 1, none⟩ (.int .i64 (b + 1))).cell? ⟨R, 2, none⟩ = some (.int .i64 (c)) ∧ ((wc.setCell ⟨Q, 0, none⟩ (.int .i64 (a + 1))).setCell ⟨R, 1, none⟩ (.int .i64 (b + 1))).cell? ⟨R, 3, none⟩ = some (.int .i64 (d)) := by
  obtain ⟨z1, z2, z3, z4⟩ := hz
  have hRQ : R ≠ Q := fun e => hQR e.symm
  have hQB : Q ≠ B := fun e => z3 e.symm
  have hRB : R ≠ B := fun e => z4 e.symm
  have q0 : wc.cell? ⟨Q, 0, none⟩ = some (.int .i64 a) := by simp [World.cell?, oQ]
  have q1 : wc.cell? ⟨Q, 1, none⟩ = some (.int .i64 b) := by simp [World.cell?, oQ]
  have q2 : wc.cell? ⟨Q, 2, none⟩ = some (.int .i64 c) := by simp [World.cell?, oQ]
  have q3 : wc.cell? ⟨Q, 3, none⟩ = some (.int .i64 d) := by simp [World.cell?, oQ]
  have r0 : wc.cell? ⟨R, 0, none⟩ = some (.int .i64 a) := by simp [World.cell?, oR]
  have r1 : wc.cell? ⟨R, 1, none⟩ = some (.int .i64 b) := by simp [World.cell?, oR]
  have r2 : wc.cell? ⟨R, 2, none⟩ = some (.int .i64 c) := by simp [World.cell?, oR]
  have r3 : wc.cell? ⟨R, 3, none⟩ = some (.int .i64 d) := by simp [World.cell?, oR]
  refine ⟨(hb.setCell z1 _).setCell z2 _, ?_, ?_, ?_, ?_, ?_, ?_, ?_, ?_, ?_, ?_, ?_, ?_⟩ <;> go_simp
theorem heap2 (W : World) (o1 o2 : Obj) : ((W.alloc o1).alloc o2).drew.heap[W.heap.size]? = some o1 ∧ ((W.alloc o1).alloc o2).drew.heap[W.heap.size + 1]? = some o2 := by
  constructor
  · show ((W.heap.push o1).push o2)[W.heap.size]? = _
    rw [Array.getElem?_push, if_neg (by simp), Array.getElem?_push_size]
  · show ((W.heap.push o1).push o2)[W.heap.size + 1]? = _
    rw [show W.heap.size + 1 = (W.heap.push o1).size from by simp, Array.getElem?_push_size]

set_option maxHeartbeats 4000000 in
set_option maxRecDepth 20000 in
theorem walk (a0 : Int) (a1 : Int) (a2 : Int) (a3 : Int) (w : World) (w0 : (Lit.int .u8 a0).wf = true) (w1 : (Lit.int .u8 a1).wf = true) (w2 : (Lit.int .u8 a2).wf = true) (w3 : (Lit.int .u8 a3).wf = true) :
    Calls Try.prog 14 #[.int .u8 a0, .int .u8 a1, .int .u8 a2, .int .u8 a3] w fun e w' => e = .returned (.bool true) ∧ Below w.heap.size w w' := by
  have h0 := bounds_u8 w0
  have h1 := bounds_u8 w1
  have h2 := bounds_u8 w2
  have h3 := bounds_u8 w3
  have e0 : a0.tmod 63 = a0 % 63 := Int.tmod_eq_emod_of_nonneg h0.1
  have e1 : a1.tmod 255 = a1 % 255 := Int.tmod_eq_emod_of_nonneg h1.1
  have e2 : a2.tmod 64 = a2 % 64 := Int.tmod_eq_emod_of_nonneg h2.1
  have e3 : a3.tmod 255 = a3 % 255 := Int.tmod_eq_emod_of_nonneg h3.1
  go_enter Try.func14, Try.ntmps14
  go_wp2_with (first | (go_at_call 43; refine (works11 _).mono ?_; rintro e w1 ⟨rfl, hb1⟩))
  have hOO : (1 ≤ a0 % 63 + 1 ∧ a0 % 63 + 1 ≤ 63) ∧ (1 ≤ a1 % 255 + 1 ∧ a1 % 255 + 1 ≤ 255) ∧ (1 ≤ a2 % 64 + 1 ∧ a2 % 64 + 1 ≤ 64) ∧ (2 ≤ a3 % 255 + 2 ∧ a3 % 255 + 2 ≤ 256) := by omega
  generalize a0 % 63 + 1 = a at *
  generalize a1 % 255 + 1 = b at *
  generalize a2 % 64 + 1 = c at *
  generalize a3 % 255 + 2 = d at *
  clear e0 e1 e2 e3 h0 h1 h2 h3 w0 w2 w3
  obtain ⟨⟨p0, p1⟩, ⟨p2, p3⟩, ⟨p4, p5⟩, p6, p7⟩ := hOO
  obtain ⟨W, hW⟩ : ∃ W, W = w1.alloc (Obj.cells #[Value.int IntKind.i64 a, Value.int IntKind.i64 b, Value.int IntKind.i64 c, Value.int IntKind.i64 d] 73) := ⟨_, rfl⟩
  have c0 : W.cell? ⟨w1.heap.size, 0, none⟩ = some (.int .i64 a) := by rw [hW]; go_simp
  have c1 : W.cell? ⟨w1.heap.size, 1, none⟩ = some (.int .i64 b) := by rw [hW]; go_simp
  have c2 : W.cell? ⟨w1.heap.size, 2, none⟩ = some (.int .i64 c) := by rw [hW]; go_simp
  have c3 : W.cell? ⟨w1.heap.size, 3, none⟩ = some (.int .i64 d) := by rw [hW]; go_simp
  have hbW : Below w.heap.size w W := by rw [hW]; exact Below.tr hb1 (by go_grown)
  have hBW : w1.heap.size < W.heap.size := by rw [hW]; simp
  rw [← hW]
  clear hW hb1
  generalize w1.heap.size = B at *
  go_cut [10, 11] (fun x y wx => ∃ Q R, x = .pointer (some ⟨Q, 0, none⟩) ∧ y = .pointer (some ⟨R, 0, none⟩) ∧ Q ≠ R ∧ W.heap.size ≤ Q ∧ W.heap.size ≤ R ∧ Below W.heap.size W wx ∧ wx.heap[Q]? = some (.cells #[.int .i64 a, .int .i64 b, .int .i64 c, .int .i64 d] 73 (0, 0)) ∧ wx.heap[R]? = some (.cells #[.int .i64 a, .int .i64 b, .int .i64 c, .int .i64 d] 73 (0, 0)))
  case first =>
    go_region_held3 (fun w' => w'.cell? ⟨B, 0, none⟩ = some (.int .i64 a) ∧ w'.cell? ⟨B, 1, none⟩ = some (.int .i64 b) ∧ w'.cell? ⟨B, 2, none⟩ = some (.int .i64 c) ∧ w'.cell? ⟨B, 3, none⟩ = some (.int .i64 d)) (go_keep) (fail)
    all_goals
      go_wp2_with fail
      go_meet
      first
        | exact ⟨_, _, rfl, rfl, by omega, by omega, by omega, by go_grown, (heap2 _ _ _).1, (heap2 _ _ _).2⟩
        | exact ⟨_, _, rfl, rfl, by omega, by omega, by omega, by go_grown, (heap2 _ _ _).2, (heap2 _ _ _).1⟩
  case rest =>
    obtain ⟨Q, R, rfl, rfl, hQR, hQ, hR', hbx, oQ, oR⟩ := hcut
    replace c0 := keepc c0 hbx
    replace c1 := keepc c1 hbx
    replace c2 := keepc c2 hbx
    replace c3 := keepc c3 hbx
    have hbw := Below.tr hbW hbx
    have hws := hbW.size
    have q0 : wc.cell? ⟨Q, 0, none⟩ = some (.int .i64 a) := by simp [World.cell?, oQ]
    have r1 : wc.cell? ⟨R, 1, none⟩ = some (.int .i64 b) := by simp [World.cell?, oR]
    have fq : wc.frozen? ⟨Q, 0, none⟩ = false := by simp [World.frozen?, oQ]
    have fr : wc.frozen? ⟨R, 1, none⟩ = false := by simp [World.frozen?, oR]
    have hRQ : R ≠ Q := fun e => hQR e.symm
    have HB := Lib.hid (And.intro oQ oR)
    have hBQ : B ≠ Q := by omega
    have hBR : B ≠ R := by omega
    have hQB : Q ≠ B := by omega
    have hRB : R ≠ B := by omega
    have HN := Lib.hid hQR
    have HZ := Lib.hid (show w.heap.size ≤ Q ∧ w.heap.size ≤ R ∧ B ≠ Q ∧ B ≠ R by omega)
    clear hbx oQ oR hQ hR' hws hbW hBW
    have u1 : wrap64 (a + 1) = a + 1 := by unfold wrap64; omega
    have u2 : wrap64 (b + 1) = b + 1 := by unfold wrap64; omega
    go_wp2_with fail
    obtain ⟨W4, hW4⟩ : ∃ W4, W4 = (wc.setCell ⟨Q, 0, none⟩ (.int .i64 (a + 1))).setCell ⟨R, 1, none⟩ (.int .i64 (b + 1)) := ⟨_, rfl⟩
    rw [← hW4]
    have hcells : Below w.heap.size w W4 ∧ W4.cell? ⟨B, 0, none⟩ = some (.int .i64 (a)) ∧ W4.cell? ⟨B, 1, none⟩ = some (.int .i64 (b)) ∧ W4.cell? ⟨B, 2, none⟩ = some (.int .i64 (c)) ∧ W4.cell? ⟨B, 3, none⟩ = some (.int .i64 (d)) ∧ W4.cell? ⟨Q, 0, none⟩ = some (.int .i64 (a + 1)) ∧ W4.cell? ⟨Q, 1, none⟩ = some (.int .i64 (b)) ∧ W4.cell? ⟨Q, 2, none⟩ = some (.int .i64 (c)) ∧ W4.cell? ⟨Q, 3, none⟩ = some (.int .i64 (d)) ∧ W4.cell? ⟨R, 0, none⟩ = some (.int .i64 (a)) ∧ W4.cell? ⟨R, 1, none⟩ = some (.int .i64 (b + 1)) ∧ W4.cell? ⟨R, 2, none⟩ = some (.int .i64 (c)) ∧ W4.cell? ⟨R, 3, none⟩ = some (.int .i64 (d)) := by
      subst hW4
      exact after_sets hbw HB.out.1 HB.out.2 HN.out HZ.out c0 c1 c2 c3
    clear hW4 c0 c1 c2 c3 q0 r1 fq fr hRQ HB HN HZ hbw u1 u2 hQR hBQ hBR hQB hRB
    obtain ⟨hb, cp0, cp1, cp2, cp3, cq0, cq1, cq2, cq3, cr0, cr1, cr2, cr3⟩ := hcells
    have hO : Hid (Okay a b c d) := Lib.hid ⟨p0, by omega, p2, by omega, p4, p5, p6, p7⟩
    have hOq : Hid (Okay (a + 1) b c d) := Lib.hid ⟨by omega, by omega, p2, by omega, p4, p5, p6, p7⟩
    have hOr : Hid (Okay a (b + 1) c d) := Lib.hid ⟨p0, by omega, by omega, by omega, p4, p5, p6, p7⟩
    refine (check_ok a b c d _ hO).mono ?_
    rintro e wz ⟨rfl, hbz⟩
    obtain ⟨hb, cp0, cp1, cp2, cp3, cq0, cq1, cq2, cq3, cr0, cr1, cr2, cr3⟩ := keep12 ⟨hb, cp0, cp1, cp2, cp3, cq0, cq1, cq2, cq3, cr0, cr1, cr2, cr3⟩ hbz
    clear hbz
    go_wp2_with fail
    refine (check_ok (a + 1) b c d _ hOq).mono ?_
    rintro e wz ⟨rfl, hbz⟩
    obtain ⟨hb, cp0, cp1, cp2, cp3, cq0, cq1, cq2, cq3, cr0, cr1, cr2, cr3⟩ := keep12 ⟨hb, cp0, cp1, cp2, cp3, cq0, cq1, cq2, cq3, cr0, cr1, cr2, cr3⟩ hbz
    clear hbz
    go_wp2_with fail
    refine (check_ok a (b + 1) c d _ hOr).mono ?_
    rintro e wz ⟨rfl, hbz⟩
    obtain ⟨hb, cp0, cp1, cp2, cp3, cq0, cq1, cq2, cq3, cr0, cr1, cr2, cr3⟩ := keep12 ⟨hb, cp0, cp1, cp2, cp3, cq0, cq1, cq2, cq3, cr0, cr1, cr2, cr3⟩ hbz
    clear hbz
    obtain ⟨D, hD'⟩ : ∃ D, a * (4 + d) = D := ⟨_, rfl⟩
    obtain ⟨rm, hrm'⟩ : ∃ rm, 2 + (c + 1) * 4 = rm := ⟨_, rfl⟩
    obtain ⟨RR, hR'⟩ : ∃ RR, b * rm = RR := ⟨_, rfl⟩
    have hDq' : (a + 1) * (4 + d) = D + (4 + d) := by rw [Int.add_mul, hD']; omega
    have hRr' : (b + 1) * rm = RR + rm := by rw [Int.add_mul, hR']; omega
    have hFb' : (b - 1) * rm = RR - rm := by rw [Int.sub_mul, hR']; omega
    have bd1 := mul_in (a := a) (d := 4 + d) (by omega) (by omega) (by omega) (by omega)
    have bd2 := mul_in2 (a := b) (d := rm) (by omega) (by omega) (by omega) (by omega)
    have bd3 := mul_in2 (a := b - 1) (d := rm) (by omega) (by omega) (by omega) (by omega)
    rw [hD'] at bd1
    rw [hR'] at bd2
    rw [hFb'] at bd3
    have hD : Hid (a * (4 + d) = D) := Lib.hid hD'
    have hDq : Hid ((a + 1) * (4 + d) = D + (4 + d)) := Lib.hid hDq'
    have hrm : Hid (2 + (c + 1) * 4 = rm) := Lib.hid hrm'
    have hR : Hid (b * (2 + (c + 1) * 4) = RR) := Lib.hid (by rw [hrm', hR'])
    have hRr : Hid ((b + 1) * (2 + (c + 1) * 4) = RR + rm) := Lib.hid (by rw [hrm', hRr'])
    have hF1 : Hid (a * (4 + d) + (1 - 1) * (2 + (c + 1) * 4) = D) := Lib.hid (by rw [hD']; omega)
    have hF1q : Hid ((a + 1) * (4 + d) + (1 - 1) * (2 + (c + 1) * 4) = D + (4 + d)) := Lib.hid (by rw [hDq']; omega)
    have hFbr : Hid (a * (4 + d) + (b + 1 - 1) * (2 + (c + 1) * 4) = D + RR) := Lib.hid (by rw [hD', hrm', Int.add_sub_cancel, hR'])
    have hFb : Hid (a * (4 + d) + (b - 1) * (2 + (c + 1) * 4) = D + (RR - rm)) := Lib.hid (by rw [hD', hrm', hFb'])
    have hB0 : Hid ((0 : Int) * (4 + d) = 0) := Lib.hid (by omega)
    have t1 : IntKind.i64.wrap (D + (4 + d) + RR - (D + RR)) = 4 + d := by rw [IntKind.wrap_i64]; omega
    have t2 : IntKind.i64.wrap (4 + d) = 4 + d := by rw [IntKind.wrap_i64]; omega
    have t3 : IntKind.i64.wrap (D + (RR + rm) - (D + RR)) = rm := by rw [IntKind.wrap_i64]; omega
    have t4 : IntKind.i64.wrap (D + (4 + d) - D) = 4 + d := by rw [IntKind.wrap_i64]; omega
    have t5 : IntKind.i64.wrap (D + RR - D) = RR := by rw [IntKind.wrap_i64]; omega
    have t6 : IntKind.i64.wrap (b * rm) = RR := by rw [hR', IntKind.wrap_i64]; omega
    have t7 : IntKind.i64.wrap (D + (RR - rm) + rm) = D + RR := by rw [IntKind.wrap_i64]; omega
    have T := Lib.hid (And.intro hR' (And.intro bd1 (And.intro bd2 bd3)))
    clear hD' hrm' hR' hDq' hRr' hFb' bd1 bd2 bd3
    go_wp2_with fail
    go_region_held3 (fun w' => Below w.heap.size w w' ∧ w'.cell? ⟨B, 0, none⟩ = some (.int .i64 (a)) ∧ w'.cell? ⟨B, 1, none⟩ = some (.int .i64 (b)) ∧ w'.cell? ⟨B, 2, none⟩ = some (.int .i64 (c)) ∧ w'.cell? ⟨B, 3, none⟩ = some (.int .i64 (d)) ∧ w'.cell? ⟨Q, 0, none⟩ = some (.int .i64 (a + 1)) ∧ w'.cell? ⟨Q, 1, none⟩ = some (.int .i64 (b)) ∧ w'.cell? ⟨Q, 2, none⟩ = some (.int .i64 (c)) ∧ w'.cell? ⟨Q, 3, none⟩ = some (.int .i64 (d)) ∧ w'.cell? ⟨R, 0, none⟩ = some (.int .i64 (a)) ∧ w'.cell? ⟨R, 1, none⟩ = some (.int .i64 (b + 1)) ∧ w'.cell? ⟨R, 2, none⟩ = some (.int .i64 (c)) ∧ w'.cell? ⟨R, 3, none⟩ = some (.int .i64 (d)))
    (first | assumption | (refine ⟨Below.tr hb ?_, cp0, cp1, cp2, cp3, cq0, cq1, cq2, cq3, cr0, cr1, cr2, cr3⟩; go_grown; done) | (refine keep12 ⟨hb, cp0, cp1, cp2, cp3, cq0, cq1, cq2, cq3, cr0, cr1, cr2, cr3⟩ ?_; go_grown; done) | (refine keep12 (by assumption) ?_; first | assumption | (go_grown; done)))
    (first 
      | (go_at_call 46; refine (size_of _ _ _ _ _ _ _ (by assumption) (by assumption) (by assumption)).mono ?_; rintro e wz ⟨rfl, hbz⟩)
      | (go_at_call 47; refine (room_of _ _ _ _ _ _ (by assumption) (by assumption)).mono ?_; rintro e wz ⟨rfl, hbz⟩)
      | (go_at_call 50; refine (frame_of _ _ _ _ _ _ _ (by assumption) (by omega) (by omega) (by assumption)).mono ?_; rintro e wz ⟨rfl, hbz⟩)
      | (go_at_call 48; refine (base_of _ _ _ _ _ _ _ (by assumption) (by omega) (by omega) (by assumption)).mono ?_; rintro e wz ⟨rfl, hbz⟩))
    all_goals
      clear hb cp0 cp1 cp2 cp3 cq0 cq1 cq2 cq3 cr0 cr1 cr2 cr3
      obtain ⟨hb, cp0, cp1, cp2, cp3, cq0, cq1, cq2, cq3, cr0, cr1, cr2, cr3⟩ : Below w.heap.size w _ ∧ _ := by assumption
      go_wp2_with fail
      go_region_held3 (fun w' => Below w.heap.size w w' ∧ w'.cell? ⟨B, 0, none⟩ = some (.int .i64 (a)) ∧ w'.cell? ⟨B, 1, none⟩ = some (.int .i64 (b)) ∧ w'.cell? ⟨B, 2, none⟩ = some (.int .i64 (c)) ∧ w'.cell? ⟨B, 3, none⟩ = some (.int .i64 (d)) ∧ w'.cell? ⟨Q, 0, none⟩ = some (.int .i64 (a + 1)) ∧ w'.cell? ⟨Q, 1, none⟩ = some (.int .i64 (b)) ∧ w'.cell? ⟨Q, 2, none⟩ = some (.int .i64 (c)) ∧ w'.cell? ⟨Q, 3, none⟩ = some (.int .i64 (d)) ∧ w'.cell? ⟨R, 0, none⟩ = some (.int .i64 (a)) ∧ w'.cell? ⟨R, 1, none⟩ = some (.int .i64 (b + 1)) ∧ w'.cell? ⟨R, 2, none⟩ = some (.int .i64 (c)) ∧ w'.cell? ⟨R, 3, none⟩ = some (.int .i64 (d)))
      (first | assumption | (refine ⟨Below.tr hb ?_, cp0, cp1, cp2, cp3, cq0, cq1, cq2, cq3, cr0, cr1, cr2, cr3⟩; go_grown; done) | (refine keep12 ⟨hb, cp0, cp1, cp2, cp3, cq0, cq1, cq2, cq3, cr0, cr1, cr2, cr3⟩ ?_; go_grown; done) | (refine keep12 (by assumption) ?_; first | assumption | (go_grown; done)))
      (first 
        | (go_at_call 46; refine (size_of _ _ _ _ _ _ _ (by assumption) (by assumption) (by assumption)).mono ?_; rintro e wz ⟨rfl, hbz⟩)
        | (go_at_call 47; refine (room_of _ _ _ _ _ _ (by assumption) (by assumption)).mono ?_; rintro e wz ⟨rfl, hbz⟩)
        | (go_at_call 50; refine (frame_of _ _ _ _ _ _ _ (by assumption) (by omega) (by omega) (by assumption)).mono ?_; rintro e wz ⟨rfl, hbz⟩)
        | (go_at_call 48; refine (base_of _ _ _ _ _ _ _ (by assumption) (by omega) (by omega) (by assumption)).mono ?_; rintro e wz ⟨rfl, hbz⟩))
      all_goals
        clear hb cp0 cp1 cp2 cp3 cq0 cq1 cq2 cq3 cr0 cr1 cr2 cr3
        obtain ⟨hb, cp0, cp1, cp2, cp3, cq0, cq1, cq2, cq3, cr0, cr1, cr2, cr3⟩ : Below w.heap.size w _ ∧ _ := by assumption
        go_wp2_with fail
        go_ret
        exact ⟨by simp [*], hb⟩
end Go.Proofs.Ytfigabjcmpakeaa.layoutGrows
