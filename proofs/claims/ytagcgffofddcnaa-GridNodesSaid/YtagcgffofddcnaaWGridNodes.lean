/- GridNodes: nodes in the plane (layer 33). -/
import Derived.Test.YtagcgffofddcnaaGrN
import Derived.Test.YtagcgffofddcnaaWGridForth
namespace Go.Proofs.Ytagcgffofddcnaa.gridNodes
open Go.ChangeShapes Go.WideShapes Go.ChangeAt Go.RowKit
open Go.Proofs.Ytagcgffofddcnaa.ro
open Go.Proofs.Ytagcgffofddcnaa.gr
open Go.Proofs.Ytagcgffofddcnaa.gridForth (cx_neq cx_guard)
open Go.Proofs.Ytagcgffofddcnaa
set_option linter.unusedVariables false
set_option linter.unusedSimpArgs false
/-- what the law's walk asks of the second coordinate. -/
theorem fy {y q : Nat} (h : FX y q) : ∃ b0 b1 b2, (ordF y 0 == some .gt) = b0 ∧ (ordF y K20 == some .gt) = b1 ∧ (ordF y K20 == some .eq) = b2 ∧
    ((b0 = false ∧ b1 = false ∧ b2 = false ∧ q = 0) ∨ (b0 = true ∧ b1 = false ∧ b2 = false) ∨ (b0 = true ∧ b1 = true ∧ b2 = false ∧ q = 1048576) ∨ (b0 = true ∧ b1 = false ∧ b2 = true ∧ q = 1048576)) := by
  refine ⟨_, _, _, rfl, rfl, rfl, ?_⟩
  cases h with
  | a h1 h2 h3 h4 => rw [h1, h2]; exact .inl ⟨rfl, rfl, rfl, h4⟩
  | b o ho h1 h2 h3 h4 =>
    rw [h1, h2]
    refine .inl ⟨?_, rfl, rfl, h4⟩
    cases o <;> first | rfl | exact absurd rfl ho
  | c o r ho h1 h2 h3 h4 h5 h6 h7 h8 => rw [h1, h2]; exact .inr (.inl ⟨rfl, rfl, rfl⟩)
  | d h1 h2 h3 h4 => rw [h1, h2]; exact .inr (.inr (.inl ⟨rfl, rfl, rfl, h4⟩))
  | e h1 h2 h3 h5 h4 => rw [h1, h2]; exact .inr (.inr (.inr ⟨rfl, rfl, rfl, h4⟩))
theorem hd_up (n : Int) : hd ((hd n : Nat) + 1) = min (hd n + 1) 1048576 := by
  have := hd_le n
  unfold hd at *
  omega
theorem hd_same (n : Int) : min (hd n + 0) 1048576 = hd n := by
  have := hd_le n
  omega
set_option maxRecDepth 20000 in
set_option maxHeartbeats 2000000 in
theorem walk (a0 : Int) (a1 : Int) (a2 : Nat) (a3 : Nat) (w : World) (w0 : (Lit.int .i64 a0).wf = true) (w1 : (Lit.int .i64 a1).wf = true) :
    Calls Try.prog 3 #[.int .i64 a0, .int .i64 a1, .float .f64 a2, .float .f64 a3] w fun e w' => e = .returned (.bool true) ∧ Below w.heap.size w w' := by
  have CW := Lib.hid (works_v w)
  clear w0 w1
  obtain ⟨P, hP⟩ : ∃ P : Ending → World → Prop, (fun (e : Ending) (w' : World) => e = .returned (.bool true) ∧ Below w.heap.size w w') = P := ⟨_, rfl⟩
  have HF : Hid (∀ w', Below w.heap.size w w' → P (.returned (.bool true)) w') := Lib.hid (by rintro w' hb; rw [← hP]; exact ⟨rfl, hb⟩)
  rw [hP]
  clear hP
  have N1 := Lib.hid (fun w9 => node_v w9 a0 a1)
  have N2 := fun w9 => node_v w9 ((hd a1 : Nat) : Int) ((hd a0 : Nat) : Int)
  have e2 : cx ((hd a1 : Nat) : Int) ((hd a0 : Nat) : Int) = cx a1 a0 := by
    have := hd_le a0
    have := hd_le a1
    have a : hd ((hd a1 : Nat) : Int) = hd a1 := by unfold hd; omega
    have b : hd ((hd a0 : Nat) : Int) = hd a0 := by unfold hd; omega
    unfold cx
    rw [a, b]
  rw [e2] at N2
  have L1 := Lib.hid (fun w9 => lheld_v w9 a0)
  have L2 := Lib.hid (fun w9 => lheld_v w9 a1)
  have L3 := fun w9 => lheld_v w9 ((hd a0 : Nat) + 1)
  have L4 := fun w9 => lheld_v w9 ((hd a1 : Nat) + 1)
  rw [hd_up] at L3 L4
  have I1 := fun w9 => iter_v w9 a0 a1
  have S1 := fun w9 => stage_v w9 a0 a1
  have M1 := fun w9 => mirror_v a0 a1 w9
  have M2 := fun w9 => mirror_v a1 a0 w9
  obtain ⟨d1, d2, fd1, fd2, D1⟩ := step_v a0 a1 true
  obtain ⟨f1, f2, ff1, ff2, D2⟩ := step_v a0 a1 false
  simp only [if_true, Bool.false_eq_true, if_false] at fd1 fd2 ff1 ff2
  rw [hd_same] at fd1 ff2
  have T1 := Lib.hid (fun w9 => stage_g fd2 d1 w9)
  have T2 := Lib.hid (fun w9 => iter_g fd1 d2 w9)
  have T3 := Lib.hid (fun w9 => iter_g ff1 f2 w9)
  have T4 := Lib.hid (fun w9 => stage_g ff2 f1 w9)
  have NA := fun w9 => cx_neq a0 a1 a0 a1 w9
  have NB := fun w9 => cx_neq a1 a0 a1 a0 w9
  have GA := fun l r w9 => cx_guard l r a0 a1 a0 a1 w9
  have GB := fun l r w9 => cx_guard l r a1 a0 a1 a0 w9
  simp only [decide_true, Bool.and_self, Bool.not_true] at NA NB
  have hi := hd_le a0
  have hk := hd_le a1
  obtain ⟨U1, hU1⟩ : ∃ x, min (hd a0 + 1) 1048576 = x := ⟨_, rfl⟩
  obtain ⟨U2, hU2⟩ : ∃ x, min (hd a1 + 1) 1048576 = x := ⟨_, rfl⟩
  rw [hU1] at T3 L3
  rw [hU2] at T1 L4
  obtain ⟨X, hX⟩ : ∃ x, cx a0 a1 = x := ⟨_, rfl⟩
  obtain ⟨Y, hY⟩ : ∃ x, cx a1 a0 = x := ⟨_, rfl⟩
  simp only [hX, hY] at N1 N2 I1 S1 M1 M2 D1 D2 NA NB GA GB
  obtain ⟨I, hI⟩ : ∃ x, hd a0 = x := ⟨_, rfl⟩
  obtain ⟨K, hK⟩ : ∃ x, hd a1 = x := ⟨_, rfl⟩
  simp only [hI, hK] at N2 L1 L2 L3 L4 I1 S1 T2 T4 hi hk
  have N2 := Lib.hid N2
  have L3 := Lib.hid L3
  have L4 := Lib.hid L4
  have I1 := Lib.hid I1
  have S1 := Lib.hid S1
  have M1 := Lib.hid M1
  have M2 := Lib.hid M2
  have D1 := Lib.hid D1
  have D2 := Lib.hid D2
  have wI : IntKind.i64.wrap ((I : Int) + 1) = (I : Int) + 1 := by rw [IntKind.wrap_i64]; omega
  have wK : IntKind.i64.wrap ((K : Int) + 1) = (K : Int) + 1 := by rw [IntKind.wrap_i64]; omega
  have nI : ((I : Int) != (I : Int)) = false := by simp
  have nK : ((K : Int) != (K : Int)) = false := by simp
  have nU1 : ((U1 : Int) != (U1 : Int)) = false := by simp
  have nU2 : ((U2 : Int) != (U2 : Int)) = false := by simp
  obtain ⟨p, hp⟩ := fx_all a2
  obtain ⟨q, hq⟩ := fx_all a3
  have P1 := Lib.hid (fun w9 => iter_g hp a3 w9)
  have P2 := Lib.hid (fun w9 => stage_g hq a2 w9)
  have HP := Lib.hid hp
  have HQ := Lib.hid hq
  have pl := fx_le hp
  have ql := fx_le hq
  have p1 : (0 : Int) ≤ (p : Int) := by omega
  have p2 : (p : Int) ≤ 1048576 := by omega
  have q1 : (0 : Int) ≤ (q : Int) := by omega
  have q2 : (q : Int) ≤ 1048576 := by omega
  have hfo : floatOfInt .f64 (p : Int) = fl.enc p := foi p
  clear hp hq hX hY hI hK hU1 hU2 e2 fd1 fd2 ff1 ff2 hi hk
  go_enter Try.func3, Try.ntmps3
  go_wp2_with fail
  refine CW.out.mono ?_
  rintro e wz ⟨rfl, hb1⟩
  have HB1 := Lib.hid hb1
  clear hb1 CW
  go_wp2_with (first | ((with_reducible refine (N1.out _).mono ?_); rintro _ _ ⟨rfl, rfl⟩) | ((with_reducible refine (N2.out _).mono ?_); rintro _ _ ⟨rfl, rfl⟩) | ((with_reducible refine (L1.out _).mono ?_); rintro _ _ ⟨rfl, rfl⟩) | ((with_reducible refine (L2.out _).mono ?_); rintro _ _ ⟨rfl, rfl⟩) | ((with_reducible refine (L3.out _).mono ?_); rintro _ _ ⟨rfl, rfl⟩) | ((with_reducible refine (L4.out _).mono ?_); rintro _ _ ⟨rfl, rfl⟩) | ((with_reducible refine (I1.out _).mono ?_); rintro _ _ ⟨rfl, rfl⟩) | ((with_reducible refine (S1.out _).mono ?_); rintro _ _ ⟨rfl, rfl⟩) | ((with_reducible refine (M1.out _).mono ?_); rintro _ _ ⟨rfl, rfl⟩) | ((with_reducible refine (M2.out _).mono ?_); rintro _ _ ⟨rfl, rfl⟩) | ((with_reducible refine (D1.out _).mono ?_); rintro _ _ ⟨rfl, rfl⟩) | ((with_reducible refine (D2.out _).mono ?_); rintro _ _ ⟨rfl, rfl⟩) | ((with_reducible refine (T1.out _).mono ?_); rintro _ _ ⟨rfl, rfl⟩) | ((with_reducible refine (T2.out _).mono ?_); rintro _ _ ⟨rfl, rfl⟩) | ((with_reducible refine (T3.out _).mono ?_); rintro _ _ ⟨rfl, rfl⟩) | ((with_reducible refine (T4.out _).mono ?_); rintro _ _ ⟨rfl, rfl⟩))
  obtain ⟨b0, b1, b2, hy0, hy1, hy2, hyy⟩ := fy HQ.out
  have HY := Lib.hid hyy
  clear hyy N1 N2 L1 L2 L3 L4 I1 S1 M1 M2 D1 D2 T1 T2 T3 T4 NA NB GA GB wI wK nI nK nU1 nU2
  unfold ordF at hy0 hy1 hy2
  cases HP.out with
  | a h1 h2 h3 h4 =>
    unfold ordF at h1 h2 h3
    subst h4
    rcases HY.out with ⟨rfl, rfl, rfl, rfl⟩ | ⟨rfl, rfl, rfl⟩ | ⟨rfl, rfl, rfl, rfl⟩ | ⟨rfl, rfl, rfl, rfl⟩
    all_goals
      go_wp2_with fail
      refine (P1.out _).mono ?_
      rintro _ _ ⟨rfl, rfl⟩
      go_wp2_with fail
      refine (P2.out _).mono ?_
      rintro _ _ ⟨rfl, rfl⟩
      go_upto_region 10 with (fail)
      simp only [List.append_eq, List.cons_append, List.nil_append, List.append]
      go_wp2_with fail
      first | exact HF.out _ HB1.out | (go_ret; exact HF.out _ HB1.out)
  | b o ho h1 h2 h3 h4 =>
    have h5 : (FloatKind.f64.format.order a2 0 == some .gt) = false := by
      have h9 : ordF a2 0 = some o := h1
      unfold ordF at h9
      rw [h9]
      cases o <;> first | rfl | exact absurd rfl ho
    unfold ordF at h2 h3
    clear h1
    subst h4
    rcases HY.out with ⟨rfl, rfl, rfl, rfl⟩ | ⟨rfl, rfl, rfl⟩ | ⟨rfl, rfl, rfl, rfl⟩ | ⟨rfl, rfl, rfl, rfl⟩
    all_goals
      go_wp2_with fail
      refine (P1.out _).mono ?_
      rintro _ _ ⟨rfl, rfl⟩
      go_wp2_with fail
      refine (P2.out _).mono ?_
      rintro _ _ ⟨rfl, rfl⟩
      go_upto_region 10 with (fail)
      simp only [List.append_eq, List.cons_append, List.nil_append, List.append]
      go_wp2_with fail
      first | exact HF.out _ HB1.out | (go_ret; exact HF.out _ HB1.out)
  | c o r ho h1 h2 h3 h4 h5 h6 h7 h8 =>
    have hsub : ∀ w' : World, Sem.run Try.prog (binOp .sub 22 (.float .f64 a2) (.float .f64 4607182418800017408)) w' = .ok (.float .f64 r) w' := fun w' => run_float_arith (w := w') .sub _ _ _ _ _ h7
    obtain ⟨E, hE⟩ : ∃ E, fl.enc p = E := ⟨_, rfl⟩
    rw [hE] at hfo h6 h8
    have h9 : (FloatKind.f64.format.order E a2 == some .lt || FloatKind.f64.format.order E a2 == some .eq) = true := by
      have h10 : FloatKind.f64.format.order E a2 = some o := h6
      rw [h10]
      cases o <;> first | rfl | exact absurd rfl ho
    unfold ordF at h1 h2 h3 h8
    clear h5 h6 h7 hE h4
    rcases HY.out with ⟨rfl, rfl, rfl, rfl⟩ | ⟨rfl, rfl, rfl⟩ | ⟨rfl, rfl, rfl, rfl⟩ | ⟨rfl, rfl, rfl, rfl⟩
    all_goals
      go_wp2_with fail
      refine (P1.out _).mono ?_
      rintro _ _ ⟨rfl, rfl⟩
      go_wp2_with fail
      refine (P2.out _).mono ?_
      rintro _ _ ⟨rfl, rfl⟩
      go_upto_region 10 with (fail)
      simp only [List.append_eq, List.cons_append, List.nil_append, List.append]
      go_wp2_with fail
      first | exact HF.out _ HB1.out | (go_ret; exact HF.out _ HB1.out)
  | d h1 h2 h3 h4 =>
    unfold ordF at h1 h2 h3
    subst h4
    rcases HY.out with ⟨rfl, rfl, rfl, rfl⟩ | ⟨rfl, rfl, rfl⟩ | ⟨rfl, rfl, rfl, rfl⟩ | ⟨rfl, rfl, rfl, rfl⟩
    all_goals
      go_wp2_with fail
      refine (P1.out _).mono ?_
      rintro _ _ ⟨rfl, rfl⟩
      go_wp2_with fail
      refine (P2.out _).mono ?_
      rintro _ _ ⟨rfl, rfl⟩
      go_upto_region 10 with (fail)
      simp only [List.append_eq, List.cons_append, List.nil_append, List.append]
      go_wp2_with fail
      first | exact HF.out _ HB1.out | (go_ret; exact HF.out _ HB1.out)
  | e h1 h2 h3 h5 h4 =>
    unfold ordF at h1 h2 h3
    subst h4
    clear h5
    rcases HY.out with ⟨rfl, rfl, rfl, rfl⟩ | ⟨rfl, rfl, rfl⟩ | ⟨rfl, rfl, rfl, rfl⟩ | ⟨rfl, rfl, rfl, rfl⟩
    all_goals
      go_wp2_with fail
      refine (P1.out _).mono ?_
      rintro _ _ ⟨rfl, rfl⟩
      go_wp2_with fail
      refine (P2.out _).mono ?_
      rintro _ _ ⟨rfl, rfl⟩
      go_upto_region 10 with (fail)
      simp only [List.append_eq, List.cons_append, List.nil_append, List.append]
      go_wp2_with fail
      first | exact HF.out _ HB1.out | (go_ret; exact HF.out _ HB1.out)
end Go.Proofs.Ytagcgffofddcnaa.gridNodes
