/- works (layer 33). -/
import Derived.Test.YtagcgffofddcnaaGrL
namespace Go.Proofs.Ytagcgffofddcnaa.gr
open Go.ChangeShapes Go.WideShapes Go.ChangeAt Go.RowKit
open Go.Proofs.Ytagcgffofddcnaa.ro
open Go.Proofs.Ytagcgffofddcnaa
set_option linter.unusedVariables false
set_option linter.unusedSimpArgs false
theorem eqc (k a b c d : Nat) (w : World) : (Op.equalIn (k + 1) 24 (.complex .f64 a b) (.complex .f64 c d)).run Try.prog w = .ok ((FloatKind.f64.format.order a c == some .eq) && (FloatKind.f64.format.order b d == some .eq)) w := by
  simp [Op.equalIn, run_underlying Try.underlying24]
  rfl
set_option maxRecDepth 1000000 in
theorem ar_eq (a b c d a' b' c' d' : Nat) (v : Bool) (h : (((FloatKind.f64.format.order a a' == some .eq) && (FloatKind.f64.format.order b b' == some .eq)) && ((FloatKind.f64.format.order c c' == some .eq) && (FloatKind.f64.format.order d d' == some .eq))) = v) (w : World) :
    Sem.run Try.prog (binOp .eql 41 (.agg #[.complex .f64 a b, .complex .f64 c d]) (.agg #[.complex .f64 a' b', .complex .f64 c' d'])) w = .ok (.bool v) w := by
  have hi : ∃ i, Try.prog.info? 24 = some i := ⟨_, rfl⟩
  obtain ⟨i, hi⟩ := hi
  have e : (Op.equalIn 10000 41 (.agg #[.complex .f64 a b, .complex .f64 c d]) (.agg #[.complex .f64 a' b', .complex .f64 c' d'])).run Try.prog w = .ok v w := by
    rw [show (10000 : Nat) = 9999 + 1 from rfl, run_equalIn_array w 9999 _ _ Try.underlying41 hi]
    rw [← h]
    have hc : Try.prog.cellsOf 24 = 1 := by kernel_rfl
    rw [hc]
    cases h1 : (FloatKind.f64.format.order a a' == some .eq) <;> cases h2 : (FloatKind.f64.format.order b b' == some .eq) <;> cases h3 : (FloatKind.f64.format.order c c' == some .eq) <;> cases h4 : (FloatKind.f64.format.order d d' == some .eq) <;> simp [Op.eqItems, List.range, List.range.loop, go_sem, Try.underlying24, eqc, h1, h2, h3, h4]
  simp only [binOp]
  simp [Op.equal, Op.maxDepth, e]
set_option maxRecDepth 1000000 in
set_option maxHeartbeats 8000000 in
theorem works_v (w : World) : Calls Try.prog 8 #[] w fun e w' => e = .returned (.bool true) ∧ Below w.heap.size w w' := by
  have HT := Lib.hid (fun w9 => two_v w9)
  have hA : (∀ w : World, Sem.run Try.prog (binOp .eql 41 (.agg #[.complex .f64 0 4607182418800017408, .complex .f64 4607182418800017408 4607182418800017408]) (.agg #[.complex .f64 0 4607182418800017408, .complex .f64 4607182418800017408 4607182418800017408])) w = .ok (.bool true) w) := (fun w => ar_eq _ _ _ _ _ _ _ _ true (by rw [o0, o1]; rfl) w)
  have hEq : ∀ w : World, Sem.run Try.prog (binOp .eql 24 (.complex .f64 4613937818241073152 4616189618054758400) (.complex .f64 4613937818241073152 4616189618054758400)) w = .ok (.bool true) w := fun w => by rw [run_eql_complex, o3, o4]; rfl
  have HN := Lib.hid (fun w9 => node_v w9 3 4)
  have HI := Lib.hid (fun w9 => iter_v w9 3 4)
  have HS := Lib.hid (fun w9 => stage_v w9 3 4)
  rw [cx34] at HN HI HS
  have e3 : ((hd 3 : Nat) : Int) = 3 := by decide
  have e4 : ((hd 4 : Nat) : Int) = 4 := by decide
  rw [e3] at HI
  rw [e4] at HS
  have HB1 : Hid (∀ (ad : Option Addr) (w9 : World), PM w9 (.slice ad 2 2) LT2 → Calls Try.prog 21 #[.slice ad 2 2, .complex .f64 0 0, .complex .f64 4607182418800017408 4607182418800017408] w9 fun e w' => e = .returned (.bool true) ∧ Below w9.heap.size w9 w') := Lib.hid (fun ad w9 h => by
    have := before_v ad 2 2 LT2 0 0 1 1 w9 h
    rw [cx00, cx11] at this
    refine this.mono ?_
    rintro e w' ⟨v, rfl, hv, hb⟩
    rw [hv.2 bef_tt]
    exact ⟨rfl, hb⟩)
  have HB2 : Hid (∀ (ad : Option Addr) (w9 : World), PM w9 (.slice ad 2 2) LT2 → Calls Try.prog 21 #[.slice ad 2 2, .complex .f64 4607182418800017408 0, .complex .f64 0 4607182418800017408] w9 fun e w' => e = .returned (.bool false) ∧ Below w9.heap.size w9 w') := Lib.hid (fun ad w9 h => by
    have := before_v ad 2 2 LT2 1 0 0 1 w9 h
    rw [cx10, cx01] at this
    refine this.mono ?_
    rintro e w' ⟨v, rfl, hv, hb⟩
    have : v = false := by
      cases v with
      | false => rfl
      | true => exact absurd (hv.1 rfl) bef_tf
    rw [this]
    exact ⟨rfl, hb⟩)
  clear e3 e4
  go_enter Try.func8, Try.ntmps8
  go_wp2_with fail
  refine (HT.out _).mono ?_
  rintro e w1 ⟨ad1, rfl, hp1, hb1⟩
  have HB := Lib.hid hb1
  have HE := Lib.hid (edges_ok ad1 2 2 LT2 w1 hp1 ch_tt)
  clear hp1 hb1
  go_wp2_with fail
  refine HE.out.mono ?_
  rintro e w2 ⟨ad2, m2, c2, rfl, ho2, hb2⟩
  rw [eds_tt] at ho2
  have hrv := OR.rv recE ho2
  have hm2 : m2 = 4 := hrv.len.1
  subst hm2
  obtain ⟨b, o, rfl, hbl, hcc⟩ := hrv.at 3 (0, 1, 1, 1) rfl
  have l0 := hcc 0 _ rfl
  have l1 := hcc 1 _ rfl
  rw [cx01] at l0
  rw [cx11] at l1
  have HB2' := Lib.hid (tr3 HB.out hb2)
  clear ho2 hrv hcc hb2 HE
  go_wp2_with fail
  refine (HT.out _).mono ?_
  rintro e w3 ⟨ad3, rfl, hp3, hb3⟩
  have HB3 := Lib.hid (tr3 HB2'.out hb3)
  have HC1 := Lib.hid (HB1.out ad3 w3 hp3)
  clear hp3 hb3
  go_wp2_with fail
  refine HC1.out.mono ?_
  rintro e w4 ⟨rfl, hb4⟩
  have HB4 := Lib.hid (tr3 HB3.out hb4)
  clear hb4
  go_wp2_with fail
  refine (HT.out _).mono ?_
  rintro e w5 ⟨ad5, rfl, hp5, hb5⟩
  have HB5 := Lib.hid (tr3 HB4.out hb5)
  have HC2 := Lib.hid (HB2.out ad5 w5 hp5)
  clear hp5 hb5
  go_wp2_with fail
  refine HC2.out.mono ?_
  rintro e w6 ⟨rfl, hb6⟩
  have HB6 := Lib.hid (tr3 HB5.out hb6)
  clear hb6
  go_wp2_with fail
  refine (HI.out _).mono ?_
  rintro e w7 ⟨rfl, rfl⟩
  go_wp2_with fail
  refine (HS.out _).mono ?_
  rintro e w8 ⟨rfl, rfl⟩
  go_wp2_with fail
  refine (HN.out _).mono ?_
  rintro e w9 ⟨rfl, rfl⟩
  go_wp2_with fail
  go_ret
  exact ⟨rfl, HB6.out⟩
end Go.Proofs.Ytagcgffofddcnaa.gr
