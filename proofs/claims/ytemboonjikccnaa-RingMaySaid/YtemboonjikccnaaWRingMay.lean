/- Who waits may go on just if it is a token of this loop and iteration: the law RingMay answers true. No condition. -/
import Derived.Test.YtemboonjikccnaaMay
namespace Go.Proofs.Ytemboonjikccnaa.ringMay
open Go.ChangeShapes Go.WideShapes Go.ChangeAt Go.RowKit
set_option linter.unusedVariables false
set_option linter.unusedSimpArgs false
theorem walk (a0 : Int) (a1 : Int) (a2 : Int) (a3 : Int) (w : World) (w0 : (Lit.int .i64 a0).wf = true) (w1 : (Lit.int .i64 a1).wf = true) (w2 : (Lit.int .i64 a2).wf = true) (w3 : (Lit.int .i64 a3).wf = true) :
    Calls Try.prog 10 #[.int .i64 a0, .int .i64 a1, .int .i64 a2, .int .i64 a3] w fun e w' => e = .returned (.bool true) ∧ Below w.heap.size w w' := by
  obtain ⟨p, hp⟩ : ∃ p, tPart a1 1 = p := ⟨_, rfl⟩
  obtain ⟨p1, hp1⟩ : ∃ p, tPart a1 1099511627776 = p := ⟨_, rfl⟩
  obtain ⟨p2, hp2⟩ : ∃ p, tPart a1 1048576 = p := ⟨_, rfl⟩
  obtain ⟨v, hv⟩ : ∃ v, tOf a0 a2 p = v := ⟨_, rfl⟩
  have HP := Lib.hid hp
  have HP1 := Lib.hid hp1
  have HP2 := Lib.hid hp2
  have HO := Lib.hid hv
  have hno : (a1 < 1099511627776 ∨ 1152921504606846975 < a1 ∨ ¬ a1 = v ∨ ¬ p < a3) → Hid ((tNextB a1 a3 && (a1 == tOf a0 a2 (tPart a1 1))) = false) := by
    intro h
    refine Lib.hid ?_
    rw [hp, hv]
    unfold tNextB
    rw [hp]
    rcases h with h | h | h | h
    · rw [tIs_no (.inl h)]; simp
    · rw [tIs_no (.inr h)]; simp
    · have : (a1 == v) = false := by simpa using h
      rw [this]; simp
    · have : decide (p < a3) = false := by simpa using h
      rw [this]; simp
  clear hp1 hp2
  by_cases h1 : a1 < 1099511627776
  · have hN := hno (.inl h1)
    clear hno hp hv
    go_enter Try.func10, Try.ntmps10
    go_wp2_with (first | (go_at_call 48; refine (works17 _).mono ?_; rintro e w1 ⟨rfl, hb1⟩) | (go_at_call 58; refine (rparts_any _ _).mono ?_; rw [HP1.out, HP2.out, HP.out]; rintro e wp ⟨rfl, hb2⟩; have hb3 := btr hb1 hb2) | (go_at_call 59; refine (rof_any _ _ _ _).mono ?_; rw [HO.out]; rintro e w3 ⟨rfl, hw3⟩; rw [← hw3]; clear hw3))
    obtain ⟨W, hW⟩ : ∃ W, W = wp.alloc (Obj.cells #[Value.int IntKind.i64 p1, Value.int IntKind.i64 p2, Value.int IntKind.i64 p] 101) := ⟨_, rfl⟩
    have x0 : W.cell? ⟨wp.heap.size, 0, none⟩ = some (.int .i64 p1) := by rw [hW]; go_simp
    have x1 : W.cell? ⟨wp.heap.size, 1, none⟩ = some (.int .i64 p2) := by rw [hW]; go_simp
    have x2 : W.cell? ⟨wp.heap.size, 2, none⟩ = some (.int .i64 p) := by rw [hW]; go_simp
    have hbW : Below w.heap.size w W := by rw [hW]; exact btr hb3 (by go_grown)
    rw [← hW]
    clear hW hb1 hb2 hb3
    refine (plan17 _).mono ?_
    rintro e w4 ⟨rfl, hb4⟩
    replace x0 := keepc x0 hb4
    replace x1 := keepc x1 hb4
    replace x2 := keepc x2 hb4
    replace hbW := btr hbW hb4
    clear hb4
    go_wp2_with fail
    refine (new17 1 a0 _).mono ?_
    rintro e w5 ⟨rfl, hb4⟩
    replace x0 := keepc x0 hb4
    replace x1 := keepc x1 hb4
    replace x2 := keepc x2 hb4
    replace hbW := btr hbW hb4
    clear hb4
    go_wp2_with fail
    refine (rmay_no 1 a0 a1 a2 a3 _ hN.out).mono ?_
    rintro e w6 ⟨rfl, hb4⟩
    replace x0 := keepc x0 hb4
    replace x1 := keepc x1 hb4
    replace x2 := keepc x2 hb4
    replace hbW := btr hbW hb4
    clear hb4
    go_wp2_with fail
    go_ret
    refine ⟨?_, hbW⟩
    first | rfl | (simp; omega)
  · by_cases h2 : 1152921504606846975 < a1
    · have hN := hno (.inr (.inl h2))
      clear hno hp hv
      go_enter Try.func10, Try.ntmps10
      go_wp2_with (first | (go_at_call 48; refine (works17 _).mono ?_; rintro e w1 ⟨rfl, hb1⟩) | (go_at_call 58; refine (rparts_any _ _).mono ?_; rw [HP1.out, HP2.out, HP.out]; rintro e wp ⟨rfl, hb2⟩; have hb3 := btr hb1 hb2) | (go_at_call 59; refine (rof_any _ _ _ _).mono ?_; rw [HO.out]; rintro e w3 ⟨rfl, hw3⟩; rw [← hw3]; clear hw3))
      obtain ⟨W, hW⟩ : ∃ W, W = wp.alloc (Obj.cells #[Value.int IntKind.i64 p1, Value.int IntKind.i64 p2, Value.int IntKind.i64 p] 101) := ⟨_, rfl⟩
      have x0 : W.cell? ⟨wp.heap.size, 0, none⟩ = some (.int .i64 p1) := by rw [hW]; go_simp
      have x1 : W.cell? ⟨wp.heap.size, 1, none⟩ = some (.int .i64 p2) := by rw [hW]; go_simp
      have x2 : W.cell? ⟨wp.heap.size, 2, none⟩ = some (.int .i64 p) := by rw [hW]; go_simp
      have hbW : Below w.heap.size w W := by rw [hW]; exact btr hb3 (by go_grown)
      rw [← hW]
      clear hW hb1 hb2 hb3
      refine (plan17 _).mono ?_
      rintro e w4 ⟨rfl, hb4⟩
      replace x0 := keepc x0 hb4
      replace x1 := keepc x1 hb4
      replace x2 := keepc x2 hb4
      replace hbW := btr hbW hb4
      clear hb4
      go_wp2_with fail
      refine (new17 1 a0 _).mono ?_
      rintro e w5 ⟨rfl, hb4⟩
      replace x0 := keepc x0 hb4
      replace x1 := keepc x1 hb4
      replace x2 := keepc x2 hb4
      replace hbW := btr hbW hb4
      clear hb4
      go_wp2_with fail
      refine (rmay_no 1 a0 a1 a2 a3 _ hN.out).mono ?_
      rintro e w6 ⟨rfl, hb4⟩
      replace x0 := keepc x0 hb4
      replace x1 := keepc x1 hb4
      replace x2 := keepc x2 hb4
      replace hbW := btr hbW hb4
      clear hb4
      go_wp2_with fail
      go_ret
      refine ⟨?_, hbW⟩
      first | rfl | (simp; omega)
    · by_cases h3 : a1 = v
      · subst h3
        by_cases h4 : p < a3
        · have hY : Hid (tNextB a1 a3 = true) := by
            refine Lib.hid ?_
            unfold tNextB
            rw [hp, tIs_yes (by omega) (by omega)]
            simpa using h4
          have hE : Hid (a1 = tOf a0 a2 p) := Lib.hid hv.symm
          clear hno hp hv
          go_enter Try.func10, Try.ntmps10
          go_wp2_with (first | (go_at_call 48; refine (works17 _).mono ?_; rintro e w1 ⟨rfl, hb1⟩) | (go_at_call 58; refine (rparts_any _ _).mono ?_; rw [HP1.out, HP2.out, HP.out]; rintro e wp ⟨rfl, hb2⟩; have hb3 := btr hb1 hb2) | (go_at_call 59; refine (rof_any _ _ _ _).mono ?_; rw [HO.out]; rintro e w3 ⟨rfl, hw3⟩; rw [← hw3]; clear hw3))
          obtain ⟨W, hW⟩ : ∃ W, W = wp.alloc (Obj.cells #[Value.int IntKind.i64 p1, Value.int IntKind.i64 p2, Value.int IntKind.i64 p] 101) := ⟨_, rfl⟩
          have x0 : W.cell? ⟨wp.heap.size, 0, none⟩ = some (.int .i64 p1) := by rw [hW]; go_simp
          have x1 : W.cell? ⟨wp.heap.size, 1, none⟩ = some (.int .i64 p2) := by rw [hW]; go_simp
          have x2 : W.cell? ⟨wp.heap.size, 2, none⟩ = some (.int .i64 p) := by rw [hW]; go_simp
          have hbW : Below w.heap.size w W := by rw [hW]; exact btr hb3 (by go_grown)
          rw [← hW]
          clear hW hb1 hb2 hb3
          refine (plan17 _).mono ?_
          rintro e w4 ⟨rfl, hb4⟩
          replace x0 := keepc x0 hb4
          replace x1 := keepc x1 hb4
          replace x2 := keepc x2 hb4
          replace hbW := btr hbW hb4
          clear hb4
          go_wp2_with fail
          refine (new17 1 a0 _).mono ?_
          rintro e w5 ⟨rfl, hb4⟩
          replace x0 := keepc x0 hb4
          replace x1 := keepc x1 hb4
          replace x2 := keepc x2 hb4
          replace hbW := btr hbW hb4
          clear hb4
          go_wp2_with fail
          refine (rmay_yes 1 a0 a1 a2 a3 p _ hY.out hE.out HP.out).mono ?_
          rintro e w6 ⟨rfl, hb4⟩
          replace x0 := keepc x0 hb4
          replace x1 := keepc x1 hb4
          replace x2 := keepc x2 hb4
          replace hbW := btr hbW hb4
          clear hb4
          go_wp2_with fail
          go_ret
          refine ⟨?_, hbW⟩
          first | rfl | (simp; omega)
        · have hN := hno (.inr (.inr (.inr h4)))
          clear hno hp hv
          go_enter Try.func10, Try.ntmps10
          go_wp2_with (first | (go_at_call 48; refine (works17 _).mono ?_; rintro e w1 ⟨rfl, hb1⟩) | (go_at_call 58; refine (rparts_any _ _).mono ?_; rw [HP1.out, HP2.out, HP.out]; rintro e wp ⟨rfl, hb2⟩; have hb3 := btr hb1 hb2) | (go_at_call 59; refine (rof_any _ _ _ _).mono ?_; rw [HO.out]; rintro e w3 ⟨rfl, hw3⟩; rw [← hw3]; clear hw3))
          obtain ⟨W, hW⟩ : ∃ W, W = wp.alloc (Obj.cells #[Value.int IntKind.i64 p1, Value.int IntKind.i64 p2, Value.int IntKind.i64 p] 101) := ⟨_, rfl⟩
          have x0 : W.cell? ⟨wp.heap.size, 0, none⟩ = some (.int .i64 p1) := by rw [hW]; go_simp
          have x1 : W.cell? ⟨wp.heap.size, 1, none⟩ = some (.int .i64 p2) := by rw [hW]; go_simp
          have x2 : W.cell? ⟨wp.heap.size, 2, none⟩ = some (.int .i64 p) := by rw [hW]; go_simp
          have hbW : Below w.heap.size w W := by rw [hW]; exact btr hb3 (by go_grown)
          rw [← hW]
          clear hW hb1 hb2 hb3
          refine (plan17 _).mono ?_
          rintro e w4 ⟨rfl, hb4⟩
          replace x0 := keepc x0 hb4
          replace x1 := keepc x1 hb4
          replace x2 := keepc x2 hb4
          replace hbW := btr hbW hb4
          clear hb4
          go_wp2_with fail
          refine (new17 1 a0 _).mono ?_
          rintro e w5 ⟨rfl, hb4⟩
          replace x0 := keepc x0 hb4
          replace x1 := keepc x1 hb4
          replace x2 := keepc x2 hb4
          replace hbW := btr hbW hb4
          clear hb4
          go_wp2_with fail
          refine (rmay_no 1 a0 a1 a2 a3 _ hN.out).mono ?_
          rintro e w6 ⟨rfl, hb4⟩
          replace x0 := keepc x0 hb4
          replace x1 := keepc x1 hb4
          replace x2 := keepc x2 hb4
          replace hbW := btr hbW hb4
          clear hb4
          go_wp2_with fail
          go_ret
          refine ⟨?_, hbW⟩
          first | rfl | (simp; omega)
      · have hN := hno (.inr (.inr (.inl h3)))
        clear hno hp hv
        go_enter Try.func10, Try.ntmps10
        go_wp2_with (first | (go_at_call 48; refine (works17 _).mono ?_; rintro e w1 ⟨rfl, hb1⟩) | (go_at_call 58; refine (rparts_any _ _).mono ?_; rw [HP1.out, HP2.out, HP.out]; rintro e wp ⟨rfl, hb2⟩; have hb3 := btr hb1 hb2) | (go_at_call 59; refine (rof_any _ _ _ _).mono ?_; rw [HO.out]; rintro e w3 ⟨rfl, hw3⟩; rw [← hw3]; clear hw3))
        obtain ⟨W, hW⟩ : ∃ W, W = wp.alloc (Obj.cells #[Value.int IntKind.i64 p1, Value.int IntKind.i64 p2, Value.int IntKind.i64 p] 101) := ⟨_, rfl⟩
        have x0 : W.cell? ⟨wp.heap.size, 0, none⟩ = some (.int .i64 p1) := by rw [hW]; go_simp
        have x1 : W.cell? ⟨wp.heap.size, 1, none⟩ = some (.int .i64 p2) := by rw [hW]; go_simp
        have x2 : W.cell? ⟨wp.heap.size, 2, none⟩ = some (.int .i64 p) := by rw [hW]; go_simp
        have hbW : Below w.heap.size w W := by rw [hW]; exact btr hb3 (by go_grown)
        rw [← hW]
        clear hW hb1 hb2 hb3
        refine (plan17 _).mono ?_
        rintro e w4 ⟨rfl, hb4⟩
        replace x0 := keepc x0 hb4
        replace x1 := keepc x1 hb4
        replace x2 := keepc x2 hb4
        replace hbW := btr hbW hb4
        clear hb4
        go_wp2_with fail
        refine (new17 1 a0 _).mono ?_
        rintro e w5 ⟨rfl, hb4⟩
        replace x0 := keepc x0 hb4
        replace x1 := keepc x1 hb4
        replace x2 := keepc x2 hb4
        replace hbW := btr hbW hb4
        clear hb4
        go_wp2_with fail
        refine (rmay_no 1 a0 a1 a2 a3 _ hN.out).mono ?_
        rintro e w6 ⟨rfl, hb4⟩
        replace x0 := keepc x0 hb4
        replace x1 := keepc x1 hb4
        replace x2 := keepc x2 hb4
        replace hbW := btr hbW hb4
        clear hb4
        go_wp2_with fail
        go_ret
        refine ⟨?_, hbW⟩
        first | rfl | (simp; omega)
end Go.Proofs.Ytemboonjikccnaa.ringMay
