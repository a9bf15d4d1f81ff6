/- InsOnce, the walk (layer 3). -/
import Derived.Test.YtbokjgmndokifaaDoorInW
namespace Go.Proofs.YtbokjgmndokifaaDoor.insOnce
open Go.ChangeShapes Go.WideShapes Go.ChangeAt Go.RowKit
open Go.Proofs.YtbokjgmndokifaaDoor.bin Go.Proofs.YtbokjgmndokifaaDoor.bits Go.Proofs.YtbokjgmndokifaaDoor.ins
set_option linter.unusedVariables false
set_option linter.unusedSimpArgs false
theorem enc_inj (a b c d a' b' c' d' : Int) (h : chkI a b c d = 0) (h' : chkI a' b' c' d' = 0) (he : encI a b c d = encI a' b' c' d') : a = a' ∧ b = b' ∧ c = c' ∧ d = d' := by
  have h1 := get_put a b c d h
  have h2 := get_put a' b' c' d' h'
  rw [he, h2] at h1
  simp at h1
  obtain ⟨e1, e2, e3, e4⟩ := h1
  exact ⟨e1.symm, e2.symm, e3.symm, e4.symm⟩
theorem beq_ext {p q : Bool} (h : p = true ↔ q = true) : p = q := by cases p <;> cases q <;> simp_all
set_option maxRecDepth 20000 in
set_option maxHeartbeats 4000000 in
theorem walk (a0_0 a0_1 a0_2 a0_3 : Int) (a1_0 a1_1 a1_2 a1_3 : Int) (w : World) (w0_0 : (Lit.int .i64 a0_0).wf = true) (w0_1 : (Lit.int .i64 a0_1).wf = true) (w0_2 : (Lit.int .i64 a0_2).wf = true) (w0_3 : (Lit.int .i64 a0_3).wf = true) (w1_0 : (Lit.int .i64 a1_0).wf = true) (w1_1 : (Lit.int .i64 a1_1).wf = true) (w1_2 : (Lit.int .i64 a1_2).wf = true) (w1_3 : (Lit.int .i64 a1_3).wf = true) (hN : NM w) :
    Calls Tryd.prog 6 #[.agg #[.int .i64 a0_0, .int .i64 a0_1, .int .i64 a0_2, .int .i64 a0_3], .agg #[.int .i64 a1_0, .int .i64 a1_1, .int .i64 a1_2, .int .i64 a1_3]] w fun e w' => e = .returned (.bool true) ∧ Below w.heap.size w w' := by
  obtain ⟨c, hc⟩ : ∃ c, chkI a0_0 a0_1 a0_2 a0_3 = c := ⟨_, rfl⟩
  obtain ⟨d, hd⟩ : ∃ d, chkI a1_0 a1_1 a1_2 a1_3 = d := ⟨_, rfl⟩
  have C1 := Lib.hid (fun w => pput_of a0_0 a0_1 a0_2 a0_3 c w hc)
  have C2 := Lib.hid (fun w => pput_of a1_0 a1_1 a1_2 a1_3 d w hd)
  have C3 := Lib.hid (fun w => rchk_of a0_0 a0_1 a0_2 a0_3 c w hc)
  have C4 := Lib.hid (fun w => rchk_of a1_0 a1_1 a1_2 a1_3 d w hd)
  obtain ⟨s, hs⟩ : ∃ s, (if c = 0 then encI a0_0 a0_1 a0_2 a0_3 else []) = s := ⟨_, rfl⟩
  obtain ⟨t, ht⟩ : ∃ t, (if d = 0 then encI a1_0 a1_1 a1_2 a1_3 else []) = t := ⟨_, rfl⟩
  rw [hs] at C1
  rw [ht] at C2
  obtain ⟨q, hq⟩ : ∃ q, (a0_0 == a1_0 && a0_1 == a1_1 && a0_2 == a1_2 && a0_3 == a1_3) = q := ⟨_, rfl⟩
  have HEQ : ∀ w : World, (binOp .eql 30 (.agg #[.int .i64 a0_0, .int .i64 a0_1, .int .i64 a0_2, .int .i64 a0_3]) (.agg #[.int .i64 a1_0, .int .i64 a1_1, .int .i64 a1_2, .int .i64 a1_3])).run Tryd.prog w = .ok (.bool q) w := fun w => ins_eq _ _ _ _ _ _ _ _ q w hq
  have hkey : c = 0 → d = 0 → s.length = 4 ∧ t.length = 4 ∧ (s == t) = q := by
    intro h0 h1
    subst h0
    subst h1
    rw [if_pos rfl] at hs ht
    subst hs
    subst ht
    refine ⟨encI_len _ _ _ _, encI_len _ _ _ _, ?_⟩
    rw [← hq]
    apply beq_ext
    constructor
    · intro h
      obtain ⟨rfl, rfl, rfl, rfl⟩ := enc_inj _ _ _ _ _ _ _ _ hc hd (by simpa using h)
      simp
    · intro h
      simp only [Bool.and_eq_true, beq_iff_eq] at h
      obtain ⟨⟨⟨rfl, rfl⟩, rfl⟩, rfl⟩ := h
      simp
  have HKEY := Lib.hid hkey
  obtain ⟨W0, hW0⟩ : ∃ W0, (w.alloc (.cells #[.int .i64 a0_0, .int .i64 a0_1, .int .i64 a0_2, .int .i64 a0_3] 30)).alloc (.cells #[.int .i64 a1_0, .int .i64 a1_1, .int .i64 a1_2, .int .i64 a1_3] 30) = W0 := ⟨_, rfl⟩
  have hb0 : Below w.heap.size w W0 := by rw [← hW0]; go_grown
  have hx0 : W0.heap[w.heap.size]? = some (.cells #[.int .i64 a0_0, .int .i64 a0_1, .int .i64 a0_2, .int .i64 a0_3] 30 (0, 0)) := by rw [← hW0]; exact kb (heap_new w _ _) (by go_grown)
  have hy0 : W0.heap[w.heap.size + 1]? = some (.cells #[.int .i64 a1_0, .int .i64 a1_1, .int .i64 a1_2, .int .i64 a1_3] 30 (0, 0)) := by
    rw [← hW0]
    have := heap_new (w.alloc (.cells #[.int .i64 a0_0, .int .i64 a0_1, .int .i64 a0_2, .int .i64 a0_3] 30)) #[.int .i64 a1_0, .int .i64 a1_1, .int .i64 a1_2, .int .i64 a1_3] 30
    simpa using this
  have CW := Lib.hid (works03 W0 (hN.below hb0))
  have HX := Lib.hid hx0
  have HY := Lib.hid hy0
  have HB0 := Lib.hid hb0
  have HW0 := Lib.hid hW0
  clear hs ht hc hd hq hkey hb0 hx0 hy0 hW0 hN w0_0 w0_1 w0_2 w0_3 w1_0 w1_1 w1_2 w1_3
  go_enter Tryd.func6, Tryd.ntmps6
  go_wp2_with fail
  rw [HW0.out]
  refine CW.out.mono ?_
  rintro e w1 ⟨rfl, hb1⟩
  have hx1 := kb HX.out hb1
  obtain ⟨p0, p1, p2, p3⟩ := cel4 hx1
  have HX1 := Lib.hid hx1
  have HY1 := Lib.hid (kb HY.out hb1)
  have HB1 := Lib.hid (tr3 HB0.out hb1)
  clear CW hb1 hx1 HX HY HB0 HW0
  go_wp2_with fail
  refine (C1.out _).mono ?_
  rintro e w2 ⟨rfl, hb2⟩
  have hy2 := kb HY1.out hb2
  obtain ⟨q0, q1, q2, q3⟩ := cel4 hy2
  have HX2 := Lib.hid (kb HX1.out hb2)
  have HY2 := Lib.hid hy2
  have HB2 := Lib.hid (tr3 HB1.out hb2)
  clear hb2 hy2 HX1 HY1 HB1 p0 p1 p2 p3
  go_wp2_with fail
  refine (C2.out _).mono ?_
  rintro e w3 ⟨rfl, hb3⟩
  have hx3 := kb HX2.out hb3
  have hy3 := kb HY2.out hb3
  obtain ⟨p0, p1, p2, p3⟩ := cel4 hx3
  obtain ⟨r0, r1, r2, r3⟩ := cel4 hy3
  have HX3 := Lib.hid hx3
  have HY3 := Lib.hid hy3
  have HB3 := Lib.hid (tr3 HB2.out hb3)
  clear hb3 hx3 hy3 HX2 HY2 HB2 q0 q1 q2 q3
  by_cases h0 : c = 0
  · by_cases h1 : d = 0
    · obtain ⟨hs4, ht4, hst⟩ := HKEY.out h0 h1
      subst h0
      subst h1
      have hss := str_size s
      have hts := str_size t
      rw [hs4] at hss
      rw [ht4] at hts
      have hsI : (s.length : Int) = 4 := by omega
      have htI : (t.length : Int) = 4 := by omega
      clear HKEY
      go_wp2_with fail
      go_ret
      exact ⟨by first | rfl | simp, HB3.out⟩
    · have hdb : (d == 0) = false := by simpa using h1
      have hdn : (d != 0) = true := by simpa using h1
      subst h0
      clear HKEY
      go_wp2_with fail
      refine (C3.out _).mono ?_
      rintro e w4 ⟨rfl, hb4⟩
      obtain ⟨q0, q1, q2, q3⟩ := cel4 (kb HY3.out hb4)
      have HB4 := Lib.hid (tr3 HB3.out hb4)
      clear hb4
      go_wp2_with fail
      refine (C4.out _).mono ?_
      rintro e w5 ⟨rfl, hb5⟩
      have HB5 := Lib.hid (tr3 HB4.out hb5)
      clear hb5
      go_wp2_with fail
      go_ret
      exact ⟨by first | rfl | simp, HB5.out⟩
  · have hcb : (c == 0) = false := by simpa using h0
    have hcn : (c != 0) = true := by simpa using h0
    clear HKEY
    go_wp2_with fail
    refine (C3.out _).mono ?_
    rintro e w4 ⟨rfl, hb4⟩
    obtain ⟨q0, q1, q2, q3⟩ := cel4 (kb HY3.out hb4)
    have HB4 := Lib.hid (tr3 HB3.out hb4)
    clear hb4
    go_wp2_with fail
    refine (C4.out _).mono ?_
    rintro e w5 ⟨rfl, hb5⟩
    have HB5 := Lib.hid (tr3 HB4.out hb5)
    clear hb5
    go_wp2_with fail
    go_ret
    exact ⟨by first | rfl | simp, HB5.out⟩
end Go.Proofs.YtbokjgmndokifaaDoor.insOnce
