/- Programs (layer 4): just what the grammar says: the walk of the law. -/
import Derived.Test.YthllikmnlnakkaaPrAH
import Derived.Test.YthllikmnlnakkaaPrM
namespace Go.Proofs.Ythllikmnlnakkaa.progGrammar
open Go.ChangeShapes Go.WideShapes Go.ChangeAt Go.RowKit
open Go.Proofs.Ythllikmnlnakkaa.bin Go.Proofs.Ythllikmnlnakkaa.bits Go.Proofs.Ythllikmnlnakkaa.ins Go.Proofs.Ythllikmnlnakkaa.pr
set_option linter.unusedVariables false
set_option linter.unusedSimpArgs false
theorem bad_stI (F : List I4 → List UInt8 → R3) (hF : ∀ c r, (F c r).1 ≠ 0 → (F c r).2 = (0, [])) : ∀ (j : Nat) (c : List I4) (r : List UInt8), (stI F j c r).1 ≠ 0 → (stI F j c r).2 = (0, []) := by
  intro j
  induction j with
  | zero => intro c r h; exact hF c r h
  | succ j ih =>
    intro c r h
    rw [stI] at h ⊢
    by_cases h0 : getE (r.take 4) ≠ 0
    · rw [if_pos h0]; rfl
    · rw [if_neg h0] at h ⊢
      exact ih _ _ h
theorem bad_stF (m : Int) : ∀ (k : Nat) (acc : List (List I4)) (r : List UInt8), (stF m k acc r).1 ≠ 0 → (stF m k acc r).2 = (0, []) := by
  intro k
  induction k with
  | zero =>
    intro acc r h
    rw [stF] at h ⊢
    by_cases h0 : r ≠ []
    · rw [if_pos h0]; rfl
    · rw [if_neg h0] at h ⊢
      by_cases h1 : prE m acc ≠ 0
      · rw [if_pos h1]; rfl
      · rw [if_neg h1] at h
        exact absurd rfl h
  | succ k ih =>
    intro acc r h
    rw [stF] at h ⊢
    by_cases h0 : r.length < 2
    · rw [if_pos h0]; rfl
    · rw [if_neg h0] at h ⊢
      by_cases h1 : lenE (ofB (r.take 2)) ≠ 0
      · rw [if_pos h1]; rfl
      · rw [if_neg h1] at h ⊢
        exact bad_stI _ (fun c r => ih _ _) _ _ _ h
theorem bad_getP (s : List UInt8) (h : (getP s).1 ≠ 0) : (getP s).2 = (0, []) := by
  unfold getP at h ⊢
  by_cases h6 : s.length < 6
  · rw [if_pos h6]; rfl
  · rw [if_neg h6] at h ⊢
    by_cases h3 : s.take 3 ≠ [72, 82, 1]
    · rw [if_pos h3]; rfl
    · rw [if_neg h3] at h ⊢
      by_cases hc : cntE (gM s) (gN s) ≠ 0
      · rw [if_pos hc]; rfl
      · rw [if_neg hc] at h ⊢
        exact bad_stF _ _ _ _ h
set_option maxRecDepth 20000 in
set_option maxHeartbeats 1600000 in
theorem walk (a0 : ByteArray) (w : World) (w0 : a0.size ≤ maxLen) :
    Calls Try.prog 5 #[.string a0] w fun e w' => e = .returned (.bool true) ∧ Below w.heap.size w w' := by
  obtain ⟨s, hs⟩ : ∃ s : List UInt8, a0 = ⟨s.toArray⟩ := ⟨a0.data.toList, by simp⟩
  subst hs
  have hfs := str_size s
  have CW := Lib.hid works_v
  rw [hfs] at w0
  unfold maxLen at w0
  by_cases hbig : 20000 < s.length
  · have hbi : (20000 : Int) < s.length := by omega
    go_enter Try.func5, Try.ntmps5
    go_wp2_with fail
    refine (CW.out _).mono ?_
    rintro e w1 ⟨rfl, hb1⟩
    go_wp2_with fail
    go_ret
    exact ⟨rfl, hb1⟩
  · have hbi : ¬ (20000 : Int) < s.length := by omega
    obtain ⟨⟨e, m, L⟩, hg⟩ : ∃ x, getP s = x := ⟨_, rfl⟩
    have CG := Lib.hid (fun w => get_v s w (e, m, L) (by omega) hg)
    have hrt := rightB_iff s
    have hbd := bad_getP s
    rw [hg] at hrt hbd
    obtain ⟨R, hR⟩ : ∃ R, rightB s = R := ⟨_, rfl⟩
    have CR := Lib.hid (fun w => right_v s w R (by omega) hR)
    rw [hR] at hrt
    clear hg hR
    by_cases h0 : e = 0
    · subst h0
      obtain rfl : R = true := hrt.2 rfl
      clear hrt hbd
      go_enter Try.func5, Try.ntmps5
      go_wp2_with fail
      refine (CW.out _).mono ?_
      rintro e1 w1 ⟨rfl, hb1⟩
      go_wp2_with fail
      refine (CG.out _).mono ?_
      rintro e2 w2 ⟨⟨v2, rfl, hv2⟩, hb2⟩
      obtain ⟨a2, c2, rfl, _⟩ := hv2.form
      have HB2 := Lib.hid (tr3 hb1 hb2)
      clear hb1 hb2 hv2 CW CG
      go_wp2_with fail
      refine (CR.out _).mono ?_
      rintro e3 w3 ⟨rfl, hb3⟩
      have HB3 := Lib.hid (tr3 HB2.out (Below.trans (by go_grown) (hb3.mono (by go_grown))))
      clear hb3 CR
      go_wp2_with fail
      go_ret
      exact ⟨by first | rfl | simp, tr3 HB3.out (by go_grown)⟩
    · have hcb : (e == 0) = false := by simpa using h0
      have hcn : (e != 0) = true := by simpa using h0
      obtain rfl : R = false := by
        cases R with
        | false => rfl
        | true => exact absurd (hrt.1 rfl) h0
      have hbd' := hbd h0
      simp only [Prod.mk.injEq] at hbd'
      obtain ⟨rfl, rfl⟩ := hbd'
      clear hrt hbd h0
      go_enter Try.func5, Try.ntmps5
      go_wp2_with fail
      refine (CW.out _).mono ?_
      rintro e1 w1 ⟨rfl, hb1⟩
      go_wp2_with fail
      refine (CG.out _).mono ?_
      rintro e2 w2 ⟨⟨v2, rfl, hv2⟩, hb2⟩
      obtain ⟨a2, c2, rfl, _⟩ := hv2.form
      have HB2 := Lib.hid (tr3 hb1 hb2)
      clear hb1 hb2 hv2 CW CG
      have HW2 : ∃ W2, w2.alloc (.cells #[.int .i64 0, .slice a2 0 c2] 24) = W2 := ⟨_, rfl⟩
      obtain ⟨W2, hW2⟩ := HW2
      have h22 : Below w2.heap.size w2 W2 := by rw [← hW2]; go_grown
      have HP2 := Lib.hid (show W2.heap[w2.heap.size]? = some (.cells #[.int .i64 0, .slice a2 0 c2] 24 (0, 0)) by rw [← hW2]; exact heap_new _ _ _)
      have HB22 := Lib.hid (tr3 HB2.out h22)
      have HW2 := Lib.hid hW2
      clear hW2 h22
      go_wp2_with fail
      rw [HW2.out]
      refine (CR.out _).mono ?_
      rintro e3 w3 ⟨rfl, hb3⟩
      have HB3 := Lib.hid (tr3 HB22.out hb3)
      have p0 : w3.cell? ⟨w2.heap.size, 0, none⟩ = some (.int .i64 0) := cel (kb HP2.out hb3) 0
      have p1 : w3.cell? ⟨w2.heap.size, 1, none⟩ = some (.slice a2 0 c2) := cel (kb HP2.out hb3) 1
      clear hb3 CR
      go_wp2_with fail
      go_ret
      exact ⟨by first | rfl | simp, tr3 HB3.out (by go_grown)⟩
end Go.Proofs.Ythllikmnlnakkaa.progGrammar
