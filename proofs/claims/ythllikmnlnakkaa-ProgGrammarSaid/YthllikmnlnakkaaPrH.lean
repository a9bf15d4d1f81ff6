/- The program that bytes are: behind the label 'end' (layer 4). -/
import Derived.Test.YthllikmnlnakkaaPrG
namespace Go.Proofs.Ythllikmnlnakkaa.pr
open Go.ChangeShapes Go.WideShapes Go.ChangeAt Go.RowKit
open Go.Proofs.Ythllikmnlnakkaa.bin Go.Proofs.Ythllikmnlnakkaa.bits Go.Proofs.Ythllikmnlnakkaa.ins
set_option linter.unusedVariables false
set_option linter.unusedSimpArgs false
theorem str_nil_ne {r : List UInt8} (h : r ≠ []) : (⟨r.toArray⟩ : ByteArray) ≠ ⟨#[]⟩ := fun e => h (by
  have := congrArg (fun b => b.data.toList) e
  simpa using this)
set_option maxRecDepth 20000 in
set_option maxHeartbeats 4000000 in
theorem H1 (w0 : World) (res : R3) (a : Act) (w : World) (h : J1 w0 res a w) : (R13 1).wp Try.prog (QG w0 res (KG w0 res 1)) a w := by
  obtain ⟨hf, m, v, rows, acc, r, hg, h9, hst, hal⟩ := h
  obtain ⟨t, rfl⟩ := hf.lit
  rw [show t 9 = _ from h9]
  clear hf h9
  by_cases h0 : r = []
  · subst h0
    rw [stF, if_neg (by simp)] at hst
    obtain ⟨av, nv, cv, rfl⟩ : ∃ a n c, v = .slice a n c := by
      obtain ⟨a, c, hv, _⟩ := hg.own.pm.form
      exact ⟨a, _, c, hv⟩
    obtain ⟨e, he⟩ : ∃ e, prE m acc = e := ⟨_, rfl⟩
    rw [he] at hst
    have CK := Lib.hid (check_v m av nv cv acc e w hg.own.pm he)
    obtain ⟨c0, c1, f0, f1⟩ := cel2 hg.r1
    have HGH := Lib.hid hg
    clear hg he
    conv => arg 2; whnf
    by_cases h1 : e = 0
    · subst h1
      rw [if_neg (by simp)] at hst
      subst hst
      go_wp2_with fail
      refine CK.out.mono ?_
      rintro e w1 ⟨rfl, hb1⟩
      have hg1 := HGH.out.below hb1
      clear c0 c1 f0 f1 hb1
      obtain ⟨c0, c1, f0, f1⟩ := cel2 hg1.r1
      obtain ⟨d0, d1, g0, g1⟩ := cel2 hg1.r0
      have HG1 := Lib.hid hg1
      clear hg1
      go_wp2_with fail
      have hB : Below w0.heap.size w0 (st2 w1 w0.heap.size (.int .i64 m) (.slice av nv cv)) := st2_below HG1.out.bel (Nat.le_refl _) _ _
      have hP : PM (st2 w1 w0.heap.size (.int .i64 m) (.slice av nv cv)) (.slice av nv cv) acc := OP.pm (HG1.out.own.keep fun k hk => st2_oth _ _ _ _ _ (by omega))
      exact bodyPost_ret (res_pg Try.results13 rfl rfl (st2_blk (a' := .int .i64 m) (b' := .slice av nv cv) HG1.out.r0)) rfl ⟨⟨_, rfl, hP⟩, hB⟩
    · have h1b : (e == 0) = false := by simpa using h1
      have h1n : (e != 0) = true := by simpa using h1
      rw [if_pos h1] at hst
      subst hst
      go_wp2_with fail
      refine CK.out.mono ?_
      rintro e w1 ⟨rfl, hb1⟩
      have hg1 := HGH.out.below hb1
      clear c0 c1 f0 f1 hb1
      obtain ⟨d0, d1, g0, g1⟩ := cel2 hg1.r0
      have HG1 := Lib.hid hg1
      clear hg1
      go_wp2_with fail
      go_step3
      go_wp2_with fail
      have hB : Below w0.heap.size w0 (st2 w1 w0.heap.size (.int .i64 0) (.slice none 0 0)) := st2_below HG1.out.bel (Nat.le_refl _) _ _
      exact bodyPost_ret (res_pg Try.results13 rfl rfl (st2_blk (a' := .int .i64 0) (b' := .slice none 0 0) HG1.out.r0)) rfl ⟨⟨_, rfl, PM.nil _⟩, hB⟩
  · rw [stF, if_pos h0] at hst
    have hne : r.isEmpty = false := by cases r with | nil => exact absurd rfl h0 | cons x l => rfl
    have HGH := Lib.hid hg
    clear hg
    conv => arg 2; whnf
    go_wp2_with fail
    go_step3
    exact JG.wrong (by decide) ⟨rfl, rfl, rfl, rfl, rfl⟩ HGH.out rfl hst
end Go.Proofs.Ythllikmnlnakkaa.pr
