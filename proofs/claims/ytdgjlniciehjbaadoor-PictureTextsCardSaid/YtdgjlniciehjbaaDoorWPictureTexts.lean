/- PictureTexts: rows in writing, and as a picture (layer 38). -/
import Derived.Test.YtdgjlniciehjbaaDoorPcK
import Derived.Test.YtdgjlniciehjbaaDoorGrO
namespace Go.Proofs.YtdgjlniciehjbaaDoor.pictureTexts
open Go.ChangeShapes Go.WideShapes Go.ChangeAt Go.RowKit
open Go.Proofs.YtdgjlniciehjbaaDoor.gr (C2 d2 chkE Rts Rt chkE_rts PM enC great_v own_v Fw)
open Go.Proofs.YtdgjlniciehjbaaDoor.st Go.Proofs.YtdgjlniciehjbaaDoor.wd Go.Proofs.YtdgjlniciehjbaaDoor.pc
set_option linter.unusedVariables false
set_option linter.unusedSimpArgs false
set_option maxRecDepth 20000 in
set_option maxHeartbeats 1000000 in
theorem walk (a0 : Option Addr) (n0 c0 : Nat) (L0 : List (List gr.C2)) (w : World) (w0 : gr.PM w (.slice a0 n0 c0) L0) (hN : NM w) :
    Calls Tryd.prog 3 #[.slice a0 n0 c0] w fun e w' => e = .returned (.bool true) ∧ Below w.heap.size w w' := by
  have HR := Lib.hid w0
  have HN := Lib.hid hN
  have CW := Lib.hid (works_v w hN)
  clear w0 hN
  obtain ⟨P, hP⟩ : ∃ P : Ending → World → Prop, (fun (e : Ending) (w' : World) => e = .returned (.bool true) ∧ Below w.heap.size w w') = P := ⟨_, rfl⟩
  have HF : Hid (∀ w', Below w.heap.size w w' → P (.returned (.bool true)) w') := Lib.hid (by rintro w' hb; rw [← hP]; exact ⟨rfl, hb⟩)
  rw [hP]
  clear hP
  obtain ⟨r, hr⟩ : ∃ r, chkE L0 = r := ⟨_, rfl⟩
  obtain ⟨T, hT⟩ : ∃ T, (if r = 0 then txtV L0 else []) = T := ⟨_, rfl⟩
  obtain ⟨K, hK⟩ : ∃ K, chT L0 = K := ⟨_, rfl⟩
  obtain ⟨E, hE⟩ : ∃ E, chE L0 = E := ⟨_, rfl⟩
  have C1 : Hid (∀ ad cd w3, Below w.heap.size w w3 → PM w3 (.slice ad n0 cd) L0 → Calls Tryd.prog 8 #[.slice ad n0 cd] w3 fun e w' => e = .returned (.tuple #[.string ⟨T.toArray⟩, .int .i64 r]) ∧ Below w3.heap.size w3 w') := Lib.hid (fun ad cd w3 hb h => by
    have := text_v ad n0 cd L0 r w3 h hr (HN.out.below hb)
    rw [hT] at this
    exact this)
  have C2 : Hid (∀ w3, Below w.heap.size w w3 → Calls Tryd.prog 10 #[.slice a0 n0 c0] w3 fun e w' => e = .returned (.tuple #[.string ⟨T.toArray⟩, .int .i64 r]) ∧ Below w3.heap.size w3 w') := Lib.hid (fun w3 hb => by
    have := rtext_v a0 n0 c0 L0 r w3 (HR.out.below hb) hr
    rw [hT] at this
    exact this)
  have C3 : Hid (∀ ad cd w3, PM w3 (.slice ad n0 cd) L0 → Calls Tryd.prog 11 #[.slice ad n0 cd] w3 fun e w' => e = .returned (.tuple #[.string ⟨K.toArray⟩, .int .i64 E]) ∧ Below w3.heap.size w3 w') := Lib.hid (fun ad cd w3 h => by
    have := chart_v ad n0 cd L0 w3 h
    rw [hK, hE] at this
    exact this)
  have C4 : Hid (∀ w3, Below w.heap.size w w3 → Calls Tryd.prog 12 #[.slice a0 n0 c0] w3 fun e w' => e = .returned (.tuple #[.string ⟨K.toArray⟩, .int .i64 E]) ∧ Below w3.heap.size w3 w') := Lib.hid (fun w3 hb => by
    have := rchart_v a0 n0 c0 L0 w3 (HR.out.below hb)
    rw [hK, hE] at this
    exact this)
  have HTL : Hid (T.length ≤ 99000) := Lib.hid (by
    rw [← hT]
    split
    · rename_i h0
      have hL := chkE_rts (hr.trans h0)
      have := txt_len hL L0.length (Nat.le_refl _)
      have := hL.m
      unfold txtV
      omega
    · simp)
  obtain ⟨rE, hrE⟩ : ∃ x, rdE T = x := ⟨_, rfl⟩
  obtain ⟨rL, hrL⟩ : ∃ x, rdL T = x := ⟨_, rfl⟩
  have C5 : Hid (∀ w3, Below w.heap.size w w3 → Calls Tryd.prog 13 #[.string ⟨T.toArray⟩] w3 fun e w' => ∃ a' n' c', e = .returned (.tuple #[.slice a' n' c', .int .i64 rE]) ∧ PM w' (.slice a' n' c') rL ∧ Below w3.heap.size w3 w') := Lib.hid (fun w3 hb => by
    have := read_v T w3 HTL.out (HN.out.below hb)
    rw [hrE, hrL] at this
    exact this)
  have HOK : Hid (r = 0 → rE = 0 ∧ rL = L0) := Lib.hid (fun h0 => by
    subst h0
    rw [if_pos rfl] at hT
    have := rdE_txt hr
    rw [hT, hrE, hrL] at this
    exact this)
  have nr : (r == r) = true := by simp
  have nE : (E == E) = true := by simp
  clear hr hT hK hE hrE hrL
  go_enter Tryd.func3, Tryd.ntmps3
  go_wp2_with fail
  refine CW.out.mono ?_
  rintro e w1 ⟨rfl, hb1⟩
  have HB1 := Lib.hid hb1
  have CG := Lib.hid (great_v a0 n0 c0 L0 w1 (HR.out.below hb1))
  clear hb1 CW
  go_wp2_with fail
  refine CG.out.mono ?_
  rintro e w2 ⟨g, rfl, hg, rfl⟩
  have HG := Lib.hid hg
  clear hg CG
  cases g with
  | true =>
    go_wp2_with fail
    first | exact HF.out _ HB1.out | (go_ret; exact HF.out _ HB1.out)
  | false =>
    have HFW := Lib.hid (HG.out (by first | rfl | trivial))
    have CO : Hid (∀ w3, Below w.heap.size w w3 → Calls Tryd.prog 9 #[.slice a0 n0 c0] w3 fun e w' => ∃ a' c', e = .returned (.slice a' n0 c') ∧ PM w' (.slice a' n0 c') L0 ∧ Below w3.heap.size w3 w') := Lib.hid (fun w3 hb => own_v a0 n0 c0 L0 w3 (HR.out.below hb) HFW.out)
    have D1 := Lib.hid (CO.out w1 HB1.out)
    go_wp2_with fail
    refine D1.out.mono ?_
    rintro e w2 ⟨a2, c2, rfl, hp2, hb2⟩
    have HB2 := Lib.hid (tr3 HB1.out hb2)
    have D2 := Lib.hid (C1.out a2 c2 w2 HB2.out hp2)
    clear hp2 hb2 D1
    go_wp2_with fail
    refine D2.out.mono ?_
    rintro e w3 ⟨rfl, hb3⟩
    have HB3 := Lib.hid (tr3 HB2.out hb3)
    have D3 := Lib.hid (C2.out w3 HB3.out)
    clear hb3 D2
    go_wp2_with fail
    refine D3.out.mono ?_
    rintro e w4 ⟨rfl, hb4⟩
    have HB4 := Lib.hid (tr3 HB3.out hb4)
    have D4 := Lib.hid (CO.out w4 HB4.out)
    clear hb4 D3
    go_wp2_with fail
    refine D4.out.mono ?_
    rintro e w5 ⟨a5, c5, rfl, hp5, hb5⟩
    have HB5 := Lib.hid (tr3 HB4.out hb5)
    have D5 := Lib.hid (C3.out a5 c5 w5 hp5)
    clear hp5 hb5 D4
    go_wp2_with fail
    refine D5.out.mono ?_
    rintro e w6 ⟨rfl, hb6⟩
    have HB6 := Lib.hid (tr3 HB5.out hb6)
    have D6 := Lib.hid (C4.out w6 HB6.out)
    clear hb6 D5
    go_wp2_with fail
    refine D6.out.mono ?_
    rintro e w7 ⟨rfl, hb7⟩
    have HB7 := Lib.hid (tr3 HB6.out hb7)
    have D7 := Lib.hid (C5.out w7 HB7.out)
    clear hb7 D6
    go_wp2_with fail
    refine D7.out.mono ?_
    rintro e w8 ⟨a8, n8, c8, rfl, hp8, hb8⟩
    have HB8 := Lib.hid (tr3 HB7.out hb8)
    have HP8 := Lib.hid hp8
    clear hp8 hb8 D7
    by_cases hr0 : r = 0
    · obtain ⟨rfl, rfl⟩ := HOK.out hr0
      subst hr0
      have D8 := Lib.hid (same_v a8 a0 n8 n0 c8 c0 rL w8 HP8.out (HR.out.below HB8.out))
      go_wp2_with fail
      refine D8.out.mono ?_
      rintro e w9 ⟨rfl, hb9⟩
      have HB9 := Lib.hid (tr3 HB8.out hb9)
      clear hb9
      go_wp2_with fail
      first | exact HF.out _ HB9.out | (go_ret; exact HF.out _ HB9.out)
    · have h1 : (r != 0) = true := by simpa using hr0
      have h2 : (r == 0) = false := by simpa using hr0
      go_wp2_with fail
      first | exact HF.out _ HB8.out | (go_ret; exact HF.out _ HB8.out)
end Go.Proofs.YtdgjlniciehjbaaDoor.pictureTexts
