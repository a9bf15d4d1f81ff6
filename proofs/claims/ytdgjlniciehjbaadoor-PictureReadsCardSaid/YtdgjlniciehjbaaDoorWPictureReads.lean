/- PictureReads: the rows of any text (layer 38). -/
import Derived.Test.YtdgjlniciehjbaaDoorPcK
namespace Go.Proofs.YtdgjlniciehjbaaDoor.pictureReads
open Go.ChangeShapes Go.WideShapes Go.ChangeAt Go.RowKit
open Go.Proofs.YtdgjlniciehjbaaDoor.gr (C2 d2 chkE Rts Rt chkE_rts PM enC)
open Go.Proofs.YtdgjlniciehjbaaDoor.st Go.Proofs.YtdgjlniciehjbaaDoor.wd Go.Proofs.YtdgjlniciehjbaaDoor.pc
set_option linter.unusedVariables false
set_option linter.unusedSimpArgs false
set_option maxRecDepth 20000 in
set_option maxHeartbeats 1000000 in
theorem walk (a0 : ByteArray) (w : World) (w0 : a0.size ≤ maxLen) (hN : NM w) :
    Calls Tryd.prog 4 #[.string a0] w fun e w' => e = .returned (.bool true) ∧ Below w.heap.size w w' := by
  obtain ⟨s, hs⟩ : ∃ s : List UInt8, a0 = ⟨s.toArray⟩ := ⟨a0.data.toList, by simp⟩
  subst hs
  have hfs := str_size s
  rw [hfs] at w0
  unfold maxLen at w0
  have HN := Lib.hid hN
  have CW := Lib.hid (works_v w hN)
  clear hN
  obtain ⟨P, hP⟩ : ∃ P : Ending → World → Prop, (fun (e : Ending) (w' : World) => e = .returned (.bool true) ∧ Below w.heap.size w w') = P := ⟨_, rfl⟩
  have HF : Hid (∀ w', Below w.heap.size w w' → P (.returned (.bool true)) w') := Lib.hid (by rintro w' hb; rw [← hP]; exact ⟨rfl, hb⟩)
  rw [hP]
  clear hP
  by_cases hbig : 3000 < s.length
  · have hbI : (3000 : Int) < (s.length : Int) := by omega
    go_enter Tryd.func4, Tryd.ntmps4
    go_wp2_with fail
    refine CW.out.mono ?_
    rintro e w1 ⟨rfl, hb1⟩
    have HB1 := Lib.hid hb1
    clear hb1 CW
    go_wp2_with fail
    first | exact HF.out _ HB1.out | (go_ret; exact HF.out _ HB1.out)
  · have hbI : ¬ (3000 : Int) < (s.length : Int) := by omega
    obtain ⟨r, hr⟩ : ∃ r, rdE s = r := ⟨_, rfl⟩
    obtain ⟨L, hL⟩ : ∃ L, rdL s = L := ⟨_, rfl⟩
    have hL0 : chkE L = 0 := by
      rw [← hL]
      unfold rdL
      split
      · decide
      · split
        · assumption
        · decide
    obtain ⟨T, hT⟩ : ∃ T, txtV L = T := ⟨_, rfl⟩
    have hrt := chkE_rts hL0
    have hTL : T.length ≤ 99000 := by
      rw [← hT]
      have := txt_len hrt L.length (Nat.le_refl _)
      have := hrt.m
      unfold txtV
      omega
    have hTE := rdE_txt hL0
    rw [hT] at hTE
    have C1 : Hid (∀ w3, Below w.heap.size w w3 → Calls Tryd.prog 13 #[.string ⟨s.toArray⟩] w3 fun e w' => ∃ a' n' c', e = .returned (.tuple #[.slice a' n' c', .int .i64 r]) ∧ PM w' (.slice a' n' c') L ∧ Below w3.heap.size w3 w') := Lib.hid (fun w3 hb => by
      have := read_v s w3 (by omega) (HN.out.below hb)
      rw [hr, hL] at this
      exact this)
    have C2 : Hid (∀ w3, Calls Tryd.prog 15 #[.string ⟨s.toArray⟩] w3 fun e w' => ∃ a' n' c', e = .returned (.tuple #[.slice a' n' c', .int .i64 r]) ∧ PM w' (.slice a' n' c') L ∧ Below w3.heap.size w3 w') := Lib.hid (fun w3 => by
      have := rread_v s w3 (by omega)
      rw [hr, hL] at this
      exact this)
    have C3 : Hid (∀ ad nd cd w3, Below w.heap.size w w3 → PM w3 (.slice ad nd cd) L → Calls Tryd.prog 8 #[.slice ad nd cd] w3 fun e w' => e = .returned (.tuple #[.string ⟨T.toArray⟩, .int .i64 0]) ∧ Below w3.heap.size w3 w') := Lib.hid (fun ad nd cd w3 hb h => by
      have := text_v ad nd cd L 0 w3 h hL0 (HN.out.below hb)
      rw [if_pos rfl, hT] at this
      exact this)
    have C4 : Hid (∀ w3, Below w.heap.size w w3 → Calls Tryd.prog 13 #[.string ⟨T.toArray⟩] w3 fun e w' => ∃ a' n' c', e = .returned (.tuple #[.slice a' n' c', .int .i64 0]) ∧ PM w' (.slice a' n' c') L ∧ Below w3.heap.size w3 w') := Lib.hid (fun w3 hb => by
      have := read_v T w3 hTL (HN.out.below hb)
      rw [hTE.1, hTE.2] at this
      exact this)
    have nr : (r != r) = false := by simp
    clear hr hL hL0 hT hrt hTL hTE
    go_enter Tryd.func4, Tryd.ntmps4
    go_wp2_with fail
    refine CW.out.mono ?_
    rintro e w1 ⟨rfl, hb1⟩
    have HB1 := Lib.hid hb1
    have D1 := Lib.hid (C1.out w1 hb1)
    clear hb1 CW
    go_wp2_with fail
    refine D1.out.mono ?_
    rintro e w2 ⟨a2, n2, c2, rfl, hp2, hb2⟩
    have HB2 := Lib.hid (tr3 HB1.out hb2)
    have HP2 := Lib.hid hp2
    have D2 := Lib.hid (C2.out w2)
    clear hp2 hb2 D1
    go_wp2_with fail
    refine D2.out.mono ?_
    rintro e w3 ⟨a3, n3, c3, rfl, hp3, hb3⟩
    have HB3 := Lib.hid (tr3 HB2.out hb3)
    have HP3 := Lib.hid (HP2.out.below hb3)
    have D3 := Lib.hid (same_v a2 a3 n2 n3 c2 c3 L w3 HP3.out hp3)
    clear hp3 hb3 D2
    go_wp2_with fail
    refine D3.out.mono ?_
    rintro e w4 ⟨rfl, hb4⟩
    have HB4 := Lib.hid (tr3 HB3.out hb4)
    have HP4 := Lib.hid (HP3.out.below hb4)
    have D4 := Lib.hid (C3.out a2 n2 c2 w4 HB4.out HP4.out)
    clear hb4 D3
    go_wp2_with fail
    refine D4.out.mono ?_
    rintro e w5 ⟨rfl, hb5⟩
    have HB5 := Lib.hid (tr3 HB4.out hb5)
    have HP5 := Lib.hid (HP4.out.below hb5)
    have D5 := Lib.hid (C4.out w5 HB5.out)
    clear hb5 D4
    go_wp2_with fail
    refine D5.out.mono ?_
    rintro e w6 ⟨a6, n6, c6, rfl, hp6, hb6⟩
    have HB6 := Lib.hid (tr3 HB5.out hb6)
    have HP6 := Lib.hid (HP5.out.below hb6)
    have D6 := Lib.hid (same_v a6 a2 n6 n2 c6 c2 L w6 hp6 HP6.out)
    clear hp6 hb6 D5
    by_cases hr0 : r = 0
    · subst hr0
      go_wp2_with fail
      refine D6.out.mono ?_
      rintro e w7 ⟨rfl, hb7⟩
      have HB7 := Lib.hid (tr3 HB6.out hb7)
      clear hb7
      go_wp2_with fail
      first | exact HF.out _ HB7.out | (go_ret; exact HF.out _ HB7.out)
    · have h1 : (r != 0) = true := by simpa using hr0
      have h2 : (r == 0) = false := by simpa using hr0
      go_wp2_with fail
      first | exact HF.out _ HB6.out | (go_ret; exact HF.out _ HB6.out)
end Go.Proofs.YtdgjlniciehjbaaDoor.pictureReads
