/- What works (layer 38). -/
import Derived.Test.YtdgjlniciehjbaaDoorPcJ
import Derived.Test.YtdgjlniciehjbaaDoorPcR
namespace Go.Proofs.YtdgjlniciehjbaaDoor.pc
open Go.ChangeShapes Go.WideShapes Go.ChangeAt Go.RowKit
open Go.Proofs.YtdgjlniciehjbaaDoor.gr (C2 d2 chkE Rts Rt chkE_rts PM enC recC RV.two rcheck_v check_v cel2)
open Go.Proofs.YtdgjlniciehjbaaDoor.st Go.Proofs.YtdgjlniciehjbaaDoor.wd
set_option linter.unusedVariables false
set_option linter.unusedSimpArgs false
def LT3 : List (List C2) := [[(0, false), (2, true), (5, false)]]
theorem i0 : Lib.itoa 0 = [48] := by rw [itoa_pos (by omega), dec_one _ (by decide)]; rfl
theorem i2 : Lib.itoa 2 = [50] := by rw [itoa_pos (by omega), dec_one _ (by decide)]; rfl
theorem i5 : Lib.itoa 5 = [53] := by rw [itoa_pos (by omega), dec_one _ (by decide)]; rfl
theorem wd3 : wdsN [(0, false), (2, true), (5, false)] 3 = [[48], [62, 50], [45, 53]] := by simp [wdsN, cellS, i0, i2, i5]
theorem tx3 : txtV LT3 = [48, 32, 62, 50, 32, 45, 53, 10] := by
  show ([] : List UInt8) ++ rowT [(0, false), (2, true), (5, false)] ++ [10] = _
  unfold rowT
  show ([] : List UInt8) ++ Lib.join (wdsN [(0, false), (2, true), (5, false)] 3) [32] ++ [10] = _
  rw [wd3]
  rfl
theorem ce3 : chkE LT3 = 0 := by decide
theorem ch3 : chE LT3 = 0 := by decide
theorem ct3 : chT LT3 = [111, 46, 60, 46, 46, 111, 10] := by
  unfold chT
  rw [if_pos ch3]
  rfl
theorem rv_of {w : World} {g : Nat} {l : List C2} (h : w.heap[g]? = some (.cells (flat enC l).toArray 38 (0, 0))) (hl : l.length ≤ 1000000) : RV 2 enC w (.slice (some ⟨g, 0, none⟩) l.length l.length) l := by
  have ho : OR 2 enC w 0 38 (.slice (some ⟨g, 0, none⟩) l.length l.length) l :=
    ⟨by rw [flat_len recC], .inr ⟨g, l.length, (flat enC l).toArray, rfl, Nat.zero_le _, h, Nat.le_refl _, by unfold maxLen; omega, by simp [flat_len recC], by rw [← flat_len recC l]; simp⟩⟩
  exact OR.rv recC ho
set_option maxRecDepth 20000 in
set_option maxHeartbeats 1000000 in
theorem works_v (w : World) (hN : NM w) : Calls Tryd.prog 6 #[] w fun e w' => e = .returned (.bool true) ∧ Below w.heap.size w w' := by
  obtain ⟨W1, hW1⟩ : ∃ W, w.alloc (.cells #[.int .i64 0, .bool false, .int .i64 2, .bool true, .int .i64 5, .bool false] 38) = W := ⟨_, rfl⟩
  have hb1 : Below w.heap.size w W1 := by rw [← hW1]; exact (Below.refl _ _).alloc (Nat.le_refl _) _
  have hX1 : W1.heap[w.heap.size]? = some (.cells #[.int .i64 0, .bool false, .int .i64 2, .bool true, .int .i64 5, .bool false] 38 (0, 0)) := by rw [← hW1]; exact heap_new _ _ _
  obtain ⟨W2, hW2⟩ : ∃ W, W1.alloc (.cells #[.slice (some ⟨w.heap.size, 0, none⟩) 3 3] 36) = W := ⟨_, rfl⟩
  have hb2 : Below W1.heap.size W1 W2 := by rw [← hW2]; exact (Below.refl _ _).alloc (Nat.le_refl _) _
  have hX2 : W2.heap[W1.heap.size]? = some (.cells #[.slice (some ⟨w.heap.size, 0, none⟩) 3 3] 36 (0, 0)) := by rw [← hW2]; exact heap_new _ _ _
  have hr1 : RV 2 enC W2 (.slice (some ⟨w.heap.size, 0, none⟩) 3 3) [(0, false), (2, true), (5, false)] := rv_of (l := [(0, false), (2, true), (5, false)]) (kb hX1 hb2) (by decide)
  have hp : PM W2 (.slice (some ⟨W1.heap.size, 0, none⟩) 1 1) LT3 := ⟨some ⟨W1.heap.size, 0, none⟩, 1, rfl, Nat.le_refl _, by decide, fun i hi => by
    have y0 := cel hX2 0
    match i, hi with
    | 0, _ => exact ⟨W1.heap.size, 0, _, rfl, (Array.getElem?_eq_some_iff.1 hX2).1, y0, hr1⟩⟩
  have hz : W1.heap.size = w.heap.size + 1 := by rw [← hW1]; simp
  have HP := Lib.hid hp
  have HB2 := Lib.hid (tr3 hb1 hb2)
  have HN := Lib.hid hN
  obtain ⟨ad, had⟩ : ∃ ad, some (⟨W1.heap.size, 0, none⟩ : Addr) = ad := ⟨_, rfl⟩
  have had2 : some (⟨w.heap.size + 1, 0, none⟩ : Addr) = ad := by rw [← had, hz]
  rw [had] at HP
  have CT : Hid (Calls Tryd.prog 8 #[.slice ad 1 1] W2 fun e w' => e = .returned (.tuple #[.string ⟨#[48, 32, 62, 50, 32, 45, 53, 10]⟩, .int .i64 0]) ∧ Below W2.heap.size W2 w') := Lib.hid (by
    have h := text_v ad 1 1 LT3 0 W2 HP.out ce3 (hN.below HB2.out)
    rw [if_pos rfl, tx3] at h
    exact h)
  have CC : Hid (∀ w3, Below W2.heap.size W2 w3 → Calls Tryd.prog 11 #[.slice ad 1 1] w3 fun e w' => e = .returned (.tuple #[.string ⟨#[111, 46, 60, 46, 46, 111, 10]⟩, .int .i64 0]) ∧ Below w3.heap.size w3 w') := Lib.hid (fun w3 hb => by
    have h := chart_v ad 1 1 LT3 w3 (HP.out.below hb)
    rw [ct3, ch3] at h
    exact h)
  have CR : Hid (∀ w3, Below W2.heap.size W2 w3 → Calls Tryd.prog 13 #[.string ⟨#[48, 32, 62, 50, 32, 45, 53, 10]⟩] w3 fun e w' => ∃ a' n' c', e = .returned (.tuple #[.slice a' n' c', .int .i64 0]) ∧ PM w' (.slice a' n' c') LT3 ∧ Below w3.heap.size w3 w') := Lib.hid (fun w3 hb => by
    have h := read_v [48, 32, 62, 50, 32, 45, 53, 10] w3 (by decide) (HN.out.below (tr3 HB2.out hb))
    obtain ⟨e1, e2⟩ := rdE_txt ce3
    rw [tx3] at e1 e2
    rw [e1, e2] at h
    exact h)
  clear hb1 hX1 hb2 hX2 hr1 hp hN
  go_enter Tryd.func6, Tryd.ntmps6
  go_wp2_with fail
  first | rw [had] | rw [had2] | skip
  refine CT.out.mono ?_
  rintro e w3 ⟨rfl, hb3⟩
  have HB3 := Lib.hid hb3
  have CC3 := Lib.hid (CC.out w3 hb3)
  clear hb3 CT
  go_wp2_with fail
  refine CC3.out.mono ?_
  rintro e w4 ⟨rfl, hb4⟩
  have HB4 := Lib.hid (tr3 HB3.out hb4)
  have CR4 := Lib.hid (CR.out w4 HB4.out)
  clear hb4 CC3
  go_wp2_with fail
  refine CR4.out.mono ?_
  rintro e w5 ⟨a5, n5, c5, rfl, hp5, hb5⟩
  have HB5 := Lib.hid (tr3 HB4.out hb5)
  have CS := Lib.hid (same_v a5 ad n5 1 c5 1 LT3 w5 hp5 (HP.out.below HB5.out))
  clear hp5 hb5 CR4
  go_wp2_with fail
  refine CS.out.mono ?_
  rintro e w6 ⟨rfl, hb6⟩
  have HB6 := Lib.hid (tr3 HB2.out (tr3 HB5.out hb6))
  clear hb6 CS
  go_wp2_with fail
  go_ret
  exact ⟨rfl, HB6.out⟩
end Go.Proofs.YtdgjlniciehjbaaDoor.pc
