/- BuildApart: each function its own labels (layer 7). -/
import Derived.Test.YtdneblbaofhehaaBdW
namespace Go.Proofs.Ytdneblbaofhehaa.buildApart
open Go.ChangeShapes Go.WideShapes Go.ChangeAt Go.RowKit Go.Maps
open Go.Proofs.Ytdneblbaofhehaa.ro
open Go.Proofs.Ytdneblbaofhehaa.pr
open Go.Proofs.Ytdneblbaofhehaa.bd
open Go.Proofs.Ytdneblbaofhehaa.ins (kb tr3)
attribute [local go_sem ↓] Go.wp_at_zero Go.wp_at_succ
set_option linter.unusedVariables false
set_option linter.unusedSimpArgs false
abbrev L2 : List (List I4) := [[(0, 0, 0, 0)], [(18, 1, 0, 0), (0, 0, 0, 0)]]
set_option maxRecDepth 20000 in
set_option maxHeartbeats 4000000 in
theorem walk (a0 : ByteArray) (w : World) (w0 : a0.size ≤ maxLen) :
    Calls Try.prog 5 #[.string a0] w fun e w' => e = .returned (.bool true) ∧ Below w.heap.size w w' := by
  have HW := Lib.hid (works_v w)
  have hsI : (a0.size : Int) ≤ 9223372036854775807 := by unfold maxLen at w0; omega
  go_enter Try.func5, Try.ntmps5
  go_wp2_with fail
  refine HW.out.mono ?_
  rintro e wa ⟨rfl, hba⟩
  by_cases h1 : a0.size ≤ 1000
  · have h1I : ¬ (1000 : Int) < (a0.size : Int) := by omega
    have HS := Lib.hid h1
    have HBA := Lib.hid hba
    have HN := Lib.hid (new_v 0)
    clear HW hba w0 hsI h1
    go_wp2_with fail
    refine (HN.out _).mono ?_
    rintro e w1 ⟨Bb, ρ1, rfl, hB⟩
    have H1 := Lib.hid (func_v hB (by simp))
    clear hB HN
    go_wp2_with fail
    refine H1.out.mono ?_
    rintro e w2 ⟨ρ2, fv, F, M, rfl, hB⟩
    have H2 := Lib.hid (label_v (n := 0) hB rfl rfl (by omega) (by simp) a0 HS.out rfl (by simp))
    clear hB H1
    go_wp2_with fail
    refine H2.out.mono ?_
    rintro e w3 ⟨rfl, ρ3, hB⟩
    obtain ⟨W, hW⟩ : ∃ W, w3.alloc (.cells #[.int .i64 0, .int .i64 0, .int .i64 0, .int .i64 0] 33) = W := ⟨_, rfl⟩
    have hB2 := hB.below (w' := W) (by rw [← hW]; go_grown)
    have H3 := Lib.hid (add_v (n := 0) hB2 rfl rfl (by omega) (by simp) w3.heap.size 1 (0, 0, 0, 0) (by rw [← hW]; exact rec_new rfl rfl))
    clear hB hB2 H2
    go_wp2_with fail
    refine H3.out.mono ?_
    rintro e w4 ⟨rfl, ρ4, cv4, hB⟩
    have H4 := Lib.hid (func_v hB (by simp))
    clear hB H3 hW
    go_wp2_with fail
    refine H4.out.mono ?_
    rintro e w5 ⟨ρ5, fv5, F5, M5, rfl, hB⟩
    have H5 := Lib.hid (goto_of (leap_v (n := 1) hB rfl rfl (by omega) (by simp) (by simp) a0 18 0 0 0))
    clear hB H4
    go_wp2_with fail
    refine H5.out.mono ?_
    rintro e w6 ⟨rfl, ρ6, cv6, lv6, hB⟩
    have HOK : Hid (∀ (j : Nat) (x : bd.Fn) (cs2 : List I4) (f2 : ByteArray → Option Int) (n2 : Nat) (cv2 : Value), (([⟨F, M, cv4, .slice none 0 0, [(0, 0, 0, 0)], [], fun q => if q = a0 then some 0 else none, 1⟩, ⟨F5, M5, cv2, lv6, (18, 0, 0, 0) :: cs2, [(0, a0)], f2, n2⟩] : List bd.Fn)[j]? = some x) → cs2.length ≤ 10 → FOk x) := Lib.hid (fun j x cs2 f2 n2 cv2 hx hc => by
      match j, hx with
      | 0, hx =>
        simp at hx
        subst hx
        exact ⟨by simp, by simp, fun i l hl => by simp at hl⟩
      | 1, hx =>
        simp at hx
        subst hx
        refine ⟨by simp; omega, by simp, fun i l hl => ?_⟩
        match i, hl with
        | 0, hl =>
          simp at hl
          subst hl
          exact ⟨0, rfl, by simp, HS.out⟩
        | i + 1, hl => simp at hl
      | j + 2, hx => simp at hx)
    have H6 := Lib.hid (end_v hB (by simp) (fun j x hx => HOK.out j x [] _ _ _ hx (by simp)) none rfl)
    have HB6 := Lib.hid hB
    clear hB H5
    go_wp2_with fail
    refine H6.out.mono ?_
    rintro e w7 ⟨hb7, hm⟩
    obtain rfl : e = .returned (.tuple #[.agg #[.int .i64 0, .slice none 0 0], .int .i64 7]) := hm
    obtain ⟨W7, hW7⟩ : ∃ W7, w7.alloc (.cells #[.int .i64 0, .slice none 0 0] 38) = W7 := ⟨_, rfl⟩
    have hB := (HB6.out.below hb7).below (w' := W7) (by rw [← hW7]; go_grown)
    have H7 := Lib.hid (label_v (n := 1) hB rfl rfl (by omega) (by simp [lpd]) a0 HS.out rfl (by simp [lpd]))
    have HW7 := Lib.hid hW7
    clear hB H6 HB6 hb7 hW7
    go_wp2_with fail
    rw [HW7.out]
    refine H7.out.mono ?_
    rintro e w8 ⟨rfl, ρ8, hB⟩
    obtain ⟨W8, hW8⟩ : ∃ W8, w8.alloc (.cells #[.int .i64 0, .int .i64 0, .int .i64 0, .int .i64 0] 33) = W8 := ⟨_, rfl⟩
    have hB2 := hB.below (w' := W8) (by rw [← hW8]; go_grown)
    have H8 := Lib.hid (add_v (n := 1) hB2 rfl rfl (by omega) (by simp [lpd]) w8.heap.size 1 (0, 0, 0, 0) (by rw [← hW8]; exact rec_new rfl rfl))
    clear hB hB2 H7 HW7
    go_wp2_with fail
    refine H8.out.mono ?_
    rintro e w9 ⟨rfl, ρ9, cv9, hB⟩
    have H9 := Lib.hid (end_v hB (by simp) (fun j x hx => HOK.out j x [(0, 0, 0, 0)] _ _ _ hx (by simp)) (some L2) (by simp [allR, ledR, lpd, fill1, fillI]))
    have HB9 := Lib.hid hB.b
    clear hB H8 hW8 HOK
    go_wp2_with fail
    refine H9.out.mono ?_
    rintro e w10 ⟨hb10, hm⟩
    have hm' : if prE 0 L2 = 0 then ∃ v rows, e = .returned (.tuple #[.agg #[.int .i64 0, v], .int .i64 0]) ∧ OP w10 (w9.heap.size + 1 + 1) v rows L2 else e = .returned (.tuple #[.agg #[.int .i64 0, .slice none 0 0], .int .i64 (prE 0 L2)]) := hm
    rw [if_pos (by decide)] at hm'
    obtain ⟨v, rows, rfl, hp⟩ := hm'
    have hpm := OP.pm hp
    obtain ⟨va, vc, hv, hv2, hv3, hv4⟩ := hpm
    have hv1 : v = .slice va 2 vc := hv
    subst hv1
    obtain ⟨b, o, u, rfl, hbl, hc, hu⟩ := hv4 1 (by decide)
    have hu' : RV 4 enI w10 u [(18, 1, 0, 0), (0, 0, 0, 0)] := hu
    obtain ⟨ua, uc, rfl, _, _, _, hu4⟩ := hu'
    obtain ⟨b3, o3, rfl, hbl3, hc3⟩ := hu4 0 _ rfl
    have k0 : w10.cell? ⟨b3, o3, none⟩ = some (.int .i64 18) := hc3 0 _ rfl
    have k1 : w10.cell? ⟨b3, o3 + 1, none⟩ = some (.int .i64 1) := hc3 1 _ rfl
    have k2 : w10.cell? ⟨b3, o3 + 2, none⟩ = some (.int .i64 0) := hc3 2 _ rfl
    have k3 : w10.cell? ⟨b3, o3 + 3, none⟩ = some (.int .i64 0) := hc3 3 _ rfl
    dsimp only [List.length] at hc
    have HB10 := Lib.hid ((tr3 HBA.out HB9.out).trans (hb10.mono (tr3 HBA.out HB9.out).size))
    clear hm hp hv hv2 hv3 hv4 hu hu4 hc3 hb10 H9 HB9
    go_wp2_with fail
    go_ret
    refine ⟨rfl, ?_⟩
    have hsz := HB10.out.size
    refine Below.trans HB10.out ?_
    go_grown
    all_goals exact hsz
  · have h1I : (1000 : Int) < (a0.size : Int) := by omega
    clear HW
    go_wp2_with fail
    go_ret
    exact ⟨rfl, hba⟩
end Go.Proofs.Ytdneblbaofhehaa.buildApart
