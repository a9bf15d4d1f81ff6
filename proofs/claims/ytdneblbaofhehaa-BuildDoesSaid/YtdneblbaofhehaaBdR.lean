/- What is wrong with any program, as the document says it (layer 4). -/
import Derived.Test.YtdneblbaofhehaaBdS
import Derived.BigQuiet
namespace Go.Proofs.Ytdneblbaofhehaa.pr
open Go.ChangeShapes Go.WideShapes Go.ChangeAt Go.RowKit
open Go.Proofs.Ytdneblbaofhehaa.bin Go.Proofs.Ytdneblbaofhehaa.bits Go.Proofs.Ytdneblbaofhehaa.ins
set_option linter.unusedVariables false
set_option linter.unusedSimpArgs false
theorem lenE_0 {n : Nat} (h : lenE n = 0) : 1 ≤ n ∧ n ≤ 200 := by
  unfold lenE at h
  by_cases h2 : n = 0
  · rw [if_pos h2] at h; omega
  · rw [if_neg h2] at h
    by_cases h3 : 200 < n
    · rw [if_pos h3] at h; omega
    · omega
theorem cntE_0 {m : Int} {n : Nat} (h : cntE m n = 0) : 0 ≤ m ∧ m ≤ 256 ∧ 1 ≤ n ∧ n ≤ 16 := by
  unfold cntE at h
  by_cases h0 : m < 0 ∨ 256 < m
  · rw [if_pos h0] at h; omega
  · rw [if_neg h0] at h
    by_cases h2 : n = 0
    · rw [if_pos h2] at h; omega
    · rw [if_neg h2] at h
      by_cases h3 : 16 < n
      · rw [if_pos h3] at h; omega
      · omega
def mnE (n : Nat) (k : Int) : Int := if n = 0 then 7 else if k < n then 9 else 0
theorem many_v (n : Nat) (k : Int) (c : Int) (w : World) (h : mnE n k = c) : Calls Try.prog 28 #[.int .i64 (n : Int), .int .i64 k] w fun e w' => e = .returned (.int .i64 c) ∧ w = w' := by
  unfold mnE at h
  by_cases h3 : n = 0
  · rw [if_pos h3] at h
    subst h
    subst h3
    go_enter Try.func28, Try.ntmps28
    go_wp2_with fail
    go_ret
    exact ⟨rfl, rfl⟩
  · rw [if_neg h3] at h
    have h3b : ((n : Int) == 0) = false := by simp; omega
    by_cases h4 : k < n
    · rw [if_pos h4] at h
      subst h
      go_enter Try.func28, Try.ntmps28
      go_wp2_with fail
      go_ret
      exact ⟨rfl, rfl⟩
    · rw [if_neg h4] at h
      subst h
      go_enter Try.func28, Try.ntmps28
      go_wp2_with fail
      go_ret
      exact ⟨rfl, rfl⟩
theorem mn_len (n : Nat) : mnE n 200 = lenE n := by
  unfold mnE lenE
  by_cases h : n = 0
  · rw [if_pos h, if_pos h]
  · rw [if_neg h, if_neg h]
    by_cases h2 : 200 < n
    · rw [if_pos (by omega), if_pos h2]
    · rw [if_neg (by omega), if_neg h2]
theorem mn_cnt (m : Int) (n : Nat) : (if m < 0 ∨ 256 < m then 3 else mnE n 16) = cntE m n := by
  unfold mnE cntE
  by_cases h0 : m < 0 ∨ 256 < m
  · rw [if_pos h0, if_pos h0]
  · rw [if_neg h0, if_neg h0]
    by_cases h : n = 0
    · rw [if_pos h, if_pos h]
    · rw [if_neg h, if_neg h]
      by_cases h2 : 16 < n
      · rw [if_pos (by omega), if_pos h2]
      · rw [if_neg (by omega), if_neg h2]
/-- an instruction leads to where nothing is -/
def away (op A B : Int) (p q : Nat) : Bool := (op == 18 && decide ((p : Int) ≤ A)) || (op == 19 && decide ((p : Int) ≤ B)) || ((op == 20 || op == 22) && decide ((q : Int) ≤ A))
theorem ld_away (op A B C : Int) (p q : Nat) (h0 : 0 ≤ op) (h1 : op ≤ 25) : leadsI op A B C p q = !away op A B p q := by
  have hc : op = 0 ∨ op = 1 ∨ op = 2 ∨ op = 3 ∨ op = 4 ∨ op = 5 ∨ op = 6 ∨ op = 7 ∨ op = 8 ∨ op = 9 ∨ op = 10 ∨ op = 11 ∨ op = 12 ∨ op = 13 ∨ op = 14 ∨ op = 15 ∨ op = 16 ∨ op = 17 ∨ op = 18 ∨ op = 19 ∨ op = 20 ∨ op = 21 ∨ op = 22 ∨ op = 23 ∨ op = 24 ∨ op = 25 := by omega
  rcases hc with rfl | rfl | rfl | rfl | rfl | rfl | rfl | rfl | rfl | rfl | rfl | rfl | rfl | rfl | rfl | rfl | rfl | rfl | rfl | rfl | rfl | rfl | rfl | rfl | rfl | rfl <;> simp [leadsI, frmI, frm, ldL, three, away] <;> (try split) <;> simp_all <;> omega
set_option maxRecDepth 20000 in
set_option maxHeartbeats 4000000 in
theorem rcheck_ok (m : Int) (a : Option Addr) (n c : Nat) (L : List (List I4)) (r : Int) (w : World) (h : PM w (.slice a n c) L) (hc : cntE m n = 0) (hr : fnR L n = r) :
    Calls Try.prog 22 #[.agg #[.int .i64 m, .slice a n c]] w fun e w' => e = .returned (.int .i64 r) ∧ Below w.heap.size w w' := by
  obtain ⟨hnl, hnc, hcm⟩ := h.len
  unfold maxLen at hcm
  have HR0 := Lib.hid h
  have HNL := Lib.hid hnl
  obtain ⟨hm0, hm1, hn0, hn16⟩ := cntE_0 hc
  have hm1' : ¬ (256 : Int) < m := by omega
  have hm0' : ¬ m < (0 : Int) := by omega
  have CM := Lib.hid (fun w => many_v n 16 0 w (by unfold mnE; rw [if_neg (by omega), if_neg (by omega)]))
  obtain ⟨W, hW⟩ : ∃ W, w.alloc (.cells #[.int .i64 m, .slice a n c] 38) = W := ⟨_, rfl⟩
  have hb0 : Below w.heap.size w W := by rw [← hW]; go_grown
  have HP := Lib.hid (show W.heap[w.heap.size]? = some (.cells #[.int .i64 m, .slice a n c] 38 (0, 0)) by rw [← hW]; exact heap_new _ _ _)
  have hp0 : W.cell? ⟨w.heap.size, 0, none⟩ = some (.int .i64 m) := cel HP.out 0
  have hp1 : W.cell? ⟨w.heap.size, 1, none⟩ = some (.slice a n c) := cel HP.out 1
  have hs1 : w.heap.size < W.heap.size := by rw [← hW]; simp
  have HW := Lib.hid hW
  have HRR := Lib.hid hr
  have h0 : Hid (Below w.heap.size w W) := Lib.hid hb0
  have h00 : Hid (Below W.heap.size W W) := Lib.hid (Below.refl _ _)
  clear h hnl hr hW hb0 hc
  go_enter Try.func22, Try.ntmps22
  go_wp2_with fail
  rw [HW.out]
  refine (CM.out _).mono ?_
  rintro e w' ⟨rfl, rfl⟩
  clear hp0 hp1
  have hp1 : W.cell? ⟨w.heap.size, 1, none⟩ = some (.slice a n c) := cel HP.out 1
  go_wp2_with fail
  clear hp1
  go_loopw [4] (fun i wr => ∃ k : Nat, i = .int .i64 (k : Int) ∧ k ≤ n ∧ Hid (fnR L k = 0) ∧ Hid (Below W.heap.size W wr)) (fun i _ => n - (intOf i).toNat)
  case atStart => exact ⟨0, rfl, by omega, Lib.hid rfl, h00⟩
  case round =>
    clear h00
    obtain ⟨k, rfl, hk, HI, HB⟩ := hrel
    have hp1 : wr.cell? ⟨w.heap.size, 1, none⟩ = some (.slice a n c) := cel (kb HP.out HB.out) 1
    by_cases hlt : k < n
    · obtain ⟨b, o, ai, ci, rfl, hbl, c0, hrow⟩ := (HR0.out.below (tr3 h0.out HB.out)).row k hlt
      obtain ⟨l, hx⟩ : ∃ x, L.getD k [] = x := ⟨_, rfl⟩
      have hsx : fnR L (k + 1) = fnE l n := by rw [fnR, if_neg (by rw [HI.out]; decide), hx, ← HNL.out]
      have hst := fnR_stay L (k + 1) n (by omega)
      rw [hx] at c0 hrow
      have hRF : fnE l n ≠ 0 → r = fnE l n := fun h1 => by rw [← HRR.out, hst (by rw [hsx]; exact h1), hsx]
      obtain ⟨n0, hn0e⟩ : ∃ n0, l.length = n0 := ⟨_, rfl⟩
      rw [hn0e] at c0 hrow
      obtain ⟨e1, he1⟩ : ∃ e, lenE n0 = e := ⟨_, rfl⟩
      have CM2 := Lib.hid (fun w => many_v n0 200 e1 w (by rw [mn_len]; exact he1))
      have hplI : (k : Int) < (n : Int) := by omega
      by_cases h1 : e1 = 0
      · subst h1
        obtain ⟨hg1, hg2⟩ := lenE_0 he1
        have hfe : fnE l n = if insR l n n0 ≠ 0 then insR l n n0 else if okEnd (l.getD (n0 - 1) d4).1 then 0 else 12 := by unfold fnE; rw [hn0e, he1, if_neg (by simp)]
        have HRJ : Hid (∀ (c : Int) (j : Nat), j ≤ n0 → insR l n j = c → c ≠ 0 → r = c) := Lib.hid fun c j hj hc h0 => by
          have h2 := insR_stay l n j n0 hj (by rw [hc]; exact h0)
          rw [hc] at h2
          have h3 : fnE l n = c := by rw [hfe, h2, if_pos h0]
          rw [hRF (by rw [h3]; exact h0), h3]
        have HFE := Lib.hid hfe
        have HRF := Lib.hid hRF
        have HSX := Lib.hid hsx
        have HROW := Lib.hid hrow
        have HL0 := Lib.hid hn0e
        have hz : Hid (Below wr.heap.size wr wr) := Lib.hid (Below.refl _ _)
        have hB0 := Lib.hid (tr3 h0.out HB.out)
        have HPW := Lib.hid (kb HP.out HB.out)
        clear hfe hRF hsx hrow hn0e hst he1 hx
        go_wp2_with fail
        refine (CM2.out _).mono ?_
        rintro e w' ⟨rfl, rfl⟩
        go_wp2_with fail
        clear c0 hp1
        go_loopw [7] (fun i wq => ∃ j : Nat, i = .int .i64 (j : Int) ∧ j ≤ n0 ∧ Hid (insR l n j = 0) ∧ Hid (Below wr.heap.size wr wq)) (fun i _ => n0 - (intOf i).toNat)
        case atStart => exact ⟨0, rfl, by omega, Lib.hid rfl, hz⟩
        case round =>
          clear hz
          obtain ⟨j, rfl, hj, HJ, HB2⟩ := hrel
          by_cases hltj : j < n0
          · obtain ⟨bb, oo, rfl, hbl2, c0, c1, c2, c3⟩ := RV.four (HROW.out.below HB2.out) j hltj
            have hsx : insR l n (j + 1) = if ck4 (l.getD j d4) ≠ 0 then ck4 (l.getD j d4) else if ld4 (l.getD j d4) l.length n then 0 else 11 := by rw [insR, if_neg (by rw [HJ.out]; decide)]
            obtain ⟨⟨op, A, B, C⟩, hx⟩ : ∃ x, l.getD j d4 = x := ⟨_, rfl⟩
            rw [hx, HL0.out] at hsx
            rw [hx] at c0 c1 c2 c3
            obtain ⟨cc, hcc⟩ : ∃ cc, ck4 (op, A, B, C) = cc := ⟨_, rfl⟩
            rw [hcc] at hsx
            have CC := Lib.hid (fun w => rchk_of op A B C cc w hcc)
            have hplj : (j : Int) < (n0 : Int) := by omega
            by_cases hc0 : cc = 0
            · subst hc0
              obtain ⟨r1, r2⟩ := chkI_op hcc
              have hla : ld4 (op, A, B, C) n0 n = !away op A B n0 n := ld_away op A B C n0 n r1 r2
              rw [hla] at hsx
              have HSX2 := Lib.hid hsx
              clear hsx hx hcc hla
              go_wp2_with fail
              refine (CC.out _).mono ?_
              rintro e w5 ⟨rfl, hb5⟩
              have HB5 := Lib.hid (tr3 HB2.out hb5)
              replace c0 := (hb5.cell (p := ⟨bb, oo + j * 4, none⟩) hbl2).trans c0
              replace c1 := (hb5.cell (p := ⟨bb, oo + j * 4 + 1, none⟩) hbl2).trans c1
              replace c2 := (hb5.cell (p := ⟨bb, oo + j * 4 + 2, none⟩) hbl2).trans c2
              replace c3 := (hb5.cell (p := ⟨bb, oo + j * 4 + 3, none⟩) hbl2).trans c3
              have hp1 : w5.cell? ⟨w.heap.size, 1, none⟩ = some (.slice (some ⟨b, o, none⟩) n c) := cel (kb HPW.out HB5.out) 1
              clear hb5
              by_cases o18 : op = 18
              · subst o18
                by_cases hA : (n0 : Int) ≤ A
                · have hAd : decide ((n0 : Int) ≤ A) = true := by simpa using hA
                  have hi1 : insR l n (j + 1) = 11 := by rw [HSX2.out, if_neg (by simp), if_neg (by simp [away, hA])]
                  have hrv : r = 11 := HRJ.out 11 (j + 1) (by omega) hi1 (by decide)
                  subst hrv
                  go_wp2_with fail
                  go_quiet (fail)
                  obtain ⟨W9, hW9⟩ : ∃ W9, w5.drewN nq = W9 := ⟨_, rfl⟩
                  have hb9 : Below w5.heap.size w5 W9 := by rw [← hW9]; exact below_drewN (Below.refl _ _) nq
                  rw [hW9]
                  go_wp2_with fail
                  go_ret
                  exact ⟨rfl, tr3 hB0.out (tr3 HB5.out hb9)⟩
                · have hAd : decide ((n0 : Int) ≤ A) = false := by simpa using hA
                  have HI1 : Hid (insR l n (j + 1) = 0) := Lib.hid (by rw [HSX2.out, if_neg (by simp), if_pos (by simp [away, hA])])
                  go_wp2_with fail
                  go_quiet (fail)
                  obtain ⟨W9, hW9⟩ : ∃ W9, w5.drewN nq = W9 := ⟨_, rfl⟩
                  have hb9 : Below w5.heap.size w5 W9 := by rw [← hW9]; exact below_drewN (Below.refl _ _) nq
                  rw [hW9]
                  have HB9 := Lib.hid (tr3 HB5.out hb9)
                  clear hW9 hb9
                  go_wp2_with fail
                  go_roundw
                  case rel => exact ⟨j + 1, by go_num, by omega, HI1, HB9⟩
                  case measure => simp [intOf]; omega
              · have o18b : (op == 18) = false := by simpa using o18
                by_cases o19 : op = 19
                · subst o19
                  by_cases hA : (n0 : Int) ≤ B
                  · have hAd : decide ((n0 : Int) ≤ B) = true := by simpa using hA
                    have hi1 : insR l n (j + 1) = 11 := by rw [HSX2.out, if_neg (by simp), if_neg (by simp [away, hA])]
                    have hrv : r = 11 := HRJ.out 11 (j + 1) (by omega) hi1 (by decide)
                    subst hrv
                    go_wp2_with fail
                    go_quiet (fail)
                    obtain ⟨W9, hW9⟩ : ∃ W9, w5.drewN nq = W9 := ⟨_, rfl⟩
                    have hb9 : Below w5.heap.size w5 W9 := by rw [← hW9]; exact below_drewN (Below.refl _ _) nq
                    rw [hW9]
                    go_wp2_with fail
                    go_ret
                    exact ⟨rfl, tr3 hB0.out (tr3 HB5.out hb9)⟩
                  · have hAd : decide ((n0 : Int) ≤ B) = false := by simpa using hA
                    have HI1 : Hid (insR l n (j + 1) = 0) := Lib.hid (by rw [HSX2.out, if_neg (by simp), if_pos (by simp [away, hA])])
                    go_wp2_with fail
                    go_quiet (fail)
                    obtain ⟨W9, hW9⟩ : ∃ W9, w5.drewN nq = W9 := ⟨_, rfl⟩
                    have hb9 : Below w5.heap.size w5 W9 := by rw [← hW9]; exact below_drewN (Below.refl _ _) nq
                    rw [hW9]
                    have HB9 := Lib.hid (tr3 HB5.out hb9)
                    clear hW9 hb9
                    go_wp2_with fail
                    go_roundw
                    case rel => exact ⟨j + 1, by go_num, by omega, HI1, HB9⟩
                    case measure => simp [intOf]; omega
                · have o19b : (op == 19) = false := by simpa using o19
                  by_cases o20 : op = 20
                  · subst o20
                    by_cases hA : (n : Int) ≤ A
                    · have hAd : decide ((n : Int) ≤ A) = true := by simpa using hA
                      have hi1 : insR l n (j + 1) = 11 := by rw [HSX2.out, if_neg (by simp), if_neg (by simp [away, hA])]
                      have hrv : r = 11 := HRJ.out 11 (j + 1) (by omega) hi1 (by decide)
                      subst hrv
                      go_wp2_with fail
                      go_quiet (fail)
                      obtain ⟨W9, hW9⟩ : ∃ W9, w5.drewN nq = W9 := ⟨_, rfl⟩
                      have hb9 : Below w5.heap.size w5 W9 := by rw [← hW9]; exact below_drewN (Below.refl _ _) nq
                      rw [hW9]
                      go_wp2_with fail
                      go_ret
                      exact ⟨rfl, tr3 hB0.out (tr3 HB5.out hb9)⟩
                    · have hAd : decide ((n : Int) ≤ A) = false := by simpa using hA
                      have HI1 : Hid (insR l n (j + 1) = 0) := Lib.hid (by rw [HSX2.out, if_neg (by simp), if_pos (by simp [away, hA])])
                      go_wp2_with fail
                      go_quiet (fail)
                      obtain ⟨W9, hW9⟩ : ∃ W9, w5.drewN nq = W9 := ⟨_, rfl⟩
                      have hb9 : Below w5.heap.size w5 W9 := by rw [← hW9]; exact below_drewN (Below.refl _ _) nq
                      rw [hW9]
                      have HB9 := Lib.hid (tr3 HB5.out hb9)
                      clear hW9 hb9
                      go_wp2_with fail
                      go_roundw
                      case rel => exact ⟨j + 1, by go_num, by omega, HI1, HB9⟩
                      case measure => simp [intOf]; omega
                  · have o20b : (op == 20) = false := by simpa using o20
                    by_cases o22 : op = 22
                    · subst o22
                      by_cases hA : (n : Int) ≤ A
                      · have hAd : decide ((n : Int) ≤ A) = true := by simpa using hA
                        have hi1 : insR l n (j + 1) = 11 := by rw [HSX2.out, if_neg (by simp), if_neg (by simp [away, hA])]
                        have hrv : r = 11 := HRJ.out 11 (j + 1) (by omega) hi1 (by decide)
                        subst hrv
                        go_wp2_with fail
                        go_quiet (fail)
                        obtain ⟨W9, hW9⟩ : ∃ W9, w5.drewN nq = W9 := ⟨_, rfl⟩
                        have hb9 : Below w5.heap.size w5 W9 := by rw [← hW9]; exact below_drewN (Below.refl _ _) nq
                        rw [hW9]
                        go_wp2_with fail
                        go_ret
                        exact ⟨rfl, tr3 hB0.out (tr3 HB5.out hb9)⟩
                      · have hAd : decide ((n : Int) ≤ A) = false := by simpa using hA
                        have HI1 : Hid (insR l n (j + 1) = 0) := Lib.hid (by rw [HSX2.out, if_neg (by simp), if_pos (by simp [away, hA])])
                        go_wp2_with fail
                        go_quiet (fail)
                        obtain ⟨W9, hW9⟩ : ∃ W9, w5.drewN nq = W9 := ⟨_, rfl⟩
                        have hb9 : Below w5.heap.size w5 W9 := by rw [← hW9]; exact below_drewN (Below.refl _ _) nq
                        rw [hW9]
                        have HB9 := Lib.hid (tr3 HB5.out hb9)
                        clear hW9 hb9
                        go_wp2_with fail
                        go_roundw
                        case rel => exact ⟨j + 1, by go_num, by omega, HI1, HB9⟩
                        case measure => simp [intOf]; omega
                    · have o22b : (op == 22) = false := by simpa using o22
                      have HI1 : Hid (insR l n (j + 1) = 0) := Lib.hid (by rw [HSX2.out, if_neg (by simp), if_pos (by simp [away, o18, o19, o20, o22])])
                      go_wp2_with fail
                      go_quiet (fail)
                      obtain ⟨W9, hW9⟩ : ∃ W9, w5.drewN nq = W9 := ⟨_, rfl⟩
                      have hb9 : Below w5.heap.size w5 W9 := by rw [← hW9]; exact below_drewN (Below.refl _ _) nq
                      rw [hW9]
                      have HB9 := Lib.hid (tr3 HB5.out hb9)
                      clear hW9 hb9
                      go_wp2_with fail
                      go_roundw
                      case rel => exact ⟨j + 1, by go_num, by omega, HI1, HB9⟩
                      case measure => simp [intOf]; omega
            · have hcb : (cc == 0) = false := by simpa using hc0
              have hcn : (cc != 0) = true := by simpa using hc0
              have hi1 : insR l n (j + 1) = cc := by rw [hsx, if_pos hc0]
              have hrv : r = cc := HRJ.out cc (j + 1) (by omega) hi1 hc0
              subst hrv
              clear hsx hx hcc
              go_wp2_with fail
              refine (CC.out _).mono ?_
              rintro e w5 ⟨rfl, hb5⟩
              have HB5 := Lib.hid (tr3 HB2.out hb5)
              clear hb5 c0 c1 c2 c3
              go_wp2_with fail
              go_ret
              exact ⟨rfl, tr3 hB0.out HB5.out⟩
          · obtain rfl : j = n0 := by omega
            obtain ⟨bb, oo, rfl, hbl2, c0, c1, c2, c3⟩ := RV.four (HROW.out.below HB2.out) (j - 1) (by omega)
            obtain ⟨⟨op, A, B, C⟩, hx⟩ : ∃ x, l.getD (j - 1) d4 = x := ⟨_, rfl⟩
            have hfe := HFE.out
            rw [hx] at c0 hfe
            rw [if_neg (by rw [HJ.out]; decide)] at hfe
            have hkj0 : (j : Int) - 1 = ((j - 1 : Nat) : Int) := by omega
            obtain ⟨jj, hjj⟩ : ∃ jj, j - 1 = jj := ⟨_, rfl⟩
            rw [hjj] at c0 hkj0
            have hwr2 : wrap64 ((j : Int) - 1) = (jj : Int) := by unfold wrap64; omega
            have hjk : (jj : Int) < (j : Int) := by omega
            clear c1 c2 c3 hx
            unfold okEnd at hfe
            have HB3 := Lib.hid (tr3 HB.out HB2.out)
            by_cases hok : op = 0 ∨ op = 18 ∨ op = 25
            · have hf0 : fnE l n = 0 := by rw [hfe, if_pos (by simpa [or_assoc] using hok)]
              have HI1 : Hid (fnR L (k + 1) = 0) := Lib.hid (by rw [HSX.out, hf0])
              clear hfe hf0
              rcases hok with rfl | rfl | rfl <;>
              · go_wp2_with fail
                go_roundw
                case rel => exact ⟨k + 1, by go_num, by omega, HI1, HB3⟩
                case measure => simp [intOf]; omega
            · have o0b : (op == 0) = false := by simp; omega
              have o1b : (op == 18) = false := by simp; omega
              have o2b : (op == 25) = false := by simp; omega
              have o0n : (op != 0) = true := by simp; omega
              have o1n : (op != 18) = true := by simp; omega
              have o2n : (op != 25) = true := by simp; omega
              have hf0 : fnE l n = 12 := by rw [hfe, if_neg (by simpa [or_assoc] using hok)]
              have : r = 12 := by rw [HRF.out (by rw [hf0]; decide), hf0]
              subst this
              clear hfe hf0
              go_wp2_with fail
              go_ret
              exact ⟨rfl, tr3 h0.out HB3.out⟩
      · have h1b : (e1 == 0) = false := by simpa using h1
        have h1n : (e1 != 0) = true := by simpa using h1
        have hf0 : fnE l n = e1 := by unfold fnE; rw [hn0e, he1, if_pos h1]
        have : r = e1 := by rw [hRF (by rw [hf0]; exact h1), hf0]
        subst this
        have hB0 := Lib.hid (tr3 h0.out HB.out)
        clear hRF hsx hrow hn0e hst he1 hx hf0
        go_wp2_with fail
        refine (CM2.out _).mono ?_
        rintro e w' ⟨rfl, rfl⟩
        go_wp2_with fail
        go_ret
        exact ⟨rfl, hB0.out⟩
    · obtain rfl : k = n := by omega
      have : r = 0 := by rw [← HRR.out, HI.out]
      subst this
      go_wp2_with fail
      go_ret
      exact ⟨rfl, tr3 h0.out HB.out⟩
set_option maxRecDepth 20000 in
set_option maxHeartbeats 800000 in
theorem rcheck_v (m : Int) (a : Option Addr) (n c : Nat) (L : List (List I4)) (w : World) (h : PM w (.slice a n c) L) :
    Calls Try.prog 22 #[.agg #[.int .i64 m, .slice a n c]] w fun e w' => e = .returned (.int .i64 (prE m L)) ∧ Below w.heap.size w w' := by
  obtain ⟨hnl, hnc, hcm⟩ := h.len
  by_cases hc : cntE m n = 0
  · have hp : prE m L = fnR L n := by unfold prE; rw [← hnl, if_neg (by rw [hc]; simp)]
    rw [hp]
    exact rcheck_ok m a n c L _ w h hc rfl
  · have hp : prE m L = cntE m n := by unfold prE; rw [← hnl, if_pos hc]
    obtain ⟨r, hr⟩ : ∃ r, cntE m n = r := ⟨_, rfl⟩
    rw [hp, hr]
    rw [hr] at hc
    obtain ⟨W, hW⟩ : ∃ W, w.alloc (.cells #[.int .i64 m, .slice a n c] 38) = W := ⟨_, rfl⟩
    have hb0 : Below w.heap.size w W := by rw [← hW]; go_grown
    have HP := Lib.hid (show W.heap[w.heap.size]? = some (.cells #[.int .i64 m, .slice a n c] 38 (0, 0)) by rw [← hW]; exact heap_new _ _ _)
    have hp0 : W.cell? ⟨w.heap.size, 0, none⟩ = some (.int .i64 m) := cel HP.out 0
    have hp1 : W.cell? ⟨w.heap.size, 1, none⟩ = some (.slice a n c) := cel HP.out 1
    have HW := Lib.hid hW
    have HB := Lib.hid hb0
    rw [← mn_cnt] at hr
    clear h hp hW hb0
    by_cases h1 : m < 0
    · rw [if_pos (.inl h1)] at hr
      subst hr
      clear hp0 hp1 hcm hnl
      go_enter Try.func22, Try.ntmps22
      go_wp2_with fail
      rw [HW.out]
      have hp0 : W.cell? ⟨w.heap.size, 0, none⟩ = some (.int .i64 m) := cel HP.out 0
      go_wp2_with fail
      go_ret
      exact ⟨rfl, tr3 HB.out (by go_grown)⟩
    · by_cases h2 : 256 < m
      · rw [if_pos (.inr h2)] at hr
        subst hr
        clear hp0 hp1 hcm hnl
        go_enter Try.func22, Try.ntmps22
        go_wp2_with fail
        rw [HW.out]
        have hp0 : W.cell? ⟨w.heap.size, 0, none⟩ = some (.int .i64 m) := cel HP.out 0
        go_wp2_with fail
        go_ret
        exact ⟨rfl, tr3 HB.out (by go_grown)⟩
      · rw [if_neg (by omega)] at hr
        have CM := Lib.hid (fun w => many_v n 16 r w hr)
        have hrb : (r == 0) = false := by simpa using hc
        have hrn : (r != 0) = true := by simpa using hc
        clear hp0 hp1 hcm hnl hr
        go_enter Try.func22, Try.ntmps22
        go_wp2_with fail
        rw [HW.out]
        have hp0 : W.cell? ⟨w.heap.size, 0, none⟩ = some (.int .i64 m) := cel HP.out 0
        have hp1 : W.cell? ⟨w.heap.size, 1, none⟩ = some (.slice a n c) := cel HP.out 1
        go_wp2_with fail
        refine (CM.out _).mono ?_
        rintro e w' ⟨rfl, rfl⟩
        clear hp0 hp1
        go_wp2_with fail
        go_ret
        exact ⟨rfl, tr3 HB.out (by go_grown)⟩
end Go.Proofs.Ytdneblbaofhehaa.pr
