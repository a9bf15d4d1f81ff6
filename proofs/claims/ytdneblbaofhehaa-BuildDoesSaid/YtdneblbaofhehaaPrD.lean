/- What is wrong with a program (layer 4). -/
import Derived.Test.YtdneblbaofhehaaPrC
namespace Go.Proofs.Ytdneblbaofhehaa.pr
open Go.ChangeShapes Go.WideShapes Go.ChangeAt Go.RowKit
open Go.Proofs.Ytdneblbaofhehaa.bin Go.Proofs.Ytdneblbaofhehaa.bits Go.Proofs.Ytdneblbaofhehaa.ins
set_option linter.unusedVariables false
set_option linter.unusedSimpArgs false
set_option maxRecDepth 20000 in
set_option maxHeartbeats 4000000 in
theorem check_v (m : Int) (a : Option Addr) (n c : Nat) (L : List (List I4)) (r : Int) (w : World) (h : PM w (.slice a n c) L) (hr : prE m L = r) :
    Calls Try.prog 20 #[.agg #[.int .i64 m, .slice a n c]] w fun e w' => e = .returned (.int .i64 r) ∧ Below w.heap.size w w' := by
  obtain ⟨hnl, hnc, hcm⟩ := h.len
  unfold maxLen at hcm
  have HR0 := Lib.hid h
  have HNL := Lib.hid hnl
  unfold prE at hr
  rw [← hnl] at hr
  obtain ⟨e1, he1⟩ : ∃ e, cntE m n = e := ⟨_, rfl⟩
  rw [he1] at hr
  have CL := Lib.hid (fun w => counts_v m n e1 w he1)
  obtain ⟨W, hW⟩ : ∃ W, w.alloc (.cells #[.int .i64 m, .slice a n c] 38) = W := ⟨_, rfl⟩
  have hb0 : Below w.heap.size w W := by rw [← hW]; go_grown
  have HP := Lib.hid (show W.heap[w.heap.size]? = some (.cells #[.int .i64 m, .slice a n c] 38 (0, 0)) by rw [← hW]; exact heap_new _ _ _)
  have hp0 : W.cell? ⟨w.heap.size, 0, none⟩ = some (.int .i64 m) := cel HP.out 0
  have hp1 : W.cell? ⟨w.heap.size, 1, none⟩ = some (.slice a n c) := cel HP.out 1
  have hs1 : w.heap.size < W.heap.size := by rw [← hW]; simp
  have HW := Lib.hid hW
  by_cases h1 : e1 = 0
  · subst h1
    rw [if_neg (by decide)] at hr
    have hn1 : n ≤ 16 := by
      unfold cntE at he1
      by_cases h0 : m < 0 ∨ 256 < m
      · rw [if_pos h0] at he1; omega
      · rw [if_neg h0] at he1
        by_cases h2 : n = 0
        · omega
        · rw [if_neg h2] at he1
          by_cases h3 : 16 < n
          · rw [if_pos h3] at he1; omega
          · omega
    have HRR := Lib.hid hr
    have h0 : Hid (Below w.heap.size w W) := Lib.hid hb0
    have h00 : Hid (Below W.heap.size W W) := Lib.hid (Below.refl _ _)
    clear h hnl hr he1 hW hb0
    go_enter Try.func20, Try.ntmps20
    go_wp2_with fail
    rw [HW.out]
    refine (CL.out _).mono ?_
    rintro e w' ⟨rfl, rfl⟩
    go_wp2_with fail
    clear hp0 hp1
    go_loopw [19] (fun i wr => ∃ k : Nat, i = .int .i64 (k : Int) ∧ k ≤ n ∧ Hid (fnR L k = 0) ∧ Hid (Below W.heap.size W wr)) (fun i _ => n - (intOf i).toNat)
    case atStart => exact ⟨0, rfl, by omega, Lib.hid rfl, h00⟩
    case round =>
      clear h00
      obtain ⟨k, rfl, hk, HI, HB⟩ := hrel
      by_cases hlt : k < n
      · obtain ⟨b, o, ai, ci, rfl, hbl, c0, hrow⟩ := (HR0.out.below (tr3 h0.out HB.out)).row k hlt
        obtain ⟨hp0, hp1⟩ : wr.cell? ⟨w.heap.size, 0, none⟩ = some (.int .i64 m) ∧ wr.cell? ⟨w.heap.size, 1, none⟩ = some (.slice (some ⟨b, o, none⟩) n c) := ⟨cel (kb HP.out HB.out) 0, cel (kb HP.out HB.out) 1⟩
        have hst := fnR_stay L (k + 1) n (by omega)
        have hsx : fnR L (k + 1) = fnE (L.getD k []) L.length := by rw [fnR, if_neg (by rw [HI.out]; decide)]
        rw [← HNL.out] at hsx
        obtain ⟨l, hx⟩ : ∃ x, L.getD k [] = x := ⟨_, rfl⟩
        rw [hx] at c0 hsx hrow
        obtain ⟨cc, hcc⟩ : ∃ cc, fnE l n = cc := ⟨_, rfl⟩
        rw [hcc] at hsx
        have CC := Lib.hid (fn_v ai l.length ci n l cc wr hrow (by omega) hcc)
        have HST := Lib.hid hst
        have HSX := Lib.hid hsx
        have hplI : (k : Int) < (n : Int) := by omega
        clear hst hsx hx hcc hrow
        go_wp2_with fail
        refine CC.out.mono ?_
        rintro e w5 ⟨rfl, hb5⟩
        have HB5 := Lib.hid (tr3 HB.out hb5)
        clear hb5 c0 hp0 hp1
        by_cases hc0 : cc = 0
        · subst hc0
          have HI1 : Hid (fnR L (k + 1) = 0) := Lib.hid (by rw [HSX.out])
          go_wp2_with fail
          go_roundw
          case rel => exact ⟨k + 1, by go_num, by omega, HI1, HB5⟩
          case measure => simp [intOf]; omega
        · have hcb : (cc == 0) = false := by simpa using hc0
          have hcn : (cc != 0) = true := by simpa using hc0
          have hi1 : fnR L (k + 1) = cc := HSX.out
          have hrv : r = cc := by
            have h2 := HST.out (by rw [hi1]; exact hc0)
            rw [hi1] at h2
            rw [← HRR.out, h2]
          subst hrv
          go_wp2_with fail
          go_ret
          exact ⟨rfl, tr3 h0.out HB5.out⟩
      · obtain rfl : k = n := by omega
        have : r = 0 := by rw [← HRR.out, HI.out]
        subst this
        go_wp2_with fail
        go_ret
        exact ⟨rfl, tr3 h0.out HB.out⟩
  · have h1b : (e1 == 0) = false := by simpa using h1
    have h1n : (e1 != 0) = true := by simpa using h1
    rw [if_pos h1] at hr
    subst hr
    clear h hnl he1 hW
    go_enter Try.func20, Try.ntmps20
    go_wp2_with fail
    rw [HW.out]
    refine (CL.out _).mono ?_
    rintro e w' ⟨rfl, rfl⟩
    go_wp2_with fail
    go_ret
    exact ⟨rfl, hb0⟩
end Go.Proofs.Ytdneblbaofhehaa.pr
