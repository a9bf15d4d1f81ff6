/- What is wrong with any program, as the document says it; a program with its functions doubled (layer 4). -/
import Derived.Test.YthllikmnlnakkaaPrU
import Derived.Test.YthllikmnlnakkaaPrR
import Derived.Test.YthllikmnlnakkaaPrP
namespace Go.Proofs.Ythllikmnlnakkaa.pr
open Go.ChangeShapes Go.WideShapes Go.ChangeAt Go.RowKit
open Go.Proofs.Ythllikmnlnakkaa.bin Go.Proofs.Ythllikmnlnakkaa.bits Go.Proofs.Ythllikmnlnakkaa.ins
set_option linter.unusedVariables false
set_option linter.unusedSimpArgs false
set_option maxRecDepth 20000 in
set_option maxHeartbeats 800000 in
theorem rcheck_v (m : Int) (a : Option Addr) (n c : Nat) (L : List (List I4)) (w : World) (h : PM w (.slice a n c) L) :
    Calls Try.prog 18 #[.agg #[.int .i64 m, .slice a n c]] w fun e w' => e = .returned (.int .i64 (prE m L)) ∧ Below w.heap.size w w' := by
  obtain ⟨hnl, hnc, hcm⟩ := h.len
  by_cases hc : cntE m n = 0
  · have hp : prE m L = fnR L n := by unfold prE; rw [← hnl, if_neg (by rw [hc]; simp)]
    rw [hp]
    exact rcheck_ok m a n c L _ w h hc rfl
  · have hp : prE m L = cntE m n := by unfold prE; rw [← hnl, if_pos hc]
    obtain ⟨r, hr⟩ : ∃ r, cntE m n = r := ⟨_, rfl⟩
    rw [hp, hr]
    rw [hr] at hc
    obtain ⟨W, hW⟩ : ∃ W, w.alloc (.cells #[.int .i64 m, .slice a n c] 24) = W := ⟨_, rfl⟩
    have hb0 : Below w.heap.size w W := by rw [← hW]; go_grown
    have HP := Lib.hid (show W.heap[w.heap.size]? = some (.cells #[.int .i64 m, .slice a n c] 24 (0, 0)) by rw [← hW]; exact heap_new _ _ _)
    have hp0 : W.cell? ⟨w.heap.size, 0, none⟩ = some (.int .i64 m) := cel HP.out 0
    have hp1 : W.cell? ⟨w.heap.size, 1, none⟩ = some (.slice a n c) := cel HP.out 1
    have HW := Lib.hid hW
    have HB := Lib.hid hb0
    rw [← mn_cnt] at hr
    clear h hp hW hb0
    by_cases h1 : m < 0
    · rw [if_pos (.inl h1)] at hr
      subst hr
      clear hp0 hp1 hcm hnl
      go_enter Try.func18, Try.ntmps18
      go_wp2_with fail
      rw [HW.out]
      have hp0 : W.cell? ⟨w.heap.size, 0, none⟩ = some (.int .i64 m) := cel HP.out 0
      go_wp2_with fail
      go_ret
      exact ⟨rfl, tr3 HB.out (by go_grown)⟩
    · by_cases h2 : 256 < m
      · rw [if_pos (.inr h2)] at hr
        subst hr
        clear hp0 hp1 hcm hnl
        go_enter Try.func18, Try.ntmps18
        go_wp2_with fail
        rw [HW.out]
        have hp0 : W.cell? ⟨w.heap.size, 0, none⟩ = some (.int .i64 m) := cel HP.out 0
        go_wp2_with fail
        go_ret
        exact ⟨rfl, tr3 HB.out (by go_grown)⟩
      · rw [if_neg (by omega)] at hr
        have CM := Lib.hid (fun w => many_v n 16 r w hr)
        have hrb : (r == 0) = false := by simpa using hc
        have hrn : (r != 0) = true := by simpa using hc
        clear hp0 hp1 hcm hnl hr
        go_enter Try.func18, Try.ntmps18
        go_wp2_with fail
        rw [HW.out]
        have hp0 : W.cell? ⟨w.heap.size, 0, none⟩ = some (.int .i64 m) := cel HP.out 0
        have hp1 : W.cell? ⟨w.heap.size, 1, none⟩ = some (.slice a n c) := cel HP.out 1
        go_wp2_with fail
        refine (CM.out _).mono ?_
        rintro e w' ⟨rfl, rfl⟩
        clear hp0 hp1
        go_wp2_with fail
        go_ret
        exact ⟨rfl, tr3 HB.out (by go_grown)⟩
end Go.Proofs.Ythllikmnlnakkaa.pr
