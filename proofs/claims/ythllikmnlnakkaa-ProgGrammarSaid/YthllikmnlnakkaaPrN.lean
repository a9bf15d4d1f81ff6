/- Is a program too much (layer 4). -/
import Derived.Test.YthllikmnlnakkaaPrM
namespace Go.Proofs.Ythllikmnlnakkaa.pr
open Go.ChangeShapes Go.WideShapes Go.ChangeAt Go.RowKit
open Go.Proofs.Ythllikmnlnakkaa.bin Go.Proofs.Ythllikmnlnakkaa.bits Go.Proofs.Ythllikmnlnakkaa.ins
set_option linter.unusedVariables false
set_option linter.unusedSimpArgs false
/-- no function among the first k is too long -/
def sm (L : List (List I4)) (k : Nat) : Prop := ∀ j, j < k → (L.getD j []).length ≤ 300
def Sm (L : List (List I4)) : Prop := L.length ≤ 40 ∧ sm L L.length
set_option maxRecDepth 20000 in
set_option maxHeartbeats 800000 in
theorem great_v (m : Int) (a : Option Addr) (n c : Nat) (L : List (List I4)) (w : World) (h : PM w (.slice a n c) L) :
    Calls Try.prog 9 #[.agg #[.int .i64 m, .slice a n c]] w fun e w' => (e = .returned (.bool true) ∨ (e = .returned (.bool false) ∧ Sm L)) ∧ Below w.heap.size w w' := by
  obtain ⟨hnl, hnc, hcm⟩ := h.len
  unfold maxLen at hcm
  have HR0 := Lib.hid h
  have HNL := Lib.hid hnl
  obtain ⟨W, hW⟩ : ∃ W, w.alloc (.cells #[.int .i64 m, .slice a n c] 24) = W := ⟨_, rfl⟩
  have hb0 : Below w.heap.size w W := by rw [← hW]; go_grown
  have HP := Lib.hid (show W.heap[w.heap.size]? = some (.cells #[.int .i64 m, .slice a n c] 24 (0, 0)) by rw [← hW]; exact heap_new _ _ _)
  have HW := Lib.hid hW
  have h0 : Hid (Below w.heap.size w W) := Lib.hid hb0
  have h00 : Hid (Below W.heap.size W W) := Lib.hid (Below.refl _ _)
  have hs1 : w.heap.size < W.heap.size := by rw [← hW]; simp
  have hz : Hid (sm L 0) := Lib.hid (fun j hj => absurd hj (by omega))
  have hp1 : W.cell? ⟨w.heap.size, 1, none⟩ = some (.slice a n c) := cel HP.out 1
  clear h hnl hW hb0
  by_cases h40 : 40 < n
  · have h40i : (40 : Int) < n := by omega
    go_enter Try.func9, Try.ntmps9
    go_wp2_with fail
    go_ret
    exact ⟨.inl rfl, by rw [HW.out]; exact h0.out⟩
  · have h40i : ¬ (40 : Int) < n := by omega
    go_enter Try.func9, Try.ntmps9
    go_wp2_with fail
    rw [HW.out]
    clear hp1
    go_loopw [3] (fun i wr => ∃ k : Nat, i = .int .i64 (k : Int) ∧ k ≤ n ∧ Hid (sm L k) ∧ wr = W) (fun i _ => n - (intOf i).toNat)
    case atStart => exact ⟨0, rfl, by omega, hz, rfl⟩
    case round =>
      clear hz
      obtain ⟨k, rfl, hk, HI, rfl⟩ := hrel
      have hp1 : wr.cell? ⟨w.heap.size, 1, none⟩ = some (.slice a n c) := cel HP.out 1
      by_cases hlt : k < n
      · obtain ⟨b, o, ai, ci, rfl, hbl, c0, hrow⟩ := (HR0.out.below h0.out).row k hlt
        obtain ⟨ln, hln⟩ : ∃ x, (L.getD k []).length = x := ⟨_, rfl⟩
        rw [hln] at c0
        have hplI : (k : Int) < (n : Int) := by omega
        clear hrow
        by_cases h300 : 300 < ln
        · have h300i : (300 : Int) < ln := by omega
          clear hln
          go_wp2_with fail
          go_ret
          exact ⟨.inl rfl, h0.out⟩
        · have h300i : ¬ (300 : Int) < ln := by omega
          have HI1 : Hid (sm L (k + 1)) := Lib.hid (fun j hj => by
            by_cases e : j = k
            · rw [e, hln]; omega
            · exact HI.out j (by omega))
          clear hln
          go_wp2_with fail
          go_roundw
          case rel => exact ⟨k + 1, by go_num, by omega, HI1, trivial⟩
          case measure => simp [intOf]; omega
      · obtain rfl : k = n := by omega
        go_wp2_with fail
        go_ret
        exact ⟨.inr ⟨rfl, by rw [← HNL.out]; omega, by rw [← HNL.out]; exact HI.out⟩, h0.out⟩
end Go.Proofs.Ythllikmnlnakkaa.pr
