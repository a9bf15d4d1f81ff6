/- The document's side of layer 4: how many are too many. -/
import Derived.Test.YthllikmnlnakkaaPrR
namespace Go.Proofs.Ythllikmnlnakkaa.pr
open Go.ChangeShapes Go.WideShapes Go.ChangeAt Go.RowKit
open Go.Proofs.Ythllikmnlnakkaa.bin Go.Proofs.Ythllikmnlnakkaa.bits Go.Proofs.Ythllikmnlnakkaa.ins
set_option linter.unusedVariables false
set_option linter.unusedSimpArgs false
def mnE (n : Nat) (k : Int) : Int := if n = 0 then 7 else if k < n then 9 else 0
theorem many_v (n : Nat) (k : Int) (c : Int) (w : World) (h : mnE n k = c) : Calls Try.prog 29 #[.int .i64 (n : Int), .int .i64 k] w fun e w' => e = .returned (.int .i64 c) ∧ w = w' := by
  unfold mnE at h
  by_cases h3 : n = 0
  · rw [if_pos h3] at h
    subst h
    subst h3
    go_enter Try.func29, Try.ntmps29
    go_wp2_with fail
    go_ret
    exact ⟨rfl, rfl⟩
  · rw [if_neg h3] at h
    have h3b : ((n : Int) == 0) = false := by simp; omega
    by_cases h4 : k < n
    · rw [if_pos h4] at h
      subst h
      go_enter Try.func29, Try.ntmps29
      go_wp2_with fail
      go_ret
      exact ⟨rfl, rfl⟩
    · rw [if_neg h4] at h
      subst h
      go_enter Try.func29, Try.ntmps29
      go_wp2_with fail
      go_ret
      exact ⟨rfl, rfl⟩
theorem mn_len (n : Nat) : mnE n 200 = lenE n := by
  unfold mnE lenE
  by_cases h : n = 0
  · rw [if_pos h, if_pos h]
  · rw [if_neg h, if_neg h]
    by_cases h2 : 200 < n
    · rw [if_pos (by omega), if_pos h2]
    · rw [if_neg (by omega), if_neg h2]
theorem mn_cnt (m : Int) (n : Nat) : (if m < 0 ∨ 256 < m then 3 else mnE n 16) = cntE m n := by
  unfold mnE cntE
  by_cases h0 : m < 0 ∨ 256 < m
  · rw [if_pos h0, if_pos h0]
  · rw [if_neg h0, if_neg h0]
    by_cases h : n = 0
    · rw [if_pos h, if_pos h]
    · rw [if_neg h, if_neg h]
      by_cases h2 : 16 < n
      · rw [if_pos (by omega), if_pos h2]
      · rw [if_neg (by omega), if_neg h2]
end Go.Proofs.Ythllikmnlnakkaa.pr
