/- The contracts of the functions of layer 35 (bound): how many steps a run needs. -/
import Derived.Test.YtpcpohbbmeonbabKit
namespace Go.Proofs.Ytpcpohbbmeonbab
open Go.ChangeShapes Go.WideShapes Go.ChangeAt Go.RowKit
def hd (n a b : Int) : Int := if n < a then a else if b < n then b else n
theorem hd_bd (n a b : Int) (h : a ≤ b) : a ≤ hd n a b ∧ hd n a b ≤ b := by unfold hd; split <;> (try split) <;> omega
theorem held37 (n a b v : Int) (w : World) (hab : a < b) (hv : hd n a b = v) : Calls Try.prog 37 #[.int .i64 n, .int .i64 a, .int .i64 b] w fun e w' => e = .returned (.int .i64 v) ∧ w = w' := by
  unfold hd at hv
  by_cases h1 : n < a
  · rw [if_pos h1] at hv
    subst hv
    go_enter Try.func37, Try.ntmps37
    go_wp2
    go_ret
    exact ⟨rfl, rfl⟩
  · by_cases h2 : b < n
    · rw [if_neg h1, if_pos h2] at hv
      subst hv
      go_enter Try.func37, Try.ntmps37
      go_wp2
      go_ret
      exact ⟨rfl, rfl⟩
    · rw [if_neg h1, if_neg h2] at hv
      subst hv
      by_cases h3 : n = a
      · subst h3
        go_enter Try.func37, Try.ntmps37
        go_wp2
        all_goals (go_ret; exact ⟨rfl, rfl⟩)
      · by_cases h4 : n = b
        · subst h4
          go_enter Try.func37, Try.ntmps37
          go_wp2
          all_goals (go_ret; exact ⟨rfl, rfl⟩)
        · have h5 : a < n := by omega
          have h6 : n < b := by omega
          clear h1 h2 h3 h4
          go_enter Try.func37, Try.ntmps37
          go_wp2
          go_ret
          exact ⟨rfl, rfl⟩
theorem held38 (n a b v : Int) (w : World) (hv : hd n a b = v) : Calls Try.prog 38 #[.int .i64 n, .int .i64 a, .int .i64 b] w fun e w' => e = .returned (.int .i64 v) ∧ w = w' := by
  unfold hd at hv
  by_cases h1 : n < a
  · rw [if_pos h1] at hv
    subst hv
    go_enter Try.func38, Try.ntmps38
    go_wp2
    go_ret
    exact ⟨rfl, rfl⟩
  · by_cases h2 : b < n
    · rw [if_neg h1, if_pos h2] at hv
      subst hv
      go_enter Try.func38, Try.ntmps38
      go_wp2
      go_ret
      exact ⟨rfl, rfl⟩
    · rw [if_neg h1, if_neg h2] at hv
      subst hv
      go_enter Try.func38, Try.ntmps38
      go_wp2
      go_ret
      exact ⟨rfl, rfl⟩
end Go.Proofs.Ytpcpohbbmeonbab
