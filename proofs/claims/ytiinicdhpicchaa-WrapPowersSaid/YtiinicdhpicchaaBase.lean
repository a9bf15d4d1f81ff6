/- The contracts of the functions of layer 1 that the laws call. -/
import Derived.Test.YtiinicdhpicchaaRows
import Derived.Test.YtiinicdhpicchaaPlain
import Derived.WalkKit
import Derived.ProofKit
import Derived.OpenShut
import Derived.Below
import Derived.Lib.Hide
namespace Go.Proofs.Ytiinicdhpicchaa
open Go.ChangeShapes Go.WideShapes Go.ChangeAt Go.RowKit

theorem sum_any (x : Addr) (len cap : Nat) (zs : List Int) (w : World) (hl : zs.length = len) (hm : len ≤ maxLen)
    (hc : ∀ i, i < len → w.cell? (x.add i) = some (.int .i64 (zs.getD i 0))) :
    Calls Try.prog 12 #[.slice (some x) len cap] w fun e w' => e = .returned (.int .i64 (sumW zs)) ∧ w' = w := by
  unfold maxLen at hm
  have HL := Lib.hid hl; clear hl
  have HC := Lib.hid hc; clear hc
  go_enter Try.func12, Try.ntmps12
  go_wp2
  go_loop [3, 8] (fun s i => ∃ k : Nat, k ≤ len ∧ i = .int .i64 k ∧ s = .int .i64 (sumW (zs.take k))) (fun _ i => len - (intOf i).toNat)
  case atStart => exact ⟨0, Nat.zero_le _, rfl, rfl⟩
  case round =>
    obtain ⟨k, hk, rfl, rfl⟩ := hrel
    by_cases hlt : k < len
    · have hck := HC.out k hlt
      have HS : Hid (sumW (zs.take (k + 1)) = wrap64 (sumW (zs.take k) + zs.getD k 0)) := Lib.hid (by rw [take_snoc zs k (by rw [HL.out]; exact hlt), sumW_snoc])
      go_wp2
      go_round
      case rel => exact ⟨k + 1, by omega, by go_num, by rw [HS.out]; simp⟩
      case measure => simp [intOf]; omega
    · go_wp2
      go_ret
      exact ⟨by rw [List.take_of_length_le (by rw [HL.out]; omega)]; rfl, rfl⟩

theorem sum123 (w : World) : Calls Try.prog 12 #[.slice (some ⟨w.heap.size, 0, none⟩) 3 3] (w.alloc (.cells #[.int .i64 1, .int .i64 2, .int .i64 3] 3)) fun e w' => e = .returned (.int .i64 6) ∧ w' = w.alloc (.cells #[.int .i64 1, .int .i64 2, .int .i64 3] 3) := by
  have e : sumW [1, 2, 3] = 6 := by rw [sumW_eq]; simp; unfold wrap64; omega
  rw [← e]
  refine sum_any ⟨w.heap.size, 0, none⟩ 3 3 [1, 2, 3] _ rfl (by decide) ?_
  intro i hi
  match i, hi with
    | 0, _ => go_simp
    | 1, _ => go_simp
    | 2, _ => go_simp
theorem sum2 (n : Nat) (a b : Int) (w : World) (h0 : w.cell? ⟨n, 0, none⟩ = some (.int .i64 a)) (h1 : w.cell? ⟨n, 1, none⟩ = some (.int .i64 b)) : Calls Try.prog 12 #[.slice (some ⟨n, 0, none⟩) 2 2] w fun e w' => e = .returned (.int .i64 (wrap64 (a + b))) ∧ w' = w := by
  rw [← sumW_two]
  refine sum_any ⟨n, 0, none⟩ 2 2 [a, b] _ rfl (by decide) ?_
  intro i hi
  match i, hi with
    | 0, _ => exact h0
    | 1, _ => exact h1
theorem works_any (w : World) : Calls Try.prog 10 #[] w fun e w' => e = .returned (.bool true) ∧ Below w.heap.size w w' := by
  go_enter Try.func10, Try.ntmps10
  go_wp2_with (first | (go_at_call 12; refine (sum123 _).mono ?_; rintro e w' ⟨rfl, rfl⟩) | (go_at_call 8; go_in) | (go_at_call 11; go_in) | (go_at_call 14; go_in))
  go_ret
  exact ⟨rfl, (Below.refl _ _).alloc (Nat.le_refl _) _⟩
end Go.Proofs.Ytiinicdhpicchaa
