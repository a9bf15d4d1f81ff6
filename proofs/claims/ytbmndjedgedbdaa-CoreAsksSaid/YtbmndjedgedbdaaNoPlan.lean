/- The contracts of Check for plans that may not be (layer 11). -/
import Derived.Test.YtbmndjedgedbdaaLayout
import Derived.Deep.RegionHeld3
namespace Go.Proofs.Ytbmndjedgedbdaa
open Go.ChangeShapes Go.WideShapes Go.ChangeAt Go.RowKit
set_option linter.unusedVariables false
set_option linter.unusedSimpArgs false
def cl (x lo hi : Int) : Int := if x < lo then lo else if hi < x then hi else x
theorem cl_cases (x lo hi : Int) (h : lo ≤ hi) : (x < lo ∧ cl x lo hi = lo) ∨ (hi < x ∧ lo ≤ x ∧ cl x lo hi = hi) ∨ (lo ≤ x ∧ x ≤ hi ∧ cl x lo hi = x) := by
  unfold cl
  by_cases h1 : x < lo
  · exact .inl ⟨h1, if_pos h1⟩
  · by_cases h2 : hi < x
    · exact .inr (.inl ⟨h2, by omega, by rw [if_neg h1, if_pos h2]⟩)
    · exact .inr (.inr ⟨by omega, by omega, by rw [if_neg h1, if_neg h2]⟩)
theorem plan_cl (a b c d m1 m2 m3 m4 v1 v2 v3 v4 : Int) (w : World) (h1 : (if a < 1 then (1 : Int) else a) = m1) (k1 : (if 64 < m1 then (64 : Int) else m1) = v1) (h2 : (if b < 1 then (1 : Int) else b) = m2) (k2 : (if 256 < m2 then (256 : Int) else m2) = v2) (h3 : (if c < 1 then (1 : Int) else c) = m3) (k3 : (if 64 < m3 then (64 : Int) else m3) = v3) (h4 : (if d < 2 then (2 : Int) else d) = m4) (k4 : (if 256 < m4 then (256 : Int) else m4) = v4) :
    Calls Try.prog 64 #[.agg #[.int .i64 a, .int .i64 b, .int .i64 c, .int .i64 d]] w fun e w' => e = .returned (.agg #[.int .i64 v1, .int .i64 v2, .int .i64 v3, .int .i64 v4]) ∧ Below w.heap.size w w' := by
  go_enter Try.func64, Try.ntmps64
  go_wp2_with fail
  exact bodyPost_ret (v := .agg #[.int .i64 v1, .int .i64 v2, .int .i64 v3, .int .i64 v4]) (by simp [results, Try.results64, go_sem]) rfl ⟨rfl, by go_grown⟩
theorem plan_neq_no (a b c d v1 v2 v3 v4 : Int) (w : World) (h : ¬ (a = v1 ∧ b = v2 ∧ c = v3 ∧ d = v4)) : (binOp .neq 37 (.agg #[.int .i64 a, .int .i64 b, .int .i64 c, .int .i64 d]) (.agg #[.int .i64 v1, .int .i64 v2, .int .i64 v3, .int .i64 v4])).run Try.prog w = .ok (.bool true) w := by
  have h : (Op.equalIn 10000 37 (.agg #[.int .i64 a, .int .i64 b, .int .i64 c, .int .i64 d]) (.agg #[.int .i64 v1, .int .i64 v2, .int .i64 v3, .int .i64 v4])).run Try.prog w = .ok false w := by
    rw [show (10000 : Nat) = 9999 + 1 from rfl, run_equalIn_struct w 9999 37 _ _ (by kernel_rfl) (by kernel_rfl)]
    by_cases e1 : a = v1
    · by_cases e2 : b = v2
      · by_cases e3 : c = v3
        · have e4 : ¬ d = v4 := fun e4 => h ⟨e1, e2, e3, e4⟩
          simp [go_sem, Try.underlying37, e1, e2, e3, e4]
        · simp [go_sem, Try.underlying37, e1, e2, e3]
      · simp [go_sem, Try.underlying37, e1, e2]
    · simp [go_sem, Try.underlying37, e1]
  simp only [binOp]
  simp [Op.equal, Op.maxDepth, h]
theorem check_keep {w w' : World} {v0 v1 v2 v3 : Value} {t : Nat} (hb : Below (w.alloc (.cells #[v0, v1, v2, v3] t)).drew.heap.size (w.alloc (.cells #[v0, v1, v2, v3] t)).drew w') : w'.cell? ⟨w.heap.size, 0, none⟩ = some v0 ∧ w'.cell? ⟨w.heap.size, 1, none⟩ = some v1 ∧ w'.cell? ⟨w.heap.size, 2, none⟩ = some v2 ∧ w'.cell? ⟨w.heap.size, 3, none⟩ = some v3 ∧ Below w.heap.size w w' := by
  have h0 : Below w.heap.size w (w.alloc (.cells #[v0, v1, v2, v3] t)).drew := by go_grown
  have hl : w.heap.size < (w.alloc (.cells #[v0, v1, v2, v3] t)).drew.heap.size := by show w.heap.size < (w.heap.push _).size; simp
  exact ⟨(hb.cell (p := ⟨w.heap.size, 0, none⟩) hl).trans (by go_simp), (hb.cell (p := ⟨w.heap.size, 1, none⟩) hl).trans (by go_simp), (hb.cell (p := ⟨w.heap.size, 2, none⟩) hl).trans (by go_simp), (hb.cell (p := ⟨w.heap.size, 3, none⟩) hl).trans (by go_simp), h0.trans (hb.mono h0.size)⟩
theorem check_no (a b c d : Int) (w : World) (h : Hid (¬ Okay a b c d)) :
    Calls Try.prog 47 #[.agg #[.int .i64 a, .int .i64 b, .int .i64 c, .int .i64 d]] w fun e w' => e = .returned (.int .i64 3) ∧ Below w.heap.size w w' := by
  obtain ⟨m1, h1⟩ : ∃ m, (if a < 1 then (1 : Int) else a) = m := ⟨_, rfl⟩
  obtain ⟨v1, k1⟩ : ∃ m, (if 64 < m1 then (64 : Int) else m1) = m := ⟨_, rfl⟩
  obtain ⟨m2, h2⟩ : ∃ m, (if b < 1 then (1 : Int) else b) = m := ⟨_, rfl⟩
  obtain ⟨v2, k2⟩ : ∃ m, (if 256 < m2 then (256 : Int) else m2) = m := ⟨_, rfl⟩
  obtain ⟨m3, h3⟩ : ∃ m, (if c < 1 then (1 : Int) else c) = m := ⟨_, rfl⟩
  obtain ⟨v3, k3⟩ : ∃ m, (if 64 < m3 then (64 : Int) else m3) = m := ⟨_, rfl⟩
  obtain ⟨m4, h4⟩ : ∃ m, (if d < 2 then (2 : Int) else d) = m := ⟨_, rfl⟩
  obtain ⟨v4, k4⟩ : ∃ m, (if 256 < m4 then (256 : Int) else m4) = m := ⟨_, rfl⟩
  have hne : ¬ (a = v1 ∧ b = v2 ∧ c = v3 ∧ d = v4) := by
    rintro ⟨e1, e2, e3, e4⟩
    apply h.out
    unfold Okay
    split at h1 <;> split at h2 <;> split at h3 <;> split at h4 <;> split at k1 <;> split at k2 <;> split at k3 <;> split at k4 <;> omega
  have hq := fun w => plan_neq_no a b c d v1 v2 v3 v4 w hne
  have hc := fun w => plan_cl a b c d m1 m2 m3 m4 v1 v2 v3 v4 w h1 k1 h2 k2 h3 k3 h4 k4
  clear h1 k1 h2 k2 h3 k3 h4 k4 hne h
  go_enter Try.func47, Try.ntmps47
  go_wp2_with fail
  go_region_held3 (fun w' => w'.cell? ⟨w.heap.size, 0, none⟩ = some (.int .i64 a) ∧ w'.cell? ⟨w.heap.size, 1, none⟩ = some (.int .i64 b) ∧ w'.cell? ⟨w.heap.size, 2, none⟩ = some (.int .i64 c) ∧ w'.cell? ⟨w.heap.size, 3, none⟩ = some (.int .i64 d) ∧ Below w.heap.size w w') (first | (with_reducible assumption) | exact hkk | (refine ⟨?_, ?_, ?_, ?_, ?_⟩ <;> first | (go_grown; done) | (go_simp; done)))
    (first | (go_at_call 64; refine (hc _).mono ?_; rintro e w' ⟨rfl, hb⟩; have hkk := check_keep hb))
  go_wp2_with fail
  go_ret
  exact ⟨rfl, hkk.2.2.2.2⟩
end Go.Proofs.Ytbmndjedgedbdaa
