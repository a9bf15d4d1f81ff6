/- What lies ahead of each: asked (layer 31). -/
import Derived.Test.YtciojgkgfhpaaaaRhE
namespace Go.Proofs.Ytciojgkgfhpaaaa.rh
open Go.ChangeShapes Go.WideShapes Go.ChangeAt Go.RowKit
set_option linter.unusedVariables false
set_option linter.unusedSimpArgs false
theorem len_of (R S n : Nat) (L : List (List Int)) (w : World) (h : RO w R S n L) : Calls Try.prog 14 #[.pointer (some ⟨R, 0, none⟩)] w fun e w' => e = .returned (.int .i64 (n : Int)) ∧ w = w' := by
  have hc := h.cell
  clear h
  go_enter Try.func14, Try.ntmps14
  go_wp2_with fail
  go_ret
  exact ⟨rfl, rfl⟩
theorem len_nil (w : World) : Calls Try.prog 14 #[.pointer none] w fun e w' => e = .returned (.int .i64 0) ∧ w = w' := by
  go_enter Try.func14, Try.ntmps14
  go_wp2_with fail
  go_ret
  exact ⟨rfl, rfl⟩
def inB (x : Int) (n : Nat) : Bool := decide (0 ≤ x ∧ x < (n : Int))
theorem is_of (R S n : Nat) (L : List (List Int)) (x : Int) (v : Bool) (w : World) (h : RO w R S n L) (hv : inB x n = v) : Calls Try.prog 25 #[.pointer (some ⟨R, 0, none⟩), .int .i64 x] w fun e w' => e = .returned (.bool v) ∧ w = w' := by
  have C := Lib.hid (len_of R S n L w h)
  clear h
  unfold inB at hv
  by_cases h1 : 0 ≤ x
  · by_cases h2 : x < (n : Int)
    · obtain rfl : v = true := by rw [← hv]; simp; omega
      clear hv
      go_enter Try.func25, Try.ntmps25
      go_wp2_with (first | (go_at_call 14; (with_reducible refine C.out.mono ?_); rintro e w1 ⟨rfl, rfl⟩))
      go_ret
      exact ⟨rfl, rfl⟩
    · obtain rfl : v = false := by rw [← hv]; simp; omega
      have hd : decide (x < (n : Int)) = false := by simpa using h2
      clear hv
      go_enter Try.func25, Try.ntmps25
      go_wp2_with (first | (go_at_call 14; (with_reducible refine C.out.mono ?_); rintro e w1 ⟨rfl, rfl⟩))
      go_ret
      exact ⟨rfl, rfl⟩
  · obtain rfl : v = false := by rw [← hv]; simp; omega
    clear hv C
    go_enter Try.func25, Try.ntmps25
    go_wp2_with fail
    go_ret
    exact ⟨rfl, rfl⟩
theorem is_nil (x : Nat) (w : World) : Calls Try.prog 25 #[.pointer none, .int .i64 (x : Int)] w fun e w' => e = .returned (.bool false) ∧ w = w' := by
  have C := Lib.hid (len_nil w)
  have h1 : (0 : Int) ≤ (x : Int) := by omega
  have h2 : ¬ (x : Int) < 0 := by omega
  go_enter Try.func25, Try.ntmps25
  go_wp2_with (first | (go_at_call 14; (with_reducible refine C.out.mono ?_); rintro e w1 ⟨rfl, rfl⟩))
  go_ret
  exact ⟨rfl, rfl⟩
/-- is a thing ahead of another one, of those that there are? -/
noncomputable def bfB (L : List (List Int)) (n : Nat) (a b : Int) : Bool := inB a n && inB b n && pB L a.toNat b.toNat
theorem before_of (R S n : Nat) (L : List (List Int)) (a b : Int) (v : Bool) (w : World) (h : RO w R S n L) (hn : n ≤ 1000) (hv : bfB L n a b = v) : Calls Try.prog 15 #[.pointer (some ⟨R, 0, none⟩), .int .i64 a, .int .i64 b] w fun e w' => e = .returned (.bool v) ∧ w = w' := by
  unfold bfB at hv
  cases ha : inB a n with
  | false =>
    have Ca := Lib.hid (is_of R S n L a false w h ha)
    obtain rfl : v = false := by rw [← hv, ha]; rfl
    clear hv h ha
    go_enter Try.func15, Try.ntmps15
    go_wp2_with (first | (go_at_call 25; (with_reducible refine Ca.out.mono ?_); rintro e w1 ⟨rfl, rfl⟩))
    go_ret
    exact ⟨rfl, rfl⟩
  | true =>
    have Ca := Lib.hid (is_of R S n L a true w h ha)
    cases hb : inB b n with
    | false =>
      have Cb := Lib.hid (is_of R S n L b false w h hb)
      obtain rfl : v = false := by rw [← hv, ha, hb]; rfl
      clear hv h ha hb
      go_enter Try.func15, Try.ntmps15
      go_wp2_with (first | (go_at_call 25; (with_reducible refine Ca.out.mono ?_); rintro e w1 ⟨rfl, rfl⟩) | (go_at_call 25; (with_reducible refine Cb.out.mono ?_); rintro e w1 ⟨rfl, rfl⟩))
      go_ret
      exact ⟨rfl, rfl⟩
    | true =>
      have Cb := Lib.hid (is_of R S n L b true w h hb)
      rw [ha, hb] at hv
      unfold inB at ha hb
      simp only [decide_eq_true_eq] at ha hb
      obtain ⟨x, rfl⟩ : ∃ x : Nat, a = (x : Int) := ⟨a.toNat, by omega⟩
      obtain ⟨y, rfl⟩ : ∃ y : Nat, b = (y : Int) := ⟨b.toNat, by omega⟩
      obtain ⟨q, r, hx, hr, hq⟩ : ∃ q r, x = 64 * q + r ∧ r < 64 ∧ q < 16 := ⟨x / 64, x % 64, by omega, by omega, by omega⟩
      have hc := h.cell
      obtain ⟨h1, f, h2, h3⟩ := h
      have hcc := h2.1.cell (i := y * 16 + q) (by omega)
      have hfb := h3 y q r (by omega) hq hr
      have Ch := Lib.hid (has_any S (y * 16) x q r (f (y * 16 + q)) w hx hr hq (h2.2 _) hcc)
      rw [hfb, ← hx] at Ch
      simp only [Int.toNat_natCast, Bool.true_and] at hv
      rw [hv] at Ch
      have hy1 : y < n := by omega
      have hy2 : (y : Int) < (n : Int) := by omega
      clear hv h1 h2 h3 hcc hfb hx ha hb
      go_enter Try.func15, Try.ntmps15
      go_wp2_with (first | (go_at_call 25; (with_reducible refine Ca.out.mono ?_); rintro e w1 ⟨rfl, rfl⟩) | (go_at_call 25; (with_reducible refine Cb.out.mono ?_); rintro e w1 ⟨rfl, rfl⟩) | (go_at_call 26; (with_reducible refine Ch.out.mono ?_); rintro e w1 ⟨rfl, rfl⟩))
      go_ret
      exact ⟨rfl, rfl⟩
theorem before_nil (a b : Nat) (w : World) : Calls Try.prog 15 #[.pointer none, .int .i64 (a : Int), .int .i64 (b : Int)] w fun e w' => e = .returned (.bool false) ∧ w = w' := by
  have Ca := Lib.hid (is_nil a w)
  go_enter Try.func15, Try.ntmps15
  go_wp2_with (first | (go_at_call 25; (with_reducible refine Ca.out.mono ?_); rintro e w1 ⟨rfl, rfl⟩))
  go_ret
  exact ⟨rfl, rfl⟩
noncomputable def apB (L : List (List Int)) (n : Nat) (a b : Int) : Bool := inB a n && inB b n && (a != b) && !bfB L n a b && !bfB L n b a
theorem apart_nil (a b : Nat) (w : World) : Calls Try.prog 16 #[.pointer none, .int .i64 (a : Int), .int .i64 (b : Int)] w fun e w' => e = .returned (.bool false) ∧ w = w' := by
  have Ca := Lib.hid (is_nil a w)
  go_enter Try.func16, Try.ntmps16
  go_wp2_with (first | (go_at_call 25; (with_reducible refine Ca.out.mono ?_); rintro e w1 ⟨rfl, rfl⟩))
  go_ret
  exact ⟨rfl, rfl⟩
theorem apart_of (R S n : Nat) (L : List (List Int)) (a b : Int) (v : Bool) (w : World) (h : RO w R S n L) (hn : n ≤ 1000) (hv : apB L n a b = v) : Calls Try.prog 16 #[.pointer (some ⟨R, 0, none⟩), .int .i64 a, .int .i64 b] w fun e w' => e = .returned (.bool v) ∧ w = w' := by
  unfold apB at hv
  have Ca := fun v hv => is_of R S n L a v w h hv
  have Cb := fun v hv => is_of R S n L b v w h hv
  have C1 := fun v hv => before_of R S n L a b v w h hn hv
  have C2 := fun v hv => before_of R S n L b a v w h hn hv
  clear h
  cases ha : inB a n <;> cases hb : inB b n <;> cases hab : (a != b) <;> cases h1 : bfB L n a b <;> cases h2 : bfB L n b a
  all_goals
    rw [ha, hb, hab, h1, h2] at hv
    replace Ca := Lib.hid (Ca _ ha)
    replace Cb := Lib.hid (Cb _ hb)
    replace C1 := Lib.hid (C1 _ h1)
    replace C2 := Lib.hid (C2 _ h2)
    subst hv
    clear ha hb h1 h2
    go_enter Try.func16, Try.ntmps16
    go_wp2_with (first | (go_at_call 25; (with_reducible refine Ca.out.mono ?_); rintro e w1 ⟨rfl, rfl⟩) | (go_at_call 25; (with_reducible refine Cb.out.mono ?_); rintro e w1 ⟨rfl, rfl⟩) | (go_at_call 15; (with_reducible refine C1.out.mono ?_); rintro e w1 ⟨rfl, rfl⟩) | (go_at_call 15; (with_reducible refine C2.out.mono ?_); rintro e w1 ⟨rfl, rfl⟩))
    go_ret
    exact ⟨rfl, rfl⟩
theorem ahead_nil (b : Nat) (w : World) : Calls Try.prog 17 #[.pointer none, .int .i64 (b : Int)] w fun e w' => e = .returned (.int .i64 0) ∧ w = w' := by
  have Ca := Lib.hid (is_nil b w)
  go_enter Try.func17, Try.ntmps17
  go_wp2_with (first | (go_at_call 25; (with_reducible refine Ca.out.mono ?_); rintro e w1 ⟨rfl, rfl⟩))
  go_ret
  exact ⟨rfl, rfl⟩
theorem ahead_out (R S n : Nat) (L : List (List Int)) (b : Int) (w : World) (h : RO w R S n L) (hb : inB b n = false) : Calls Try.prog 17 #[.pointer (some ⟨R, 0, none⟩), .int .i64 b] w fun e w' => e = .returned (.int .i64 0) ∧ w = w' := by
  have Ca := Lib.hid (is_of R S n L b false w h hb)
  clear h hb
  go_enter Try.func17, Try.ntmps17
  go_wp2_with (first | (go_at_call 25; (with_reducible refine Ca.out.mono ?_); rintro e w1 ⟨rfl, rfl⟩))
  go_ret
  exact ⟨rfl, rfl⟩
theorem ahead_of (R S n : Nat) (L : List (List Int)) (y c : Nat) (w : World) (h : RO w R S n L) (hv : Valid L) (hn : n ≤ 1000) (hy : y < n) (hc : cnt (fun x => pB L x y) n = c) : Calls Try.prog 17 #[.pointer (some ⟨R, 0, none⟩), .int .i64 (y : Int)] w fun e w' => e = .returned (.int .i64 (c : Int)) ∧ w = w' := by
  have Ca := Lib.hid (is_of R S n L y true w h (by unfold inB; simp; omega))
  have hcl := h.cell
  obtain ⟨h1, f, h2, h3⟩ := h
  have Cc := Lib.hid (count_of S 47 (n * 16) (y * 16) f w h2 (by omega))
  rw [tot_all hv h3 y hy hn, hc] at Cc
  have hy2 : (y : Int) < (n : Int) := by omega
  clear h1 h2 h3 hv hc
  go_enter Try.func17, Try.ntmps17
  go_wp2_with (first | (go_at_call 25; (with_reducible refine Ca.out.mono ?_); rintro e w1 ⟨rfl, rfl⟩) | (go_at_call 27; (with_reducible refine Cc.out.mono ?_); rintro e w1 ⟨rfl, rfl⟩))
  go_ret
  exact ⟨rfl, rfl⟩
end Go.Proofs.Ytciojgkgfhpaaaa.rh
