/- Which marks a frame can do; the stage ahead (layer 30). -/
import Derived.Test.YtgbaaemocnjaoaaSnD
namespace Go.Proofs.Ytgbaaemocnjaoaa.sn
open Go.ChangeShapes Go.WideShapes Go.ChangeAt Go.RowKit
open Go.Proofs.Ytgbaaemocnjaoaa.ro
attribute [local go_sem ↓] Go.wp_at_zero Go.wp_at_succ
set_option linter.unusedVariables false
set_option linter.unusedSimpArgs false
def canB (k a : Int) (f : Fm) : Bool :=
  if k = 9 then f.kd == 2 && a == f.bg
  else if k = 8 then f.kd == 2 && a == f.lp && decide (0 < f.bg)
  else if k = 5 then f.kd == 1
  else if k = 10 then f.kd == 3 && a == f.it
  else if k = 11 ∨ k = 12 then f.kd == 3 && decide (f.sg < a)
  else f.kd != 2
structure FC (w : World) (F : Nat) (f : Fm) : Prop where
  c0 : w.cell? ⟨F, 0, none⟩ = some (.int .i64 f.kd)
  c3 : w.cell? ⟨F, 3, none⟩ = some (.int .i64 f.lp)
  c4 : w.cell? ⟨F, 4, none⟩ = some (.int .i64 f.it)
  c5 : w.cell? ⟨F, 5, none⟩ = some (.int .i64 f.sg)
  c8 : w.cell? ⟨F, 8, none⟩ = some (.int .i64 f.bg)
theorem FC.of {w : World} {r : Ro} {i : Nat} {y : Fx} (h : FR w r i y) : FC w y.F y.f := ⟨cel h.o 0, cel h.o 3, cel h.o 4, cel h.o 5, cel h.o 8⟩
theorem bl {w : World} {r : Ro} (F : Nat) {v : Value} (h : w.cell? ⟨F, 0, none⟩ = some v) : F < w.heap.size := World.block_lt_of_cell? w _ h
set_option maxRecDepth 20000 in
theorem can_9 (F : Nat) (f : Fm) (a c : Int) (w : World) (h : FC w F f) :
    Calls Try.prog 17 #[.pointer (some ⟨F, 0, none⟩), .agg #[.int .i64 9, .int .i64 a, .int .i64 c]] w fun e w' => e = .returned (.bool (f.kd == 2 && a == f.bg)) ∧ Below w.heap.size w w' := by
  obtain ⟨c0, c3, c4, c5, c8⟩ := h
  have hF := World.block_lt_of_cell? w _ c0
  cases h1 : (f.kd == 2) <;> cases h2 : (a == f.bg)
  all_goals
    go_enter Try.func17, Try.ntmps17
    go_wp2_with fail
    go_quiet (fail)
    go_wp2_with fail
    go_ret
    exact ⟨rfl, by go_grown; all_goals exact below_drewN (by go_grown) _⟩
set_option maxRecDepth 20000 in
theorem can_8 (F : Nat) (f : Fm) (a c : Int) (w : World) (h : FC w F f) :
    Calls Try.prog 17 #[.pointer (some ⟨F, 0, none⟩), .agg #[.int .i64 8, .int .i64 a, .int .i64 c]] w fun e w' => e = .returned (.bool (f.kd == 2 && a == f.lp && decide (0 < f.bg))) ∧ Below w.heap.size w w' := by
  obtain ⟨c0, c3, c4, c5, c8⟩ := h
  have hF := World.block_lt_of_cell? w _ c0
  cases h1 : (f.kd == 2) <;> cases h2 : (a == f.lp) <;> cases h3 : decide (0 < f.bg)
  all_goals
    go_enter Try.func17, Try.ntmps17
    go_wp2_with fail
    go_quiet (fail)
    go_wp2_with fail
    go_ret
    exact ⟨rfl, by go_grown; all_goals exact below_drewN (by go_grown) _⟩
set_option maxRecDepth 20000 in
theorem can_5 (F : Nat) (f : Fm) (a c : Int) (w : World) (h : FC w F f) :
    Calls Try.prog 17 #[.pointer (some ⟨F, 0, none⟩), .agg #[.int .i64 5, .int .i64 a, .int .i64 c]] w fun e w' => e = .returned (.bool (f.kd == 1)) ∧ Below w.heap.size w w' := by
  obtain ⟨c0, c3, c4, c5, c8⟩ := h
  have hF := World.block_lt_of_cell? w _ c0
  go_enter Try.func17, Try.ntmps17
  go_wp2_with fail
  go_ret
  exact ⟨rfl, by go_grown⟩
set_option maxRecDepth 20000 in
theorem can_10 (F : Nat) (f : Fm) (a c : Int) (w : World) (h : FC w F f) :
    Calls Try.prog 17 #[.pointer (some ⟨F, 0, none⟩), .agg #[.int .i64 10, .int .i64 a, .int .i64 c]] w fun e w' => e = .returned (.bool (f.kd == 3 && a == f.it)) ∧ Below w.heap.size w w' := by
  obtain ⟨c0, c3, c4, c5, c8⟩ := h
  have hF := World.block_lt_of_cell? w _ c0
  cases h1 : (f.kd == 3) <;> cases h2 : (a == f.it)
  all_goals
    go_enter Try.func17, Try.ntmps17
    go_wp2_with fail
    go_quiet (fail)
    go_wp2_with fail
    go_ret
    exact ⟨rfl, by go_grown; all_goals exact below_drewN (by go_grown) _⟩
set_option maxRecDepth 20000 in
theorem can_w (F : Nat) (f : Fm) (k a c : Int) (w : World) (h : FC w F f) (hk : k = 11 ∨ k = 12) :
    Calls Try.prog 17 #[.pointer (some ⟨F, 0, none⟩), .agg #[.int .i64 k, .int .i64 a, .int .i64 c]] w fun e w' => e = .returned (.bool (f.kd == 3 && decide (f.sg < a))) ∧ Below w.heap.size w w' := by
  obtain ⟨c0, c3, c4, c5, c8⟩ := h
  have hF := World.block_lt_of_cell? w _ c0
  rcases hk with rfl | rfl <;> cases h1 : (f.kd == 3) <;> cases h2 : decide (f.sg < a)
  all_goals
    go_enter Try.func17, Try.ntmps17
    go_wp2_with fail
    go_quiet (fail)
    go_wp2_with fail
    go_ret
    exact ⟨rfl, by go_grown; all_goals exact below_drewN (by go_grown) _⟩
set_option maxRecDepth 20000 in
theorem can_o (F : Nat) (f : Fm) (k a c : Int) (w : World) (h : FC w F f) (k1 : (k == 9) = false) (k2 : (k == 8) = false) (k3 : (k == 5) = false) (k4 : (k == 10) = false) (k5 : (k == 11) = false) (k6 : (k == 12) = false) :
    Calls Try.prog 17 #[.pointer (some ⟨F, 0, none⟩), .agg #[.int .i64 k, .int .i64 a, .int .i64 c]] w fun e w' => e = .returned (.bool (f.kd != 2)) ∧ Below w.heap.size w w' := by
  obtain ⟨c0, c3, c4, c5, c8⟩ := h
  have hF := World.block_lt_of_cell? w _ c0
  go_enter Try.func17, Try.ntmps17
  go_wp2_with fail
  go_ret
  exact ⟨rfl, by go_grown⟩
theorem can_of (F : Nat) (f : Fm) (k a c : Int) (w : World) (h : FC w F f) :
    Calls Try.prog 17 #[.pointer (some ⟨F, 0, none⟩), .agg #[.int .i64 k, .int .i64 a, .int .i64 c]] w fun e w' => e = .returned (.bool (canB k a f)) ∧ Below w.heap.size w w' := by
  unfold canB
  by_cases e1 : k = 9
  · subst e1; rw [if_pos rfl]; exact can_9 F f a c w h
  rw [if_neg e1]
  by_cases e2 : k = 8
  · subst e2; rw [if_pos rfl]; exact can_8 F f a c w h
  rw [if_neg e2]
  by_cases e3 : k = 5
  · subst e3; rw [if_pos rfl]; exact can_5 F f a c w h
  rw [if_neg e3]
  by_cases e4 : k = 10
  · subst e4; rw [if_pos rfl]; exact can_10 F f a c w h
  rw [if_neg e4]
  by_cases e5 : k = 11 ∨ k = 12
  · rw [if_pos e5]; exact can_w F f k a c w h e5
  rw [if_neg e5]
  exact can_o F f k a c w h (by simpa using e1) (by simpa using e2) (by simpa using e3) (by simpa using e4) (by simp; omega) (by simp; omega)
def begB (k : Int) : Bool := decide (k = 4 ∨ k = 5 ∨ k = 6 ∨ k = 8 ∨ k = 9 ∨ k = 11 ∨ k = 12)
theorem begins_of (k : Int) (w : World) (h1 : 1 ≤ k) (h2 : k ≤ 12) :
    Calls Try.prog 18 #[.int .i64 k] w fun e w' => e = .returned (.bool (begB k)) ∧ w' = w := by
  have hk : k = 1 ∨ k = 2 ∨ k = 3 ∨ k = 4 ∨ k = 5 ∨ k = 6 ∨ k = 7 ∨ k = 8 ∨ k = 9 ∨ k = 10 ∨ k = 11 ∨ k = 12 := by omega
  rcases hk with rfl | rfl | rfl | rfl | rfl | rfl | rfl | rfl | rfl | rfl | rfl | rfl
  all_goals
    go_enter Try.func18, Try.ntmps18
    go_wp2_with fail
    go_ret
    exact ⟨rfl, rfl⟩
/-- the last strand of the last stage that is at most st. -/
def befL (st : Int) (l : List (Int × Int)) (n : Int) : Int := l.foldl (fun n p => if p.1 ≤ st then p.2 else n) n
def befP (l : List (Int × Int)) (st : Int) : Int := befL st l (l.getD 0 (0, 0)).2
theorem befL_snoc (st : Int) (l : List (Int × Int)) (p : Int × Int) (n : Int) : befL st (l ++ [p]) n = if p.1 ≤ st then p.2 else befL st l n := by
  unfold befL; rw [List.foldl_append]; rfl
theorem take_snoc {α : Type} (l : List α) (k : Nat) (d : α) (h : k < l.length) : l.take (k + 1) = l.take k ++ [l.getD k d] := by
  rw [List.take_succ_eq_append_getElem h, List.getD_eq_getElem?_getD, List.getElem?_eq_getElem h]; rfl
set_option maxRecDepth 20000 in
theorem before_of (w : World) (r : Ro) (F : Nat) (av : Value) (ah : List (Int × Int)) (st : Int) (h : w.cell? ⟨F, 7, none⟩ = some av) (ha : RD 2 enP w r 6 av ah) (hne : ah ≠ []) (hl : ah.length ≤ 100000) :
    Calls Try.prog 31 #[.pointer (some ⟨F, 0, none⟩), .int .i64 st] w fun e w' => e = .returned (.int .i64 (befP ah st)) ∧ Below w.heap.size w w' := by
  obtain ⟨a, cap, rfl, h1, h2, h3, h4⟩ := ha.o
  obtain ⟨x0, hx0⟩ : ∃ x, ah[0]? = some x := by cases ah with | nil => exact absurd rfl hne | cons x l => exact ⟨x, rfl⟩
  obtain ⟨g, o, rfl, hg, hc0⟩ := h4 0 x0 hx0
  have d1 : w.cell? ⟨g, o + 1, none⟩ = some (.int .i64 x0.2) := by simpa using hc0 1 _ rfl
  have HC : Hid (∀ j, j < ah.length → w.cell? ⟨g, o + j * 2, none⟩ = some (.int .i64 (ah.getD j (0, 0)).1) ∧ w.cell? ⟨g, o + j * 2 + 1, none⟩ = some (.int .i64 (ah.getD j (0, 0)).2)) := Lib.hid fun j hj => by
    obtain ⟨g2, o2, e, _, hc⟩ := h4 j (ah.getD j (0, 0)) (by rw [List.getD_eq_getElem?_getD, List.getElem?_eq_getElem hj]; rfl)
    simp only [Option.some.injEq, Addr.mk.injEq] at e
    obtain ⟨rfl, rfl, _⟩ := e
    exact ⟨by simpa using hc 0 _ rfl, by simpa [Nat.add_assoc] using hc 1 _ rfl⟩
  have hn : 0 < ah.length := by cases ah with | nil => exact absurd rfl hne | cons x l => simp
  have HB : Hid (befP ah st = befL st ah x0.2) := Lib.hid (by unfold befP; rw [List.getD_eq_getElem?_getD, hx0]; rfl)
  obtain ⟨n, hnl⟩ : ∃ n, ah.length = n := ⟨_, rfl⟩
  rw [hnl] at h h1 hn hl
  have HN := Lib.hid hnl
  have hFl := World.block_lt_of_cell? w _ h
  clear ha h4 hc0 hx0 hne h3 hnl
  go_enter Try.func31, Try.ntmps31
  go_wp2_with fail
  go_loopw [5, 7, 20] (fun q z i wr => ∃ k : Nat, k ≤ n ∧ i = .int .i64 (k : Int) ∧ q = .int .i64 (befL st (ah.take k) x0.2) ∧ Hid (Below w.heap.size w wr)) (fun _ _ i _ => n - (intOf i).toNat)
  case atStart => exact ⟨0, by omega, rfl, rfl, Lib.hid (Below.refl _ _)⟩
  case round =>
    obtain ⟨k, hk, rfl, rfl, HW⟩ := hrel
    by_cases hlt : k < n
    · obtain ⟨e0, e1⟩ := HC.out k (by rw [HN.out]; exact hlt)
      have e0' := (HW.out.cell (p := ⟨g, o + k * 2, none⟩) hg).trans e0
      have e1' := (HW.out.cell (p := ⟨g, o + k * 2 + 1, none⟩) hg).trans e1
      have HT : Hid (befL st (ah.take (k + 1)) x0.2 = if (ah.getD k (0, 0)).1 ≤ st then (ah.getD k (0, 0)).2 else befL st (ah.take k) x0.2) := Lib.hid (by rw [take_snoc ah k (0, 0) (by rw [HN.out]; exact hlt), befL_snoc])
      generalize ah.getD k (0, 0) = p at *
      generalize befL st (ah.take k) x0.2 = q at *
      have hb1 := Lib.hid (HW.out.trans ((show Below wr.heap.size wr (wr.alloc (.cells #[.int .i64 p.1, .int .i64 p.2] 77)) by go_grown).mono HW.out.size))
      clear e0 e1
      by_cases hp : p.1 ≤ st
      · go_wp2_with fail
        go_roundw
        case rel => exact ⟨k + 1, by omega, by go_num, by rw [HT.out, if_pos hp], hb1⟩
        case measure => simp [intOf]; omega
      · go_wp2_with fail
        go_roundw
        case rel => exact ⟨k + 1, by omega, by go_num, by rw [HT.out, if_neg hp], hb1⟩
        case measure => simp [intOf]; omega
    · obtain rfl : k = n := by omega
      rw [List.take_of_length_le (by rw [HN.out]; exact Nat.le_refl _), ← HB.out]
      go_wp2_with fail
      go_ret
      exact ⟨rfl, HW.out⟩
end Go.Proofs.Ytgbaaemocnjaoaa.sn
