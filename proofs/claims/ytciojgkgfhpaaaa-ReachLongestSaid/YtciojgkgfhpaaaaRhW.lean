/- What has to work at all (layer 31). -/
import Derived.Test.YtciojgkgfhpaaaaRhL
namespace Go.Proofs.Ytciojgkgfhpaaaa.rh
open Go.ChangeShapes Go.WideShapes Go.ChangeAt Go.RowKit
set_option linter.unusedVariables false
set_option linter.unusedSimpArgs false
def LL : List (List Int) := [[], [0], [0], [1, 2]]
def L2 : List (List Int) := [[], [0]]
def one0 : Obj := .cells #[.int .i64 0] 3
def two12 : Obj := .cells #[.int .i64 1, .int .i64 2] 3
def two01 : Obj := .cells #[.int .i64 0, .int .i64 1] 3
theorem view1 {w : World} {b : Nat} {x : Int} (h : w.heap[b]? = some (.cells #[.int .i64 x] 3)) : View w (.slice (some ⟨b, 0, none⟩) 1 1) [x] :=
  ⟨_, 1, rfl, ⟨Nat.le_refl _, by simp [maxLen]⟩, (fun h => by cases h), fun _ => ⟨b, 0, rfl, (Array.getElem?_eq_some_iff.1 h).1, Nat.le_refl _, fun i hi => by
    simp at hi
    subst hi
    simp [World.cell?, h]⟩⟩
theorem view2 {w : World} {b : Nat} {x y : Int} (h : w.heap[b]? = some (.cells #[.int .i64 x, .int .i64 y] 3)) : View w (.slice (some ⟨b, 0, none⟩) 2 2) [x, y] :=
  ⟨_, 2, rfl, ⟨Nat.le_refl _, by simp [maxLen]⟩, (fun h => by cases h), fun _ => ⟨b, 0, rfl, (Array.getElem?_eq_some_iff.1 h).1, Nat.le_refl _, fun i hi => by
    have : i = 0 ∨ i = 1 := by simp at hi; omega
    rcases this with rfl | rfl <;> simp [World.cell?, h]⟩⟩
def litW (w : World) : World := (((w.alloc (.cells #[.int .i64 0] 3)).alloc (.cells #[.int .i64 0] 3)).alloc (.cells #[.int .i64 1, .int .i64 2] 3)).alloc (.cells #[.slice none 0 0, .slice (some ⟨w.heap.size, 0, none⟩) 1 1, .slice (some ⟨w.heap.size + 1, 0, none⟩) 1 1, .slice (some ⟨w.heap.size + 1 + 1, 0, none⟩) 2 2] 41)
theorem lit_below (w : World) : Below w.heap.size w (litW w) := by unfold litW; go_grown
theorem lit_mv (w : World) : MV (litW w) (.slice (some ⟨w.heap.size + 1 + 1 + 1, 0, none⟩) 4 4) LL := by
  have h0 : (litW w).heap[w.heap.size]? = some (.cells #[.int .i64 0] 3) := by show ((((w.heap.push _).push _).push _).push _)[_]? = _; simp only [Array.getElem?_push, Array.size_push]; repeat (first | rw [if_neg (by omega)] | rw [if_pos (by omega)] | rw [if_pos trivial])
  have h1 : (litW w).heap[w.heap.size + 1]? = some (.cells #[.int .i64 0] 3) := by show ((((w.heap.push _).push _).push _).push _)[_]? = _; simp only [Array.getElem?_push, Array.size_push]; repeat (first | rw [if_neg (by omega)] | rw [if_pos (by omega)] | rw [if_pos trivial])
  have h2 : (litW w).heap[w.heap.size + 1 + 1]? = some (.cells #[.int .i64 1, .int .i64 2] 3) := by show ((((w.heap.push _).push _).push _).push _)[_]? = _; simp only [Array.getElem?_push, Array.size_push]; repeat (first | rw [if_neg (by omega)] | rw [if_pos (by omega)] | rw [if_pos trivial])
  have h3 : (litW w).heap[w.heap.size + 1 + 1 + 1]? = some (.cells #[.slice none 0 0, .slice (some ⟨w.heap.size, 0, none⟩) 1 1, .slice (some ⟨w.heap.size + 1, 0, none⟩) 1 1, .slice (some ⟨w.heap.size + 1 + 1, 0, none⟩) 2 2] 41) := by show ((((w.heap.push _).push _).push _).push _)[_]? = _; simp only [Array.getElem?_push, Array.size_push]; repeat (first | rw [if_neg (by omega)] | rw [if_pos (by omega)] | rw [if_pos trivial])
  have v0 := view1 h0
  have v1 := view1 h1
  have v2 := view2 h2
  generalize litW w = W at *
  refine ⟨_, 4, rfl, Nat.le_refl _, by simp [maxLen], fun i hi => ?_⟩
  have hlt := (Array.getElem?_eq_some_iff.1 h3).1
  have : i = 0 ∨ i = 1 ∨ i = 2 ∨ i = 3 := by simp [LL] at hi; omega
  rcases this with rfl | rfl | rfl | rfl
  · exact ⟨_, 0, _, rfl, hlt, by simp [World.cell?, h3], View.nil W⟩
  · exact ⟨_, 0, _, rfl, hlt, by simp [World.cell?, h3], v0⟩
  · exact ⟨_, 0, _, rfl, hlt, by simp [World.cell?, h3], v1⟩
  · exact ⟨_, 0, _, rfl, hlt, by simp [World.cell?, h3], v2⟩
def litV (w : World) : World := ((w.alloc (.cells #[.int .i64 0] 3)).alloc (.cells #[.slice none 0 0, .slice (some ⟨w.heap.size, 0, none⟩) 1 1] 41)).alloc (.cells #[.int .i64 0, .int .i64 1] 3)
theorem litv_below (w : World) : Below w.heap.size w (litV w) := by unfold litV; go_grown
theorem litv_mv (w : World) : MV (litV w) (.slice (some ⟨w.heap.size + 1, 0, none⟩) 2 2) L2 ∧ View (litV w) (.slice (some ⟨w.heap.size + 1 + 1, 0, none⟩) 2 2) [0, 1] := by
  have h0 : (litV w).heap[w.heap.size]? = some (.cells #[.int .i64 0] 3) := by show (((w.heap.push _).push _).push _)[_]? = _; simp only [Array.getElem?_push, Array.size_push]; repeat (first | rw [if_neg (by omega)] | rw [if_pos (by omega)] | rw [if_pos trivial])
  have h1 : (litV w).heap[w.heap.size + 1]? = some (.cells #[.slice none 0 0, .slice (some ⟨w.heap.size, 0, none⟩) 1 1] 41) := by show (((w.heap.push _).push _).push _)[_]? = _; simp only [Array.getElem?_push, Array.size_push]; repeat (first | rw [if_neg (by omega)] | rw [if_pos (by omega)] | rw [if_pos trivial])
  have h2 : (litV w).heap[w.heap.size + 1 + 1]? = some (.cells #[.int .i64 0, .int .i64 1] 3) := by show (((w.heap.push _).push _).push _)[_]? = _; simp only [Array.getElem?_push, Array.size_push]; repeat (first | rw [if_neg (by omega)] | rw [if_pos (by omega)] | rw [if_pos trivial])
  have v0 := view1 h0
  have v2 := view2 h2
  generalize litV w = W at *
  refine ⟨⟨_, 2, rfl, Nat.le_refl _, by simp [maxLen], fun i hi => ?_⟩, v2⟩
  have hlt := (Array.getElem?_eq_some_iff.1 h1).1
  have : i = 0 ∨ i = 1 := by simp [L2] at hi; omega
  rcases this with rfl | rfl
  · exact ⟨_, 0, _, rfl, hlt, by simp [World.cell?, h1], View.nil W⟩
  · exact ⟨_, 0, _, rfl, hlt, by simp [World.cell?, h1], v0⟩
theorem ck_LL : ck LL = 0 := by decide
theorem valid_LL : Valid LL := valid_of (by decide)
theorem p01 : P LL 0 1 := .one _ (by decide)
theorem p02 : P LL 0 2 := .one _ (by decide)
theorem p13 : P LL 1 3 := .one _ (by decide)
theorem p23 : P LL 2 3 := .one _ (by decide)
theorem p03 : P LL 0 3 := P.trans p01 p13
theorem n12 : ¬ P LL 1 2 := by
  intro h
  rcases P.unf.1 h with h | ⟨a, h, hp⟩
  · exact absurd h (by decide)
  · have h1 := hp.lt valid_LL
    have h2 : (a : Int) ∈ ([0] : List Int) := h
    simp at h2
    omega
theorem n21 : ¬ P LL 2 1 := fun h => by have := h.lt valid_LL; omega
theorem n33 : ¬ P LL 3 3 := fun h => by have := h.lt valid_LL; omega
theorem w03 : bfB LL 4 0 3 = true := by
  have : pB LL (0 : Int).toNat (3 : Int).toNat = true := pB_true.2 p03
  unfold bfB; rw [this]; decide
theorem w12 : bfB LL 4 1 2 = false := by
  have : pB LL (1 : Int).toNat (2 : Int).toNat = false := pB_false.2 n12
  unfold bfB; rw [this]; simp
theorem w21 : bfB LL 4 2 1 = false := by
  have : pB LL (2 : Int).toNat (1 : Int).toNat = false := pB_false.2 n21
  unfold bfB; rw [this]; simp
theorem wap : apB LL 4 1 2 = true := by unfold apB; rw [w12, w21]; decide
theorem wcnt : cnt (fun x => pB LL x 3) 4 = 3 := by
  simp [cnt, pB_true.2 p03, pB_true.2 p13, pB_true.2 p23, pB_false.2 n33]
theorem wtp : tp LL 4 = 3 := by decide
theorem wor : orN L2 2 [0, 1] 2 = true := by decide
set_option maxRecDepth 20000 in
theorem works_of (w : World) : Calls Try.prog 7 #[] w fun e w' => e = .returned (.bool true) ∧ Below w.heap.size w w' := by
  have C1 := Lib.hid (new_of _ 4 4 LL _ (lit_mv w) ck_LL)
  unfold litW at C1
  go_enter Try.func7, Try.ntmps7
  go_wp2_with (first | (go_at_call 9; (with_reducible refine C1.out.mono ?_); rintro e w1 ⟨R, S, rfl, HRO, HB1⟩))
  have HB1' : Below w.heap.size w w1 := (lit_below w).trans (HB1.mono (lit_below w).size)
  have HBH := Lib.hid HB1'
  have HROH := Lib.hid HRO
  have C2 := Lib.hid (longest_of _ 4 4 LL _ (lit_mv w1) ck_LL)
  unfold litW LPost at C2
  rw [wtp] at C2
  clear C1 HB1' HB1 HRO
  go_wp2_with (first | (go_at_call 12; (with_reducible refine C2.out.mono ?_); rintro e w2 ⟨rfl, HB2⟩))
  have h12 : Below w1.heap.size w1 w2 := (lit_below w1).trans (HB2.mono (lit_below w1).size)
  have HBH2 := Lib.hid (HBH.out.trans (h12.mono HBH.out.size))
  have hro := HROH.out.below h12
  have HRO := Lib.hid hro
  have D1 := Lib.hid (before_of R S 4 LL 0 3 true w2 hro (by omega) w03)
  have D2 := Lib.hid (apart_of R S 4 LL 1 2 true w2 hro (by omega) wap)
  have D3 := Lib.hid (before_of R S 4 LL 1 2 false w2 hro (by omega) w12)
  have D4 : Hid (Calls Try.prog 17 #[.pointer (some ⟨R, 0, none⟩), .int .i64 3] w2 fun e w' => e = .returned (.int .i64 3) ∧ w2 = w') := Lib.hid (ahead_of R S 4 LL 3 3 w2 hro valid_LL (by omega) (by omega) wcnt)
  have D5 := Lib.hid (order_of _ _ 2 2 2 2 L2 [0, 1] true _ (litv_mv w2).1 (litv_mv w2).2 (by omega) wor)
  unfold litV at D5
  clear C2 HB2 h12 hro
  go_wp2_with (first | (go_at_call 15; (with_reducible refine D1.out.mono ?_); rintro e w3 ⟨rfl, rfl⟩) | (go_at_call 16; (with_reducible refine D2.out.mono ?_); rintro e w3 ⟨rfl, rfl⟩) | (go_at_call 15; (with_reducible refine D3.out.mono ?_); rintro e w3 ⟨rfl, rfl⟩) | (go_at_call 17; (with_reducible refine D4.out.mono ?_); rintro e w3 ⟨rfl, rfl⟩) | (go_at_call 19; (with_reducible refine D5.out.mono ?_); rintro e w3 ⟨rfl, HB3⟩))
  have h23 : Below w2.heap.size w2 w3 := (litv_below w2).trans (HB3.mono (litv_below w2).size)
  have E1 : Hid (Calls Try.prog 14 #[.pointer (some ⟨R, 0, none⟩)] w3 fun e w' => e = .returned (.int .i64 4) ∧ w3 = w') := Lib.hid (len_of R S 4 LL w3 (HRO.out.below h23))
  have HBH3 := Lib.hid (HBH2.out.trans (h23.mono HBH2.out.size))
  clear D1 D2 D3 D4 D5 HB3 h23
  go_wp2_with (first | (go_at_call 14; (with_reducible refine E1.out.mono ?_); rintro e w4 ⟨rfl, rfl⟩))
  go_ret
  exact ⟨rfl, HBH3.out⟩
end Go.Proofs.Ytciojgkgfhpaaaa.rh
