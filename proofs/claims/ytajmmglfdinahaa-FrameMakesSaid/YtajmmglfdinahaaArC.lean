/- The contracts of layer 10 (arena): New, Held, Peak, the next free number, Give (layer 10). -/
import Derived.Test.YtajmmglfdinahaaArS
import Derived.Outline
namespace Go.Proofs.Ytajmmglfdinahaa.ar
open Go.ChangeShapes Go.WideShapes Go.ChangeAt Go.RowKit
set_option linter.unusedVariables false
set_option linter.unusedSimpArgs false
theorem new_of (S : Nat → Prop) (B : Nat) (n m1 v : Int) (w : World) (h1 : (if n < 0 then (0 : Int) else n) = m1) (h2 : (if 1000 < m1 then (1000 : Int) else m1) = v) (hB : B ≤ w.heap.size) (hS : ∀ k, S k → k < w.heap.size) :
    Calls Try.prog 12 #[.int .i64 n] w fun e w' => e = .returned (.pointer (some ⟨w.heap.size, 0, none⟩)) ∧ AS S B w.heap.size w' v 0 0 (.slice none 0 0) (.slice none 0 0) (.slice none 0 0) (.slice none 0 0) [] [] ∧ Below w.heap.size w w' := by
  have HS := Lib.hid hS
  clear hS
  go_enter Try.func12, Try.ntmps12
  go_wp2
  go_ret
  refine ⟨rfl, ⟨heap_alloc_new _ _, World.ownsRow_nil _ _ _ _, World.ownsRow_nil _ _ _ _, by simp [Value.ownBlock], by simp [Value.ownBlock], by simp [Value.ownBlock], hB, fun k hk => ?_⟩, by go_grown⟩
  have := HS.out k hk
  exact ⟨by simp; omega, by omega, by simp [Value.ownBlock], by simp [Value.ownBlock]⟩
theorem below_drewN (w : World) (n : Nat) : Below w.heap.size w (w.drewN n) := ⟨rfl, rfl, rfl, Nat.le_refl _, fun _ _ => rfl⟩
section
variable {S : Nat → Prop} {B A : Nat} {m f p : Int} {hv bv : Value} {hs : List Bool} {bk : List Int}
theorem peak_of (w : World) (h : AS S B A w m f p hv bv hv bv hs bk) : Calls Try.prog 19 #[.pointer (some ⟨A, 0, none⟩)] w fun e w' => e = .returned (.int .i64 p) ∧ w = w' := by
  obtain ⟨c0, c1, c2, c3, c4, cf⟩ := h.cells
  clear h
  go_enter Try.func19, Try.ntmps19
  go_wp2
  go_ret
  exact ⟨rfl, rfl⟩
theorem peak_nil (w : World) : Calls Try.prog 19 #[.pointer none] w fun e w' => e = .returned (.int .i64 0) ∧ w = w' := by
  go_enter Try.func19, Try.ntmps19
  go_wp2
  go_ret
  exact ⟨rfl, rfl⟩
theorem held_nil (w : World) (n : Int) : Calls Try.prog 20 #[.pointer none, .int .i64 n] w fun e w' => e = .returned (.bool false) ∧ w = w' := by
  go_enter Try.func20, Try.ntmps20
  go_wp2
  go_ret
  exact ⟨rfl, rfl⟩
/-- Is a number taken? -/
def heldB (hs : List Bool) (n : Int) : Bool := decide (1 ≤ n ∧ n ≤ hs.length) && hs.getD (n - 1).toNat false
theorem held_of (w : World) (n : Int) (h : AS S B A w m (hs.length : Int) p hv bv hv bv hs bk) (hl : hs.length ≤ 100000) : Calls Try.prog 20 #[.pointer (some ⟨A, 0, none⟩), .int .i64 n] w fun e w' => e = .returned (.bool (heldB hs n)) ∧ w = w' := by
  obtain ⟨c0, c1, c2, c3, c4, cf⟩ := h.cells
  by_cases h1 : 1 ≤ n
  · by_cases h2 : n ≤ (hs.length : Int)
    · obtain ⟨j, rfl⟩ : ∃ j : Nat, n = (j : Int) + 1 := ⟨(n - 1).toNat, by omega⟩
      have hj : j < hs.length := by omega
      obtain ⟨g, cap, rfl, hcap, hg, hlt⟩ := row_some h.rh (by omega)
      obtain ⟨b, hb⟩ : ∃ b, hs[j]? = some b := ⟨hs[j], by simp⟩
      have cb := row_at h.rh (j := j) (u := .bool b) (by simp [hb])
      have HV : Hid (heldB hs ((j : Int) + 1) = b) := Lib.hid (by
        unfold heldB
        rw [decide_eq_true ⟨h1, h2⟩, show ((j : Int) + 1 - 1).toNat = j by omega, List.getD_eq_getElem?_getD, hb]; rfl)
      have hs1 : (j : Int) + 1 - 1 = (j : Int) := by omega
      have HB := Lib.hid hb
      clear h hb h1 h2
      have h1 : (1 : Int) ≤ (j : Int) + 1 := by omega
      have h2 : (j : Int) + 1 ≤ (hs.length : Int) := by omega
      have ht : (j : Int).toNat = j := by omega
      rw [HV.out]
      go_enter Try.func20, Try.ntmps20
      cases b
      · go_wp2
        go_ret
        exact ⟨rfl, rfl⟩
      · go_wp2
        go_ret
        exact ⟨rfl, rfl⟩
    · have HV : Hid (heldB hs n = false) := Lib.hid (by unfold heldB; rw [decide_eq_false (fun e => h2 e.2)]; rfl)
      have h2' : (hs.length : Int) < n := by omega
      have h2'' : ¬ n ≤ (hs.length : Int) := h2
      clear h h2
      rw [HV.out]
      go_enter Try.func20, Try.ntmps20
      go_wp2
      go_ret
      exact ⟨rfl, rfl⟩
  · have HV : Hid (heldB hs n = false) := Lib.hid (by unfold heldB; rw [decide_eq_false (fun e => h1 e.1)]; rfl)
    have h1' : n < 1 := by omega
    clear h h1
    rw [HV.out]
    go_enter Try.func20, Try.ntmps20
    go_wp2
    go_ret
    exact ⟨rfl, rfl⟩
theorem free_back (w : World) (l : List Int) (x : Int) (h : AS S B A w m f p hv bv hv bv hs (l ++ [x])) (hm : l.length ≤ 100000) : Calls Try.prog 59 #[.pointer (some ⟨A, 0, none⟩)] w fun e w' => ∃ bv', e = .returned (.int .i64 x) ∧ AS S B A w' m f p hv bv' hv bv' hs l ∧ Below B w w' ∧ Same S w w' := by
  obtain ⟨g, cap, rfl, hcap, hg, hlt⟩ := row_some h.rb (by simp)
  have c5 := row_at h.rb (j := l.length) (u := .int .i64 x) (by simp)
  have hc := (h.set3 (.slice (some ⟨g, 0, none⟩) l.length cap)).cutB l x rfl
  have hsm := h.sameA 3 (.slice (some ⟨g, 0, none⟩) l.length cap)
  have hbs := h.base
  obtain ⟨c0, c1, c2, c3, c4, cf⟩ := h.cells
  have f3 := cf 3
  have el : (l ++ [x]).length = l.length + 1 := by simp
  rw [el] at c3 hcap
  generalize l.length = k at *
  have e1 : ((k + 1 : Nat) : Int) - 1 = (k : Int) := by omega
  have e2 : (0 : Int) ≤ (k : Int) := by omega
  have e3 : (k : Int) ≤ (cap : Int) := by omega
  have e4 : (k : Int).toNat = k := by omega
  clear h cf el
  go_enter Try.func59, Try.ntmps59
  go_wp2
  go_ret
  exact ⟨_, rfl, hc, (Below.refl _ _).setCell hbs _, hsm⟩
theorem free_none (w : World) (h : AS S B A w m m p hv bv hv bv hs []) : Calls Try.prog 59 #[.pointer (some ⟨A, 0, none⟩)] w fun e w' => e = .returned (.int .i64 0) ∧ AS S B A w' m m p hv bv hv bv hs [] ∧ Below w.heap.size w w' := by
  obtain ⟨o, cap, rfl⟩ := row_form h.rb
  obtain ⟨c0, c1, c2, c3, c4, cf⟩ := h.cells
  have H := Lib.hid h
  clear h cf
  simp only [List.length_nil] at c3
  go_enter Try.func59, Try.ntmps59
  go_wp2_with fail
  go_quiet (fail)
  go_wp2_with fail
  go_ret
  exact ⟨rfl, H.out.below (below_drewN w nq), below_drewN w nq⟩
end
end Go.Proofs.Ytajmmglfdinahaa.ar
