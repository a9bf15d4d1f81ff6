/- The anchor of layer 36's laws: its works comes out true (layer 36). -/
import Derived.Test.YtfigabjcmpakeabPickW
import Derived.Test.YtfigabjcmpakeabPickB2
import Derived.Test.YtfigabjcmpakeabPickD
namespace Go.Proofs.Ytfigabjcmpakeab
open Go.ChangeShapes Go.WideShapes Go.ChangeAt Go.RowKit
open Go.Proofs.Ytfigabjcmpakeab.sch
set_option linter.unusedVariables false
set_option linter.unusedSimpArgs false
/-- A row of picks that was made reads as picks. -/
theorem PV.of_row {w : World} {B n : Nat} {f : Nat → Value} {xs : List PK} (h : w.rowIs B 90 (n * 2) f) (hl : xs.length = n) (hf : ∀ i p, xs[i]? = some p → f (i * 2) = .int .i64 p.1 ∧ f (i * 2 + 1) = .int .i64 p.2) : PV w (some ⟨B, 0, none⟩) n n xs :=
  ⟨hl, Nat.le_refl _, fun i p hp => by
    have hi : i < n := by rw [← hl]; exact (List.getElem?_eq_some_iff.1 hp).1
    obtain ⟨h1, h2⟩ := hf i p hp
    refine ⟨B, 0, rfl, h.lt, ?_, ?_⟩
    · rw [← h1, Nat.zero_add]; exact rowIs_cell h (by omega)
    · rw [← h2, Nat.zero_add]; exact rowIs_cell h (by omega)⟩
theorem PV.of_cells {w : World} {B : Nat} {cs : Array Value} {xs : List PK} (hb : w.heap[B]? = some (.cells cs 90 (0, 0))) (h : ∀ i p, xs[i]? = some p → cs[i * 2]? = some (.int .i64 p.1) ∧ cs[i * 2 + 1]? = some (.int .i64 p.2)) : PV w (some ⟨B, 0, none⟩) xs.length xs.length xs :=
  ⟨rfl, Nat.le_refl _, fun i p hp => by
    obtain ⟨h1, h2⟩ := h i p hp
    refine ⟨B, 0, rfl, (Array.getElem?_eq_some_iff.1 hb).1, ?_, ?_⟩
    · simp only [World.cell?, hb, Nat.zero_add]; exact h1
    · simp only [World.cell?, hb, Nat.zero_add]; exact h2⟩
theorem win4 : an (ow [(0, 0), (1, 0), (1, 0), (0, 0)] 2) 4 2 = true ∧ wf (ow [(0, 0), (1, 0), (1, 0), (0, 0)] 2) 4 2 = 3 := by decide
set_option maxRecDepth 20000 in
set_option maxHeartbeats 2000000 in
theorem works36 (w : World) : Calls Try.prog 51 #[] w fun e w' => e = .returned (.bool true) ∧ Below w.heap.size w w' := by
  go_enter Try.func51, Try.ntmps51
  go_wp2_with fail
  refine (window_of _ 4 4 2 [(0, 0), (1, 0), (1, 0), (0, 0)] 2 2 3 true _ (by decide) (by decide) (PV.of_cells (heap_alloc_new _ _) ?_) (by omega) (Lib.hid win4.1) (Lib.hid ?_)).mono ?_
  · intro i p hp
    match i, hp with
    | 0, hp => simp at hp; subst hp; exact ⟨rfl, rfl⟩
    | 1, hp => simp at hp; subst hp; exact ⟨rfl, rfl⟩
    | 2, hp => simp at hp; subst hp; exact ⟨rfl, rfl⟩
    | 3, hp => simp at hp; subst hp; exact ⟨rfl, rfl⟩
    | i + 4, hp => simp at hp
  · rw [win4.2]; rfl
  rintro e w1 ⟨rfl, hb1⟩
  have hb1' : Below w.heap.size w w1 := Below.trans (by go_grown) (hb1.mono (by simp))
  clear hb1
  go_wp2_with fail
  refine (round_of 2 2 2 5 3 3 3 _ (by decide) (by decide) (by decide) (by decide) (by omega)).mono ?_
  rintro e w2 ⟨B, rfl, hr, hb2, hB⟩
  have hP : PV w2 (some ⟨B, 0, none⟩) 3 3 [(0, 5), (1, 5), (0, 5)] := PV.of_row hr rfl (by
    intro i p hp
    match i, hp with
    | 0, hp => simp at hp; subst hp; exact ⟨rfl, rfl⟩
    | 1, hp => simp at hp; subst hp; exact ⟨rfl, rfl⟩
    | 2, hp => simp at hp; subst hp; exact ⟨rfl, rfl⟩
    | i + 3, hp => simp at hp)
  have HP := Lib.hid hP
  have hb2' := hb1'.trans (hb2.mono hb1'.size)
  clear hr hb2 hB hb1' hP
  go_wp2_with fail
  refine (same_any _ _ 3 3 3 [(0, 5), (1, 5), (0, 5)] [(0, 5), (1, 5), (0, 5)] _ (HP.out.below (by go_grown)) (PV.of_cells (heap_alloc_new _ _) ?_) (by omega)).mono ?_
  · intro i p hp
    match i, hp with
    | 0, hp => simp at hp; subst hp; exact ⟨rfl, rfl⟩
    | 1, hp => simp at hp; subst hp; exact ⟨rfl, rfl⟩
    | 2, hp => simp at hp; subst hp; exact ⟨rfl, rfl⟩
    | i + 3, hp => simp at hp
  rintro e w3 ⟨rfl, hb3⟩
  have hb3' : Below w.heap.size w w3 := hb2'.trans (Below.trans (show Below w.heap.size w2 _ from (Below.refl _ _).alloc hb2'.size _) (hb3.mono (by simp; have := hb2'.size; omega)))
  clear hb3 hb2' HP
  go_wp2_with fail
  refine (bytes_of _ 1 1 [(1, 2)] _ (PV.of_cells (heap_alloc_new _ _) ?_) (by omega)).mono ?_
  · intro i p hp
    match i, hp with
    | 0, hp => simp at hp; subst hp; exact ⟨rfl, rfl⟩
    | i + 1, hp => simp at hp
  rintro e w4 ⟨rfl, hb4⟩
  have hb4' : Below w.heap.size w w4 := hb3'.trans (Below.trans (show Below w.heap.size w3 _ from (Below.refl _ _).alloc hb3'.size _) (hb4.mono (by simp; have := hb3'.size; omega)))
  have hbe : (⟨(byv [(1, 2)]).toArray⟩ : ByteArray) = ⟨#[1, 2]⟩ := rfl
  rw [hbe]
  clear hb4 hb3'
  go_wp2_with fail
  go_ret
  exact ⟨by simp, hb4'⟩
end Go.Proofs.Ytfigabjcmpakeab
