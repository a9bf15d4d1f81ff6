/- The contract of an arena's Take (layer 10). -/
import Derived.Test.YtajmmglfdinahaaArU
import Derived.Deep.RegionHeld3
import Derived.Deep.DrawnRows
namespace Go.Proofs.Ytajmmglfdinahaa.ar
open Go.ChangeShapes Go.WideShapes Go.ChangeAt Go.RowKit
set_option linter.unusedVariables false
set_option linter.unusedSimpArgs false
attribute [local go_sem ↓] Go.wp_at_zero Go.wp_at_succ
section
variable {S : Nat → Prop} {B A : Nat} {m f p : Int} {hv bv : Value} {hs : List Bool} {bk : List Int}
theorem take_nil (w : World) : Calls Try.prog 14 #[.pointer none] w fun e w' => e = .returned (.tuple #[.int .i64 0, .bool false]) ∧ w = w' := by
  go_enter Try.func14, Try.ntmps14
  go_wp2
  go_ret2
  exact ⟨rfl, rfl⟩
theorem take_no (w : World) (h : AS S B A w m m p hv bv hv bv hs []) : Calls Try.prog 14 #[.pointer (some ⟨A, 0, none⟩)] w fun e w' => e = .returned (.tuple #[.int .i64 0, .bool false]) ∧ AS S B A w' m m p hv bv hv bv hs [] ∧ Below w.heap.size w w' := by
  have C := Lib.hid (free_none w h)
  clear h
  go_enter Try.func14, Try.ntmps14
  go_wp2_with (go_at_call 59; refine C.out.mono ?_; rintro e w' ⟨rfl, hA, hb⟩)
  have HA := Lib.hid hA
  clear hA
  go_wp2
  go_ret2
  exact ⟨rfl, HA.out, hb⟩
/-- Which number is taken next, and what is left. -/
def FreeTo (m : Int) (hs : List Bool) (bk : List Int) (j : Nat) (hs' : List Bool) (bk' : List Int) : Prop :=
  (∃ l, bk = l ++ [(j : Int) + 1] ∧ hs' = hs ∧ bk' = l) ∨ (bk = [] ∧ (¬ (hs.length : Int) = m) ∧ j = hs.length ∧ hs' = hs ++ [false] ∧ bk' = [])
theorem free_any (w : World) (j : Nat) (hs' : List Bool) (bk' : List Int) (h : AS S B A w m (hs.length : Int) p hv bv hv bv hs bk) (hf : FreeTo m hs bk j hs' bk') (hl : hs.length ≤ 100000) (hk : bk.length ≤ 100000) :
    Calls Try.prog 59 #[.pointer (some ⟨A, 0, none⟩)] w fun e w' => ∃ hv' bv', e = .returned (.int .i64 ((j : Int) + 1)) ∧ AS S B A w' m (hs'.length : Int) p hv' bv' hv' bv' hs' bk' ∧ Below B w w' ∧ Same S w w' := by
  rcases hf with ⟨l, rfl, rfl, rfl⟩ | ⟨rfl, hne, rfl, rfl, rfl⟩
  · refine (free_back w _ _ h (by simp at hk; omega)).mono ?_
    rintro e w' ⟨bv', he, hA, hb, hS⟩
    exact ⟨_, bv', he, hA, hb, hS⟩
  · refine (free_new w h hne hl).mono ?_
    rintro e w' ⟨hv', he, hA, hb, hS⟩
    exact ⟨hv', _, he, hA, hb, hS⟩
set_option maxRecDepth 20000 in
set_option maxHeartbeats 1000000 in
theorem take_yes (w : World) (j : Nat) (hs' : List Bool) (bk' : List Int) (p' : Int) (h : AS S B A w m (hs.length : Int) p hv bv hv bv hs bk) (hf : FreeTo m hs bk j hs' bk') (hl : hs.length ≤ 100000) (hk : bk.length ≤ 100000) (hl' : hs'.length ≤ 100000) (hj : j < hs'.length) (hp : (if p < ((hs'.set j true).count true : Nat) then (((hs'.set j true).count true : Nat) : Int) else p) = p') :
    Calls Try.prog 14 #[.pointer (some ⟨A, 0, none⟩)] w fun e w' => ∃ hv' bv', e = .returned (.tuple #[.int .i64 ((j : Int) + 1), .bool true]) ∧ AS S B A w' m ((hs'.set j true).length : Int) p' hv' bv' hv' bv' (hs'.set j true) bk' ∧ Below B w w' ∧ Same S w w' := by
  have C := Lib.hid (free_any w j hs' bk' h hf hl hk)
  have HP := Lib.hid hp
  clear h hf hp
  go_enter Try.func14, Try.ntmps14
  go_wp2_with fail
  refine C.out.mono ?_
  rintro e w1 ⟨hv1, bv1, rfl, hA1, hb1, hs1⟩
  have hbs := hA1.base
  obtain ⟨g, cap, rfl, hcap, hg, hgl⟩ := row_some hA1.rh (by omega)
  obtain ⟨b, hbv⟩ : ∃ b, hs'[j]? = some b := ⟨hs'[j], by simp⟩
  have cj := row_at hA1.rh (j := j) (u := .bool b) (by simp [hbv])
  have fj := row_free hA1.rh j
  obtain ⟨c0, c1, c2, c3, c4, cf⟩ := hA1.cells
  obtain ⟨hA2, s2⟩ := hA1.putH true hj
  have b2 : Below B w (w1.setCell ⟨g, j, none⟩ (.bool true)) := hb1.setCell hg _
  have S2 := Lib.hid (hs1.trans s2)
  have hgA : g ≠ A := fun e => hA1.h1 (by simp [Value.ownBlock, e])
  have e1 : (j : Int) + 1 - 1 = (j : Int) := by omega
  have e2 : (0 : Int) ≤ (j : Int) := by omega
  have e3 : (j : Int) < (hs'.length : Int) := by omega
  have e4 : (j : Int).toNat = j := by omega
  have e5 : ((j : Int) + 1 == 0) = false := by simp; omega
  obtain ⟨W, hW⟩ : ∃ W, w1.setCell ⟨g, j, none⟩ (.bool true) = W := ⟨_, rfl⟩
  rw [hW] at hA2 b2 S2
  have hlen : (hs'.set j true).length = hs'.length := by simp
  have HL := Lib.hid hlen
  have hA2' : AS S B A W m ((hs'.set j true).length : Int) p (.slice (some ⟨g, 0, none⟩) hs'.length cap) bv1 (.slice (some ⟨g, 0, none⟩) hs'.length cap) bv1 (hs'.set j true) bk' := by rw [hlen]; exact hA2
  have H2 := Lib.hid hA2'
  have B2 := Lib.hid b2
  have hWs := hA2'.lt
  have CU : Hid (∀ w', Below W.heap.size W w' → Calls Try.prog 18 #[.pointer (some ⟨A, 0, none⟩)] w' fun e w'' => e = .returned (.int .i64 ((hs'.set j true).count true : Nat)) ∧ Below W.heap.size W w'' ∧ w''.cell? ⟨A, 4, none⟩ = some (.int .i64 p) ∧ w''.frozen? ⟨A, 4, none⟩ = false) := Lib.hid (fun w' hb' => by
    refine (used_of S B A m p _ _ _ _ w' (by simp; exact hl') (hA2'.below hb')).mono ?_
    rintro e w'' ⟨he, hb''⟩
    have hb3 := hb'.trans (hb''.mono hb'.size)
    have hA3 := (hA2'.below hb3).cells
    exact ⟨he, hb3, hA3.2.2.2.2.1, hA3.2.2.2.2.2 4⟩)
  obtain ⟨d0, d1, d2, d3, d4, df⟩ := hA2'.cells
  have f4 := df 4
  clear hA1 hb1 hs1 hA2 s2 b2 cf df hA2' hbv hlen
  go_wp2_with fail
  clear c0 c1 c2 c3 c4 cj fj hW e1 e2 e3 e4 e5 C
  generalize ((hs'.set j true).count true : Nat) = cnt at *
  go_region_with (go_at_call 18; refine (CU.out _ (by go_grown)).mono ?_; rintro e w' ⟨rfl, hb', k4, z4⟩)
  all_goals
    rw [HP.out]
    have hb5 : Below B w (w'.setCell ⟨A, 4, none⟩ (.int .i64 p')) := (B2.out.trans (hb'.mono (Nat.le_of_lt (Nat.lt_of_le_of_lt hbs hWs)))).setCell hbs _
    have S5 := (S2.out.trans (H2.out.same hb')).trans ((H2.out.below hb').sameA 4 (.int .i64 p'))
    have H5 := Lib.hid ((H2.out.below hb').set4 p')
    go_wp2_with fail
    go_ret2
    exact ⟨_, _, rfl, H5.out, hb5, S5⟩
end
end Go.Proofs.Ytajmmglfdinahaa.ar
