/- Frames in hands: what is wrong with one, with a worker (layer 37). -/
import Derived.Test.YtpflimnngilhnaaSpM
namespace Go.Proofs.Ytpflimnngilhnaa.au
open Go.ChangeShapes Go.WideShapes Go.ChangeAt Go.RowKit
open Go.Proofs.Ytpflimnngilhnaa.rh
set_option linter.unusedVariables false
set_option linter.unusedSimpArgs false
def n8 : List Int := [0, 1, 2, 7, 8, 13, 17, 20]
def l6 : List Int := [18, 19, 21, 22, 23, 24]
def tkE (ks seen : List Int) (id : Int) : Int := if id < 1 ∨ (ks.length : Int) < id ∨ ks.getD (id - 1).toNat 0 = 0 then 7 else if id ∈ seen then 10 else 0
def vwE (ks seen : List Int) (s id : Int) : Int :=
  if s < 0 ∨ 24 < s then 3
  else if (id ≠ 0 ∧ s ∈ n8) ∨ (id = 0 ∧ ¬ s ∈ n8 ∧ s ≠ 3) then 8
  else if id = 0 then 0
  else if tkE ks seen id ≠ 0 then tkE ks seen id
  else if s ≠ 3 ∧ ¬ (decide (ks.getD (id - 1).toNat 0 = 3) = decide (s ∈ l6)) then 5 else 0
def sn2 (seen : List Int) (id : Int) : List Int := if id = 0 then seen else seen ++ [id]
def HS (w : World) (H TK n : Nat) (ak : Option Addr) (ck : Nat) (ks seen : List Int) : Prop :=
  w.heap[H]? = some (.cells #[.slice ak n ck, .slice (some ⟨TK, 0, none⟩) n n] 66 (0, 0)) ∧ View w (.slice ak n ck) ks ∧ BR w TK n (fun i => decide ((i : Int) + 1 ∈ seen)) ∧ TK < H ∧ ∀ b o, ak = some ⟨b, o, none⟩ → ks ≠ [] → b < TK
theorem HS.below {w w' : World} {H TK n : Nat} {ak : Option Addr} {ck : Nat} {ks seen : List Int} (h : HS w H TK n ak ck ks seen) (hb : Below w.heap.size w w') : HS w' H TK n ak ck ks seen :=
  ⟨(hb.block H (Array.getElem?_eq_some_iff.1 h.1).1).trans h.1, h.2.1.below hb, h.2.2.1.below hb, h.2.2.2⟩
theorem HS.cells {w : World} {H TK n : Nat} {ak : Option Addr} {ck : Nat} {ks seen : List Int} (h : HS w H TK n ak ck ks seen) : w.cell? ⟨H, 0, none⟩ = some (.slice ak n ck) ∧ w.cell? ⟨H, 1, none⟩ = some (.slice (some ⟨TK, 0, none⟩) n n) := by
  have := h.1
  constructor <;> simp [World.cell?, this]
theorem HS.set {w : World} {H TK n : Nat} {ak : Option Addr} {ck : Nat} {ks seen : List Int} (h : HS w H TK n ak ck ks seen) (j : Nat) : HS (w.setCell ⟨TK, j, none⟩ (.bool true)) H TK n ak ck ks (seen ++ [(j : Int) + 1]) := by
  obtain ⟨h1, h2, h3, h4, h5⟩ := h
  refine ⟨(set_at w TK j H _ (by omega)).trans h1, ?_, (h3.set j true).congr fun i _ => ?_, h4, h5⟩
  · have hl := h2.len.1
    obtain ⟨a, cap, hv, hm, hn, hc⟩ := h2
    refine ⟨a, cap, hv, hm, hn, fun hne => ?_⟩
    obtain ⟨b, off, ha, hlt, hle, hcell⟩ := hc hne
    have hb : b < TK := h5 b off (by rw [Value.slice.injEq] at hv; rw [hv.1, ha]) hne
    refine ⟨b, off, ha, by rw [set_sz]; exact hlt, hle, fun i hi => ?_⟩
    rw [← hcell i hi]
    simp [World.cell?, set_at w TK j b (.bool true) (by omega)]
  · by_cases e : i = j
    · subst e; simp
    · rw [if_neg e]
      have : ¬ (i : Int) + 1 = (j : Int) + 1 := by omega
      simp [this]
/-- Only block S is otherwise, of those that were. -/
def KT (S : Nat) (w w' : World) : Prop := Below S w w' ∧ w.heap.size ≤ w'.heap.size ∧ ∀ b, b ≠ S → b < w.heap.size → w'.heap[b]? = w.heap[b]?
theorem KT.set (S i : Nat) (v : Value) (w : World) : KT S w (w.setCell ⟨S, i, none⟩ v) :=
  ⟨(Below.refl S w).setCell (p := ⟨S, i, none⟩) (Nat.le_refl S) v, by rw [set_sz]; exact Nat.le_refl _, fun b h _ => set_at _ _ _ _ _ h⟩
theorem tk_yes {ks seen : List Int} {id : Int} (h : tkE ks seen id = 0) : ∃ j : Nat, id = (j : Int) + 1 ∧ j < ks.length ∧ ¬ ks.getD j 0 = 0 ∧ ¬ id ∈ seen := by
  unfold tkE at h
  by_cases h1 : id < 1 ∨ (ks.length : Int) < id ∨ ks.getD (id - 1).toNat 0 = 0
  · rw [if_pos h1] at h; omega
  · rw [if_neg h1] at h
    by_cases h2 : id ∈ seen
    · rw [if_pos h2] at h; omega
    · obtain ⟨j, hj⟩ : ∃ j : Nat, id = (j : Int) + 1 := ⟨(id - 1).toNat, by omega⟩
      subst hj
      have e : ((j : Int) + 1 - 1).toNat = j := by omega
      rw [e] at h1
      exact ⟨j, rfl, by omega, fun h => h1 (.inr (.inr h)), h2⟩
set_option maxRecDepth 20000 in
theorem take_of (H TK n : Nat) (ak : Option Addr) (ck : Nat) (ks seen : List Int) (id c : Int) (w : World) (h : HS w H TK n ak ck ks seen) (hc : tkE ks seen id = c) :
    Calls Try.prog 30 #[.pointer (some ⟨H, 0, none⟩), .int .i64 id] w fun e w' => e = .returned (.int .i64 c) ∧ (c = 0 → HS w' H TK n ak ck ks (seen ++ [id]) ∧ KT TK w w') ∧ (c ≠ 0 → w = w') := by
  obtain ⟨c0, c1⟩ := h.cells
  obtain ⟨hnl, hn1, hn2⟩ := h.2.1.len
  unfold maxLen at hn2
  have HH := Lib.hid h
  unfold tkE at hc
  by_cases h1 : id < 1
  · rw [if_pos (.inl h1)] at hc
    have HC := Lib.hid hc
    clear h hc hnl
    go_enter Try.func30, Try.ntmps30
    go_wp2_with fail
    go_ret
    exact ⟨by rw [← HC.out]; rfl, fun e => by have := HC.out; omega, fun _ => rfl⟩
  · by_cases h2 : (n : Int) < id
    · rw [if_pos (.inr (.inl (by rw [← hnl]; exact h2)))] at hc
      have HC := Lib.hid hc
      clear h hc hnl
      go_enter Try.func30, Try.ntmps30
      go_wp2_with fail
      go_ret
      exact ⟨by rw [← HC.out]; rfl, fun e => by have := HC.out; omega, fun _ => rfl⟩
    · obtain ⟨j, hj⟩ : ∃ j : Nat, id = (j : Int) + 1 := ⟨(id - 1).toNat, by omega⟩
      subst hj
      have hjn : j < n := by omega
      have hjI : (j : Int) < (n : Int) := by omega
      have e : ((j : Int) + 1 - 1).toNat = j := by omega
      rw [e] at hc
      obtain ⟨b, o, rfl, hbl, hck⟩ := h.2.1.at j hjn
      obtain ⟨x, hx⟩ : ∃ x, ks.getD j 0 = x := ⟨_, rfl⟩
      rw [hx] at hck hc
      by_cases h3 : x = 0
      · subst h3
        rw [if_pos (.inr (.inr rfl))] at hc
        have HC := Lib.hid hc
        clear h hc hnl hx
        go_enter Try.func30, Try.ntmps30
        go_wp2_with fail
        go_ret
        exact ⟨by rw [← HC.out]; rfl, fun e => by have := HC.out; omega, fun _ => rfl⟩
      · rw [if_neg (by rw [← hnl]; omega)] at hc
        have hxb : (x == 0) = false := by simpa using h3
        obtain ⟨s, hs⟩ : ∃ s, decide ((j : Int) + 1 ∈ seen) = s := ⟨_, rfl⟩
        have hcs := h.2.2.1.at j s hjn hs
        have hfs := World.rowIs.frozen h.2.2.1 j
        cases s with
        | true =>
          rw [if_pos (of_decide_eq_true hs)] at hc
          have HC := Lib.hid hc
          clear h hc hnl hx hs
          go_enter Try.func30, Try.ntmps30
          go_wp2_with fail
          go_ret
          exact ⟨by rw [← HC.out]; rfl, fun e => by have := HC.out; omega, fun _ => rfl⟩
        | false =>
          rw [if_neg (of_decide_eq_false hs)] at hc
          have HC := Lib.hid hc
          clear h hc hnl hx hs
          go_enter Try.func30, Try.ntmps30
          go_wp2_with fail
          go_ret
          exact ⟨by rw [← HC.out]; rfl, fun _ => ⟨HH.out.set j, KT.set TK j _ w⟩, fun e => absurd HC.out.symm e⟩
theorem empty_of (k : Nat) (hk : k < 25) (b : Bool) (hb : decide ((k : Int) ∈ n8) = b) (w : World) : Calls Try.prog 41 #[.int .i64 (k : Int)] w fun e w' => e = .returned (.bool b) ∧ w = w' := by
  have key : ∀ k : Nat, k < 25 → k = 0 ∨ k = 1 ∨ k = 2 ∨ k = 3 ∨ k = 4 ∨ k = 5 ∨ k = 6 ∨ k = 7 ∨ k = 8 ∨ k = 9 ∨ k = 10 ∨ k = 11 ∨ k = 12 ∨ k = 13 ∨ k = 14 ∨ k = 15 ∨ k = 16 ∨ k = 17 ∨ k = 18 ∨ k = 19 ∨ k = 20 ∨ k = 21 ∨ k = 22 ∨ k = 23 ∨ k = 24 := by omega
  rcases key k hk with rfl | rfl | rfl | rfl | rfl | rfl | rfl | rfl | rfl | rfl | rfl | rfl | rfl | rfl | rfl | rfl | rfl | rfl | rfl | rfl | rfl | rfl | rfl | rfl | rfl
  all_goals
    subst hb
    go_enter Try.func41, Try.ntmps41
    go_wp2_with fail
    go_ret
    exact ⟨rfl, rfl⟩
theorem loops_of (k : Nat) (hk : k < 25) (b : Bool) (hb : decide ((k : Int) ∈ l6) = b) (w : World) : Calls Try.prog 42 #[.int .i64 (k : Int)] w fun e w' => e = .returned (.bool b) ∧ w = w' := by
  have key : ∀ k : Nat, k < 25 → k = 0 ∨ k = 1 ∨ k = 2 ∨ k = 3 ∨ k = 4 ∨ k = 5 ∨ k = 6 ∨ k = 7 ∨ k = 8 ∨ k = 9 ∨ k = 10 ∨ k = 11 ∨ k = 12 ∨ k = 13 ∨ k = 14 ∨ k = 15 ∨ k = 16 ∨ k = 17 ∨ k = 18 ∨ k = 19 ∨ k = 20 ∨ k = 21 ∨ k = 22 ∨ k = 23 ∨ k = 24 := by omega
  rcases key k hk with rfl | rfl | rfl | rfl | rfl | rfl | rfl | rfl | rfl | rfl | rfl | rfl | rfl | rfl | rfl | rfl | rfl | rfl | rfl | rfl | rfl | rfl | rfl | rfl | rfl
  all_goals
    subst hb
    go_enter Try.func42, Try.ntmps42
    go_wp2_with fail
    go_ret
    exact ⟨rfl, rfl⟩
end Go.Proofs.Ytpflimnngilhnaa.au
