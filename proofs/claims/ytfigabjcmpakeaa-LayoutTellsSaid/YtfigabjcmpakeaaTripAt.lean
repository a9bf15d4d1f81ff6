/- Where a word stands in a row of words: the contract of the reference's At. -/
import Derived.Test.YtfigabjcmpakeaaTrip
import Derived.Test.YtfigabjcmpakeaaOpen
import Derived.BigQuiet
import Derived.Deep.RegionHeld3
namespace Go.Proofs.Ytfigabjcmpakeaa
open Go.ChangeShapes Go.WideShapes Go.ChangeAt Go.RowKit
set_option linter.unusedVariables false
set_option linter.unusedSimpArgs false
theorem at_k (b len cap j : Nat) (xs : List T3) (x y z : Int) (w : World) (hl : xs.length = len) (hm : len ≤ 100000) (hb : b < w.heap.size)
    (hc : ∀ i t, xs[i]? = some t → w.cell? ⟨b, i * 3, none⟩ = some (.int .i64 t.1) ∧ w.cell? ⟨b, i * 3 + 1, none⟩ = some (.int .i64 t.2.1) ∧ w.cell? ⟨b, i * 3 + 2, none⟩ = some (.int .i64 t.2.2))
    (hj : xs[j]? = some (x, y, z)) (hf : ∀ i, i < j → xs[i]? ≠ some (x, y, z)) :
    Calls Try.prog 58 #[.slice (some ⟨b, 0, none⟩) len cap, .agg #[.int .i64 x, .int .i64 y, .int .i64 z]] w fun e w' => e = .returned (.int .i64 j) ∧ Below w.heap.size w w' := by
  have hjl : j < len := by rw [← hl]; exact (List.getElem?_eq_some_iff.1 hj).1
  have HJ := Lib.hid hj; clear hj
  have HF := Lib.hid hf; clear hf
  have HC := Lib.hid hc; clear hc
  have HL := Lib.hid hl; clear hl
  go_enter Try.func58, Try.ntmps58
  go_wp2
  obtain ⟨W, hW⟩ : ∃ W, W = w.alloc (Obj.cells #[Value.int .i64 x, .int .i64 y, .int .i64 z] 84) := ⟨_, rfl⟩
  have p0 : W.cell? ⟨w.heap.size, 0, none⟩ = some (.int .i64 x) := by rw [hW]; go_simp
  have p1 : W.cell? ⟨w.heap.size, 1, none⟩ = some (.int .i64 y) := by rw [hW]; go_simp
  have p2 : W.cell? ⟨w.heap.size, 2, none⟩ = some (.int .i64 z) := by rw [hW]; go_simp
  have hbW : Below w.heap.size w W := by rw [hW]; go_grown
  rw [← hW]
  clear hW
  go_loopw [5] (fun i wr => ∃ k : Nat, k ≤ j ∧ i = .int .i64 k ∧ Below W.heap.size W wr) (fun i _ => j - (intOf i).toNat)
  case atStart => exact ⟨0, Nat.zero_le _, rfl, Below.refl _ _⟩
  case round =>
    obtain ⟨k, hk, rfl, hbw⟩ := hrel
    have q0 : wr.cell? ⟨w.heap.size, 0, none⟩ = some (.int .i64 x) := (hbw.cell (p := ⟨w.heap.size, 0, none⟩) (World.block_lt_of_cell? W _ p0)).trans p0
    have q1 : wr.cell? ⟨w.heap.size, 1, none⟩ = some (.int .i64 y) := (hbw.cell (p := ⟨w.heap.size, 1, none⟩) (World.block_lt_of_cell? W _ p1)).trans p1
    have q2 : wr.cell? ⟨w.heap.size, 2, none⟩ = some (.int .i64 z) := (hbw.cell (p := ⟨w.heap.size, 2, none⟩) (World.block_lt_of_cell? W _ p2)).trans p2
    have hbt : Below w.heap.size w wr := hbW.trans (hbw.mono hbW.size)
    have hkl : k < len := by omega
    obtain ⟨t, ht⟩ : ∃ t, xs[k]? = some t := ⟨xs[k]'(by rw [HL.out]; exact hkl), by simp⟩
    obtain ⟨h0, h1, h2⟩ := HC.out k t ht
    replace h0 := (hbt.cell (p := ⟨b, k * 3, none⟩) hb).trans h0
    replace h1 := (hbt.cell (p := ⟨b, k * 3 + 1, none⟩) hb).trans h1
    replace h2 := (hbt.cell (p := ⟨b, k * 3 + 2, none⟩) hb).trans h2
    obtain ⟨t1, t2, t3⟩ := t
    dsimp only at h0 h1 h2
    have hq := fun w => word_eq (t1, t2, t3) (x, y, z) w
    dsimp only at hq
    by_cases hkj : k = j
    · have e : ((t1, t2, t3) : T3) = (x, y, z) := by
        have := HJ.out; rw [← hkj, ht] at this; exact Option.some.inj this
      rw [e] at hq
      simp only [decide_true] at hq
      injection e with e1 e; injection e with e2 e3
      subst e1 e2 e3
      have HK := Lib.hid hkj
      clear hkj
      go_wp2_with fail
      go_region_held3 (fun w' => Below W.heap.size W w' ∧ w'.cell? ⟨b, k * 3, none⟩ = some (.int .i64 t1) ∧ w'.cell? ⟨b, k * 3 + 1, none⟩ = some (.int .i64 t2) ∧ w'.cell? ⟨b, k * 3 + 2, none⟩ = some (.int .i64 t3) ∧ w'.cell? ⟨w.heap.size, 0, none⟩ = some (.int .i64 t1) ∧ w'.cell? ⟨w.heap.size, 1, none⟩ = some (.int .i64 t2) ∧ w'.cell? ⟨w.heap.size, 2, none⟩ = some (.int .i64 t3)) (first | (with_reducible assumption) | exact ⟨hbw, h0, h1, h2, q0, q1, q2⟩ | (refine ⟨?_, ?_, ?_, ?_, ?_, ?_, ?_⟩ <;> first | (go_grown; done) | (go_simp; done))) (fail)
      go_wp2_with fail
      go_ret
      exact ⟨by rw [HK.out]; rfl, hbt.trans ⟨rfl, rfl, rfl, Nat.le_refl _, fun _ _ => rfl⟩⟩
    · have e : ¬ ((t1, t2, t3) : T3) = (x, y, z) := fun e => HF.out k (by omega) (by rw [ht, e])
      rw [show decide (((t1, t2, t3) : T3) = (x, y, z)) = false from by simp only [e, decide_false]] at hq
      go_wp2_with fail
      go_region_held3 (fun w' => Below W.heap.size W w' ∧ w'.cell? ⟨b, k * 3, none⟩ = some (.int .i64 t1) ∧ w'.cell? ⟨b, k * 3 + 1, none⟩ = some (.int .i64 t2) ∧ w'.cell? ⟨b, k * 3 + 2, none⟩ = some (.int .i64 t3) ∧ w'.cell? ⟨w.heap.size, 0, none⟩ = some (.int .i64 x) ∧ w'.cell? ⟨w.heap.size, 1, none⟩ = some (.int .i64 y) ∧ w'.cell? ⟨w.heap.size, 2, none⟩ = some (.int .i64 z)) (first | (with_reducible assumption) | exact ⟨hbw, h0, h1, h2, q0, q1, q2⟩ | (refine ⟨?_, ?_, ?_, ?_, ?_, ?_, ?_⟩ <;> first | (go_grown; done) | (go_simp; done))) (fail)
      go_wp2_with fail
      refine ⟨⟨k + 1, by omega, by go_num, hbw.trans ⟨rfl, rfl, rfl, Nat.le_refl _, fun _ _ => rfl⟩⟩, by simp [intOf]; omega⟩
theorem at_own (B : Nat) (v : Value) (xs : List T3) (j : Nat) (x y z : Int) (w : World) (h : w.ownsRow B 84 3 v xs.length (trips xs)) (hm : xs.length ≤ 100000) (hj : xs[j]? = some (x, y, z)) (hf : ∀ i, i < j → xs[i]? ≠ some (x, y, z)) :
    Calls Try.prog 58 #[v, .agg #[.int .i64 x, .int .i64 y, .int .i64 z]] w fun e w' => e = .returned (.int .i64 j) ∧ Below w.heap.size w w' := by
  have hlt := h.lt
  have hcs := fun q (hq : v.ownBlock = some q) => h.cells hq
  have hjl := (List.getElem?_eq_some_iff.1 hj).1
  obtain ⟨_, ⟨rfl, h0⟩ | ⟨q, cap, cur, rfl, hb, hg, hle, hm', _⟩⟩ := h
  · omega
  · refine at_k q _ cap j xs x y z w rfl hm (hlt q rfl).2 (fun i t hi => ?_) hj hf
    obtain ⟨e0, e1, e2⟩ := trips_at xs i t hi
    have h0 := hcs q rfl (i * 3) _ e0
    have h1 := hcs q rfl (i * 3 + 1) _ e1
    have h2 := hcs q rfl (i * 3 + 2) _ e2
    rw [Go.WideShapes.add_plain] at h0 h1 h2
    exact ⟨by simpa using h0, by simpa using h1, by simpa using h2⟩
end Go.Proofs.Ytfigabjcmpakeaa
