/- The document's builder: the next mark; the last strand of a stage ahead (layer 30). -/
import Derived.Test.YtgbaaemocnjaoaaDgB
namespace Go.Proofs.Ytgbaaemocnjaoaa.dg
open Go.ChangeShapes Go.WideShapes Go.ChangeAt Go.RowKit
open Go.Proofs.Ytgbaaemocnjaoaa.ro Go.Proofs.Ytgbaaemocnjaoaa.sn
attribute [local go_sem ↓] Go.wp_at_zero Go.wp_at_succ
set_option linter.unusedVariables false
set_option linter.unusedSimpArgs false
theorem set_above {w w1 : World} {b : Nat} (j : Nat) (v : Value) (h : Below w.heap.size w w1) (hb : b < w.heap.size) : Below w.heap.size (w.setCell ⟨b, j, none⟩ v) (w1.setCell ⟨b, j, none⟩ v) := by
  refine ⟨h.os, h.tape, h.output, by rw [set_size, set_size]; exact h.size, fun k hk => ?_⟩
  by_cases e : k = b
  · subst e
    show (w1.heap.modify k _)[k]? = (w.heap.modify k _)[k]?
    rw [Array.getElem?_modify, Array.getElem?_modify, if_pos rfl, if_pos rfl, h.block k hk]
  · rw [set_oth _ _ _ _ _ e, set_oth _ _ _ _ _ e]
    exact h.block k hk
def ndMark (m : Mk) : Value := .agg #[.int .i64 m.1, .int .i64 m.2.1, .int .i64 m.2.2]
set_option maxRecDepth 20000 in
theorem next_end (w0 w : World) (r : Ro) (b : Nat) (a : Option Addr) (n cp : Nat) (x : Dx) (h : DB w0 w r b (.slice a n cp) x) (hn : n ≤ 5000) (he : x.at_ = n) :
    Calls Try.prog 26 #[.pointer (some ⟨b, 0, none⟩)] w (DgP (ndMark (0, 0, 0)) fun r' w' => DB w0 w' r' b (.slice a n cp) { x with ov := true } ∧ KX (fun c => c = 1) r r' w w') := by
  obtain ⟨c0, c1, c2, c3, c4, c5, c6, cf⟩ := h.cells
  rw [he] at c1
  have f5 := cf 5
  have hbl := lt_of h.o
  have hni : (n : Int) ≤ 5000 := by omega
  obtain ⟨h2, k2⟩ := h.set { x with ov := true } 5 (.bool true) ⟨rfl, rfl, rfl, rfl, rfl, rfl, rfl⟩ rfl
  have HF : Hid (∀ w1 w', Below w.heap.size w w1 → Below w.heap.size (w1.setCell ⟨b, 5, none⟩ (.bool true)) w' → ∃ r', DB w0 w' r' b (.slice a n cp) { x with ov := true } ∧ KX (fun c => c = 1) r r' w w') := Lib.hid fun w1 w' hb1 hb => by
    obtain ⟨h3, k3⟩ := h2.below (w' := w') 0 (by rw [set_size]; exact (set_above _ _ hb1 hbl).trans hb)
    exact ⟨_, h3, k2.trans (k3.mono (fun _ h => h.elim))⟩
  clear h h2 k2 cf
  unfold ndMark
  go_enter Try.func26, Try.ntmps26
  go_wp2_with fail
  go_quiet (fail)
  go_wp2_with fail
  refine bodyPost_ret (v := .agg #[.int .i64 0, .int .i64 0, .int .i64 0]) (by simp [results, Try.results26, go_sem]) rfl ⟨rfl, HF.out ((w.alloc (.cells #[.int .i64 0, .int .i64 0, .int .i64 0] 43)).drewN nq) _ (below_drewN (by go_grown) _) (by go_grown)⟩
set_option maxHeartbeats 1000000 in
set_option maxRecDepth 20000 in
theorem next_ok (w0 w : World) (r : Ro) (b : Nat) (a : Option Addr) (n cp : Nat) (x : Dx) (y : Mk) (L : List Mk) (h : DB w0 w r b (.slice a n cp) x) (hv : RV 3 enN w0 (.slice a n cp) L) (hn : n ≤ 5000) (hy : L[x.at_]? = some y) (hk : 1 ≤ y.1 ∧ y.1 ≤ 12) :
    Calls Try.prog 26 #[.pointer (some ⟨b, 0, none⟩)] w (DgP (ndMark y) fun r' w' => DB w0 w' r' b (.slice a n cp) { x with at_ := x.at_ + 1 } ∧ KX (fun c => c = 1) r r' w w') := by
  obtain ⟨c0, c1, c2, c3, c4, c5, c6, cf⟩ := h.cells
  have hlt : x.at_ < n := by have := (List.getElem?_eq_some_iff.1 hy).1; have := (RV.len hv).1; omega
  obtain ⟨i, hi⟩ : ∃ i, x.at_ = i := ⟨_, rfl⟩
  rw [hi] at c1 hy hlt
  obtain ⟨g, o, rfl, hg, hc⟩ := hv.at i y hy
  have y0 : w.cell? ⟨g, o + i * 3, none⟩ = some (.int .i64 y.1) := (h.p.b.cell (p := ⟨g, o + i * 3, none⟩) hg).trans (by simpa using hc 0 _ rfl)
  have y1 : w.cell? ⟨g, o + i * 3 + 1, none⟩ = some (.int .i64 y.2.1) := (h.p.b.cell (p := ⟨g, o + i * 3 + 1, none⟩) hg).trans (by simpa [Nat.add_assoc] using hc 1 _ rfl)
  have y2 : w.cell? ⟨g, o + i * 3 + 2, none⟩ = some (.int .i64 y.2.2) := (h.p.b.cell (p := ⟨g, o + i * 3 + 2, none⟩) hg).trans (by simpa [Nat.add_assoc] using hc 2 _ rfl)
  have hgl : g < w.heap.size := Nat.lt_of_lt_of_le hg h.p.b.size
  have f1 := cf 1
  have f5 := cf 5
  have f6 := cf 6
  have hbl := lt_of h.o
  have hni : (n : Int) ≤ 5000 := by omega
  have hne : ¬ (i : Int) = (n : Int) := by omega
  have hneb : ((i : Int) == (n : Int)) = false := by rw [beq_eq_false_iff_ne]; exact hne
  have hlti : (i : Int) < (n : Int) := by omega
  obtain ⟨y', u1, u2⟩ := y
  dsimp only at hk y0 y1 y2
  have k1 : ¬ y' < 1 := by omega
  have k2 : ¬ 12 < y' := by omega
  obtain ⟨h2, k2'⟩ := h.set { x with at_ := x.at_ + 1 } 1 (.int .i64 ((i : Int) + 1)) ⟨rfl, rfl, rfl, rfl, rfl, rfl, rfl⟩ (by simp [Dx.cs, hi])
  have HF : Hid (∀ w1 w', Below w.heap.size w w1 → Below w.heap.size (w1.setCell ⟨b, 1, none⟩ (.int .i64 ((i : Int) + 1))) w' → ∃ r', DB w0 w' r' b (.slice (some ⟨g, o, none⟩) n cp) { x with at_ := x.at_ + 1 } ∧ KX (fun c => c = 1) r r' w w') := Lib.hid fun w1 w' hb1 hb => by
    obtain ⟨h3, k3⟩ := h2.below (w' := w') 0 (by rw [set_size]; exact (set_above _ _ hb1 hbl).trans hb)
    exact ⟨_, h3, k2'.trans (k3.mono (fun _ h => h.elim))⟩
  clear h h2 k2' cf hv hc hy hi hg
  unfold ndMark
  dsimp only
  go_enter Try.func26, Try.ntmps26
  go_wp2_with fail
  go_quiet (fail)
  go_wp2_with fail
  go_region
  go_wp2_with fail
  refine bodyPost_ret (v := .agg #[.int .i64 y', .int .i64 u1, .int .i64 u2]) (by simp [results, Try.results26, go_sem]) rfl ⟨rfl, HF.out ((w.alloc (.cells #[.int .i64 0, .int .i64 0, .int .i64 0] 43)).drewN (nq + 1)) _ (below_drewN (by go_grown) _) (by go_grown)⟩
set_option maxHeartbeats 1000000 in
set_option maxRecDepth 20000 in
theorem next_lo (w0 w : World) (r : Ro) (b : Nat) (a : Option Addr) (n cp : Nat) (x : Dx) (y : Mk) (L : List Mk) (h : DB w0 w r b (.slice a n cp) x) (hv : RV 3 enN w0 (.slice a n cp) L) (hn : n ≤ 5000) (hy : L[x.at_]? = some y) (hk : y.1 < 1) :
    Calls Try.prog 26 #[.pointer (some ⟨b, 0, none⟩)] w (DgP (ndMark y) fun r' w' => DB w0 w' r' b (.slice a n cp) { x with at_ := x.at_ + 1, er := 5, ov := true } ∧ KX (fun c => c = 1) r r' w w') := by
  obtain ⟨c0, c1, c2, c3, c4, c5, c6, cf⟩ := h.cells
  have hlt : x.at_ < n := by have := (List.getElem?_eq_some_iff.1 hy).1; have := (RV.len hv).1; omega
  obtain ⟨i, hi⟩ : ∃ i, x.at_ = i := ⟨_, rfl⟩
  rw [hi] at c1 hy hlt
  obtain ⟨g, o, rfl, hg, hc⟩ := hv.at i y hy
  have y0 : w.cell? ⟨g, o + i * 3, none⟩ = some (.int .i64 y.1) := (h.p.b.cell (p := ⟨g, o + i * 3, none⟩) hg).trans (by simpa using hc 0 _ rfl)
  have y1 : w.cell? ⟨g, o + i * 3 + 1, none⟩ = some (.int .i64 y.2.1) := (h.p.b.cell (p := ⟨g, o + i * 3 + 1, none⟩) hg).trans (by simpa [Nat.add_assoc] using hc 1 _ rfl)
  have y2 : w.cell? ⟨g, o + i * 3 + 2, none⟩ = some (.int .i64 y.2.2) := (h.p.b.cell (p := ⟨g, o + i * 3 + 2, none⟩) hg).trans (by simpa [Nat.add_assoc] using hc 2 _ rfl)
  have hgl : g < w.heap.size := Nat.lt_of_lt_of_le hg h.p.b.size
  have f1 := cf 1
  have f5 := cf 5
  have f6 := cf 6
  have hbl := lt_of h.o
  have hni : (n : Int) ≤ 5000 := by omega
  have hne : ¬ (i : Int) = (n : Int) := by omega
  have hneb : ((i : Int) == (n : Int)) = false := by rw [beq_eq_false_iff_ne]; exact hne
  have hlti : (i : Int) < (n : Int) := by omega
  obtain ⟨y', u1, u2⟩ := y
  dsimp only at hk y0 y1 y2
  have k1 : y' < 1 := hk
  obtain ⟨h2, k2'⟩ := h.set { x with at_ := x.at_ + 1 } 1 (.int .i64 ((i : Int) + 1)) ⟨rfl, rfl, rfl, rfl, rfl, rfl, rfl⟩ (by simp [Dx.cs, hi])
  obtain ⟨h3, k3'⟩ := h2.set { x with at_ := x.at_ + 1, er := 5 } 6 (.int .i64 5) ⟨rfl, rfl, rfl, rfl, rfl, rfl, rfl⟩ (by simp [Dx.cs])
  obtain ⟨h4, k4'⟩ := h3.set { x with at_ := x.at_ + 1, er := 5, ov := true } 5 (.bool true) ⟨rfl, rfl, rfl, rfl, rfl, rfl, rfl⟩ (by simp [Dx.cs])
  have HF : Hid (∀ w1 w', Below w.heap.size w w1 → Below w.heap.size (((w1.setCell ⟨b, 1, none⟩ (.int .i64 ((i : Int) + 1))).setCell ⟨b, 6, none⟩ (.int .i64 5)).setCell ⟨b, 5, none⟩ (.bool true)) w' → ∃ r', DB w0 w' r' b (.slice (some ⟨g, o, none⟩) n cp) { x with at_ := x.at_ + 1, er := 5, ov := true } ∧ KX (fun c => c = 1) r r' w w') := Lib.hid fun w1 w' hb1 hb => by
    have e1 := set_above 1 (.int .i64 ((i : Int) + 1)) hb1 hbl
    rw [← set_size w b 1 (.int .i64 ((i : Int) + 1))] at e1
    have e2 := set_above 6 (.int .i64 5) e1 (by rw [set_size]; exact hbl)
    rw [← set_size (w.setCell ⟨b, 1, none⟩ (.int .i64 ((i : Int) + 1))) b 6 (.int .i64 5)] at e2
    have e3 := set_above 5 (.bool true) e2 (by rw [set_size, set_size]; exact hbl)
    rw [set_size, set_size] at e3
    obtain ⟨h5, k5⟩ := h4.below (w' := w') 0 (by rw [set_size, set_size, set_size]; exact e3.trans hb)
    exact ⟨_, h5, (k2'.trans (k3'.trans k4')).trans (k5.mono (fun _ h => h.elim))⟩
  clear h h2 k2' h3 k3' h4 k4' cf hv hc hy hi hg
  unfold ndMark
  dsimp only
  go_enter Try.func26, Try.ntmps26
  go_wp2_with fail
  go_quiet (fail)
  go_wp2_with fail
  go_region
  go_wp2_with fail
  refine bodyPost_ret (v := .agg #[.int .i64 y', .int .i64 u1, .int .i64 u2]) (by simp [results, Try.results26, go_sem]) rfl ⟨rfl, HF.out ((w.alloc (.cells #[.int .i64 0, .int .i64 0, .int .i64 0] 43)).drewN (nq + 1)) _ (below_drewN (by go_grown) _) (by go_grown)⟩
set_option maxHeartbeats 1000000 in
set_option maxRecDepth 20000 in
theorem next_hi (w0 w : World) (r : Ro) (b : Nat) (a : Option Addr) (n cp : Nat) (x : Dx) (y : Mk) (L : List Mk) (h : DB w0 w r b (.slice a n cp) x) (hv : RV 3 enN w0 (.slice a n cp) L) (hn : n ≤ 5000) (hy : L[x.at_]? = some y) (hk : 12 < y.1) :
    Calls Try.prog 26 #[.pointer (some ⟨b, 0, none⟩)] w (DgP (ndMark y) fun r' w' => DB w0 w' r' b (.slice a n cp) { x with at_ := x.at_ + 1, er := 5, ov := true } ∧ KX (fun c => c = 1) r r' w w') := by
  obtain ⟨c0, c1, c2, c3, c4, c5, c6, cf⟩ := h.cells
  have hlt : x.at_ < n := by have := (List.getElem?_eq_some_iff.1 hy).1; have := (RV.len hv).1; omega
  obtain ⟨i, hi⟩ : ∃ i, x.at_ = i := ⟨_, rfl⟩
  rw [hi] at c1 hy hlt
  obtain ⟨g, o, rfl, hg, hc⟩ := hv.at i y hy
  have y0 : w.cell? ⟨g, o + i * 3, none⟩ = some (.int .i64 y.1) := (h.p.b.cell (p := ⟨g, o + i * 3, none⟩) hg).trans (by simpa using hc 0 _ rfl)
  have y1 : w.cell? ⟨g, o + i * 3 + 1, none⟩ = some (.int .i64 y.2.1) := (h.p.b.cell (p := ⟨g, o + i * 3 + 1, none⟩) hg).trans (by simpa [Nat.add_assoc] using hc 1 _ rfl)
  have y2 : w.cell? ⟨g, o + i * 3 + 2, none⟩ = some (.int .i64 y.2.2) := (h.p.b.cell (p := ⟨g, o + i * 3 + 2, none⟩) hg).trans (by simpa [Nat.add_assoc] using hc 2 _ rfl)
  have hgl : g < w.heap.size := Nat.lt_of_lt_of_le hg h.p.b.size
  have f1 := cf 1
  have f5 := cf 5
  have f6 := cf 6
  have hbl := lt_of h.o
  have hni : (n : Int) ≤ 5000 := by omega
  have hne : ¬ (i : Int) = (n : Int) := by omega
  have hneb : ((i : Int) == (n : Int)) = false := by rw [beq_eq_false_iff_ne]; exact hne
  have hlti : (i : Int) < (n : Int) := by omega
  obtain ⟨y', u1, u2⟩ := y
  dsimp only at hk y0 y1 y2
  have k1 : ¬ y' < 1 := by omega
  have k2 : 12 < y' := hk
  obtain ⟨h2, k2'⟩ := h.set { x with at_ := x.at_ + 1 } 1 (.int .i64 ((i : Int) + 1)) ⟨rfl, rfl, rfl, rfl, rfl, rfl, rfl⟩ (by simp [Dx.cs, hi])
  obtain ⟨h3, k3'⟩ := h2.set { x with at_ := x.at_ + 1, er := 5 } 6 (.int .i64 5) ⟨rfl, rfl, rfl, rfl, rfl, rfl, rfl⟩ (by simp [Dx.cs])
  obtain ⟨h4, k4'⟩ := h3.set { x with at_ := x.at_ + 1, er := 5, ov := true } 5 (.bool true) ⟨rfl, rfl, rfl, rfl, rfl, rfl, rfl⟩ (by simp [Dx.cs])
  have HF : Hid (∀ w1 w', Below w.heap.size w w1 → Below w.heap.size (((w1.setCell ⟨b, 1, none⟩ (.int .i64 ((i : Int) + 1))).setCell ⟨b, 6, none⟩ (.int .i64 5)).setCell ⟨b, 5, none⟩ (.bool true)) w' → ∃ r', DB w0 w' r' b (.slice (some ⟨g, o, none⟩) n cp) { x with at_ := x.at_ + 1, er := 5, ov := true } ∧ KX (fun c => c = 1) r r' w w') := Lib.hid fun w1 w' hb1 hb => by
    have e1 := set_above 1 (.int .i64 ((i : Int) + 1)) hb1 hbl
    rw [← set_size w b 1 (.int .i64 ((i : Int) + 1))] at e1
    have e2 := set_above 6 (.int .i64 5) e1 (by rw [set_size]; exact hbl)
    rw [← set_size (w.setCell ⟨b, 1, none⟩ (.int .i64 ((i : Int) + 1))) b 6 (.int .i64 5)] at e2
    have e3 := set_above 5 (.bool true) e2 (by rw [set_size, set_size]; exact hbl)
    rw [set_size, set_size] at e3
    obtain ⟨h5, k5⟩ := h4.below (w' := w') 0 (by rw [set_size, set_size, set_size]; exact e3.trans hb)
    exact ⟨_, h5, (k2'.trans (k3'.trans k4')).trans (k5.mono (fun _ h => h.elim))⟩
  clear h h2 k2' h3 k3' h4 k4' cf hv hc hy hi hg
  unfold ndMark
  dsimp only
  go_enter Try.func26, Try.ntmps26
  go_wp2_with fail
  go_quiet (fail)
  go_wp2_with fail
  go_region
  go_wp2_with fail
  refine bodyPost_ret (v := .agg #[.int .i64 y', .int .i64 u1, .int .i64 u2]) (by simp [results, Try.results26, go_sem]) rfl ⟨rfl, HF.out ((w.alloc (.cells #[.int .i64 0, .int .i64 0, .int .i64 0] 43)).drewN (nq + 1)) _ (below_drewN (by go_grown) _) (by go_grown)⟩
set_option maxRecDepth 20000 in
theorem at_of (w : World) (a : Option Addr) (n cp : Nat) (ah : List (Int × Int)) (st : Int) (ha : RV 2 enP w (.slice a n cp) ah) (hl : n ≤ 100000) :
    Calls Try.prog 28 #[.slice a n cp, .int .i64 st] w fun e w' => e = .returned (.int .i64 (befL st ah 0)) ∧ Below w.heap.size w w' := by
  have hln := (RV.len ha).1
  have HC : Hid (∀ j, j < n → ∃ g o, a = some ⟨g, o, none⟩ ∧ g < w.heap.size ∧ w.cell? ⟨g, o + j * 2, none⟩ = some (.int .i64 (ah.getD j (0, 0)).1) ∧ w.cell? ⟨g, o + j * 2 + 1, none⟩ = some (.int .i64 (ah.getD j (0, 0)).2)) := Lib.hid fun j hj => by
    obtain ⟨g, o, e, hg, hc⟩ := ha.at j (ah.getD j (0, 0)) (by rw [List.getD_eq_getElem?_getD, List.getElem?_eq_getElem (by omega)]; rfl)
    exact ⟨g, o, e, hg, by simpa using hc 0 _ rfl, by simpa [Nat.add_assoc] using hc 1 _ rfl⟩
  have HN := Lib.hid hln
  clear ha hln
  go_enter Try.func28, Try.ntmps28
  go_wp2_with fail
  go_loopw [5, 6] (fun q i wr => ∃ k : Nat, k ≤ n ∧ i = .int .i64 (k : Int) ∧ q = .int .i64 (befL st (ah.take k) 0) ∧ Hid (Below w.heap.size w wr)) (fun _ i _ => n - (intOf i).toNat)
  case atStart => exact ⟨0, by omega, rfl, rfl, Lib.hid (Below.refl _ _)⟩
  case round =>
    obtain ⟨k, hk, rfl, rfl, HW⟩ := hrel
    by_cases hlt : k < n
    · obtain ⟨g, o, rfl, hg, e0, e1⟩ := HC.out k hlt
      have e0' := (HW.out.cell (p := ⟨g, o + k * 2, none⟩) hg).trans e0
      have e1' := (HW.out.cell (p := ⟨g, o + k * 2 + 1, none⟩) hg).trans e1
      have HT : Hid (befL st (ah.take (k + 1)) 0 = if (ah.getD k (0, 0)).1 ≤ st then (ah.getD k (0, 0)).2 else befL st (ah.take k) 0) := Lib.hid (by rw [sn.take_snoc ah k (0, 0) (by have := HN.out; omega), befL_snoc])
      generalize ah.getD k (0, 0) = p at *
      generalize befL st (ah.take k) 0 = q at *
      clear e0 e1
      by_cases hp : p.1 ≤ st
      · go_wp2_with fail
        go_roundw
        case rel => exact ⟨k + 1, by omega, by go_num, by rw [HT.out, if_pos hp], HW⟩
        case measure => simp [intOf]; omega
      · go_wp2_with fail
        go_roundw
        case rel => exact ⟨k + 1, by omega, by go_num, by rw [HT.out, if_neg hp], HW⟩
        case measure => simp [intOf]; omega
    · obtain rfl : k = n := by omega
      have e : ah.take k = ah := List.take_of_length_le (by have := HN.out; omega)
      rw [e]
      go_wp2_with fail
      go_ret
      exact ⟨rfl, HW.out⟩
end Go.Proofs.Ytgbaaemocnjaoaa.dg
