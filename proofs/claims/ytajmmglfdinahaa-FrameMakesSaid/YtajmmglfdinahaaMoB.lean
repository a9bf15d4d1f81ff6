/- A deque in one piece: what is taken from it (layer 14). -/
import Derived.Test.YtajmmglfdinahaaMoA
namespace Go.Proofs.Ytajmmglfdinahaa.mo
open Go.ChangeShapes Go.WideShapes Go.ChangeAt Go.RowKit
set_option linter.unusedVariables false
set_option linter.unusedSimpArgs false
theorem take_nil (p : Int) (w : World) : Calls Try.prog 62 #[.pointer none, .int .i64 p] w fun e w' => e = .returned (.tuple #[.int .i64 0, .bool false]) ∧ w' = w := by
  go_enter Try.func62, Try.ntmps62
  go_wp2_with (first | (go_at_call 30; refine (len_nil _).mono ?_; rintro e w1 ⟨rfl, rfl⟩))
  go_ret2
  exact ⟨rfl, rfl⟩
theorem take_no (B M : Nat) (most : Int) (v : Value) (p : Int) (w : World) (h : MS B M w most v []) : Calls Try.prog 62 #[.pointer (some ⟨M, 0, none⟩), .int .i64 p] w fun e w' => e = .returned (.tuple #[.int .i64 0, .bool false]) ∧ w' = w := by
  have C := Lib.hid (len_of B M most v [] 0 w h (Lib.hid rfl))
  clear h
  go_enter Try.func62, Try.ntmps62
  go_wp2_with (first | (go_at_call 30; refine C.out.mono ?_; rintro e w1 ⟨rfl, rfl⟩))
  go_ret2
  exact ⟨rfl, rfl⟩
theorem erase_cells (xs : List Int) (p : Nat) (hp : p < xs.length) : ((((xs.take xs.length).take p ++ (xs.take xs.length).drop (p + 1) ++ List.replicate (p + 1 - p) 0).map (Value.int .i64)).take (xs.length - (p + 1 - p))) = (xs.eraseIdx p).map (Value.int .i64) ∧ (((xs.take xs.length).take p ++ (xs.take xs.length).drop (p + 1) ++ List.replicate (p + 1 - p) (0 : Int)).map (Value.int .i64)).length = xs.length := by
  rw [List.take_length, List.eraseIdx_eq_take_drop_succ]
  have hl : (xs.take p ++ xs.drop (p + 1)).length = xs.length - (p + 1 - p) := by simp; omega
  refine ⟨?_, by simp; omega⟩
  rw [← hl, List.map_append, show (xs.take p ++ xs.drop (p + 1)).length = ((xs.take p ++ xs.drop (p + 1)).map (Value.int .i64)).length by simp]
  exact List.take_left
set_option maxRecDepth 20000 in
set_option maxHeartbeats 1000000 in
theorem take_yes (B M : Nat) (most : Int) (v : Value) (xs : List Int) (p : Nat) (x : Int) (w : World) (h : MS B M w most v xs) (hp : p < xs.length) (hl : xs.length ≤ 2000) (hx : Hid (xs.getD p 0 = x)) :
    Calls Try.prog 62 #[.pointer (some ⟨M, 0, none⟩), .int .i64 (p : Int)] w (MPost B M most v (xs.eraseIdx p) (.tuple #[.int .i64 x, .bool true]) w) := by
  have C := Lib.hid (len_of B M most v xs xs.length w h (Lib.hid rfl))
  obtain ⟨c0, c1, cf⟩ := h.cells
  have f1 := cf 1
  have hrow := h.row
  obtain ⟨hlen, ⟨rfl, h0⟩ | ⟨g, cap, cur, rfl, hg, hh, k1, k2, k3, k4⟩⟩ := hrow
  · omega
  have hcell : ∀ j, j < xs.length → w.cell? ⟨g, 0 + j, none⟩ = some (.int .i64 (xs.getD j 0)) := by
    obtain ⟨a', cap', e', _, _, _, hc⟩ := OI.form h.row
    simp only [Value.slice.injEq] at e'
    obtain ⟨rfl, _, rfl⟩ := e'
    obtain ⟨g', e2, _, _, hc2⟩ := hc _ rfl
    cases e2
    exact hc2
  have cp := hcell p hp
  rw [hx.out, Nat.zero_add] at cp
  have D := Lib.hid (Try.slices_Delete_int_cells g 0 xs.length cap p (p + 1) xs w (Nat.le_refl _) k1 (by unfold maxLen at k2; omega) (by omega) (by omega) hcell (fun j _ => by simp [World.frozen?, hh]))
  obtain ⟨ec, el⟩ := erase_cells xs p hp
  have hgM : g ≠ M := fun e => h.nm (by simp [Value.ownBlock, e])
  have HG := Lib.hid hgM
  obtain ⟨vs, hvs⟩ : ∃ vs, ((xs.take xs.length).take p ++ (xs.take xs.length).drop (p + 1) ++ List.replicate (p + 1 - p) (0 : Int)).map (Value.int .i64) = vs := ⟨_, rfl⟩
  rw [hvs] at ec el
  have HV := Lib.hid hvs
  have HEC := Lib.hid ec
  have HEL := Lib.hid el
  have H := Lib.hid h
  have HH := Lib.hid hh
  have K3 := Lib.hid k3
  have e2 : (0 : Int) ≤ (p : Int) := by omega
  have e3 : (p : Int) < (xs.length : Int) := by omega
  have e4 : (p : Int).toNat = p := by omega
  have e5 : ((xs.length : Int) == 0) = false := beq_eq_false_iff_ne.2 (by omega)
  have HX := Lib.hid hlen
  clear h cf hcell hh k3 k4 hvs ec el hgM hlen
  go_enter Try.func62, Try.ntmps62
  go_wp2_with fail
  refine C.out.mono ?_
  rintro e w1 ⟨rfl, rfl⟩
  go_wp2_with fail
  refine D.out.mono ?_
  rintro e w2 ⟨rfl, q, hw2⟩
  have hs1 : (w1.drewN q).heap[g]? = some (.cells cur 3 (0, 0)) := HH.out
  obtain ⟨cur', r1, r2, r3, r4, r5, r6⟩ := setCells_row g 3 vs 0 (w1.drewN q) cur hs1 (by rw [HEL.out, K3.out]; omega)
  rw [HV.out] at hw2
  rw [← hw2] at r1 r5 r6
  have hz : w2.heap.size = w1.heap.size := r5
  have hob : w2.heap[M]? = some (.cells #[.int .i64 most, .slice (some ⟨g, 0, none⟩) xs.length cap] 95 (0, 0)) := (r6 M (fun e => HG.out e.symm)).trans H.out.obj
  have d1 : w2.cell? ⟨M, 1, none⟩ = some (.slice (some ⟨g, 0, none⟩) xs.length cap) := by simp [World.cell?, hob]
  have df : w2.frozen? ⟨M, 1, none⟩ = false := by simp [World.frozen?, hob]
  have hlE : (xs.eraseIdx p).length = xs.length - (p + 1 - p) := by rw [List.length_eraseIdx]; rw [if_pos hp]; omega
  have hrow2 : OI w2 B (.slice (some ⟨g, 0, none⟩) (xs.length - (p + 1 - p)) cap) (xs.eraseIdx p) := by
    refine ⟨by simp, .inr ⟨g, cap, cur', by rw [hlE], hg, r1, by omega, k2, by rw [r2, K3.out], ?_⟩⟩
    rw [Nat.mul_one, hlE, ← HEC.out]
    apply List.ext_getElem?
    intro i
    rw [List.getElem?_take, List.getElem?_take]
    split
    · have := r4 i (by rw [HEL.out]; omega)
      rw [Nat.zero_add] at this
      simpa using this
    · rfl
  have hM3 : MS B M (w2.setCell ⟨M, 1, none⟩ (.slice (some ⟨g, 0, none⟩) (xs.length - (p + 1 - p)) cap)) most (.slice (some ⟨g, 0, none⟩) (xs.length - (p + 1 - p)) cap) (xs.eraseIdx p) :=
    ⟨by rw [set_obj (i := 1) _ hob]; rfl, oi_keep hrow2 (fun k hk => set_heap w2 M 1 k _ (fun e => by simp [Value.ownBlock] at hk; exact HG.out (hk.trans e))), by simp only [Value.ownBlock, ne_eq, Option.some.injEq]; exact HG.out, H.out.base⟩
  have hk2 : KM M (.slice (some ⟨g, 0, none⟩) xs.length cap) w1 (w2.setCell ⟨M, 1, none⟩ (.slice (some ⟨g, 0, none⟩) (xs.length - (p + 1 - p)) cap)) := by
    refine ⟨by rw [size_set, hz]; exact Nat.le_refl _, fun k hk h1 h2 => ?_⟩
    rw [set_heap w2 M 1 k _ h1, r6 k (fun e => h2 (by simp [Value.ownBlock, e]))]
    rfl
  have hbl : Below B w1 (w2.setCell ⟨M, 1, none⟩ (.slice (some ⟨g, 0, none⟩) (xs.length - (p + 1 - p)) cap)) := by
    refine Below.setCell ?_ H.out.base _
    rw [hw2]
    have : ∀ (vs : List Value) (o : Nat) (w : World), Below B w1 w → Below B w1 (w.setCells g o vs) := by
      intro vs
      induction vs with
      | nil => intro o w h; exact h
      | cons v r ih => intro o w h; exact ih (o + 1) _ (h.setCell hg _)
    exact this vs 0 _ (below_drewN (Below.refl _ _) q)
  have FIN := Lib.hid (And.intro hM3 (And.intro hbl (And.intro hk2 (show NB (.slice (some ⟨g, 0, none⟩) xs.length cap) (.slice (some ⟨g, 0, none⟩) (xs.length - (p + 1 - p)) cap) w1 from .inl rfl))))
  clear hs1 r1 r2 r3 r4 r5 r6 hob hrow2 hM3 hk2 hbl hw2 c0 c1 cp f1
  generalize xs.length - (p + 1 - p) = L at *
  go_wp2_with fail
  go_ret2
  exact ⟨rfl, _, FIN.out⟩
theorem pop_nil (w : World) : Calls Try.prog 27 #[.pointer none] w fun e w' => e = .returned (.tuple #[.int .i64 0, .bool false]) ∧ w' = w := by
  go_enter Try.func27, Try.ntmps27
  go_wp2_with (first | (go_at_call 30; refine (len_nil _).mono ?_; rintro e w1 ⟨rfl, rfl⟩) | (go_at_call 62; refine (take_nil _ _).mono ?_; rintro e w1 ⟨rfl, rfl⟩))
  go_ret2
  exact ⟨rfl, rfl⟩
theorem steal_nil (w : World) : Calls Try.prog 28 #[.pointer none] w fun e w' => e = .returned (.tuple #[.int .i64 0, .bool false]) ∧ w' = w := by
  go_enter Try.func28, Try.ntmps28
  go_wp2_with (first | (go_at_call 62; refine (take_nil _ _).mono ?_; rintro e w1 ⟨rfl, rfl⟩))
  go_ret2
  exact ⟨rfl, rfl⟩
theorem pop_no (B M : Nat) (most : Int) (v : Value) (w : World) (h : MS B M w most v []) : Calls Try.prog 27 #[.pointer (some ⟨M, 0, none⟩)] w fun e w' => e = .returned (.tuple #[.int .i64 0, .bool false]) ∧ w' = w := by
  have C := Lib.hid (len_of B M most v [] 0 w h (Lib.hid rfl))
  have D := Lib.hid (take_no B M most v (-1) w h)
  clear h
  go_enter Try.func27, Try.ntmps27
  go_wp2_with (first | (go_at_call 30; refine C.out.mono ?_; rintro e w1 ⟨rfl, rfl⟩) | (go_at_call 62; refine D.out.mono ?_; rintro e w1 ⟨rfl, rfl⟩))
  go_ret2
  exact ⟨rfl, rfl⟩
theorem steal_no (B M : Nat) (most : Int) (v : Value) (w : World) (h : MS B M w most v []) : Calls Try.prog 28 #[.pointer (some ⟨M, 0, none⟩)] w fun e w' => e = .returned (.tuple #[.int .i64 0, .bool false]) ∧ w' = w := by
  have D := Lib.hid (take_no B M most v 0 w h)
  clear h
  go_enter Try.func28, Try.ntmps28
  go_wp2_with (first | (go_at_call 62; refine D.out.mono ?_; rintro e w1 ⟨rfl, rfl⟩))
  go_ret2
  exact ⟨rfl, rfl⟩
theorem pop_yes (B M : Nat) (most : Int) (v : Value) (xs : List Int) (x : Int) (w : World) (h : MS B M w most v (xs ++ [x])) (hl : xs.length ≤ 1999) :
    Calls Try.prog 27 #[.pointer (some ⟨M, 0, none⟩)] w (MPost B M most v xs (.tuple #[.int .i64 x, .bool true]) w) := by
  have C := Lib.hid (len_of B M most v (xs ++ [x]) (xs.length + 1) w h (Lib.hid (by simp)))
  have T := take_yes B M most v (xs ++ [x]) xs.length x w h (by simp) (by simp; omega) (Lib.hid (by simp))
  rw [show (xs ++ [x]).eraseIdx xs.length = xs by rw [List.eraseIdx_append_of_length_le (Nat.le_refl _)]; simp] at T
  have D := Lib.hid T
  have e1 : ((xs.length + 1 : Nat) : Int) - 1 = (xs.length : Int) := by omega
  have e2 : (xs.length : Int) + 1 - 1 = (xs.length : Int) := by omega
  clear h T
  go_enter Try.func27, Try.ntmps27
  go_wp2_with fail
  refine C.out.mono ?_
  rintro e w1 ⟨rfl, rfl⟩
  go_wp2_with fail
  refine D.out.mono ?_
  rintro e w2 ⟨rfl, hv⟩
  have HV := Lib.hid hv
  clear hv
  go_wp2_with fail
  go_ret2
  exact ⟨rfl, HV.out⟩
theorem steal_yes (B M : Nat) (most : Int) (v : Value) (xs : List Int) (x : Int) (w : World) (h : MS B M w most v (x :: xs)) (hl : xs.length ≤ 1999) :
    Calls Try.prog 28 #[.pointer (some ⟨M, 0, none⟩)] w (MPost B M most v xs (.tuple #[.int .i64 x, .bool true]) w) := by
  have T := take_yes B M most v (x :: xs) 0 x w h (by simp) (by simp; omega) (Lib.hid (by simp))
  rw [show (x :: xs).eraseIdx 0 = xs from rfl] at T
  have D := Lib.hid T
  clear h T
  go_enter Try.func28, Try.ntmps28
  go_wp2_with fail
  refine D.out.mono ?_
  rintro e w2 ⟨rfl, hv⟩
  have HV := Lib.hid hv
  clear hv
  go_wp2_with fail
  go_ret2
  exact ⟨rfl, HV.out⟩
end Go.Proofs.Ytajmmglfdinahaa.mo
