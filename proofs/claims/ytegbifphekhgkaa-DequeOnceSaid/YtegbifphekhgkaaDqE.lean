/- The steps of a walk at a deque that put, ask, wait and take (layer 13). -/
import Derived.Test.YtegbifphekhgkaaDqD
import Derived.Deep.RegionHeld3
import Derived.Deep.DrawnRows
namespace Go.Proofs.Ytegbifphekhgkaa
open Go.ChangeShapes Go.WideShapes Go.ChangeAt Go.RowKit
attribute [local go_sem ↓] Go.wp_at_zero Go.wp_at_succ
set_option linter.unusedVariables false
set_option linter.unusedSimpArgs false
theorem WOk.set {o : Wk} {P i : Nat} {xs : List Int} {v : Int} (h : WOk o P xs.length) : WOk o P (xs.set i v).length := by rw [List.length_set]; exact h
theorem keepK {g B : Nat} {w0 W W' : World} {v0 v1 v2 v3 v4 v5 v6 : Value} (h : Keep g w0 W ∧ W.cell? ⟨B, 0, none⟩ = some v0 ∧ W.cell? ⟨B, 1, none⟩ = some v1 ∧ W.cell? ⟨B, 2, none⟩ = some v2 ∧ W.cell? ⟨B, 3, none⟩ = some v3 ∧ W.cell? ⟨B, 4, none⟩ = some v4 ∧ W.cell? ⟨B, 5, none⟩ = some v5 ∧ W.cell? ⟨B, 6, none⟩ = some v6) (hk : Keep g W W') (hB : B ≠ g) :
    Keep g w0 W' ∧ W'.cell? ⟨B, 0, none⟩ = some v0 ∧ W'.cell? ⟨B, 1, none⟩ = some v1 ∧ W'.cell? ⟨B, 2, none⟩ = some v2 ∧ W'.cell? ⟨B, 3, none⟩ = some v3 ∧ W'.cell? ⟨B, 4, none⟩ = some v4 ∧ W'.cell? ⟨B, 5, none⟩ = some v5 ∧ W'.cell? ⟨B, 6, none⟩ = some v6 :=
  ⟨h.1.trans hk, hk.cell h.2.1 hB, hk.cell h.2.2.1 hB, hk.cell h.2.2.2.1 hB, hk.cell h.2.2.2.2.1 hB, hk.cell h.2.2.2.2.2.1 hB, hk.cell h.2.2.2.2.2.2.1 hB, hk.cell h.2.2.2.2.2.2.2 hB⟩
set_option maxRecDepth 20000 in
theorem d_pushPut (w0 w : World) (S g A P r : Nat) (xs : List Int) (o : Wk) (h : WS w0 w S g A xs o) (hO : WOk o P xs.length) (b1 : 0 ≤ o.tl) (b2 : o.tl ≤ 1000000) (hr : Hid (o.tl.tmod (o.D : Int) = (r : Int))) (hrd : r < o.D) :
    Calls Try.prog 76 #[.pointer (some ⟨A, 0, none⟩), .pointer (some ⟨S, 0, none⟩)] w (Post w0 w S g A (xs.set (P + 4 + r) o.x) { o with nx := fnV A 96 }) := by
  have hO0 := hO
  obtain ⟨d1, d2, hk, hP, hn, hm⟩ := hO
  obtain ⟨c0, c1, c2, c3, c4, c5, c6, c7, c8, c9, c10, c11, c12, c13, cf⟩ := h.a.cells
  have hag := h.ag
  have H := Lib.hid h
  have HO : Hid (WOk o P xs.length) := Lib.hid ⟨d1, d2, hk, hP, hn, hm⟩
  have f13 := cf 13
  clear h hP
  have hOk : Hid (Okay 2 1 1 (o.D : Int)) := Lib.hid ⟨by omega, by omega, by omega, by omega, by omega, by omega, by omega, by omega⟩
  have hPI : Hid ((o.k : Int) * (4 + (o.D : Int)) = (P : Int)) := Lib.hid (by rw [← hO0.2.2.2.1]; push_cast; rfl)
  have hk2 : (o.k : Int) < 2 := by omega
  have hat : P + 4 + r < xs.length := by omega
  have HSL : Hid ((P : Int) + 4 + (r : Int) = ((P + 4 + r : Nat) : Int)) := Lib.hid (by omega)
  clear hO0
  go_enter Try.func76, Try.ntmps76
  go_wp2_with fail
  go_region_held3 (fun w' => Keep g w w' ∧ w'.cell? ⟨A, 0, none⟩ = some (.int .i64 2) ∧ w'.cell? ⟨A, 1, none⟩ = some (.int .i64 1) ∧ w'.cell? ⟨A, 2, none⟩ = some (.int .i64 1) ∧ w'.cell? ⟨A, 3, none⟩ = some (.int .i64 (o.D : Int)) ∧ w'.cell? ⟨A, 4, none⟩ = some (.int .i64 (o.k : Int)) ∧ w'.cell? ⟨A, 5, none⟩ = some (.int .i64 o.tl) ∧ w'.cell? ⟨A, 6, none⟩ = some (.int .i64 o.x))
    (first | (with_reducible assumption) | exact ⟨Keep.refl g w, c0, c1, c2, c3, c4, c5, c6⟩ | exact keepK (by with_reducible assumption) (Keep.set (by assumption)) hag | exact keepK (by with_reducible assumption) (Keep.of_below (by assumption)) hag | (refine keepK ⟨Keep.refl g w, c0, c1, c2, c3, c4, c5, c6⟩ (Keep.of_below ?_) hag; go_grown; done))
    (first | (go_at_call 95; refine (slot_of 2 1 1 (o.D : Int) (o.k : Int) o.tl (P : Int) (r : Int) _ hOk (by omega) hk2 hPI b1 hr).mono ?_; rintro e w1 ⟨rfl, hb⟩; rw [HSL.out])
           | (go_at_call 37; refine (store_in S g xs (P + 4 + r) _ _ (H.out.j.below' (btr (by go_grown) hb)).1 hat hm).mono ?_; rintro e w2 ⟨rfl, hw⟩; have hJ2 := (H.out.j.below' (btr (by go_grown) hb)).set _ _ hw; have hK2 : Keep g w w2 := (Keep.of_below (btr (by go_grown) hb)).trans (Keep.set hw)))
  all_goals
    have hS2 := H.out.keep hJ2 hK2
    have hF2 : Fr g A w w2 := Fr.of_keep hK2
    obtain ⟨_, _, _, _, _, _, _, _, _, _, _, _, _, e13, ef⟩ := hS2.a.cells
    have g13 := ef 13
    have HS2 := Lib.hid hS2
    have HF2 := Lib.hid hF2
    clear hS2 hF2 hJ2 hK2 ef
    go_wp2_with fail
    go_end0
    exact ⟨rfl, HS2.out.nx (fnV A 96), HF2.out.trans (Fr.setA g A 13 _ _)⟩
set_option maxRecDepth 20000 in
theorem d_pushShow (w0 w : World) (S g A P : Nat) (xs : List Int) (o : Wk) (v : Int) (h : WS w0 w S g A xs o) (hO : WOk o P xs.length) (b1 : 0 ≤ o.tl) (b2 : o.tl ≤ 1000000) (hv : Hid (o.tl + 1 = v)) :
    Calls Try.prog 96 #[.pointer (some ⟨A, 0, none⟩), .pointer (some ⟨S, 0, none⟩)] w (Post w0 w S g A (xs.set (P + 1) v) { o with tl := v, nx := .nilFunc }) := by
  obtain ⟨d1, d2, hk, hP, hn, hm⟩ := hO
  obtain ⟨c0, c1, c2, c3, c4, c5, c6, c7, c8, c9, c10, c11, c12, c13, cf⟩ := h.a.cells
  have hag := h.ag
  have H := Lib.hid h
  have HO : Hid (WOk o P xs.length) := Lib.hid ⟨d1, d2, hk, hP, hn, hm⟩
  have f13 := cf 13
  clear h hP
  have f5 := cf 5
  have hat : P + 1 < xs.length := by omega
  have hv' : o.tl + 1 = v := hv.out
  have HT := Lib.hid (H.out.tl v)
  have HO2 : Hid (WOk { o with tl := v } P xs.length) := Lib.hid HO.out
  have HF0 : Hid (Fr g A w (w.setCell ⟨A, 5, none⟩ (.int .i64 v))) := Lib.hid (Fr.setA g A 5 _ _)
  have hv2 : v ≤ 1000001 := by omega
  go_enter Try.func96, Try.ntmps96
  go_wp2_with fail
  obtain ⟨W, hW⟩ : ∃ W, w.setCell ⟨A, 5, none⟩ (.int .i64 v) = W := ⟨_, rfl⟩
  rw [hW]
  rw [hW] at HT HF0
  obtain ⟨_, _, _, _, _, k5, _⟩ := HT.out.a.cells
  clear hW c0 c1 c2 c3 c4 c5 c6 c7 c8 c9 c10 c11 c12 c13 cf f13 f5 hv'
  go_region_held3 (fun w' => Keep g W w' ∧ w'.cell? ⟨A, 5, none⟩ = some (.int .i64 v))
    (first | (with_reducible assumption) | exact ⟨Keep.refl g W, k5⟩ | exact keepA (by with_reducible assumption) (Keep.set (by assumption)) hag | exact keepA (by with_reducible assumption) (Keep.of_below (by assumption)) hag | (refine keepA ⟨Keep.refl g W, k5⟩ (Keep.of_below ?_) hag; go_grown; done))
    (first | (go_at_call 77; refine (dword_of A P 1 _ xs.length _ (HT.out.a.below (by go_grown)) HO2.out (by omega)).mono ?_; rintro e w1 ⟨rfl, hb⟩)
           | (go_at_call 37; refine (store_in S g xs (P + 1) _ _ (HT.out.j.below' (btr (by go_grown) hb)).1 hat hm).mono ?_; rintro e w2 ⟨rfl, hw⟩; have hJ2 := (HT.out.j.below' (btr (by go_grown) hb)).set _ _ hw; have hK2 : Keep g W w2 := (Keep.of_below (btr (by go_grown) hb)).trans (Keep.set hw)))
  all_goals
    have hS2 := HT.out.keep hJ2 hK2
    have hF2 : Fr g A w w2 := HF0.out.trans (Fr.of_keep hK2)
    obtain ⟨_, _, _, _, _, _, _, _, _, _, _, _, _, e13, ef⟩ := hS2.a.cells
    have g13 := ef 13
    have HS2 := Lib.hid hS2
    have HF2 := Lib.hid hF2
    clear hS2 hF2 hJ2 hK2 ef
    go_wp2_with fail
    go_end0
    exact ⟨rfl, HS2.out.nx .nilFunc, HF2.out.trans (Fr.setA g A 13 _ _)⟩
theorem d_ask (w0 w : World) (S g A P : Nat) (xs : List Int) (o : Wk) (v : Int) (h : WS w0 w S g A xs o) (hO : WOk o P xs.length) (hv : Hid (xs.getD (P + 2) 0 = v)) :
    Calls Try.prog 79 #[.pointer (some ⟨A, 0, none⟩), .pointer (some ⟨S, 0, none⟩)] w (Post w0 w S g A (xs.set (P + 2) (wrap64 (v + 1))) { o with ta := ((P + 2 : Nat) : Int), tn := v }) := by
  obtain ⟨d1, d2, hk, hP, hn, hm⟩ := hO
  obtain ⟨c0, c1, c2, c3, c4, c5, c6, c7, c8, c9, c10, c11, c12, c13, cf⟩ := h.a.cells
  have hag := h.ag
  have H := Lib.hid h
  have HO : Hid (WOk o P xs.length) := Lib.hid ⟨d1, d2, hk, hP, hn, hm⟩
  have f13 := cf 13
  clear h hP
  have hat : P + 2 < xs.length := by omega
  go_enter Try.func79, Try.ntmps79
  go_wp2_with fail
  refine (dword_of A P 2 o xs.length _ H.out.a HO.out (by omega)).mono ?_
  rintro e w1 ⟨rfl, hb⟩
  have H1 := Lib.hid (H.out.below hb)
  have HF1 : Hid (Fr g A w w1) := Lib.hid (Fr.of_below hb)
  clear hb c0 c1 c2 c3 c4 c5 c6 c7 c8 c9 c10 c11 c12 c13 cf f13
  go_wp2_with fail
  refine (task_j S g xs (P + 2) v w0 _ H1.out.j hv hat hm).mono ?_
  rintro e w2 ⟨rfl, hJ, hK⟩
  have hS2 := H1.out.keep hJ hK
  have HF2 : Hid (Fr g A w w2) := Lib.hid (HF1.out.trans (Fr.of_keep hK))
  obtain ⟨_, _, _, _, _, _, _, _, e8, e9, _, _, _, _, ef⟩ := hS2.a.cells
  have g8 := ef 8
  have g9 := ef 9
  have HS2 := Lib.hid hS2
  clear hS2 hJ hK ef
  go_wp2_with fail
  go_end0
  exact ⟨rfl, (HS2.out.ta ((P + 2 : Nat) : Int)).tn v, (HF2.out.trans (Fr.setA g A 8 _ _)).trans (Fr.setA g A 9 _ _)⟩
theorem d_leave (w0 w : World) (S g A : Nat) (k : Nat) (xs : List Int) (o : Wk) (m : Int) (h : WS w0 w S g A xs o) (hk : Hid (o.ta + 1 = (k : Int))) (hn : Hid (wrap64 (o.tn + 1) = m)) (hat : k < xs.length) (hm : xs.length ≤ 1048576) :
    Calls Try.prog 124 #[.pointer (some ⟨A, 0, none⟩), .pointer (some ⟨S, 0, none⟩)] w (Post w0 w S g A (xs.set k m) o) := by
  obtain ⟨c0, c1, c2, c3, c4, c5, c6, c7, c8, c9, c10, c11, c12, c13, cf⟩ := h.a.cells
  have H := Lib.hid h
  clear h
  go_enter Try.func124, Try.ntmps124
  go_wp2_with fail
  refine (tleave_j S g k xs o.ta o.tn m w0 _ H.out.j hk hn hat hm).mono ?_
  rintro e w2 ⟨rfl, hJ, hK⟩
  have HS2 := Lib.hid (H.out.keep hJ hK)
  have HF2 : Hid (Fr g A w w2) := Lib.hid (Fr.of_keep hK)
  clear hJ hK
  go_wp2_with fail
  go_end0
  exact ⟨rfl, HS2.out, HF2.out⟩
theorem cells5b {W W' : World} {B : Nat} {v0 v1 v2 v3 v4 : Value} (h : W.cell? ⟨B, 0, none⟩ = some v0 ∧ W.cell? ⟨B, 1, none⟩ = some v1 ∧ W.cell? ⟨B, 2, none⟩ = some v2 ∧ W.cell? ⟨B, 3, none⟩ = some v3 ∧ W.cell? ⟨B, 4, none⟩ = some v4) (hb : Below W.heap.size W W') :
    W'.cell? ⟨B, 0, none⟩ = some v0 ∧ W'.cell? ⟨B, 1, none⟩ = some v1 ∧ W'.cell? ⟨B, 2, none⟩ = some v2 ∧ W'.cell? ⟨B, 3, none⟩ = some v3 ∧ W'.cell? ⟨B, 4, none⟩ = some v4 :=
  ⟨keepc h.1 hb, keepc h.2.1 hb, keepc h.2.2.1 hb, keepc h.2.2.2.1 hb, keepc h.2.2.2.2 hb⟩
theorem cells5s {W : World} {B : Nat} {v0 v1 v2 v3 v4 v : Value} (h : W.cell? ⟨B, 0, none⟩ = some v0 ∧ W.cell? ⟨B, 1, none⟩ = some v1 ∧ W.cell? ⟨B, 2, none⟩ = some v2 ∧ W.cell? ⟨B, 3, none⟩ = some v3 ∧ W.cell? ⟨B, 4, none⟩ = some v4) :
    (W.setCell ⟨B, 10, none⟩ v).cell? ⟨B, 0, none⟩ = some v0 ∧ (W.setCell ⟨B, 10, none⟩ v).cell? ⟨B, 1, none⟩ = some v1 ∧ (W.setCell ⟨B, 10, none⟩ v).cell? ⟨B, 2, none⟩ = some v2 ∧ (W.setCell ⟨B, 10, none⟩ v).cell? ⟨B, 3, none⟩ = some v3 ∧ (W.setCell ⟨B, 10, none⟩ v).cell? ⟨B, 4, none⟩ = some v4 := by
  refine ⟨?_, ?_, ?_, ?_, ?_⟩ <;> (rw [World.cell?_setCell_other (h := by intro h; injection h with h1 h2; omega)]; simp [h])
theorem d_take (w0 w : World) (S g A P r : Nat) (n : Int) (xs : List Int) (o : Wk) (v : Int) (h : WS w0 w S g A xs o) (hO : WOk o P xs.length) (b1 : 0 ≤ n) (hr : Hid (n.tmod (o.D : Int) = (r : Int))) (hrd : r < o.D) (hv : Hid (xs.getD (P + 4 + r) 0 = v)) :
    Calls Try.prog 109 #[.pointer (some ⟨A, 0, none⟩), .pointer (some ⟨S, 0, none⟩), .int .i64 n] w (Post w0 w S g A xs { o with gt := v, hs := true }) := by
  have hO0 := hO
  obtain ⟨d1, d2, hk, hP, hn, hm⟩ := hO
  obtain ⟨c0, c1, c2, c3, c4, c5, c6, c7, c8, c9, c10, c11, c12, c13, cf⟩ := h.a.cells
  have hag := h.ag
  have H := Lib.hid h
  have HO : Hid (WOk o P xs.length) := Lib.hid ⟨d1, d2, hk, hP, hn, hm⟩
  have f13 := cf 13
  clear h hP
  have hOk : Hid (Okay 2 1 1 (o.D : Int)) := Lib.hid ⟨by omega, by omega, by omega, by omega, by omega, by omega, by omega, by omega⟩
  have hPI : Hid ((o.k : Int) * (4 + (o.D : Int)) = (P : Int)) := Lib.hid (by rw [← hO0.2.2.2.1]; push_cast; rfl)
  have hk2 : (o.k : Int) < 2 := by omega
  have hat : P + 4 + r < xs.length := by omega
  have HSL : Hid ((P : Int) + 4 + (r : Int) = ((P + 4 + r : Nat) : Int)) := Lib.hid (by omega)
  clear hO0
  go_enter Try.func109, Try.ntmps109
  go_wp2_with fail
  go_region_held3 (fun w' => w'.cell? ⟨A, 0, none⟩ = some (.int .i64 2) ∧ w'.cell? ⟨A, 1, none⟩ = some (.int .i64 1) ∧ w'.cell? ⟨A, 2, none⟩ = some (.int .i64 1) ∧ w'.cell? ⟨A, 3, none⟩ = some (.int .i64 (o.D : Int)) ∧ w'.cell? ⟨A, 4, none⟩ = some (.int .i64 (o.k : Int)))
    (first | (with_reducible assumption) | exact ⟨c0, c1, c2, c3, c4⟩ | (refine cells5b ⟨c0, c1, c2, c3, c4⟩ ?_; go_grown; done) | (refine cells5b (by with_reducible assumption) ?_; first | (with_reducible assumption) | (go_grown; done)) | exact cells5s (by with_reducible assumption))
    (first | (go_at_call 95; refine (slot_of 2 1 1 (o.D : Int) (o.k : Int) n (P : Int) (r : Int) _ hOk (by omega) hk2 hPI b1 hr).mono ?_; rintro e w1 ⟨rfl, hb⟩; rw [HSL.out]; have HS1 := Lib.hid (H.out.below (btr (by go_grown) hb)); have hF1 : Fr g A w w1 := Fr.of_below (btr (by go_grown) hb); have k10 := HS1.out.a.cells.2.2.2.2.2.2.2.2.2.2.1; have z10 := HS1.out.a.cells.2.2.2.2.2.2.2.2.2.2.2.2.2.2 10)
           | (go_at_call 91; refine (load_in S g xs (P + 4 + r) _ HS1.out.j.1 hat hm).mono ?_; rintro e w2 ⟨rfl, rfl⟩; rw [hv.out]))
  all_goals
    have HS2 := Lib.hid (HS1.out.gt v)
    have HF2 := Lib.hid (hF1.trans (Fr.setA g A 10 w1 (.int .i64 v)))
    obtain ⟨_, _, _, _, _, _, _, _, _, _, _, e11, _, _, ef⟩ := HS2.out.a.cells
    have g11 := ef 11
    clear ef hF1 k10 z10
    go_wp2_with fail
    go_end0
    exact ⟨rfl, HS2.out.hs true, HF2.out.trans (Fr.setA g A 11 _ _)⟩
end Go.Proofs.Ytegbifphekhgkaa
