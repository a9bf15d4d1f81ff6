/- The steps of a walk at a deque that look, put, ask, wait and take (layer 13). -/
import Derived.Test.YtegbifphekhgkaaDqC
import Derived.Deep.RegionHeld3
import Derived.Deep.DrawnRows
namespace Go.Proofs.Ytegbifphekhgkaa
open Go.ChangeShapes Go.WideShapes Go.ChangeAt Go.RowKit
attribute [local go_sem ↓] Go.wp_at_zero Go.wp_at_succ
set_option linter.unusedVariables false
set_option linter.unusedSimpArgs false
theorem keepB1 {w0 W W' : World} {B i : Nat} {v : Value} (h : Below w0.heap.size w0 W ∧ W.cell? ⟨B, i, none⟩ = some v) (hb : Below W.heap.size W W') : Below w0.heap.size w0 W' ∧ W'.cell? ⟨B, i, none⟩ = some v := ⟨Below.tr h.1 hb, keepc h.2 hb⟩
theorem keepB2 {w0 W W' : World} {B i j : Nat} {v u : Value} (h : Below w0.heap.size w0 W ∧ W.cell? ⟨B, i, none⟩ = some v ∧ W.cell? ⟨B, j, none⟩ = some u) (hb : Below W.heap.size W W') : Below w0.heap.size w0 W' ∧ W'.cell? ⟨B, i, none⟩ = some v ∧ W'.cell? ⟨B, j, none⟩ = some u := ⟨Below.tr h.1 hb, keepc h.2.1 hb, keepc h.2.2 hb⟩
set_option maxRecDepth 20000 in
theorem d_popLook_yes (w0 w : World) (S g A P : Nat) (xs : List Int) (o : Wk) (v : Int) (h : WS w0 w S g A xs o) (hO : WOk o P xs.length) (b1 : -1000000 ≤ o.tl) (b2 : o.tl ≤ 1000000) (hv : Hid (xs.getD (P + 0) 0 = v)) (hc :  v ≤ o.tl - 1) :
    Calls Try.prog 78 #[.pointer (some ⟨A, 0, none⟩), .pointer (some ⟨S, 0, none⟩)] w (Post w0 w S g A xs { o with nx := fnV A 97 }) := by
  obtain ⟨d1, d2, hk, hP, hn, hm⟩ := hO
  obtain ⟨c0, c1, c2, c3, c4, c5, c6, c7, c8, c9, c10, c11, c12, c13, cf⟩ := h.a.cells
  have hag := h.ag
  have H := Lib.hid h
  have HO : Hid (WOk o P xs.length) := Lib.hid ⟨d1, d2, hk, hP, hn, hm⟩
  have f13 := cf 13
  clear h hP
  have f12 := cf 12
  have hw : IntKind.i64.wrap (o.tl - 1) = o.tl - 1 := by rw [IntKind.wrap_i64]; omega
  have hw2 : IntKind.i64.wrap ((o.D : Int) - 1) = (o.D : Int) - 1 := by rw [IntKind.wrap_i64]; omega
  have hw3 : IntKind.i64.wrap (o.tl - ((o.D : Int) - 1)) = o.tl - ((o.D : Int) - 1) := by rw [IntKind.wrap_i64]; omega
  go_enter Try.func78, Try.ntmps78
  go_wp2_with fail
  go_region_held3 (fun w' => Below w.heap.size w w' ∧ w'.cell? ⟨A, 5, none⟩ = some (.int .i64 o.tl))
    (first | (with_reducible assumption) | exact ⟨Below.refl _ _, c5⟩ | (refine keepB1 ⟨Below.refl _ _, c5⟩ ?_; go_grown; done) | (refine keepB1 (by with_reducible assumption) ?_; first | (with_reducible assumption) | (go_grown; done)))
    (first | (go_at_call 75; refine (load_of S g A P 0 o xs v _ (H.out.a.below (by go_grown)) HO.out (by omega) (H.out.j.1.below (by go_grown)) hv).mono ?_; rintro e w1 ⟨rfl, hb⟩))
  all_goals
    rename_i hSw
    have hbw := hSw.1
    have HS1 := Lib.hid (H.out.below hbw)
    have HF1 : Hid (Fr g A w _) := Lib.hid (Fr.of_below hbw)
    obtain ⟨_, _, _, _, _, _, _, _, _, _, _, _, e12, e13, ef⟩ := HS1.out.a.cells
    have g12 := ef 12
    have g13 := ef 13
    clear hSw hbw ef c0 c1 c2 c3 c4 c5 c6 c7 c8 c9 c10 c11 c12 c13 cf f12 f13
    go_wp2_with fail
    go_end0
    exact ⟨rfl, HS1.out.nx (fnV A 97), HF1.out.trans (Fr.setA g A 13 _ _)⟩
set_option maxRecDepth 20000 in
theorem d_popLook_no (w0 w : World) (S g A P : Nat) (xs : List Int) (o : Wk) (v : Int) (h : WS w0 w S g A xs o) (hO : WOk o P xs.length) (b1 : -1000000 ≤ o.tl) (b2 : o.tl ≤ 1000000) (hv : Hid (xs.getD (P + 0) 0 = v)) (hc : ¬ v ≤ o.tl - 1) :
    Calls Try.prog 78 #[.pointer (some ⟨A, 0, none⟩), .pointer (some ⟨S, 0, none⟩)] w (Post w0 w S g A xs { o with nx := fnV A 98 }) := by
  obtain ⟨d1, d2, hk, hP, hn, hm⟩ := hO
  obtain ⟨c0, c1, c2, c3, c4, c5, c6, c7, c8, c9, c10, c11, c12, c13, cf⟩ := h.a.cells
  have hag := h.ag
  have H := Lib.hid h
  have HO : Hid (WOk o P xs.length) := Lib.hid ⟨d1, d2, hk, hP, hn, hm⟩
  have f13 := cf 13
  clear h hP
  have f12 := cf 12
  have hw : IntKind.i64.wrap (o.tl - 1) = o.tl - 1 := by rw [IntKind.wrap_i64]; omega
  have hw2 : IntKind.i64.wrap ((o.D : Int) - 1) = (o.D : Int) - 1 := by rw [IntKind.wrap_i64]; omega
  have hw3 : IntKind.i64.wrap (o.tl - ((o.D : Int) - 1)) = o.tl - ((o.D : Int) - 1) := by rw [IntKind.wrap_i64]; omega
  go_enter Try.func78, Try.ntmps78
  go_wp2_with fail
  go_region_held3 (fun w' => Below w.heap.size w w' ∧ w'.cell? ⟨A, 5, none⟩ = some (.int .i64 o.tl))
    (first | (with_reducible assumption) | exact ⟨Below.refl _ _, c5⟩ | (refine keepB1 ⟨Below.refl _ _, c5⟩ ?_; go_grown; done) | (refine keepB1 (by with_reducible assumption) ?_; first | (with_reducible assumption) | (go_grown; done)))
    (first | (go_at_call 75; refine (load_of S g A P 0 o xs v _ (H.out.a.below (by go_grown)) HO.out (by omega) (H.out.j.1.below (by go_grown)) hv).mono ?_; rintro e w1 ⟨rfl, hb⟩))
  all_goals
    rename_i hSw
    have hbw := hSw.1
    have HS1 := Lib.hid (H.out.below hbw)
    have HF1 : Hid (Fr g A w _) := Lib.hid (Fr.of_below hbw)
    obtain ⟨_, _, _, _, _, _, _, _, _, _, _, _, e12, e13, ef⟩ := HS1.out.a.cells
    have g12 := ef 12
    have g13 := ef 13
    clear hSw hbw ef c0 c1 c2 c3 c4 c5 c6 c7 c8 c9 c10 c11 c12 c13 cf f12 f13
    go_wp2_with fail
    go_end0
    exact ⟨rfl, HS1.out.nx (fnV A 98), HF1.out.trans (Fr.setA g A 13 _ _)⟩
set_option maxRecDepth 20000 in
theorem d_popLookAgain_yes (w0 w : World) (S g A P : Nat) (xs : List Int) (o : Wk) (v : Int) (h : WS w0 w S g A xs o) (hO : WOk o P xs.length) (b1 : -1000000 ≤ o.tl) (b2 : o.tl ≤ 1000000) (hv : Hid (xs.getD (P + 0) 0 = v)) (hc :  v ≤ o.tl - 1) :
    Calls Try.prog 120 #[.pointer (some ⟨A, 0, none⟩), .pointer (some ⟨S, 0, none⟩)] w (Post w0 w S g A xs { o with nx := fnV A 122 }) := by
  obtain ⟨d1, d2, hk, hP, hn, hm⟩ := hO
  obtain ⟨c0, c1, c2, c3, c4, c5, c6, c7, c8, c9, c10, c11, c12, c13, cf⟩ := h.a.cells
  have hag := h.ag
  have H := Lib.hid h
  have HO : Hid (WOk o P xs.length) := Lib.hid ⟨d1, d2, hk, hP, hn, hm⟩
  have f13 := cf 13
  clear h hP
  have f12 := cf 12
  have hw : IntKind.i64.wrap (o.tl - 1) = o.tl - 1 := by rw [IntKind.wrap_i64]; omega
  have hw2 : IntKind.i64.wrap ((o.D : Int) - 1) = (o.D : Int) - 1 := by rw [IntKind.wrap_i64]; omega
  have hw3 : IntKind.i64.wrap (o.tl - ((o.D : Int) - 1)) = o.tl - ((o.D : Int) - 1) := by rw [IntKind.wrap_i64]; omega
  go_enter Try.func120, Try.ntmps120
  go_wp2_with fail
  go_region_held3 (fun w' => Below w.heap.size w w' ∧ w'.cell? ⟨A, 5, none⟩ = some (.int .i64 o.tl))
    (first | (with_reducible assumption) | exact ⟨Below.refl _ _, c5⟩ | (refine keepB1 ⟨Below.refl _ _, c5⟩ ?_; go_grown; done) | (refine keepB1 (by with_reducible assumption) ?_; first | (with_reducible assumption) | (go_grown; done)))
    (first | (go_at_call 75; refine (load_of S g A P 0 o xs v _ (H.out.a.below (by go_grown)) HO.out (by omega) (H.out.j.1.below (by go_grown)) hv).mono ?_; rintro e w1 ⟨rfl, hb⟩))
  all_goals
    rename_i hSw
    have hbw := hSw.1
    have HS1 := Lib.hid (H.out.below hbw)
    have HF1 : Hid (Fr g A w _) := Lib.hid (Fr.of_below hbw)
    obtain ⟨_, _, _, _, _, _, _, _, _, _, _, _, e12, e13, ef⟩ := HS1.out.a.cells
    have g12 := ef 12
    have g13 := ef 13
    clear hSw hbw ef c0 c1 c2 c3 c4 c5 c6 c7 c8 c9 c10 c11 c12 c13 cf f12 f13
    go_wp2_with fail
    go_end0
    exact ⟨rfl, HS1.out.nx (fnV A 122), HF1.out.trans (Fr.setA g A 13 _ _)⟩
set_option maxRecDepth 20000 in
theorem d_popLookAgain_no (w0 w : World) (S g A P : Nat) (xs : List Int) (o : Wk) (v : Int) (h : WS w0 w S g A xs o) (hO : WOk o P xs.length) (b1 : -1000000 ≤ o.tl) (b2 : o.tl ≤ 1000000) (hv : Hid (xs.getD (P + 0) 0 = v)) (hc : ¬ v ≤ o.tl - 1) :
    Calls Try.prog 120 #[.pointer (some ⟨A, 0, none⟩), .pointer (some ⟨S, 0, none⟩)] w (Post w0 w S g A xs { o with nx := fnV A 123 }) := by
  obtain ⟨d1, d2, hk, hP, hn, hm⟩ := hO
  obtain ⟨c0, c1, c2, c3, c4, c5, c6, c7, c8, c9, c10, c11, c12, c13, cf⟩ := h.a.cells
  have hag := h.ag
  have H := Lib.hid h
  have HO : Hid (WOk o P xs.length) := Lib.hid ⟨d1, d2, hk, hP, hn, hm⟩
  have f13 := cf 13
  clear h hP
  have f12 := cf 12
  have hw : IntKind.i64.wrap (o.tl - 1) = o.tl - 1 := by rw [IntKind.wrap_i64]; omega
  have hw2 : IntKind.i64.wrap ((o.D : Int) - 1) = (o.D : Int) - 1 := by rw [IntKind.wrap_i64]; omega
  have hw3 : IntKind.i64.wrap (o.tl - ((o.D : Int) - 1)) = o.tl - ((o.D : Int) - 1) := by rw [IntKind.wrap_i64]; omega
  go_enter Try.func120, Try.ntmps120
  go_wp2_with fail
  go_region_held3 (fun w' => Below w.heap.size w w' ∧ w'.cell? ⟨A, 5, none⟩ = some (.int .i64 o.tl))
    (first | (with_reducible assumption) | exact ⟨Below.refl _ _, c5⟩ | (refine keepB1 ⟨Below.refl _ _, c5⟩ ?_; go_grown; done) | (refine keepB1 (by with_reducible assumption) ?_; first | (with_reducible assumption) | (go_grown; done)))
    (first | (go_at_call 75; refine (load_of S g A P 0 o xs v _ (H.out.a.below (by go_grown)) HO.out (by omega) (H.out.j.1.below (by go_grown)) hv).mono ?_; rintro e w1 ⟨rfl, hb⟩))
  all_goals
    rename_i hSw
    have hbw := hSw.1
    have HS1 := Lib.hid (H.out.below hbw)
    have HF1 : Hid (Fr g A w _) := Lib.hid (Fr.of_below hbw)
    obtain ⟨_, _, _, _, _, _, _, _, _, _, _, _, e12, e13, ef⟩ := HS1.out.a.cells
    have g12 := ef 12
    have g13 := ef 13
    clear hSw hbw ef c0 c1 c2 c3 c4 c5 c6 c7 c8 c9 c10 c11 c12 c13 cf f12 f13
    go_wp2_with fail
    go_end0
    exact ⟨rfl, HS1.out.nx (fnV A 123), HF1.out.trans (Fr.setA g A 13 _ _)⟩
set_option maxRecDepth 20000 in
theorem d_stealCheck_yes (w0 w : World) (S g A P : Nat) (xs : List Int) (o : Wk) (v : Int) (h : WS w0 w S g A xs o) (hO : WOk o P xs.length) (b1 : -1000000 ≤ o.hd) (b2 : o.hd ≤ 1000000) (hv : Hid (xs.getD (P + 1) 0 = v)) (hc :  v ≤ o.hd) :
    Calls Try.prog 116 #[.pointer (some ⟨A, 0, none⟩), .pointer (some ⟨S, 0, none⟩)] w (Post w0 w S g A xs { o with nx := fnV A 118 }) := by
  obtain ⟨d1, d2, hk, hP, hn, hm⟩ := hO
  obtain ⟨c0, c1, c2, c3, c4, c5, c6, c7, c8, c9, c10, c11, c12, c13, cf⟩ := h.a.cells
  have hag := h.ag
  have H := Lib.hid h
  have HO : Hid (WOk o P xs.length) := Lib.hid ⟨d1, d2, hk, hP, hn, hm⟩
  have f13 := cf 13
  clear h hP
  have f12 := cf 12
  have hw : IntKind.i64.wrap (o.hd - 1) = o.hd - 1 := by rw [IntKind.wrap_i64]; omega
  have hw2 : IntKind.i64.wrap ((o.D : Int) - 1) = (o.D : Int) - 1 := by rw [IntKind.wrap_i64]; omega
  have hw3 : IntKind.i64.wrap (o.hd - ((o.D : Int) - 1)) = o.hd - ((o.D : Int) - 1) := by rw [IntKind.wrap_i64]; omega
  go_enter Try.func116, Try.ntmps116
  go_wp2_with fail
  go_region_held3 (fun w' => Below w.heap.size w w' ∧ w'.cell? ⟨A, 7, none⟩ = some (.int .i64 o.hd))
    (first | (with_reducible assumption) | exact ⟨Below.refl _ _, c7⟩ | (refine keepB1 ⟨Below.refl _ _, c7⟩ ?_; go_grown; done) | (refine keepB1 (by with_reducible assumption) ?_; first | (with_reducible assumption) | (go_grown; done)))
    (first | (go_at_call 75; refine (load_of S g A P 1 o xs v _ (H.out.a.below (by go_grown)) HO.out (by omega) (H.out.j.1.below (by go_grown)) hv).mono ?_; rintro e w1 ⟨rfl, hb⟩))
  all_goals
    rename_i hSw
    have hbw := hSw.1
    have HS1 := Lib.hid (H.out.below hbw)
    have HF1 : Hid (Fr g A w _) := Lib.hid (Fr.of_below hbw)
    obtain ⟨_, _, _, _, _, _, _, _, _, _, _, _, e12, e13, ef⟩ := HS1.out.a.cells
    have g12 := ef 12
    have g13 := ef 13
    clear hSw hbw ef c0 c1 c2 c3 c4 c5 c6 c7 c8 c9 c10 c11 c12 c13 cf f12 f13
    go_wp2_with fail
    go_end0
    exact ⟨rfl, HS1.out.nx (fnV A 118), HF1.out.trans (Fr.setA g A 13 _ _)⟩
set_option maxRecDepth 20000 in
theorem d_stealCheck_no (w0 w : World) (S g A P : Nat) (xs : List Int) (o : Wk) (v : Int) (h : WS w0 w S g A xs o) (hO : WOk o P xs.length) (b1 : -1000000 ≤ o.hd) (b2 : o.hd ≤ 1000000) (hv : Hid (xs.getD (P + 1) 0 = v)) (hc : ¬ v ≤ o.hd) :
    Calls Try.prog 116 #[.pointer (some ⟨A, 0, none⟩), .pointer (some ⟨S, 0, none⟩)] w (Post w0 w S g A xs { o with nx := fnV A 119 }) := by
  obtain ⟨d1, d2, hk, hP, hn, hm⟩ := hO
  obtain ⟨c0, c1, c2, c3, c4, c5, c6, c7, c8, c9, c10, c11, c12, c13, cf⟩ := h.a.cells
  have hag := h.ag
  have H := Lib.hid h
  have HO : Hid (WOk o P xs.length) := Lib.hid ⟨d1, d2, hk, hP, hn, hm⟩
  have f13 := cf 13
  clear h hP
  have f12 := cf 12
  have hw : IntKind.i64.wrap (o.hd - 1) = o.hd - 1 := by rw [IntKind.wrap_i64]; omega
  have hw2 : IntKind.i64.wrap ((o.D : Int) - 1) = (o.D : Int) - 1 := by rw [IntKind.wrap_i64]; omega
  have hw3 : IntKind.i64.wrap (o.hd - ((o.D : Int) - 1)) = o.hd - ((o.D : Int) - 1) := by rw [IntKind.wrap_i64]; omega
  go_enter Try.func116, Try.ntmps116
  go_wp2_with fail
  go_region_held3 (fun w' => Below w.heap.size w w' ∧ w'.cell? ⟨A, 7, none⟩ = some (.int .i64 o.hd))
    (first | (with_reducible assumption) | exact ⟨Below.refl _ _, c7⟩ | (refine keepB1 ⟨Below.refl _ _, c7⟩ ?_; go_grown; done) | (refine keepB1 (by with_reducible assumption) ?_; first | (with_reducible assumption) | (go_grown; done)))
    (first | (go_at_call 75; refine (load_of S g A P 1 o xs v _ (H.out.a.below (by go_grown)) HO.out (by omega) (H.out.j.1.below (by go_grown)) hv).mono ?_; rintro e w1 ⟨rfl, hb⟩))
  all_goals
    rename_i hSw
    have hbw := hSw.1
    have HS1 := Lib.hid (H.out.below hbw)
    have HF1 : Hid (Fr g A w _) := Lib.hid (Fr.of_below hbw)
    obtain ⟨_, _, _, _, _, _, _, _, _, _, _, _, e12, e13, ef⟩ := HS1.out.a.cells
    have g12 := ef 12
    have g13 := ef 13
    clear hSw hbw ef c0 c1 c2 c3 c4 c5 c6 c7 c8 c9 c10 c11 c12 c13 cf f12 f13
    go_wp2_with fail
    go_end0
    exact ⟨rfl, HS1.out.nx (fnV A 119), HF1.out.trans (Fr.setA g A 13 _ _)⟩
set_option maxRecDepth 20000 in
theorem d_pushLook_yes (w0 w : World) (S g A P : Nat) (xs : List Int) (o : Wk) (v : Int) (h : WS w0 w S g A xs o) (hO : WOk o P xs.length) (b1 : -1000000 ≤ o.tl) (b2 : o.tl ≤ 1000000) (hv : Hid (xs.getD (P + 0) 0 = v)) (hc :  v ≤ o.tl - ((o.D : Int) - 1)) :
    Calls Try.prog 51 #[.pointer (some ⟨A, 0, none⟩), .pointer (some ⟨S, 0, none⟩)] w (Post w0 w S g A xs { o with fl := true, nx := .nilFunc }) := by
  obtain ⟨d1, d2, hk, hP, hn, hm⟩ := hO
  obtain ⟨c0, c1, c2, c3, c4, c5, c6, c7, c8, c9, c10, c11, c12, c13, cf⟩ := h.a.cells
  have hag := h.ag
  have H := Lib.hid h
  have HO : Hid (WOk o P xs.length) := Lib.hid ⟨d1, d2, hk, hP, hn, hm⟩
  have f13 := cf 13
  clear h hP
  have f12 := cf 12
  have hw : IntKind.i64.wrap (o.tl - 1) = o.tl - 1 := by rw [IntKind.wrap_i64]; omega
  have hw2 : IntKind.i64.wrap ((o.D : Int) - 1) = (o.D : Int) - 1 := by rw [IntKind.wrap_i64]; omega
  have hw3 : IntKind.i64.wrap (o.tl - ((o.D : Int) - 1)) = o.tl - ((o.D : Int) - 1) := by rw [IntKind.wrap_i64]; omega
  go_enter Try.func51, Try.ntmps51
  go_wp2_with fail
  go_region_held3 (fun w' => Below w.heap.size w w' ∧ w'.cell? ⟨A, 5, none⟩ = some (.int .i64 o.tl) ∧ w'.cell? ⟨A, 3, none⟩ = some (.int .i64 (o.D : Int)))
    (first | (with_reducible assumption) | exact ⟨Below.refl _ _, c5, c3⟩ | (refine keepB2 ⟨Below.refl _ _, c5, c3⟩ ?_; go_grown; done) | (refine keepB2 (by with_reducible assumption) ?_; first | (with_reducible assumption) | (go_grown; done)))
    (first | (go_at_call 75; refine (load_of S g A P 0 o xs v _ (H.out.a.below (by go_grown)) HO.out (by omega) (H.out.j.1.below (by go_grown)) hv).mono ?_; rintro e w1 ⟨rfl, hb⟩))
  all_goals
    rename_i hSw
    have hbw := hSw.1
    have HS1 := Lib.hid (H.out.below hbw)
    have HF1 : Hid (Fr g A w _) := Lib.hid (Fr.of_below hbw)
    obtain ⟨_, _, _, _, _, _, _, _, _, _, _, _, e12, e13, ef⟩ := HS1.out.a.cells
    have g12 := ef 12
    have g13 := ef 13
    clear hSw hbw ef c0 c1 c2 c3 c4 c5 c6 c7 c8 c9 c10 c11 c12 c13 cf f12 f13
    go_wp2_with fail
    go_end0
    exact ⟨rfl, (HS1.out.fl true).nx .nilFunc, (HF1.out.trans (Fr.setA g A 12 _ _)).trans (Fr.setA g A 13 _ _)⟩
set_option maxRecDepth 20000 in
theorem d_pushLook_no (w0 w : World) (S g A P : Nat) (xs : List Int) (o : Wk) (v : Int) (h : WS w0 w S g A xs o) (hO : WOk o P xs.length) (b1 : -1000000 ≤ o.tl) (b2 : o.tl ≤ 1000000) (hv : Hid (xs.getD (P + 0) 0 = v)) (hc : ¬ v ≤ o.tl - ((o.D : Int) - 1)) :
    Calls Try.prog 51 #[.pointer (some ⟨A, 0, none⟩), .pointer (some ⟨S, 0, none⟩)] w (Post w0 w S g A xs { o with nx := fnV A 76 }) := by
  obtain ⟨d1, d2, hk, hP, hn, hm⟩ := hO
  obtain ⟨c0, c1, c2, c3, c4, c5, c6, c7, c8, c9, c10, c11, c12, c13, cf⟩ := h.a.cells
  have hag := h.ag
  have H := Lib.hid h
  have HO : Hid (WOk o P xs.length) := Lib.hid ⟨d1, d2, hk, hP, hn, hm⟩
  have f13 := cf 13
  clear h hP
  have f12 := cf 12
  have hw : IntKind.i64.wrap (o.tl - 1) = o.tl - 1 := by rw [IntKind.wrap_i64]; omega
  have hw2 : IntKind.i64.wrap ((o.D : Int) - 1) = (o.D : Int) - 1 := by rw [IntKind.wrap_i64]; omega
  have hw3 : IntKind.i64.wrap (o.tl - ((o.D : Int) - 1)) = o.tl - ((o.D : Int) - 1) := by rw [IntKind.wrap_i64]; omega
  go_enter Try.func51, Try.ntmps51
  go_wp2_with fail
  go_region_held3 (fun w' => Below w.heap.size w w' ∧ w'.cell? ⟨A, 5, none⟩ = some (.int .i64 o.tl) ∧ w'.cell? ⟨A, 3, none⟩ = some (.int .i64 (o.D : Int)))
    (first | (with_reducible assumption) | exact ⟨Below.refl _ _, c5, c3⟩ | (refine keepB2 ⟨Below.refl _ _, c5, c3⟩ ?_; go_grown; done) | (refine keepB2 (by with_reducible assumption) ?_; first | (with_reducible assumption) | (go_grown; done)))
    (first | (go_at_call 75; refine (load_of S g A P 0 o xs v _ (H.out.a.below (by go_grown)) HO.out (by omega) (H.out.j.1.below (by go_grown)) hv).mono ?_; rintro e w1 ⟨rfl, hb⟩))
  all_goals
    rename_i hSw
    have hbw := hSw.1
    have HS1 := Lib.hid (H.out.below hbw)
    have HF1 : Hid (Fr g A w _) := Lib.hid (Fr.of_below hbw)
    obtain ⟨_, _, _, _, _, _, _, _, _, _, _, _, e12, e13, ef⟩ := HS1.out.a.cells
    have g12 := ef 12
    have g13 := ef 13
    clear hSw hbw ef c0 c1 c2 c3 c4 c5 c6 c7 c8 c9 c10 c11 c12 c13 cf f12 f13
    go_wp2_with fail
    go_end0
    exact ⟨rfl, HS1.out.nx (fnV A 76), HF1.out.trans (Fr.setA g A 13 _ _)⟩
end Go.Proofs.Ytegbifphekhgkaa
