/- The steps of a walk at a deque that store one word (layer 13). -/
import Derived.Test.YtegbifphekhgkaaDqB
import Derived.Deep.RegionHeld3
import Derived.Deep.DrawnRows
namespace Go.Proofs.Ytegbifphekhgkaa
open Go.ChangeShapes Go.WideShapes Go.ChangeAt Go.RowKit
attribute [local go_sem ↓] Go.wp_at_zero Go.wp_at_succ
set_option linter.unusedVariables false
set_option linter.unusedSimpArgs false
set_option maxRecDepth 20000 in
theorem d_popClaim (w0 w : World) (S g A P : Nat) (xs : List Int) (o : Wk) (v : Int) (h : WS w0 w S g A xs o) (hO : WOk o P xs.length) (b1 : -1000000 ≤ o.tl) (b2 : o.tl ≤ 1000000) (hv : Hid (o.tl - 1 = v)) :
    Calls Try.prog 52 #[.pointer (some ⟨A, 0, none⟩), .pointer (some ⟨S, 0, none⟩)] w (Post w0 w S g A (xs.set (P + 1) v) { o with nx := fnV A 78 }) := by
  obtain ⟨d1, d2, hk, hP, hn, hm⟩ := hO
  obtain ⟨_, _, _, _, _, c5, c6, c7, c8, c9, c10, c11, c12, c13, cf⟩ := h.a.cells
  have hat : P + 1 < xs.length := by omega
  have hag := h.ag
  have H := Lib.hid h
  have HO : Hid (WOk o P xs.length) := Lib.hid ⟨d1, d2, hk, hP, hn, hm⟩
  have hw : IntKind.i64.wrap (o.tl - 1) = o.tl - 1 := by rw [IntKind.wrap_i64]; omega
  have hw2 : IntKind.i64.wrap (o.tl + 1) = o.tl + 1 := by rw [IntKind.wrap_i64]; omega
  clear h hP
  go_enter Try.func52, Try.ntmps52
  go_wp2_with fail
  go_region_held3 (fun w' => Keep g w w' ∧ w'.cell? ⟨A, 5, none⟩ = some (.int .i64 o.tl))
    (first | (with_reducible assumption) | exact ⟨Keep.refl g w, c5⟩ | exact keepA (by with_reducible assumption) (Keep.set (by assumption)) hag | exact keepA (by with_reducible assumption) (Keep.of_below (by assumption)) hag | (refine keepA ⟨Keep.refl g w, c5⟩ (Keep.of_below ?_) hag; go_grown; done))
    (first | (go_at_call 77; refine (dword_of A P 1 o xs.length _ (H.out.a.below (by go_grown)) HO.out (by omega)).mono ?_; rintro e w1 ⟨rfl, hb⟩)
           | (go_at_call 37; refine (store_in S g xs (P + 1) _ _ (H.out.j.below' (btr (by go_grown) hb)).1 hat hm).mono ?_; rintro e w2 ⟨rfl, hw⟩; have hJ2 := (H.out.j.below' (btr (by go_grown) hb)).set _ _ hw; have hK2 : Keep g w w2 := (Keep.of_below (btr (by go_grown) hb)).trans (Keep.set hw)))
  all_goals
    have hS2 := H.out.keep hJ2 hK2
    have hF2 : Fr g A w w2 := Fr.of_keep hK2
    obtain ⟨_, _, _, _, _, _, _, _, _, _, _, _, _, e13, ef⟩ := hS2.a.cells
    have f13 := ef 13
    have HS2 := Lib.hid hS2
    have HF2 := Lib.hid hF2
    clear hS2 hF2 hJ2 hK2 ef
    go_wp2_with fail
    go_end0
    exact ⟨rfl, by have := HS2.out.nx (fnV A 78); rw [← hv.out]; exact this, HF2.out.trans (Fr.setA g A 13 _ _)⟩
set_option maxRecDepth 20000 in
theorem d_popYield (w0 w : World) (S g A P : Nat) (xs : List Int) (o : Wk) (v : Int) (h : WS w0 w S g A xs o) (hO : WOk o P xs.length) (b1 : -1000000 ≤ o.tl) (b2 : o.tl ≤ 1000000) (hv : Hid (o.tl = v)) :
    Calls Try.prog 98 #[.pointer (some ⟨A, 0, none⟩), .pointer (some ⟨S, 0, none⟩)] w (Post w0 w S g A (xs.set (P + 1) v) { o with nx := fnV A 110 }) := by
  obtain ⟨d1, d2, hk, hP, hn, hm⟩ := hO
  obtain ⟨_, _, _, _, _, c5, c6, c7, c8, c9, c10, c11, c12, c13, cf⟩ := h.a.cells
  have hat : P + 1 < xs.length := by omega
  have hag := h.ag
  have H := Lib.hid h
  have HO : Hid (WOk o P xs.length) := Lib.hid ⟨d1, d2, hk, hP, hn, hm⟩
  have hw : IntKind.i64.wrap (o.tl - 1) = o.tl - 1 := by rw [IntKind.wrap_i64]; omega
  have hw2 : IntKind.i64.wrap (o.tl + 1) = o.tl + 1 := by rw [IntKind.wrap_i64]; omega
  clear h hP
  go_enter Try.func98, Try.ntmps98
  go_wp2_with fail
  go_region_held3 (fun w' => Keep g w w' ∧ w'.cell? ⟨A, 5, none⟩ = some (.int .i64 o.tl))
    (first | (with_reducible assumption) | exact ⟨Keep.refl g w, c5⟩ | exact keepA (by with_reducible assumption) (Keep.set (by assumption)) hag | exact keepA (by with_reducible assumption) (Keep.of_below (by assumption)) hag | (refine keepA ⟨Keep.refl g w, c5⟩ (Keep.of_below ?_) hag; go_grown; done))
    (first | (go_at_call 77; refine (dword_of A P 1 o xs.length _ (H.out.a.below (by go_grown)) HO.out (by omega)).mono ?_; rintro e w1 ⟨rfl, hb⟩)
           | (go_at_call 37; refine (store_in S g xs (P + 1) _ _ (H.out.j.below' (btr (by go_grown) hb)).1 hat hm).mono ?_; rintro e w2 ⟨rfl, hw⟩; have hJ2 := (H.out.j.below' (btr (by go_grown) hb)).set _ _ hw; have hK2 : Keep g w w2 := (Keep.of_below (btr (by go_grown) hb)).trans (Keep.set hw)))
  all_goals
    have hS2 := H.out.keep hJ2 hK2
    have hF2 : Fr g A w w2 := Fr.of_keep hK2
    obtain ⟨_, _, _, _, _, _, _, _, _, _, _, _, _, e13, ef⟩ := hS2.a.cells
    have f13 := ef 13
    have HS2 := Lib.hid hS2
    have HF2 := Lib.hid hF2
    clear hS2 hF2 hJ2 hK2 ef
    go_wp2_with fail
    go_end0
    exact ⟨rfl, by have := HS2.out.nx (fnV A 110); rw [← hv.out]; exact this, HF2.out.trans (Fr.setA g A 13 _ _)⟩
set_option maxRecDepth 20000 in
theorem d_popClaimAgain (w0 w : World) (S g A P : Nat) (xs : List Int) (o : Wk) (v : Int) (h : WS w0 w S g A xs o) (hO : WOk o P xs.length) (b1 : -1000000 ≤ o.tl) (b2 : o.tl ≤ 1000000) (hv : Hid (o.tl - 1 = v)) :
    Calls Try.prog 117 #[.pointer (some ⟨A, 0, none⟩), .pointer (some ⟨S, 0, none⟩)] w (Post w0 w S g A (xs.set (P + 1) v) { o with nx := fnV A 120 }) := by
  obtain ⟨d1, d2, hk, hP, hn, hm⟩ := hO
  obtain ⟨_, _, _, _, _, c5, c6, c7, c8, c9, c10, c11, c12, c13, cf⟩ := h.a.cells
  have hat : P + 1 < xs.length := by omega
  have hag := h.ag
  have H := Lib.hid h
  have HO : Hid (WOk o P xs.length) := Lib.hid ⟨d1, d2, hk, hP, hn, hm⟩
  have hw : IntKind.i64.wrap (o.tl - 1) = o.tl - 1 := by rw [IntKind.wrap_i64]; omega
  have hw2 : IntKind.i64.wrap (o.tl + 1) = o.tl + 1 := by rw [IntKind.wrap_i64]; omega
  clear h hP
  go_enter Try.func117, Try.ntmps117
  go_wp2_with fail
  go_region_held3 (fun w' => Keep g w w' ∧ w'.cell? ⟨A, 5, none⟩ = some (.int .i64 o.tl))
    (first | (with_reducible assumption) | exact ⟨Keep.refl g w, c5⟩ | exact keepA (by with_reducible assumption) (Keep.set (by assumption)) hag | exact keepA (by with_reducible assumption) (Keep.of_below (by assumption)) hag | (refine keepA ⟨Keep.refl g w, c5⟩ (Keep.of_below ?_) hag; go_grown; done))
    (first | (go_at_call 77; refine (dword_of A P 1 o xs.length _ (H.out.a.below (by go_grown)) HO.out (by omega)).mono ?_; rintro e w1 ⟨rfl, hb⟩)
           | (go_at_call 37; refine (store_in S g xs (P + 1) _ _ (H.out.j.below' (btr (by go_grown) hb)).1 hat hm).mono ?_; rintro e w2 ⟨rfl, hw⟩; have hJ2 := (H.out.j.below' (btr (by go_grown) hb)).set _ _ hw; have hK2 : Keep g w w2 := (Keep.of_below (btr (by go_grown) hb)).trans (Keep.set hw)))
  all_goals
    have hS2 := H.out.keep hJ2 hK2
    have hF2 : Fr g A w w2 := Fr.of_keep hK2
    obtain ⟨_, _, _, _, _, _, _, _, _, _, _, _, _, e13, ef⟩ := hS2.a.cells
    have f13 := ef 13
    have HS2 := Lib.hid hS2
    have HF2 := Lib.hid hF2
    clear hS2 hF2 hJ2 hK2 ef
    go_wp2_with fail
    go_end0
    exact ⟨rfl, by have := HS2.out.nx (fnV A 120); rw [← hv.out]; exact this, HF2.out.trans (Fr.setA g A 13 _ _)⟩
set_option maxRecDepth 20000 in
theorem d_popYieldAgain (w0 w : World) (S g A P : Nat) (xs : List Int) (o : Wk) (v : Int) (h : WS w0 w S g A xs o) (hO : WOk o P xs.length) (b1 : -1000000 ≤ o.tl) (b2 : o.tl ≤ 1000000) (hv : Hid (o.tl = v)) :
    Calls Try.prog 123 #[.pointer (some ⟨A, 0, none⟩), .pointer (some ⟨S, 0, none⟩)] w (Post w0 w S g A (xs.set (P + 1) v) { o with nx := fnV A 125 }) := by
  obtain ⟨d1, d2, hk, hP, hn, hm⟩ := hO
  obtain ⟨_, _, _, _, _, c5, c6, c7, c8, c9, c10, c11, c12, c13, cf⟩ := h.a.cells
  have hat : P + 1 < xs.length := by omega
  have hag := h.ag
  have H := Lib.hid h
  have HO : Hid (WOk o P xs.length) := Lib.hid ⟨d1, d2, hk, hP, hn, hm⟩
  have hw : IntKind.i64.wrap (o.tl - 1) = o.tl - 1 := by rw [IntKind.wrap_i64]; omega
  have hw2 : IntKind.i64.wrap (o.tl + 1) = o.tl + 1 := by rw [IntKind.wrap_i64]; omega
  clear h hP
  go_enter Try.func123, Try.ntmps123
  go_wp2_with fail
  go_region_held3 (fun w' => Keep g w w' ∧ w'.cell? ⟨A, 5, none⟩ = some (.int .i64 o.tl))
    (first | (with_reducible assumption) | exact ⟨Keep.refl g w, c5⟩ | exact keepA (by with_reducible assumption) (Keep.set (by assumption)) hag | exact keepA (by with_reducible assumption) (Keep.of_below (by assumption)) hag | (refine keepA ⟨Keep.refl g w, c5⟩ (Keep.of_below ?_) hag; go_grown; done))
    (first | (go_at_call 77; refine (dword_of A P 1 o xs.length _ (H.out.a.below (by go_grown)) HO.out (by omega)).mono ?_; rintro e w1 ⟨rfl, hb⟩)
           | (go_at_call 37; refine (store_in S g xs (P + 1) _ _ (H.out.j.below' (btr (by go_grown) hb)).1 hat hm).mono ?_; rintro e w2 ⟨rfl, hw⟩; have hJ2 := (H.out.j.below' (btr (by go_grown) hb)).set _ _ hw; have hK2 : Keep g w w2 := (Keep.of_below (btr (by go_grown) hb)).trans (Keep.set hw)))
  all_goals
    have hS2 := H.out.keep hJ2 hK2
    have hF2 : Fr g A w w2 := Fr.of_keep hK2
    obtain ⟨_, _, _, _, _, _, _, _, _, _, _, _, _, e13, ef⟩ := hS2.a.cells
    have f13 := ef 13
    have HS2 := Lib.hid hS2
    have HF2 := Lib.hid hF2
    clear hS2 hF2 hJ2 hK2 ef
    go_wp2_with fail
    go_end0
    exact ⟨rfl, by have := HS2.out.nx (fnV A 125); rw [← hv.out]; exact this, HF2.out.trans (Fr.setA g A 13 _ _)⟩
set_option maxRecDepth 20000 in
theorem d_stealClaim (w0 w : World) (S g A P : Nat) (xs : List Int) (o : Wk) (v : Int) (h : WS w0 w S g A xs o) (hO : WOk o P xs.length) (b1 : -1000000 ≤ o.hd) (b2 : o.hd ≤ 1000000) (hv : Hid (o.hd + 1 = v)) :
    Calls Try.prog 113 #[.pointer (some ⟨A, 0, none⟩), .pointer (some ⟨S, 0, none⟩)] w (Post w0 w S g A (xs.set (P + 0) v) { o with nx := fnV A 116 }) := by
  obtain ⟨d1, d2, hk, hP, hn, hm⟩ := hO
  obtain ⟨_, _, _, _, _, c5, c6, c7, c8, c9, c10, c11, c12, c13, cf⟩ := h.a.cells
  have hat : P + 0 < xs.length := by omega
  have hag := h.ag
  have H := Lib.hid h
  have HO : Hid (WOk o P xs.length) := Lib.hid ⟨d1, d2, hk, hP, hn, hm⟩
  have hw : IntKind.i64.wrap (o.hd - 1) = o.hd - 1 := by rw [IntKind.wrap_i64]; omega
  have hw2 : IntKind.i64.wrap (o.hd + 1) = o.hd + 1 := by rw [IntKind.wrap_i64]; omega
  clear h hP
  go_enter Try.func113, Try.ntmps113
  go_wp2_with fail
  go_region_held3 (fun w' => Keep g w w' ∧ w'.cell? ⟨A, 7, none⟩ = some (.int .i64 o.hd))
    (first | (with_reducible assumption) | exact ⟨Keep.refl g w, c7⟩ | exact keepA (by with_reducible assumption) (Keep.set (by assumption)) hag | exact keepA (by with_reducible assumption) (Keep.of_below (by assumption)) hag | (refine keepA ⟨Keep.refl g w, c7⟩ (Keep.of_below ?_) hag; go_grown; done))
    (first | (go_at_call 77; refine (dword_of A P 0 o xs.length _ (H.out.a.below (by go_grown)) HO.out (by omega)).mono ?_; rintro e w1 ⟨rfl, hb⟩)
           | (go_at_call 37; refine (store_in S g xs (P + 0) _ _ (H.out.j.below' (btr (by go_grown) hb)).1 hat hm).mono ?_; rintro e w2 ⟨rfl, hw⟩; have hJ2 := (H.out.j.below' (btr (by go_grown) hb)).set _ _ hw; have hK2 : Keep g w w2 := (Keep.of_below (btr (by go_grown) hb)).trans (Keep.set hw)))
  all_goals
    have hS2 := H.out.keep hJ2 hK2
    have hF2 : Fr g A w w2 := Fr.of_keep hK2
    obtain ⟨_, _, _, _, _, _, _, _, _, _, _, _, _, e13, ef⟩ := hS2.a.cells
    have f13 := ef 13
    have HS2 := Lib.hid hS2
    have HF2 := Lib.hid hF2
    clear hS2 hF2 hJ2 hK2 ef
    go_wp2_with fail
    go_end0
    exact ⟨rfl, by have := HS2.out.nx (fnV A 116); rw [← hv.out]; exact this, HF2.out.trans (Fr.setA g A 13 _ _)⟩
set_option maxRecDepth 20000 in
theorem d_stealYield (w0 w : World) (S g A P : Nat) (xs : List Int) (o : Wk) (v : Int) (h : WS w0 w S g A xs o) (hO : WOk o P xs.length) (b1 : -1000000 ≤ o.hd) (b2 : o.hd ≤ 1000000) (hv : Hid (o.hd = v)) :
    Calls Try.prog 118 #[.pointer (some ⟨A, 0, none⟩), .pointer (some ⟨S, 0, none⟩)] w (Post w0 w S g A (xs.set (P + 0) v) { o with nx := fnV A 121 }) := by
  obtain ⟨d1, d2, hk, hP, hn, hm⟩ := hO
  obtain ⟨_, _, _, _, _, c5, c6, c7, c8, c9, c10, c11, c12, c13, cf⟩ := h.a.cells
  have hat : P + 0 < xs.length := by omega
  have hag := h.ag
  have H := Lib.hid h
  have HO : Hid (WOk o P xs.length) := Lib.hid ⟨d1, d2, hk, hP, hn, hm⟩
  have hw : IntKind.i64.wrap (o.hd - 1) = o.hd - 1 := by rw [IntKind.wrap_i64]; omega
  have hw2 : IntKind.i64.wrap (o.hd + 1) = o.hd + 1 := by rw [IntKind.wrap_i64]; omega
  clear h hP
  go_enter Try.func118, Try.ntmps118
  go_wp2_with fail
  go_region_held3 (fun w' => Keep g w w' ∧ w'.cell? ⟨A, 7, none⟩ = some (.int .i64 o.hd))
    (first | (with_reducible assumption) | exact ⟨Keep.refl g w, c7⟩ | exact keepA (by with_reducible assumption) (Keep.set (by assumption)) hag | exact keepA (by with_reducible assumption) (Keep.of_below (by assumption)) hag | (refine keepA ⟨Keep.refl g w, c7⟩ (Keep.of_below ?_) hag; go_grown; done))
    (first | (go_at_call 77; refine (dword_of A P 0 o xs.length _ (H.out.a.below (by go_grown)) HO.out (by omega)).mono ?_; rintro e w1 ⟨rfl, hb⟩)
           | (go_at_call 37; refine (store_in S g xs (P + 0) _ _ (H.out.j.below' (btr (by go_grown) hb)).1 hat hm).mono ?_; rintro e w2 ⟨rfl, hw⟩; have hJ2 := (H.out.j.below' (btr (by go_grown) hb)).set _ _ hw; have hK2 : Keep g w w2 := (Keep.of_below (btr (by go_grown) hb)).trans (Keep.set hw)))
  all_goals
    have hS2 := H.out.keep hJ2 hK2
    have hF2 : Fr g A w w2 := Fr.of_keep hK2
    obtain ⟨_, _, _, _, _, _, _, _, _, _, _, _, _, e13, ef⟩ := hS2.a.cells
    have f13 := ef 13
    have HS2 := Lib.hid hS2
    have HF2 := Lib.hid hF2
    clear hS2 hF2 hJ2 hK2 ef
    go_wp2_with fail
    go_end0
    exact ⟨rfl, by have := HS2.out.nx (fnV A 121); rw [← hv.out]; exact this, HF2.out.trans (Fr.setA g A 13 _ _)⟩
end Go.Proofs.Ytegbifphekhgkaa
