/- The steps of a walk at a deque that call others (layer 13). -/
import Derived.Test.YtegbifphekhgkaaDqE
import Derived.Deep.RegionHeld3
import Derived.Deep.DrawnRows
namespace Go.Proofs.Ytegbifphekhgkaa
open Go.ChangeShapes Go.WideShapes Go.ChangeAt Go.RowKit
attribute [local go_sem ↓] Go.wp_at_zero Go.wp_at_succ
set_option linter.unusedVariables false
set_option linter.unusedSimpArgs false
theorem d_popAsk (w0 w : World) (S g A P : Nat) (xs : List Int) (o : Wk) (v : Int) (h : WS w0 w S g A xs o) (hO : WOk o P xs.length) (hv : Hid (xs.getD (P + 2) 0 = v)) :
    Calls Try.prog 110 #[.pointer (some ⟨A, 0, none⟩), .pointer (some ⟨S, 0, none⟩)] w (Post w0 w S g A (xs.set (P + 2) (wrap64 (v + 1))) { ({ o with ta := ((P + 2 : Nat) : Int), tn := v } : Wk) with nx := fnV A 115 }) := by
  have C := Lib.hid (d_ask w0 w S g A P xs o v h hO hv)
  clear h hO
  go_enter Try.func110, Try.ntmps110
  go_wp2_with fail
  refine C.out.mono ?_
  rintro e w1 ⟨rfl, hS1, hF1⟩
  obtain ⟨_, _, _, _, _, _, _, _, _, _, _, _, _, e13, ef⟩ := hS1.a.cells
  have g13 := ef 13
  have HS1 := Lib.hid hS1
  have HF1 := Lib.hid hF1
  clear hS1 hF1 ef C
  go_wp2_with fail
  go_end0
  exact ⟨rfl, HS1.out.nx (fnV A 115), HF1.out.trans (Fr.setA g A 13 _ _)⟩
theorem d_stealAsk (w0 w : World) (S g A P : Nat) (xs : List Int) (o : Wk) (v : Int) (h : WS w0 w S g A xs o) (hO : WOk o P xs.length) (hv : Hid (xs.getD (P + 2) 0 = v)) :
    Calls Try.prog 53 #[.pointer (some ⟨A, 0, none⟩), .pointer (some ⟨S, 0, none⟩)] w (Post w0 w S g A (xs.set (P + 2) (wrap64 (v + 1))) { ({ o with ta := ((P + 2 : Nat) : Int), tn := v } : Wk) with nx := fnV A 80 }) := by
  have C := Lib.hid (d_ask w0 w S g A P xs o v h hO hv)
  clear h hO
  go_enter Try.func53, Try.ntmps53
  go_wp2_with fail
  refine C.out.mono ?_
  rintro e w1 ⟨rfl, hS1, hF1⟩
  obtain ⟨_, _, _, _, _, _, _, _, _, _, _, _, _, e13, ef⟩ := hS1.a.cells
  have g13 := ef 13
  have HS1 := Lib.hid hS1
  have HF1 := Lib.hid hF1
  clear hS1 hF1 ef C
  go_wp2_with fail
  go_end0
  exact ⟨rfl, HS1.out.nx (fnV A 80), HF1.out.trans (Fr.setA g A 13 _ _)⟩
theorem d_popLeave (w0 w : World) (S g A P : Nat) (xs : List Int) (o : Wk) (m : Int) (h : WS w0 w S g A xs o) (hO : WOk o P xs.length) (ht : o.ta = ((P + 2 : Nat) : Int)) (hn : Hid (wrap64 (o.tn + 1) = m)) :
    Calls Try.prog 122 #[.pointer (some ⟨A, 0, none⟩), .pointer (some ⟨S, 0, none⟩)] w (Post w0 w S g A (xs.set (P + 3) m) { o with nx := fnV A 97 }) := by
  have C := Lib.hid (d_leave w0 w S g A (P + 3) xs o m h (Lib.hid (by rw [ht]; omega)) hn (by have := hO.2.2.2.2.1; omega) hO.2.2.2.2.2)
  clear h hO
  go_enter Try.func122, Try.ntmps122
  go_wp2_with fail
  refine C.out.mono ?_
  rintro e w1 ⟨rfl, hS1, hF1⟩
  obtain ⟨_, _, _, _, _, _, _, _, _, _, _, _, _, e13, ef⟩ := hS1.a.cells
  have g13 := ef 13
  have HS1 := Lib.hid hS1
  have HF1 := Lib.hid hF1
  clear hS1 hF1 ef C
  go_wp2_with fail
  go_end0
  exact ⟨rfl, HS1.out.nx (fnV A 97), HF1.out.trans (Fr.setA g A 13 _ _)⟩
theorem d_popGiveUp (w0 w : World) (S g A P : Nat) (xs : List Int) (o : Wk) (m : Int) (h : WS w0 w S g A xs o) (hO : WOk o P xs.length) (ht : o.ta = ((P + 2 : Nat) : Int)) (hn : Hid (wrap64 (o.tn + 1) = m)) :
    Calls Try.prog 125 #[.pointer (some ⟨A, 0, none⟩), .pointer (some ⟨S, 0, none⟩)] w (Post w0 w S g A (xs.set (P + 3) m) { o with nx := .nilFunc }) := by
  have C := Lib.hid (d_leave w0 w S g A (P + 3) xs o m h (Lib.hid (by rw [ht]; omega)) hn (by have := hO.2.2.2.2.1; omega) hO.2.2.2.2.2)
  clear h hO
  go_enter Try.func125, Try.ntmps125
  go_wp2_with fail
  refine C.out.mono ?_
  rintro e w1 ⟨rfl, hS1, hF1⟩
  obtain ⟨_, _, _, _, _, _, _, _, _, _, _, _, _, e13, ef⟩ := hS1.a.cells
  have g13 := ef 13
  have HS1 := Lib.hid hS1
  have HF1 := Lib.hid hF1
  clear hS1 hF1 ef C
  go_wp2_with fail
  go_end0
  exact ⟨rfl, HS1.out.nx (.nilFunc), HF1.out.trans (Fr.setA g A 13 _ _)⟩
theorem d_stealLeave (w0 w : World) (S g A P : Nat) (xs : List Int) (o : Wk) (m : Int) (h : WS w0 w S g A xs o) (hO : WOk o P xs.length) (ht : o.ta = ((P + 2 : Nat) : Int)) (hn : Hid (wrap64 (o.tn + 1) = m)) :
    Calls Try.prog 121 #[.pointer (some ⟨A, 0, none⟩), .pointer (some ⟨S, 0, none⟩)] w (Post w0 w S g A (xs.set (P + 3) m) { o with nx := .nilFunc }) := by
  have C := Lib.hid (d_leave w0 w S g A (P + 3) xs o m h (Lib.hid (by rw [ht]; omega)) hn (by have := hO.2.2.2.2.1; omega) hO.2.2.2.2.2)
  clear h hO
  go_enter Try.func121, Try.ntmps121
  go_wp2_with fail
  refine C.out.mono ?_
  rintro e w1 ⟨rfl, hS1, hF1⟩
  obtain ⟨_, _, _, _, _, _, _, _, _, _, _, _, _, e13, ef⟩ := hS1.a.cells
  have g13 := ef 13
  have HS1 := Lib.hid hS1
  have HF1 := Lib.hid hF1
  clear hS1 hF1 ef C
  go_wp2_with fail
  go_end0
  exact ⟨rfl, HS1.out.nx (.nilFunc), HF1.out.trans (Fr.setA g A 13 _ _)⟩
theorem d_stealTake (w0 w : World) (S g A P : Nat) (xs : List Int) (o : Wk) (r : Nat) (v : Int) (h : WS w0 w S g A xs o) (hO : WOk o P xs.length) (b1 : 0 ≤ o.hd) (hr : Hid (o.hd.tmod (o.D : Int) = (r : Int))) (hrd : r < o.D) (hv : Hid (xs.getD (P + 4 + r) 0 = v)) :
    Calls Try.prog 119 #[.pointer (some ⟨A, 0, none⟩), .pointer (some ⟨S, 0, none⟩)] w (Post w0 w S g A xs { ({ o with gt := v, hs := true } : Wk) with nx := fnV A 121 }) := by
  have c7 := h.a.cells.2.2.2.2.2.2.2.1
  have C := Lib.hid (d_take w0 w S g A P r o.hd xs o v h hO b1 hr hrd hv)
  clear h hO
  go_enter Try.func119, Try.ntmps119
  go_wp2_with fail
  refine C.out.mono ?_
  rintro e w1 ⟨rfl, hS1, hF1⟩
  obtain ⟨_, _, _, _, _, _, _, _, _, _, _, _, _, e13, ef⟩ := hS1.a.cells
  have g13 := ef 13
  have HS1 := Lib.hid hS1
  have HF1 := Lib.hid hF1
  clear hS1 hF1 ef C
  go_wp2_with fail
  go_end0
  exact ⟨rfl, HS1.out.nx (fnV A 121), HF1.out.trans (Fr.setA g A 13 _ _)⟩
theorem d_popWait (w0 w : World) (S g A P : Nat) (xs : List Int) (o : Wk) (h : WS w0 w S g A xs o) (hO : WOk o P xs.length) (ht : o.ta = ((P + 2 : Nat) : Int)) (hv : Hid (xs.getD (P + 3) 0 = o.tn)) :
    Calls Try.prog 115 #[.pointer (some ⟨A, 0, none⟩), .pointer (some ⟨S, 0, none⟩)] w (Post w0 w S g A xs { o with nx := fnV A 117 }) := by
  obtain ⟨c0, c1, c2, c3, c4, c5, c6, c7, c8, c9, c10, c11, c12, c13, cf⟩ := h.a.cells
  have C := Lib.hid (tmine_j S g (P + 3) xs o.ta o.tn o.tn true w0 w h.j (Lib.hid (by rw [ht]; omega)) hv (Lib.hid (by simp)) (by have := hO.2.2.2.2.1; omega) hO.2.2.2.2.2)
  have H := Lib.hid h
  clear h hO ht
  go_enter Try.func115, Try.ntmps115
  go_wp2_with fail
  refine C.out.mono ?_
  rintro e w1 ⟨rfl, hJ, hK⟩
  have hS1 := H.out.keep hJ hK
  obtain ⟨_, _, _, _, _, _, _, _, _, _, _, _, _, e13, ef⟩ := hS1.a.cells
  have g13 := ef 13
  have HS1 := Lib.hid hS1
  have HF1 : Hid (Fr g A w w1) := Lib.hid (Fr.of_keep hK)
  clear hS1 hJ hK ef C c0 c1 c2 c3 c4 c5 c6 c7 c8 c9 c10 c11 c12 c13 cf
  go_wp2_with fail
  go_end0
  exact ⟨rfl, HS1.out.nx (fnV A 117), HF1.out.trans (Fr.setA g A 13 _ _)⟩
theorem d_popWait_no (w0 w : World) (S g A P : Nat) (xs : List Int) (o : Wk) (y : Int) (h : WS w0 w S g A xs o) (hO : WOk o P xs.length) (ht : o.ta = ((P + 2 : Nat) : Int)) (hv : Hid (xs.getD (P + 3) 0 = y)) (hne : ¬ y = o.tn) :
    Calls Try.prog 115 #[.pointer (some ⟨A, 0, none⟩), .pointer (some ⟨S, 0, none⟩)] w (Post w0 w S g A xs o) := by
  obtain ⟨c0, c1, c2, c3, c4, c5, c6, c7, c8, c9, c10, c11, c12, c13, cf⟩ := h.a.cells
  have C := Lib.hid (tmine_j S g (P + 3) xs o.ta o.tn y false w0 w h.j (Lib.hid (by rw [ht]; omega)) hv (Lib.hid (by simpa using hne)) (by have := hO.2.2.2.2.1; omega) hO.2.2.2.2.2)
  have H := Lib.hid h
  clear h hO ht
  go_enter Try.func115, Try.ntmps115
  go_wp2_with fail
  refine C.out.mono ?_
  rintro e w1 ⟨rfl, hJ, hK⟩
  have HS1 := Lib.hid (H.out.keep hJ hK)
  have HF1 : Hid (Fr g A w w1) := Lib.hid (Fr.of_keep hK)
  clear hJ hK C
  go_wp2_with fail
  go_end0
  exact ⟨rfl, HS1.out, HF1.out⟩
theorem d_stealWait (w0 w : World) (S g A P : Nat) (xs : List Int) (o : Wk) (h : WS w0 w S g A xs o) (hO : WOk o P xs.length) (ht : o.ta = ((P + 2 : Nat) : Int)) (hv : Hid (xs.getD (P + 3) 0 = o.tn)) :
    Calls Try.prog 80 #[.pointer (some ⟨A, 0, none⟩), .pointer (some ⟨S, 0, none⟩)] w (Post w0 w S g A xs { o with nx := fnV A 101 }) := by
  obtain ⟨c0, c1, c2, c3, c4, c5, c6, c7, c8, c9, c10, c11, c12, c13, cf⟩ := h.a.cells
  have C := Lib.hid (tmine_j S g (P + 3) xs o.ta o.tn o.tn true w0 w h.j (Lib.hid (by rw [ht]; omega)) hv (Lib.hid (by simp)) (by have := hO.2.2.2.2.1; omega) hO.2.2.2.2.2)
  have H := Lib.hid h
  clear h hO ht
  go_enter Try.func80, Try.ntmps80
  go_wp2_with fail
  refine C.out.mono ?_
  rintro e w1 ⟨rfl, hJ, hK⟩
  have hS1 := H.out.keep hJ hK
  obtain ⟨_, _, _, _, _, _, _, _, _, _, _, _, _, e13, ef⟩ := hS1.a.cells
  have g13 := ef 13
  have HS1 := Lib.hid hS1
  have HF1 : Hid (Fr g A w w1) := Lib.hid (Fr.of_keep hK)
  clear hS1 hJ hK ef C c0 c1 c2 c3 c4 c5 c6 c7 c8 c9 c10 c11 c12 c13 cf
  go_wp2_with fail
  go_end0
  exact ⟨rfl, HS1.out.nx (fnV A 101), HF1.out.trans (Fr.setA g A 13 _ _)⟩
theorem d_stealWait_no (w0 w : World) (S g A P : Nat) (xs : List Int) (o : Wk) (y : Int) (h : WS w0 w S g A xs o) (hO : WOk o P xs.length) (ht : o.ta = ((P + 2 : Nat) : Int)) (hv : Hid (xs.getD (P + 3) 0 = y)) (hne : ¬ y = o.tn) :
    Calls Try.prog 80 #[.pointer (some ⟨A, 0, none⟩), .pointer (some ⟨S, 0, none⟩)] w (Post w0 w S g A xs o) := by
  obtain ⟨c0, c1, c2, c3, c4, c5, c6, c7, c8, c9, c10, c11, c12, c13, cf⟩ := h.a.cells
  have C := Lib.hid (tmine_j S g (P + 3) xs o.ta o.tn y false w0 w h.j (Lib.hid (by rw [ht]; omega)) hv (Lib.hid (by simpa using hne)) (by have := hO.2.2.2.2.1; omega) hO.2.2.2.2.2)
  have H := Lib.hid h
  clear h hO ht
  go_enter Try.func80, Try.ntmps80
  go_wp2_with fail
  refine C.out.mono ?_
  rintro e w1 ⟨rfl, hJ, hK⟩
  have HS1 := Lib.hid (H.out.keep hJ hK)
  have HF1 : Hid (Fr g A w w1) := Lib.hid (Fr.of_keep hK)
  clear hJ hK C
  go_wp2_with fail
  go_end0
  exact ⟨rfl, HS1.out, HF1.out⟩
theorem d_stealLook (w0 w : World) (S g A P : Nat) (xs : List Int) (o : Wk) (v : Int) (h : WS w0 w S g A xs o) (hO : WOk o P xs.length) (hv : Hid (xs.getD (P + 0) 0 = v)) :
    Calls Try.prog 101 #[.pointer (some ⟨A, 0, none⟩), .pointer (some ⟨S, 0, none⟩)] w (Post w0 w S g A xs { o with hd := v, nx := fnV A 113 }) := by
  have C := Lib.hid (load_of S g A P 0 o xs v w h.a hO (by omega) h.j.1 hv)
  have H := Lib.hid h
  clear h hO
  go_enter Try.func101, Try.ntmps101
  go_wp2_with fail
  refine C.out.mono ?_
  rintro e w1 ⟨rfl, hb⟩
  have hS1 := H.out.below hb
  obtain ⟨_, _, _, _, _, _, _, e7, _, _, _, _, _, e13, ef⟩ := hS1.a.cells
  have g7 := ef 7
  have g13 := ef 13
  have HS1 := Lib.hid hS1
  have HF1 : Hid (Fr g A w w1) := Lib.hid (Fr.of_below hb)
  clear hS1 hb ef C
  go_wp2_with fail
  go_end0
  exact ⟨rfl, (HS1.out.hd v).nx (fnV A 113), (HF1.out.trans (Fr.setA g A 7 _ _)).trans (Fr.setA g A 13 _ _)⟩
theorem d_popTake (w0 w : World) (S g A P : Nat) (xs : List Int) (o : Wk) (r : Nat) (n v : Int) (h : WS w0 w S g A xs o) (hO : WOk o P xs.length) (b1 : 1 ≤ o.tl) (b2 : o.tl ≤ 1000000) (hn : Hid (o.tl - 1 = n)) (hr : Hid (n.tmod (o.D : Int) = (r : Int))) (hrd : r < o.D) (hv : Hid (xs.getD (P + 4 + r) 0 = v)) :
    Calls Try.prog 97 #[.pointer (some ⟨A, 0, none⟩), .pointer (some ⟨S, 0, none⟩)] w (Post w0 w S g A xs { o with tl := n, gt := v, hs := true, nx := .nilFunc }) := by
  obtain ⟨c0, c1, c2, c3, c4, c5, c6, c7, c8, c9, c10, c11, c12, c13, cf⟩ := h.a.cells
  have f5 := cf 5
  have hn0 : 0 ≤ n := by have := hn.out; omega
  have H1 := Lib.hid (h.tl n)
  have HF0 : Hid (Fr g A w (w.setCell ⟨A, 5, none⟩ (.int .i64 n))) := Lib.hid (Fr.setA g A 5 _ _)
  have hn1 := hn.out
  have HO2 : Hid (WOk { o with tl := n } P xs.length) := Lib.hid hO
  clear h hO
  go_enter Try.func97, Try.ntmps97
  go_wp2_with fail
  refine (d_take w0 _ S g A P r n xs _ v H1.out HO2.out hn0 hr hrd hv).mono ?_
  rintro e w1 ⟨rfl, hS1, hF1⟩
  obtain ⟨_, _, _, _, _, _, _, _, _, _, _, _, _, e13, ef⟩ := hS1.a.cells
  have g13 := ef 13
  have HS1 := Lib.hid hS1
  have HF1 := Lib.hid (HF0.out.trans hF1)
  clear hS1 hF1 ef c0 c1 c2 c3 c4 c5 c6 c7 c8 c9 c10 c11 c12 c13 cf f5
  go_wp2_with fail
  go_end0
  exact ⟨rfl, HS1.out.nx .nilFunc, HF1.out.trans (Fr.setA g A 13 _ _)⟩
end Go.Proofs.Ytegbifphekhgkaa
