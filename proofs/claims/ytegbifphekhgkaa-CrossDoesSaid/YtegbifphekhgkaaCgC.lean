/- What each step of a walk Park does, of any iteration (layer 19). -/
import Derived.Test.YtegbifphekhgkaaCgA
namespace Go.Proofs.Ytegbifphekhgkaa.cg
open Go.ChangeShapes Go.WideShapes Go.ChangeAt Go.RowKit
set_option linter.unusedVariables false
set_option linter.unusedSimpArgs false
theorem park_wait (S g B k : Nat) (xs : List Int) (id sr it q F st : Int) (bk : Bool) (w0 w : World) (h : J w0 w S g xs) (ho : ParkAt w B id sr it st 0 bk) (hg : Hid (B ≠ g)) (hS : Hid (B ≠ S)) (h0 : Hid (w0.heap.size ≤ B)) (h1 : 1 ≤ id) (h2 : id ≤ 3) (hF : Hid ((1 : Int) * (4 + 3) + (id - 1) * (2 + (3 + 1) * 4) = F)) (hq : HQ 3 it q) (hat : k < xs.length) (hm : xs.length ≤ 1048576) (hk : Hid (F + 2 + q * 4 + 1 = (k : Int)))  :
    Calls Try.prog 41 #[.pointer (some ⟨B, 0, none⟩), .pointer (some ⟨S, 0, none⟩)] w fun e w' => e = .returned (.bool false) ∧ J w0 w' S g (xs.set k (tOf sr it st)) ∧ ParkAt w' B id sr it st 1 bk ∧ Keep2 g B w w' := by
  obtain ⟨c0, c1, c2, c3, c4, c5, c6, c7, c8, c9, cf⟩ := ho.cells
  have f8 := cf 8
  have f9 := cf 9
  have hO := Lib.hid ho
  clear ho cf
  go_enter Try.func41, Try.ntmps41
  go_wp2_with fail
  have hdr := h.below' (w' := w.drew) (by go_grown)
  go_region_held3 (fun w' => w'.cell? ⟨B, 0, none⟩ = some (.int .i64 1) ∧ w'.cell? ⟨B, 1, none⟩ = some (.int .i64 3) ∧ w'.cell? ⟨B, 2, none⟩ = some (.int .i64 3) ∧ w'.cell? ⟨B, 3, none⟩ = some (.int .i64 3) ∧ w'.cell? ⟨B, 4, none⟩ = some (.int .i64 id) ∧ w'.cell? ⟨B, 5, none⟩ = some (.int .i64 sr) ∧ w'.cell? ⟨B, 6, none⟩ = some (.int .i64 it) ∧ w'.cell? ⟨B, 7, none⟩ = some (.int .i64 st)) (first | (with_reducible assumption) | exact hcs | exact ⟨c0, c1, c2, c3, c4, c5, c6, c7⟩)
    (first | (go_at_call 69; refine (rwait_jg S g k xs id sr it F q st w0 _ hdr h1 h2 hF hq hk hat hm).mono ?_; rintro e w1 ⟨rfl, hj, hk0⟩; have hk1 : Keep g w w1 := hk0; have ho1 : ParkAt w1 B id sr it st 0 bk := hk1.block hO.out hg.out; have hO1 := Lib.hid ho1; have hcs := ho1.rd))
  clear c0 c1 c2 c3 c4 c5 c6 c7 c8 c9 f8 f9 hcs
  obtain ⟨c0, c1, c2, c3, c4, c5, c6, c7, c8, c9, cf⟩ := ho1.cells
  have f8 := cf 8
  have hO5 : Hid (ParkAt (w1.setCell ⟨B, 8, none⟩ (.int .i64 1)) B id sr it st 1 bk) := Lib.hid (cobj_set _ ho1)
  have e8 := hO5.out.cells.2.2.2.2.2.2.2.2.1
  have hJ5 := hj.cobj_set ho1 hg.out hS.out h0.out (i := 8) (v := .int .i64 1)
  have hK5 := (hk1.two B).trans (Keep2.set g B 8 _ (.int .i64 1))
  clear ho1 cf hj hk1
  go_wp2_with fail
  go_ret
  exact ⟨rfl, hJ5, hO5.out, hK5⟩
theorem park_look_yes (S g B k : Nat) (xs : List Int) (id sr it q F st : Int) (bk : Bool) (w0 w : World) (h : J w0 w S g xs) (ho : ParkAt w B id sr it st 1 bk) (hg : Hid (B ≠ g)) (hS : Hid (B ≠ S)) (h0 : Hid (w0.heap.size ≤ B)) (h1 : 1 ≤ id) (h2 : id ≤ 3) (hF : Hid ((1 : Int) * (4 + 3) + (id - 1) * (2 + (3 + 1) * 4) = F)) (il : Int) (hil : it - 1 = il) (hi : -1099511627776 ≤ it) (hi2 : it ≤ 1099511627776) (hq : HQ 3 il q) (hat : k < xs.length) (hm : xs.length ≤ 1048576) (hk : Hid (F + 2 + q * 4 + 0 = (k : Int))) (x : Int) (hx : Hid (xs.getD k 0 = x)) (hlt : st < x) :
    Calls Try.prog 41 #[.pointer (some ⟨B, 0, none⟩), .pointer (some ⟨S, 0, none⟩)] w fun e w' => e = .returned (.bool false) ∧ J w0 w' S g xs ∧ ParkAt w' B id sr it st 2 bk ∧ Keep2 g B w w' := by
  have hw : IntKind.i64.wrap (it - 1) = it - 1 := by rw [IntKind.wrap_i64]; omega
  have hw1 : IntKind.i64.wrap il = il := by rw [IntKind.wrap_i64]; omega
  clear hi hi2
  obtain ⟨c0, c1, c2, c3, c4, c5, c6, c7, c8, c9, cf⟩ := ho.cells
  have f8 := cf 8
  have f9 := cf 9
  have hO := Lib.hid ho
  have hO2 : Hid (ParkAt (w.setCell ⟨B, 8, none⟩ (.int .i64 2)) B id sr it st 2 bk) := Lib.hid (cobj_set _ ho)
  have hJ2 := h.cobj_set ho hg.out hS.out h0.out (i := 8) (v := .int .i64 2)
  have hK2 := Keep2.set g B 8 w (.int .i64 2)
  clear ho cf
  go_enter Try.func41, Try.ntmps41
  go_wp2_with fail
  obtain ⟨W, hW⟩ : ∃ W, w.setCell ⟨B, 8, none⟩ (.int .i64 2) = W := ⟨_, rfl⟩
  rw [hW] at hO2 hJ2 hK2 ⊢
  clear hW c0 c1 c2 c3 c4 c5 c6 c7 c8 c9 f8 f9
  obtain ⟨c0, c1, c2, c3, c4, c5, c6, c7, c8, c9, cf⟩ := hO2.out.cells
  have hdr := hJ2.below' (w' := W.drew) (by go_grown)
  clear cf
  go_region_held3 (fun w' => w'.cell? ⟨B, 0, none⟩ = some (.int .i64 1) ∧ w'.cell? ⟨B, 1, none⟩ = some (.int .i64 3) ∧ w'.cell? ⟨B, 2, none⟩ = some (.int .i64 3) ∧ w'.cell? ⟨B, 3, none⟩ = some (.int .i64 3) ∧ w'.cell? ⟨B, 4, none⟩ = some (.int .i64 id) ∧ w'.cell? ⟨B, 5, none⟩ = some (.int .i64 sr) ∧ w'.cell? ⟨B, 6, none⟩ = some (.int .i64 it) ∧ w'.cell? ⟨B, 7, none⟩ = some (.int .i64 st)) (first | (with_reducible assumption) | exact hcs | exact ⟨c0, c1, c2, c3, c4, c5, c6, c7⟩)
    (first | (go_at_call 70; refine (rcome_jg S g k xs id sr il F q x w0 _ hdr h1 h2 hF hq hk hx hat hm).mono ?_; rintro e w1 ⟨rfl, hj, hk0⟩; have hk1 : Keep g W w1 := hk0; have ho1 : ParkAt w1 B id sr it st 2 bk := hk1.block hO2.out hg.out; have hO1 := Lib.hid ho1; have hcs := ho1.rd))
  have hK3 := hK2.trans (hk1.two B)
  clear c0 c1 c2 c3 c4 c5 c6 c7 c8 c9 hcs hdr
  obtain ⟨c0, c1, c2, c3, c4, c5, c6, c7, c8, c9, cf⟩ := ho1.cells
  have f8 := cf 8
  clear ho1 cf
  go_wp2_with fail
  go_ret
  exact ⟨rfl, hj, hO1.out, hK3⟩
theorem park_look_no (S g B k : Nat) (xs : List Int) (id sr it q F st : Int) (bk : Bool) (w0 w : World) (h : J w0 w S g xs) (ho : ParkAt w B id sr it st 1 bk) (hg : Hid (B ≠ g)) (hS : Hid (B ≠ S)) (h0 : Hid (w0.heap.size ≤ B)) (h1 : 1 ≤ id) (h2 : id ≤ 3) (hF : Hid ((1 : Int) * (4 + 3) + (id - 1) * (2 + (3 + 1) * 4) = F)) (il : Int) (hil : it - 1 = il) (hi : -1099511627776 ≤ it) (hi2 : it ≤ 1099511627776) (hq : HQ 3 il q) (hat : k < xs.length) (hm : xs.length ≤ 1048576) (hk : Hid (F + 2 + q * 4 + 0 = (k : Int))) (x : Int) (hx : Hid (xs.getD k 0 = x)) (hlt : x ≤ st) :
    Calls Try.prog 41 #[.pointer (some ⟨B, 0, none⟩), .pointer (some ⟨S, 0, none⟩)] w fun e w' => e = .returned (.bool true) ∧ J w0 w' S g xs ∧ ParkAt w' B id sr it st 3 bk ∧ Keep2 g B w w' := by
  have hw : IntKind.i64.wrap (it - 1) = it - 1 := by rw [IntKind.wrap_i64]; omega
  have hw1 : IntKind.i64.wrap il = il := by rw [IntKind.wrap_i64]; omega
  clear hi hi2
  obtain ⟨c0, c1, c2, c3, c4, c5, c6, c7, c8, c9, cf⟩ := ho.cells
  have f8 := cf 8
  have f9 := cf 9
  have hO := Lib.hid ho
  have hO2 : Hid (ParkAt (w.setCell ⟨B, 8, none⟩ (.int .i64 2)) B id sr it st 2 bk) := Lib.hid (cobj_set _ ho)
  have hJ2 := h.cobj_set ho hg.out hS.out h0.out (i := 8) (v := .int .i64 2)
  have hK2 := Keep2.set g B 8 w (.int .i64 2)
  clear ho cf
  go_enter Try.func41, Try.ntmps41
  go_wp2_with fail
  obtain ⟨W, hW⟩ : ∃ W, w.setCell ⟨B, 8, none⟩ (.int .i64 2) = W := ⟨_, rfl⟩
  rw [hW] at hO2 hJ2 hK2 ⊢
  clear hW c0 c1 c2 c3 c4 c5 c6 c7 c8 c9 f8 f9
  obtain ⟨c0, c1, c2, c3, c4, c5, c6, c7, c8, c9, cf⟩ := hO2.out.cells
  have hdr := hJ2.below' (w' := W.drew) (by go_grown)
  clear cf
  go_region_held3 (fun w' => w'.cell? ⟨B, 0, none⟩ = some (.int .i64 1) ∧ w'.cell? ⟨B, 1, none⟩ = some (.int .i64 3) ∧ w'.cell? ⟨B, 2, none⟩ = some (.int .i64 3) ∧ w'.cell? ⟨B, 3, none⟩ = some (.int .i64 3) ∧ w'.cell? ⟨B, 4, none⟩ = some (.int .i64 id) ∧ w'.cell? ⟨B, 5, none⟩ = some (.int .i64 sr) ∧ w'.cell? ⟨B, 6, none⟩ = some (.int .i64 it) ∧ w'.cell? ⟨B, 7, none⟩ = some (.int .i64 st)) (first | (with_reducible assumption) | exact hcs | exact ⟨c0, c1, c2, c3, c4, c5, c6, c7⟩)
    (first | (go_at_call 70; refine (rcome_jg S g k xs id sr il F q x w0 _ hdr h1 h2 hF hq hk hx hat hm).mono ?_; rintro e w1 ⟨rfl, hj, hk0⟩; have hk1 : Keep g W w1 := hk0; have ho1 : ParkAt w1 B id sr it st 2 bk := hk1.block hO2.out hg.out; have hO1 := Lib.hid ho1; have hcs := ho1.rd))
  have hK3 := hK2.trans (hk1.two B)
  clear c0 c1 c2 c3 c4 c5 c6 c7 c8 c9 hcs hdr
  obtain ⟨c0, c1, c2, c3, c4, c5, c6, c7, c8, c9, cf⟩ := ho1.cells
  have f8 := cf 8
  have hO5 : Hid (ParkAt (w1.setCell ⟨B, 8, none⟩ (.int .i64 3)) B id sr it st 3 bk) := Lib.hid (cobj_set _ ho1)
  have e8 := hO5.out.cells.2.2.2.2.2.2.2.2.1
  have hJ5 := hj.cobj_set ho1 hg.out hS.out h0.out (i := 8) (v := .int .i64 3)
  have hK5 := hK3.trans (Keep2.set g B 8 _ (.int .i64 3))
  clear ho1 cf hj hk1 hK3
  go_wp2_with fail
  go_ret
  exact ⟨rfl, hJ5, hO5.out, hK5⟩
theorem park_free_yes (S g B k : Nat) (xs : List Int) (id sr it q F st : Int) (bk : Bool) (w0 w : World) (h : J w0 w S g xs) (ho : ParkAt w B id sr it st 2 bk) (hg : Hid (B ≠ g)) (hS : Hid (B ≠ S)) (h0 : Hid (w0.heap.size ≤ B)) (h1 : 1 ≤ id) (h2 : id ≤ 3) (hF : Hid ((1 : Int) * (4 + 3) + (id - 1) * (2 + (3 + 1) * 4) = F)) (hq : HQ 3 it q) (hat : k < xs.length) (hm : xs.length ≤ 1048576) (hk : Hid (F + 2 + q * 4 + 1 = (k : Int))) (hx : Hid (xs.getD k 0 = tOf sr it st)) :
    Calls Try.prog 41 #[.pointer (some ⟨B, 0, none⟩), .pointer (some ⟨S, 0, none⟩)] w fun e w' => e = .returned (.bool true) ∧ J w0 w' S g (xs.set k 0) ∧ ParkAt w' B id sr it st 3 true ∧ Keep2 g B w w' := by
  obtain ⟨c0, c1, c2, c3, c4, c5, c6, c7, c8, c9, cf⟩ := ho.cells
  have f8 := cf 8
  have f9 := cf 9
  have hO := Lib.hid ho
  clear ho cf
  go_enter Try.func41, Try.ntmps41
  go_wp2_with fail
  have hdr := h.below' (w' := w.drew) (by go_grown)
  go_region_held3 (fun w' => w'.cell? ⟨B, 0, none⟩ = some (.int .i64 1) ∧ w'.cell? ⟨B, 1, none⟩ = some (.int .i64 3) ∧ w'.cell? ⟨B, 2, none⟩ = some (.int .i64 3) ∧ w'.cell? ⟨B, 3, none⟩ = some (.int .i64 3) ∧ w'.cell? ⟨B, 4, none⟩ = some (.int .i64 id) ∧ w'.cell? ⟨B, 5, none⟩ = some (.int .i64 sr) ∧ w'.cell? ⟨B, 6, none⟩ = some (.int .i64 it) ∧ w'.cell? ⟨B, 7, none⟩ = some (.int .i64 st)) (first | (with_reducible assumption) | exact hd7 | exact hcs | exact ⟨c0, c1, c2, c3, c4, c5, c6, c7⟩)
    (first | (go_at_call 67; refine (rfree_yesg S g k xs id sr it F q st w0 _ hdr h1 h2 hF hq hk hx hat hm).mono ?_; rintro e w1 ⟨rfl, hj, hk0⟩; have hk1 : Keep g w w1 := hk0; have ho1 : ParkAt w1 B id sr it st 2 bk := hk1.block hO.out hg.out; have hO1 := Lib.hid ho1; have hcs := ho1.rd; have e9 := ho1.cells.2.2.2.2.2.2.2.2.2.1; have g9 := ho1.cells.2.2.2.2.2.2.2.2.2.2 9; have hT1 : ParkAt (w1.setCell ⟨B, 9, none⟩ (.bool true)) B id sr it st 2 true := cobj_set _ ho1; have hd7 := hT1.rd))
  have hJ3 := hj.cobj_set hO1.out hg.out hS.out h0.out (i := 9) (v := .bool true)
  have hK3 := (hk1.two B).trans (Keep2.set g B 9 _ (.bool true))
  have hO4 := Lib.hid hT1
  obtain ⟨W, hW⟩ : ∃ W, w1.setCell ⟨B, 9, none⟩ (.bool true) = W := ⟨_, rfl⟩
  clear hd7 hcs c0 c1 c2 c3 c4 c5 c6 c7 c8 c9 f8 f9 e9 g9
  rw [hW] at hJ3 hK3 hO4 hT1 ⊢
  obtain ⟨c0, c1, c2, c3, c4, c5, c6, c7, c8, c9, cf⟩ := hT1.cells
  have f8 := cf 8
  have hO5 : Hid (ParkAt (W.setCell ⟨B, 8, none⟩ (.int .i64 3)) B id sr it st 3 true) := Lib.hid (cobj_set _ hT1)
  have hJ5 := hJ3.cobj_set hO4.out hg.out hS.out h0.out (i := 8) (v := .int .i64 3)
  have hK5 := hK3.trans (Keep2.set g B 8 _ (.int .i64 3))
  clear hT1 cf hW hJ3 hK3
  have e8 := hO5.out.cells.2.2.2.2.2.2.2.2.1
  go_wp2_with fail
  go_ret
  exact ⟨rfl, hJ5, hO5.out, hK5⟩
theorem park_free_no (S g B k : Nat) (xs : List Int) (id sr it q F st : Int) (bk : Bool) (w0 w : World) (h : J w0 w S g xs) (ho : ParkAt w B id sr it st 2 bk) (hg : Hid (B ≠ g)) (hS : Hid (B ≠ S)) (h0 : Hid (w0.heap.size ≤ B)) (h1 : 1 ≤ id) (h2 : id ≤ 3) (hF : Hid ((1 : Int) * (4 + 3) + (id - 1) * (2 + (3 + 1) * 4) = F)) (hq : HQ 3 it q) (hat : k < xs.length) (hm : xs.length ≤ 1048576) (hk : Hid (F + 2 + q * 4 + 1 = (k : Int))) (x : Int) (hx : Hid (xs.getD k 0 = x)) (hn : Hid (x ≠ tOf sr it st)) :
    Calls Try.prog 41 #[.pointer (some ⟨B, 0, none⟩), .pointer (some ⟨S, 0, none⟩)] w fun e w' => e = .returned (.bool true) ∧ J w0 w' S g xs ∧ ParkAt w' B id sr it st 3 false ∧ Keep2 g B w w' := by
  obtain ⟨c0, c1, c2, c3, c4, c5, c6, c7, c8, c9, cf⟩ := ho.cells
  have f8 := cf 8
  have f9 := cf 9
  have hO := Lib.hid ho
  clear ho cf
  go_enter Try.func41, Try.ntmps41
  go_wp2_with fail
  have hdr := h.below' (w' := w.drew) (by go_grown)
  go_region_held3 (fun w' => w'.cell? ⟨B, 0, none⟩ = some (.int .i64 1) ∧ w'.cell? ⟨B, 1, none⟩ = some (.int .i64 3) ∧ w'.cell? ⟨B, 2, none⟩ = some (.int .i64 3) ∧ w'.cell? ⟨B, 3, none⟩ = some (.int .i64 3) ∧ w'.cell? ⟨B, 4, none⟩ = some (.int .i64 id) ∧ w'.cell? ⟨B, 5, none⟩ = some (.int .i64 sr) ∧ w'.cell? ⟨B, 6, none⟩ = some (.int .i64 it) ∧ w'.cell? ⟨B, 7, none⟩ = some (.int .i64 st)) (first | (with_reducible assumption) | exact hd7 | exact hcs | exact ⟨c0, c1, c2, c3, c4, c5, c6, c7⟩)
    (first | (go_at_call 67; refine (rfree_nog S g k xs id sr it F q st x w0 _ hdr h1 h2 hF hq hk hx hn hat hm).mono ?_; rintro e w1 ⟨rfl, hj, hk0⟩; have hk1 : Keep g w w1 := hk0; have ho1 : ParkAt w1 B id sr it st 2 bk := hk1.block hO.out hg.out; have hO1 := Lib.hid ho1; have hcs := ho1.rd; have e9 := ho1.cells.2.2.2.2.2.2.2.2.2.1; have g9 := ho1.cells.2.2.2.2.2.2.2.2.2.2 9; have hT1 : ParkAt (w1.setCell ⟨B, 9, none⟩ (.bool false)) B id sr it st 2 false := cobj_set _ ho1; have hd7 := hT1.rd))
  have hJ3 := hj.cobj_set hO1.out hg.out hS.out h0.out (i := 9) (v := .bool false)
  have hK3 := (hk1.two B).trans (Keep2.set g B 9 _ (.bool false))
  have hO4 := Lib.hid hT1
  obtain ⟨W, hW⟩ : ∃ W, w1.setCell ⟨B, 9, none⟩ (.bool false) = W := ⟨_, rfl⟩
  clear hd7 hcs c0 c1 c2 c3 c4 c5 c6 c7 c8 c9 f8 f9 e9 g9
  rw [hW] at hJ3 hK3 hO4 hT1 ⊢
  obtain ⟨c0, c1, c2, c3, c4, c5, c6, c7, c8, c9, cf⟩ := hT1.cells
  have f8 := cf 8
  have hO5 : Hid (ParkAt (W.setCell ⟨B, 8, none⟩ (.int .i64 3)) B id sr it st 3 false) := Lib.hid (cobj_set _ hT1)
  have hJ5 := hJ3.cobj_set hO4.out hg.out hS.out h0.out (i := 8) (v := .int .i64 3)
  have hK5 := hK3.trans (Keep2.set g B 8 _ (.int .i64 3))
  clear hT1 cf hW hJ3 hK3
  have e8 := hO5.out.cells.2.2.2.2.2.2.2.2.1
  go_wp2_with fail
  go_ret
  exact ⟨rfl, hJ5, hO5.out, hK5⟩

end Go.Proofs.Ytegbifphekhgkaa.cg
