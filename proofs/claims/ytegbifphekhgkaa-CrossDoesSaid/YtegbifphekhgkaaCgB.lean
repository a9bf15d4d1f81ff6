/- What each step of a walk Right does, of any iteration (layer 19). -/
import Derived.Test.YtegbifphekhgkaaCgA
namespace Go.Proofs.Ytegbifphekhgkaa.cg
open Go.ChangeShapes Go.WideShapes Go.ChangeAt Go.RowKit
set_option linter.unusedVariables false
set_option linter.unusedSimpArgs false
def RightC (id sr it c nx st fr : Int) (gt : Bool) : Array Value := #[.int .i64 1, .int .i64 3, .int .i64 3, .int .i64 3, .int .i64 id, .int .i64 sr, .int .i64 it, .int .i64 c, .int .i64 nx, .int .i64 st, .int .i64 fr, .bool gt]
def RightAt (w : World) (B : Nat) (id sr it c nx st fr : Int) (gt : Bool) : Prop := w.heap[B]? = some (.cells (RightC id sr it c nx st fr gt) 109 (0, 0))
theorem RightAt.cells {w : World} {B : Nat} {id sr it c nx st fr : Int} {gt : Bool} (h : RightAt w B id sr it c nx st fr gt) : w.cell? ⟨B, 0, none⟩ = some (.int .i64 1) ∧ w.cell? ⟨B, 1, none⟩ = some (.int .i64 3) ∧ w.cell? ⟨B, 2, none⟩ = some (.int .i64 3) ∧ w.cell? ⟨B, 3, none⟩ = some (.int .i64 3) ∧ w.cell? ⟨B, 4, none⟩ = some (.int .i64 id) ∧ w.cell? ⟨B, 5, none⟩ = some (.int .i64 sr) ∧ w.cell? ⟨B, 6, none⟩ = some (.int .i64 it) ∧ w.cell? ⟨B, 7, none⟩ = some (.int .i64 c) ∧ w.cell? ⟨B, 8, none⟩ = some (.int .i64 nx) ∧ w.cell? ⟨B, 9, none⟩ = some (.int .i64 st) ∧ w.cell? ⟨B, 10, none⟩ = some (.int .i64 fr) ∧ w.cell? ⟨B, 11, none⟩ = some (.bool gt) ∧ ∀ i, w.frozen? ⟨B, i, none⟩ = false := by
  unfold RightAt at h
  refine ⟨?_, ?_, ?_, ?_, ?_, ?_, ?_, ?_, ?_, ?_, ?_, ?_, fun i => by simp [World.frozen?, h]⟩ <;> simp [World.cell?, h, RightC]
theorem RightAt.rd {w : World} {B : Nat} {id sr it c nx st fr : Int} {gt : Bool} (h : RightAt w B id sr it c nx st fr gt) : w.cell? ⟨B, 0, none⟩ = some (.int .i64 1) ∧ w.cell? ⟨B, 1, none⟩ = some (.int .i64 3) ∧ w.cell? ⟨B, 2, none⟩ = some (.int .i64 3) ∧ w.cell? ⟨B, 3, none⟩ = some (.int .i64 3) ∧ w.cell? ⟨B, 4, none⟩ = some (.int .i64 id) ∧ w.cell? ⟨B, 5, none⟩ = some (.int .i64 sr) ∧ w.cell? ⟨B, 6, none⟩ = some (.int .i64 it) ∧ w.cell? ⟨B, 7, none⟩ = some (.int .i64 c) := by
  unfold RightAt at h
  refine ⟨?_, ?_, ?_, ?_, ?_, ?_, ?_, ?_⟩ <;> simp [World.cell?, h, RightC]
theorem rgot_of (B : Nat) (id sr it c nx st fr : Int) (gt : Bool) (w : World) (h : RightAt w B id sr it c nx st fr gt) : Calls Try.prog 40 #[.pointer (some ⟨B, 0, none⟩)] w fun e w' => e = .returned (.tuple #[.int .i64 fr, .bool gt]) ∧ ∃ n, w' = w.drewN n := by
  obtain ⟨c0, c1, c2, c3, c4, c5, c6, c7, c8, c9, c10, c11, cf⟩ := h.cells
  clear h cf
  go_enter Try.func40, Try.ntmps40
  go_wp2_with fail
  go_quiet (fail)
  go_wp2_with fail
  go_ret2
  exact ⟨rfl, nq, rfl⟩
theorem goOn_of (B : Nat) (id sr it c nx st fr : Int) (gt : Bool) (b : Bool) (n : Int) (w : World) (h : RightAt w B id sr it c nx st fr gt) : Calls Try.prog 66 #[.pointer (some ⟨B, 0, none⟩), .bool b, .int .i64 n] w fun e w' => e = .returned (.tuple #[]) ∧ RightAt w' B id sr it c (if b then n else 3) st fr gt ∧ ∃ v1 v2, (w' = w.setCell ⟨B, 8, none⟩ v1 ∨ w' = (w.setCell ⟨B, 8, none⟩ v1).setCell ⟨B, 8, none⟩ v2) := by
  obtain ⟨c0, c1, c2, c3, c4, c5, c6, c7, c8, c9, c10, c11, cf⟩ := h.cells
  have f8 := cf 8
  have hH := Lib.hid h
  clear h cf
  cases b
  · go_enter Try.func66, Try.ntmps66
    go_wp2_with fail
    go_end0
    exact ⟨rfl, cobj_set _ hH.out, _, .nilFunc, .inl rfl⟩
  · have d8 : (w.setCell ⟨B, 8, none⟩ (.int .i64 3)).cell? ⟨B, 8, none⟩ = some (.int .i64 3) := by
      have := cobj_set (i := 8) (.int .i64 3) hH.out
      simp [World.cell?, this, RightC]
    go_enter Try.func66, Try.ntmps66
    go_wp2_with fail
    go_end0
    exact ⟨rfl, cobj_set _ (cobj_set _ hH.out), _, _, .inr rfl⟩
theorem right_look_yes (S g B k : Nat) (xs : List Int) (id sr it q F c x st0 fr : Int) (gt : Bool) (w0 w : World) (h : J w0 w S g xs) (ho : RightAt w B id sr it c 0 st0 fr gt) (hg : Hid (B ≠ g)) (hS : Hid (B ≠ S)) (h0 : Hid (w0.heap.size ≤ B)) (h1 : 1 ≤ id) (h2 : id ≤ 3) (hF : Hid ((1 : Int) * (4 + 3) + (id - 1) * (2 + (3 + 1) * 4) = F)) (hq : HQ 3 it q) (hat : k < xs.length) (hm : xs.length ≤ 1048576) (hk : Hid (F + 2 + q * 4 + 1 = (k : Int))) (st : Int) (hx : Hid (xs.getD k 0 = x)) (hn : Hid (tNextB x c = true)) (he : Hid (x = tOf sr it st)) (hp : Hid (tPart x 1 = st)) :
    Calls Try.prog 39 #[.pointer (some ⟨B, 0, none⟩), .pointer (some ⟨S, 0, none⟩)] w fun e w' => e = .returned (.bool false) ∧ J w0 w' S g xs ∧ RightAt w' B id sr it c 1 st fr gt ∧ Keep2 g B w w' := by
  obtain ⟨c0, c1, c2, c3, c4, c5, c6, c7, c8, c9, c10, c11, cf⟩ := ho.cells
  have f8 := cf 8
  have f9 := cf 9
  have hO := Lib.hid ho
  clear ho cf
  go_enter Try.func39, Try.ntmps39
  go_wp2_with fail
  have hdr := h.below' (w' := w.drew) (by go_grown)
  go_region_held3 (fun w' => w'.cell? ⟨B, 0, none⟩ = some (.int .i64 1) ∧ w'.cell? ⟨B, 1, none⟩ = some (.int .i64 3) ∧ w'.cell? ⟨B, 2, none⟩ = some (.int .i64 3) ∧ w'.cell? ⟨B, 3, none⟩ = some (.int .i64 3) ∧ w'.cell? ⟨B, 4, none⟩ = some (.int .i64 id) ∧ w'.cell? ⟨B, 5, none⟩ = some (.int .i64 sr) ∧ w'.cell? ⟨B, 6, none⟩ = some (.int .i64 it) ∧ w'.cell? ⟨B, 7, none⟩ = some (.int .i64 c)) (first | (with_reducible assumption) | exact hcs2 | exact hcs | exact ⟨c0, c1, c2, c3, c4, c5, c6, c7⟩)
    (first | (go_at_call 65; refine (rwaits_jg S g k xs id sr it F q x w0 _ hdr h1 h2 hF hq hk hx hat hm).mono ?_; rintro e w1 ⟨rfl, hj, hk0⟩; have hk1 : Keep g w w1 := hk0; have ho1 : RightAt w1 B id sr it c 0 st0 fr gt := hk1.block hO.out hg.out; have hO1 := Lib.hid ho1; have hcs := ho1.rd) | (go_at_call 64; refine (rmay_yes id sr x it c st _ hn.out he.out hp.out).mono ?_; rintro e w2 ⟨rfl, hb2⟩; have ho2 : RightAt w2 B id sr it c 0 st0 fr gt := (hb2.block B (lt_of_heap hO1.out)).trans hO1.out; have hO2 := Lib.hid ho2; have hcs2 := ho2.rd))
  have hj2 := hj.below' hb2
  have hk2 := hk1.trans (Keep.of_below hb2)
  clear c0 c1 c2 c3 c4 c5 c6 c7 c8 c9 c10 c11 f8 f9 hcs hcs2 hj hb2 hk1 ho1
  obtain ⟨c0, c1, c2, c3, c4, c5, c6, c7, c8, c9, c10, c11, cf⟩ := ho2.cells
  have f9 := cf 9
  have hO3 : Hid (RightAt (w2.setCell ⟨B, 9, none⟩ (.int .i64 st)) B id sr it c 0 st fr gt) := Lib.hid (cobj_set _ ho2)
  clear ho2 cf
  go_wp2_with fail
  refine (goOn_of B id sr it c 0 st fr gt true 1 _ hO3.out).mono ?_
  rintro e w3 ⟨rfl, ho3, v1, v2, hw3⟩
  have hJ3 : J w0 w3 S g xs ∧ Keep2 g B w w3 := by
    have a1 := hj2.cobj_set (i := 9) (v := .int .i64 st) hO2.out hg.out hS.out h0.out
    have a2 := (hk2.two B).trans (Keep2.set g B 9 _ (.int .i64 st))
    rcases hw3 with rfl | rfl
    · exact ⟨a1.cobj_set hO3.out hg.out hS.out h0.out, a2.trans (Keep2.set g B 8 _ _)⟩
    · exact ⟨(a1.cobj_set hO3.out hg.out hS.out h0.out).cobj_set (cobj_set _ hO3.out) hg.out hS.out h0.out, (a2.trans (Keep2.set g B 8 _ _)).trans (Keep2.set g B 8 _ _)⟩
  clear hw3 c0 c1 c2 c3 c4 c5 c6 c7 c8 c9 c10 c11
  obtain ⟨c0, c1, c2, c3, c4, c5, c6, c7, c8, c9, c10, c11, cf⟩ := ho3.cells
  have hO4 := Lib.hid ho3
  clear ho3 cf
  simp only [if_true, if_false, Bool.false_eq_true] at c8
  go_wp2_with fail
  go_ret
  exact ⟨rfl, hJ3.1, hO4.out, hJ3.2⟩
theorem right_look_no (S g B k : Nat) (xs : List Int) (id sr it q F c x st0 fr : Int) (gt : Bool) (w0 w : World) (h : J w0 w S g xs) (ho : RightAt w B id sr it c 0 st0 fr gt) (hg : Hid (B ≠ g)) (hS : Hid (B ≠ S)) (h0 : Hid (w0.heap.size ≤ B)) (h1 : 1 ≤ id) (h2 : id ≤ 3) (hF : Hid ((1 : Int) * (4 + 3) + (id - 1) * (2 + (3 + 1) * 4) = F)) (hq : HQ 3 it q) (hat : k < xs.length) (hm : xs.length ≤ 1048576) (hk : Hid (F + 2 + q * 4 + 1 = (k : Int))) (hx : Hid (xs.getD k 0 = x)) (hn : Hid ((tNextB x c && (x == tOf sr it (tPart x 1))) = false)) :
    Calls Try.prog 39 #[.pointer (some ⟨B, 0, none⟩), .pointer (some ⟨S, 0, none⟩)] w fun e w' => e = .returned (.bool true) ∧ J w0 w' S g xs ∧ RightAt w' B id sr it c 3 0 fr gt ∧ Keep2 g B w w' := by
  obtain ⟨c0, c1, c2, c3, c4, c5, c6, c7, c8, c9, c10, c11, cf⟩ := ho.cells
  have f8 := cf 8
  have f9 := cf 9
  have hO := Lib.hid ho
  clear ho cf
  go_enter Try.func39, Try.ntmps39
  go_wp2_with fail
  have hdr := h.below' (w' := w.drew) (by go_grown)
  go_region_held3 (fun w' => w'.cell? ⟨B, 0, none⟩ = some (.int .i64 1) ∧ w'.cell? ⟨B, 1, none⟩ = some (.int .i64 3) ∧ w'.cell? ⟨B, 2, none⟩ = some (.int .i64 3) ∧ w'.cell? ⟨B, 3, none⟩ = some (.int .i64 3) ∧ w'.cell? ⟨B, 4, none⟩ = some (.int .i64 id) ∧ w'.cell? ⟨B, 5, none⟩ = some (.int .i64 sr) ∧ w'.cell? ⟨B, 6, none⟩ = some (.int .i64 it) ∧ w'.cell? ⟨B, 7, none⟩ = some (.int .i64 c)) (first | (with_reducible assumption) | exact hcs2 | exact hcs | exact ⟨c0, c1, c2, c3, c4, c5, c6, c7⟩)
    (first | (go_at_call 65; refine (rwaits_jg S g k xs id sr it F q x w0 _ hdr h1 h2 hF hq hk hx hat hm).mono ?_; rintro e w1 ⟨rfl, hj, hk0⟩; have hk1 : Keep g w w1 := hk0; have ho1 : RightAt w1 B id sr it c 0 st0 fr gt := hk1.block hO.out hg.out; have hO1 := Lib.hid ho1; have hcs := ho1.rd) | (go_at_call 64; refine (rmay_no id sr x it c _ hn.out).mono ?_; rintro e w2 ⟨rfl, hb2⟩; have ho2 : RightAt w2 B id sr it c 0 st0 fr gt := (hb2.block B (lt_of_heap hO1.out)).trans hO1.out; have hO2 := Lib.hid ho2; have hcs2 := ho2.rd))
  have hj2 := hj.below' hb2
  have hk2 := hk1.trans (Keep.of_below hb2)
  clear c0 c1 c2 c3 c4 c5 c6 c7 c8 c9 c10 c11 f8 f9 hcs hcs2 hj hb2 hk1 ho1
  obtain ⟨c0, c1, c2, c3, c4, c5, c6, c7, c8, c9, c10, c11, cf⟩ := ho2.cells
  have f9 := cf 9
  have hO3 : Hid (RightAt (w2.setCell ⟨B, 9, none⟩ (.int .i64 0)) B id sr it c 0 0 fr gt) := Lib.hid (cobj_set _ ho2)
  clear ho2 cf
  go_wp2_with fail
  refine (goOn_of B id sr it c 0 0 fr gt false 1 _ hO3.out).mono ?_
  rintro e w3 ⟨rfl, ho3, v1, v2, hw3⟩
  have hJ3 : J w0 w3 S g xs ∧ Keep2 g B w w3 := by
    have a1 := hj2.cobj_set (i := 9) (v := .int .i64 0) hO2.out hg.out hS.out h0.out
    have a2 := (hk2.two B).trans (Keep2.set g B 9 _ (.int .i64 0))
    rcases hw3 with rfl | rfl
    · exact ⟨a1.cobj_set hO3.out hg.out hS.out h0.out, a2.trans (Keep2.set g B 8 _ _)⟩
    · exact ⟨(a1.cobj_set hO3.out hg.out hS.out h0.out).cobj_set (cobj_set _ hO3.out) hg.out hS.out h0.out, (a2.trans (Keep2.set g B 8 _ _)).trans (Keep2.set g B 8 _ _)⟩
  clear hw3 c0 c1 c2 c3 c4 c5 c6 c7 c8 c9 c10 c11
  obtain ⟨c0, c1, c2, c3, c4, c5, c6, c7, c8, c9, c10, c11, cf⟩ := ho3.cells
  have hO4 := Lib.hid ho3
  clear ho3 cf
  simp only [if_true, if_false, Bool.false_eq_true] at c8
  go_wp2_with fail
  go_ret
  exact ⟨rfl, hJ3.1, hO4.out, hJ3.2⟩
theorem right_free_yes (S g B k : Nat) (xs : List Int) (id sr it q F c st fr : Int) (gt : Bool) (w0 w : World) (h : J w0 w S g xs) (ho : RightAt w B id sr it c 1 st fr gt) (hg : Hid (B ≠ g)) (hS : Hid (B ≠ S)) (h0 : Hid (w0.heap.size ≤ B)) (h1 : 1 ≤ id) (h2 : id ≤ 3) (hF : Hid ((1 : Int) * (4 + 3) + (id - 1) * (2 + (3 + 1) * 4) = F)) (hq : HQ 3 it q) (hat : k < xs.length) (hm : xs.length ≤ 1048576) (hk : Hid (F + 2 + q * 4 + 1 = (k : Int))) (hx : Hid (xs.getD k 0 = tOf sr it st)) :
    Calls Try.prog 39 #[.pointer (some ⟨B, 0, none⟩), .pointer (some ⟨S, 0, none⟩)] w fun e w' => e = .returned (.bool false) ∧ J w0 w' S g (xs.set k 0) ∧ RightAt w' B id sr it c 2 st fr gt ∧ Keep2 g B w w' := by
  obtain ⟨c0, c1, c2, c3, c4, c5, c6, c7, c8, c9, c10, c11, cf⟩ := ho.cells
  have f8 := cf 8
  have f9 := cf 9
  have hO := Lib.hid ho
  clear ho cf
  go_enter Try.func39, Try.ntmps39
  go_wp2_with fail
  have hdr := h.below' (w' := w.drew) (by go_grown)
  go_region_held3 (fun w' => w'.cell? ⟨B, 0, none⟩ = some (.int .i64 1) ∧ w'.cell? ⟨B, 1, none⟩ = some (.int .i64 3) ∧ w'.cell? ⟨B, 2, none⟩ = some (.int .i64 3) ∧ w'.cell? ⟨B, 3, none⟩ = some (.int .i64 3) ∧ w'.cell? ⟨B, 4, none⟩ = some (.int .i64 id) ∧ w'.cell? ⟨B, 5, none⟩ = some (.int .i64 sr) ∧ w'.cell? ⟨B, 6, none⟩ = some (.int .i64 it) ∧ w'.cell? ⟨B, 9, none⟩ = some (.int .i64 st)) (first | (with_reducible assumption) | exact ⟨hcs.1, hcs.2.1, hcs.2.2.1, hcs.2.2.2.1, hcs.2.2.2.2.1, hcs.2.2.2.2.2.1, hcs.2.2.2.2.2.2.1, hc9⟩ | exact ⟨c0, c1, c2, c3, c4, c5, c6, c9⟩)
    (first | (go_at_call 67; refine (rfree_yesg S g k xs id sr it F q st w0 _ hdr h1 h2 hF hq hk hx hat hm).mono ?_; rintro e w1 ⟨rfl, hj, hk0⟩; have hk1 : Keep g w w1 := hk0; have ho1 : RightAt w1 B id sr it c 1 st fr gt := hk1.block hO.out hg.out; have hO1 := Lib.hid ho1; have hcs := ho1.rd; have hc9 := ho1.cells.2.2.2.2.2.2.2.2.2.1) | (go_at_call 66; refine (goOn_of B id sr it c 1 st fr gt true 2 _ hO1.out).mono ?_; rintro e w2 ⟨rfl, ho2, v1, v2, hw2⟩; have hcs := ho2.rd; have hc9 := ho2.cells.2.2.2.2.2.2.2.2.2.1))
  have hJ3 : J w0 w2 S g (xs.set k 0) ∧ Keep2 g B w w2 := by
    rcases hw2 with rfl | rfl
    · exact ⟨hj.cobj_set hO1.out hg.out hS.out h0.out, (hk1.two B).trans (Keep2.set g B 8 _ _)⟩
    · exact ⟨(hj.cobj_set hO1.out hg.out hS.out h0.out).cobj_set (cobj_set _ hO1.out) hg.out hS.out h0.out, ((hk1.two B).trans (Keep2.set g B 8 _ _)).trans (Keep2.set g B 8 _ _)⟩
  clear hw2 c0 c1 c2 c3 c4 c5 c6 c7 c8 c9 c10 c11 hcs hc9
  obtain ⟨c0, c1, c2, c3, c4, c5, c6, c7, c8, c9, c10, c11, cf⟩ := ho2.cells
  have hO4 := Lib.hid ho2
  clear ho2 cf
  simp only [if_true, if_false, Bool.false_eq_true] at c8
  go_wp2_with fail
  go_ret
  exact ⟨rfl, hJ3.1, hO4.out, hJ3.2⟩
theorem right_free_no (S g B k : Nat) (xs : List Int) (id sr it q F c st fr : Int) (gt : Bool) (w0 w : World) (h : J w0 w S g xs) (ho : RightAt w B id sr it c 1 st fr gt) (hg : Hid (B ≠ g)) (hS : Hid (B ≠ S)) (h0 : Hid (w0.heap.size ≤ B)) (h1 : 1 ≤ id) (h2 : id ≤ 3) (hF : Hid ((1 : Int) * (4 + 3) + (id - 1) * (2 + (3 + 1) * 4) = F)) (hq : HQ 3 it q) (hat : k < xs.length) (hm : xs.length ≤ 1048576) (hk : Hid (F + 2 + q * 4 + 1 = (k : Int))) (x : Int) (hx : Hid (xs.getD k 0 = x)) (hn : Hid (x ≠ tOf sr it st)) :
    Calls Try.prog 39 #[.pointer (some ⟨B, 0, none⟩), .pointer (some ⟨S, 0, none⟩)] w fun e w' => e = .returned (.bool true) ∧ J w0 w' S g xs ∧ RightAt w' B id sr it c 3 st fr gt ∧ Keep2 g B w w' := by
  obtain ⟨c0, c1, c2, c3, c4, c5, c6, c7, c8, c9, c10, c11, cf⟩ := ho.cells
  have f8 := cf 8
  have f9 := cf 9
  have hO := Lib.hid ho
  clear ho cf
  go_enter Try.func39, Try.ntmps39
  go_wp2_with fail
  have hdr := h.below' (w' := w.drew) (by go_grown)
  go_region_held3 (fun w' => w'.cell? ⟨B, 0, none⟩ = some (.int .i64 1) ∧ w'.cell? ⟨B, 1, none⟩ = some (.int .i64 3) ∧ w'.cell? ⟨B, 2, none⟩ = some (.int .i64 3) ∧ w'.cell? ⟨B, 3, none⟩ = some (.int .i64 3) ∧ w'.cell? ⟨B, 4, none⟩ = some (.int .i64 id) ∧ w'.cell? ⟨B, 5, none⟩ = some (.int .i64 sr) ∧ w'.cell? ⟨B, 6, none⟩ = some (.int .i64 it) ∧ w'.cell? ⟨B, 9, none⟩ = some (.int .i64 st)) (first | (with_reducible assumption) | exact ⟨hcs.1, hcs.2.1, hcs.2.2.1, hcs.2.2.2.1, hcs.2.2.2.2.1, hcs.2.2.2.2.2.1, hcs.2.2.2.2.2.2.1, hc9⟩ | exact ⟨c0, c1, c2, c3, c4, c5, c6, c9⟩)
    (first | (go_at_call 67; refine (rfree_nog S g k xs id sr it F q st x w0 _ hdr h1 h2 hF hq hk hx hn hat hm).mono ?_; rintro e w1 ⟨rfl, hj, hk0⟩; have hk1 : Keep g w w1 := hk0; have ho1 : RightAt w1 B id sr it c 1 st fr gt := hk1.block hO.out hg.out; have hO1 := Lib.hid ho1; have hcs := ho1.rd; have hc9 := ho1.cells.2.2.2.2.2.2.2.2.2.1) | (go_at_call 66; refine (goOn_of B id sr it c 1 st fr gt false 2 _ hO1.out).mono ?_; rintro e w2 ⟨rfl, ho2, v1, v2, hw2⟩; have hcs := ho2.rd; have hc9 := ho2.cells.2.2.2.2.2.2.2.2.2.1))
  have hJ3 : J w0 w2 S g xs ∧ Keep2 g B w w2 := by
    rcases hw2 with rfl | rfl
    · exact ⟨hj.cobj_set hO1.out hg.out hS.out h0.out, (hk1.two B).trans (Keep2.set g B 8 _ _)⟩
    · exact ⟨(hj.cobj_set hO1.out hg.out hS.out h0.out).cobj_set (cobj_set _ hO1.out) hg.out hS.out h0.out, ((hk1.two B).trans (Keep2.set g B 8 _ _)).trans (Keep2.set g B 8 _ _)⟩
  clear hw2 c0 c1 c2 c3 c4 c5 c6 c7 c8 c9 c10 c11 hcs hc9
  obtain ⟨c0, c1, c2, c3, c4, c5, c6, c7, c8, c9, c10, c11, cf⟩ := ho2.cells
  have hO4 := Lib.hid ho2
  clear ho2 cf
  simp only [if_true, if_false, Bool.false_eq_true] at c8
  go_wp2_with fail
  go_ret
  exact ⟨rfl, hJ3.1, hO4.out, hJ3.2⟩
theorem right_take (S g B k : Nat) (xs : List Int) (id sr it q F c st fr x : Int) (gt : Bool) (w0 w : World) (h : J w0 w S g xs) (ho : RightAt w B id sr it c 2 st fr gt) (hg : Hid (B ≠ g)) (hS : Hid (B ≠ S)) (h0 : Hid (w0.heap.size ≤ B)) (h1 : 1 ≤ id) (h2 : id ≤ 3) (hF : Hid ((1 : Int) * (4 + 3) + (id - 1) * (2 + (3 + 1) * 4) = F)) (hq : HQ 3 it q) (hat : k < xs.length) (hm : xs.length ≤ 1048576) (hk : Hid (F + 2 + q * 4 + 2 = (k : Int))) (hx : Hid (xs.getD k 0 = x)) :
    Calls Try.prog 39 #[.pointer (some ⟨B, 0, none⟩), .pointer (some ⟨S, 0, none⟩)] w fun e w' => e = .returned (.bool true) ∧ J w0 w' S g xs ∧ RightAt w' B id sr it c 3 st x true ∧ Keep2 g B w w' := by
  obtain ⟨c0, c1, c2, c3, c4, c5, c6, c7, c8, c9, c10, c11, cf⟩ := ho.cells
  have f8 := cf 8
  have f9 := cf 9
  have hO := Lib.hid ho
  clear ho cf
  go_enter Try.func39, Try.ntmps39
  go_wp2_with fail
  have hdr := h.below' (w' := w.drew) (by go_grown)
  go_region_held3 (fun w' => w'.cell? ⟨B, 0, none⟩ = some (.int .i64 1) ∧ w'.cell? ⟨B, 1, none⟩ = some (.int .i64 3) ∧ w'.cell? ⟨B, 2, none⟩ = some (.int .i64 3) ∧ w'.cell? ⟨B, 3, none⟩ = some (.int .i64 3) ∧ w'.cell? ⟨B, 4, none⟩ = some (.int .i64 id) ∧ w'.cell? ⟨B, 5, none⟩ = some (.int .i64 sr) ∧ w'.cell? ⟨B, 6, none⟩ = some (.int .i64 it) ∧ w'.cell? ⟨B, 7, none⟩ = some (.int .i64 c)) (first | (with_reducible assumption) | exact hd7 | exact hd8 | exact hcs | exact ⟨c0, c1, c2, c3, c4, c5, c6, c7⟩)
    (first | (go_at_call 68; refine (rframe_jg S g k xs id sr it F q x w0 _ hdr h1 h2 hF hq hk hx hat hm).mono ?_; rintro e w1 ⟨rfl, hj, hk0⟩; have hk1 : Keep g w w1 := hk0; have ho1 : RightAt w1 B id sr it c 2 st fr gt := hk1.block hO.out hg.out; have hO1 := Lib.hid ho1; have hcs := ho1.rd; have e10 := ho1.cells.2.2.2.2.2.2.2.2.2.2.1; have e11 := ho1.cells.2.2.2.2.2.2.2.2.2.2.2.1; have g10 := ho1.cells.2.2.2.2.2.2.2.2.2.2.2.2 10; have g11 := ho1.cells.2.2.2.2.2.2.2.2.2.2.2.2 11; have hT1 : RightAt (w1.setCell ⟨B, 10, none⟩ (.int .i64 x)) B id sr it c 2 st x gt := cobj_set _ ho1; have hT2 : RightAt ((w1.setCell ⟨B, 10, none⟩ (.int .i64 x)).setCell ⟨B, 11, none⟩ (.bool true)) B id sr it c 2 st x true := cobj_set _ hT1; have hd7 := hT1.rd; have hd8 := hT2.rd))
  have hJ3 := (hj.cobj_set hO1.out hg.out hS.out h0.out (i := 10) (v := .int .i64 x)).cobj_set hT1 hg.out hS.out h0.out (i := 11) (v := .bool true)
  have hK3 := ((hk1.two B).trans (Keep2.set g B 10 _ (.int .i64 x))).trans (Keep2.set g B 11 _ (.bool true))
  have hO4 := Lib.hid hT2
  obtain ⟨W, hW⟩ : ∃ W, (w1.setCell ⟨B, 10, none⟩ (.int .i64 x)).setCell ⟨B, 11, none⟩ (.bool true) = W := ⟨_, rfl⟩
  clear hT1 hd7 hd8 hcs c0 c1 c2 c3 c4 c5 c6 c7 c8 c9 c10 c11 f8 f9 e10 e11 g10 g11
  rw [hW] at hJ3 hK3 hO4 hT2 ⊢
  obtain ⟨c0, c1, c2, c3, c4, c5, c6, c7, c8, c9, c10, c11, cf⟩ := hT2.cells
  have f8 := cf 8
  have hO5 : Hid (RightAt (W.setCell ⟨B, 8, none⟩ (.int .i64 3)) B id sr it c 3 st x true) := Lib.hid (cobj_set _ hT2)
  have hJ5 := hJ3.cobj_set hO4.out hg.out hS.out h0.out (i := 8) (v := .int .i64 3)
  have hK5 := hK3.trans (Keep2.set g B 8 _ (.int .i64 3))
  clear hT2 cf hW hJ3 hK3
  have e8 := hO5.out.cells.2.2.2.2.2.2.2.2.1
  go_wp2_with fail
  go_ret
  exact ⟨rfl, hJ5, hO5.out, hK5⟩
theorem look_new (id sr i it c : Int) (w : World) (hit : i + 1 = it) (hi : -1099511627776 ≤ i) (hi2 : i ≤ 1099511627776) : Calls Try.prog 33 #[.agg #[.int .i64 1, .int .i64 3, .int .i64 3, .int .i64 3, .int .i64 id, .int .i64 sr], .int .i64 i, .int .i64 c] w fun e w' => ∃ B, e = .returned (.pointer (some ⟨B, 0, none⟩)) ∧ w.heap.size ≤ B ∧ RightAt w' B id sr it c 0 0 0 false ∧ Below w.heap.size w w' := by
  have hw : IntKind.i64.wrap (i + 1) = i + 1 := by rw [IntKind.wrap_i64]; omega
  have hw1 : IntKind.i64.wrap it = it := by rw [IntKind.wrap_i64]; omega
  clear hi hi2
  go_enter Try.func33, Try.ntmps33
  go_wp2_with fail
  go_ret
  refine ⟨w.heap.size + 1, rfl, by omega, ?_, by go_grown⟩
  show ((w.heap.push _).push _)[w.heap.size + 1]? = _
  rw [show w.heap.size + 1 = (w.heap.push (Obj.cells #[Value.int IntKind.i64 1, Value.int IntKind.i64 3, Value.int IntKind.i64 3, Value.int IntKind.i64 3, Value.int IntKind.i64 id, Value.int IntKind.i64 sr] 69)).size from by simp, Array.getElem?_push_size]
  rfl
end Go.Proofs.Ytegbifphekhgkaa.cg
