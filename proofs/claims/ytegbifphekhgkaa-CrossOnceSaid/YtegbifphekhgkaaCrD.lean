/- Who waits: what each access of it does (layer 19). -/
import Derived.Test.YtegbifphekhgkaaCrC
namespace Go.Proofs.Ytegbifphekhgkaa
open Go.ChangeShapes Go.WideShapes Go.ChangeAt Go.RowKit
set_option linter.unusedVariables false
set_option linter.unusedSimpArgs false
set_option maxHeartbeats 2000000 in
set_option maxRecDepth 20000 in
theorem a_done (S g A : Nat) (xs : List Int) (y : Option Addr) (len cap : Nat) (ata come got : Int) (w0 w : World) (h : J w0 w S g xs) (hA : AhAt w A y len cap ata come none got) (hlt : (len : Int) < ata) :
    Calls Try.prog 44 #[.pointer (some ⟨A, 0, none⟩), .pointer (some ⟨S, 0, none⟩), .agg #[.int .i64 1, .int .i64 3, .int .i64 3, .int .i64 3, .int .i64 1, .int .i64 9]] w fun e w' => e = .returned (.tuple #[]) ∧ Below w.heap.size w w' := by
  obtain ⟨c0, c1, c2, c3, c4, cf⟩ := (hA.below (w' := (w.alloc (Obj.cells #[Value.int IntKind.i64 1, Value.int IntKind.i64 3, Value.int IntKind.i64 3, Value.int IntKind.i64 3, Value.int IntKind.i64 1, Value.int IntKind.i64 9] 69))) (by go_grown)).cells
  have hn : ¬ ata ≤ (len : Int) := by omega
  clear hA cf h
  go_enter Try.func44, Try.ntmps44
  go_wp2_with fail
  go_quiet (fail)
  go_wp2_with fail
  go_end0
  exact ⟨rfl, btr (by go_grown) (below_drewN (Below.refl _ _) nq)⟩
set_option maxHeartbeats 2000000 in
set_option maxRecDepth 20000 in
theorem b_done (S B : Nat) (st goes : Int) (w : World) (hB : BhAt w B st true none goes) :
    Calls Try.prog 45 #[.pointer (some ⟨B, 0, none⟩), .pointer (some ⟨S, 0, none⟩), .agg #[.int .i64 1, .int .i64 3, .int .i64 3, .int .i64 3, .int .i64 1, .int .i64 9]] w fun e w' => e = .returned (.tuple #[]) ∧ Below w.heap.size w w' := by
  obtain ⟨c0, c1, c2, c3, cf⟩ := (hB.below (w' := (w.alloc (Obj.cells #[Value.int IntKind.i64 1, Value.int IntKind.i64 3, Value.int IntKind.i64 3, Value.int IntKind.i64 3, Value.int IntKind.i64 1, Value.int IntKind.i64 9] 69))) (by go_grown)).cells
  clear hB cf
  go_enter Try.func45, Try.ntmps45
  go_wp2_with fail
  go_end0
  exact ⟨rfl, by go_grown⟩
set_option maxHeartbeats 2000000 in
set_option maxRecDepth 20000 in
theorem b_first_yes (S g B : Nat) (xs : List Int) (st goes x : Int) (w0 w : World) (h : J w0 w S g xs) (hB : BhAt w B st false none goes) (hBg : Hid (B ≠ g)) (hBS : Hid (B ≠ S)) (hB0 : Hid (w0.heap.size ≤ B)) (hx : Hid (xs.getD 9 0 = x)) (hlt : st < x) (g0 : 0 ≤ goes) (g1 : goes ≤ 1000) (hxl : 9 < xs.length) (hxm : xs.length ≤ 1048576) :
    Calls Try.prog 45 #[.pointer (some ⟨B, 0, none⟩), .pointer (some ⟨S, 0, none⟩), .agg #[.int .i64 1, .int .i64 3, .int .i64 3, .int .i64 3, .int .i64 1, .int .i64 9]] w fun e w' => e = .returned (.tuple #[]) ∧ J w0 w' S g xs ∧ BhAt w' B st true none (goes + 1) ∧ Keep2 g B w w' := by
  have HB0 := Lib.hid (hB.below (w' := (w.alloc (Obj.cells #[Value.int IntKind.i64 1, Value.int IntKind.i64 3, Value.int IntKind.i64 3, Value.int IntKind.i64 3, Value.int IntKind.i64 1, Value.int IntKind.i64 9] 69))) (by go_grown))
  have HJ := Lib.hid (h.below' (w' := (w.alloc (Obj.cells #[Value.int IntKind.i64 1, Value.int IntKind.i64 3, Value.int IntKind.i64 3, Value.int IntKind.i64 3, Value.int IntKind.i64 1, Value.int IntKind.i64 9] 69))) (by go_grown))
  have HK : Hid (Keep2 g B w (w.alloc (Obj.cells #[Value.int IntKind.i64 1, Value.int IntKind.i64 3, Value.int IntKind.i64 3, Value.int IntKind.i64 3, Value.int IntKind.i64 1, Value.int IntKind.i64 9] 69))) := Lib.hid ((Keep.of_below (by go_grown)).two B)
  have HR : Hid (RCAt (w.alloc (Obj.cells #[Value.int IntKind.i64 1, Value.int IntKind.i64 3, Value.int IntKind.i64 3, Value.int IntKind.i64 3, Value.int IntKind.i64 1, Value.int IntKind.i64 9] 69)) w.heap.size) := Lib.hid (heap_alloc_new _ _)
  have HwB : Hid (w.heap.size ≠ B) := Lib.hid (by have := lt_of_heap hB; omega)
  have HwG : Hid (w.heap.size ≠ g) := Lib.hid (by have := h.1.facts.2.2.2.2.2; omega)
  obtain ⟨c0, c1, c2, c3, cf⟩ := HB0.out.cells
  have f1 := cf 1
  have HB2 : BhAt ((w.alloc (Obj.cells #[Value.int IntKind.i64 1, Value.int IntKind.i64 3, Value.int IntKind.i64 3, Value.int IntKind.i64 3, Value.int IntKind.i64 1, Value.int IntKind.i64 9] 69)).setCell ⟨B, 1, none⟩ (.bool true)) B st true none goes := cobj_set _ HB0.out
  have HJ2 := HJ.out.cobj_set HB0.out hBg.out hBS.out hB0.out (i := 1) (v := .bool true)
  have HK2 := HK.out.trans (Keep2.set g B 1 (w.alloc (Obj.cells #[Value.int IntKind.i64 1, Value.int IntKind.i64 3, Value.int IntKind.i64 3, Value.int IntKind.i64 3, Value.int IntKind.i64 1, Value.int IntKind.i64 9] 69)) (.bool true))
  have HR2 : Hid (RCAt ((w.alloc (Obj.cells #[Value.int IntKind.i64 1, Value.int IntKind.i64 3, Value.int IntKind.i64 3, Value.int IntKind.i64 3, Value.int IntKind.i64 1, Value.int IntKind.i64 9] 69)).setCell ⟨B, 1, none⟩ (.bool true)) w.heap.size) := Lib.hid ((modify_other (w.alloc (Obj.cells #[Value.int IntKind.i64 1, Value.int IntKind.i64 3, Value.int IntKind.i64 3, Value.int IntKind.i64 3, Value.int IntKind.i64 1, Value.int IntKind.i64 9] 69)) B 1 _ _ HwB.out).trans HR.out)
  clear hB cf h HK HJ HR HB0
  go_enter Try.func45, Try.ntmps45
  go_wp2_with fail
  obtain ⟨V1, hV1⟩ : ∃ V1, (w.alloc (Obj.cells #[Value.int IntKind.i64 1, Value.int IntKind.i64 3, Value.int IntKind.i64 3, Value.int IntKind.i64 3, Value.int IntKind.i64 1, Value.int IntKind.i64 9] 69)).setCell ⟨B, 1, none⟩ (.bool true) = V1 := ⟨_, rfl⟩
  rw [hV1] at HB2 HJ2 HK2 HR2 ⊢
  clear hV1 c0 c1 c2 c3 f1
  obtain ⟨r0, r1, r2, r3, r4, r5⟩ := HR2.out.cells
  have c0 := HB2.cells.1
  have hdr : J w0 V1.drew S g xs := HJ2.below' (w' := V1.drew) (by go_grown)
  have HB3 := Lib.hid HB2
  go_region_held3 (fun w' => w'.cell? ⟨w.heap.size, 0, none⟩ = some (.int .i64 1) ∧ w'.cell? ⟨w.heap.size, 1, none⟩ = some (.int .i64 3) ∧ w'.cell? ⟨w.heap.size, 2, none⟩ = some (.int .i64 3) ∧ w'.cell? ⟨w.heap.size, 3, none⟩ = some (.int .i64 3) ∧ w'.cell? ⟨w.heap.size, 4, none⟩ = some (.int .i64 1) ∧ w'.cell? ⟨w.heap.size, 5, none⟩ = some (.int .i64 9) ∧ w'.cell? ⟨B, 0, none⟩ = some (.int .i64 st)) (first | (with_reducible assumption) | exact hcs | exact ⟨r0, r1, r2, r3, r4, r5, c0⟩)
    (first | (go_at_call 70; refine (rcome_j S g 9 xs 1 9 0 7 0 x w0 _ hdr (by decide) (by decide) (Lib.hid (by decide)) (by decide) (Lib.hid (by decide)) (Lib.hid (by decide)) hx hxl hxm).mono ?_; rintro e w5 ⟨rfl, hj, hk0⟩; have hk1 : Keep g V1 w5 := hk0; have HB6 : BhAt w5 B st true none goes := hk1.block HB3.out hBg.out; have HR6 : RCAt w5 w.heap.size := hk1.block HR2.out HwG.out; have hcs : w5.cell? ⟨w.heap.size, 0, none⟩ = some (.int .i64 1) ∧ w5.cell? ⟨w.heap.size, 1, none⟩ = some (.int .i64 3) ∧ w5.cell? ⟨w.heap.size, 2, none⟩ = some (.int .i64 3) ∧ w5.cell? ⟨w.heap.size, 3, none⟩ = some (.int .i64 3) ∧ w5.cell? ⟨w.heap.size, 4, none⟩ = some (.int .i64 1) ∧ w5.cell? ⟨w.heap.size, 5, none⟩ = some (.int .i64 9) ∧ w5.cell? ⟨B, 0, none⟩ = some (.int .i64 st) := ⟨HR6.cells.1, HR6.cells.2.1, HR6.cells.2.2.1, HR6.cells.2.2.2.1, HR6.cells.2.2.2.2.1, HR6.cells.2.2.2.2.2, HB6.cells.1⟩))
  have HK6 := HK2.trans (hk1.two B)
  clear HB2 HJ2 HK2 HR2 HB3 r0 r1 r2 r3 r4 r5 c0 hdr hk1 hcs
  obtain ⟨c0, c1, c2, c3, cf⟩ := HB6.cells
  have f3 := cf 3
  have HB8 : BhAt (w5.setCell ⟨B, 3, none⟩ (.int .i64 (goes + 1))) B st true none (goes + 1) := cobj_set _ HB6
  have HJ8 := hj.cobj_set HB6 hBg.out hBS.out hB0.out (i := 3) (v := .int .i64 (goes + 1))
  have HK8 := HK6.trans (Keep2.set g B 3 w5 (.int .i64 (goes + 1)))
  have FIN := Lib.hid (And.intro HJ8 (And.intro HB8 HK8))
  clear HB6 cf hj HK6 HB8 HJ8 HK8
  go_wp2_with fail
  go_end0
  exact ⟨rfl, FIN.out⟩
set_option maxHeartbeats 2000000 in
set_option maxRecDepth 20000 in
theorem b_first_no (S g B : Nat) (xs : List Int) (st goes x : Int) (w0 w : World) (h : J w0 w S g xs) (hB : BhAt w B st false none goes) (hBg : Hid (B ≠ g)) (hBS : Hid (B ≠ S)) (hB0 : Hid (w0.heap.size ≤ B)) (hx : Hid (xs.getD 9 0 = x)) (hlt : x ≤ st) (g0 : 0 ≤ goes) (g1 : goes ≤ 1000) (hxl : 9 < xs.length) (hxm : xs.length ≤ 1048576) :
    Calls Try.prog 45 #[.pointer (some ⟨B, 0, none⟩), .pointer (some ⟨S, 0, none⟩), .agg #[.int .i64 1, .int .i64 3, .int .i64 3, .int .i64 3, .int .i64 1, .int .i64 9]] w fun e w' => e = .returned (.tuple #[]) ∧ J w0 w' S g xs ∧ ∃ P, BhAt w' B st true (some ⟨P, 0, none⟩) goes ∧ ParkAt w' P 1 9 1 st 0 false ∧ w.heap.size ≤ P ∧ Keep2 g B w w' := by
  have HB0 := Lib.hid (hB.below (w' := (w.alloc (Obj.cells #[Value.int IntKind.i64 1, Value.int IntKind.i64 3, Value.int IntKind.i64 3, Value.int IntKind.i64 3, Value.int IntKind.i64 1, Value.int IntKind.i64 9] 69))) (by go_grown))
  have HJ := Lib.hid (h.below' (w' := (w.alloc (Obj.cells #[Value.int IntKind.i64 1, Value.int IntKind.i64 3, Value.int IntKind.i64 3, Value.int IntKind.i64 3, Value.int IntKind.i64 1, Value.int IntKind.i64 9] 69))) (by go_grown))
  have HK : Hid (Keep2 g B w (w.alloc (Obj.cells #[Value.int IntKind.i64 1, Value.int IntKind.i64 3, Value.int IntKind.i64 3, Value.int IntKind.i64 3, Value.int IntKind.i64 1, Value.int IntKind.i64 9] 69))) := Lib.hid ((Keep.of_below (by go_grown)).two B)
  have HR : Hid (RCAt (w.alloc (Obj.cells #[Value.int IntKind.i64 1, Value.int IntKind.i64 3, Value.int IntKind.i64 3, Value.int IntKind.i64 3, Value.int IntKind.i64 1, Value.int IntKind.i64 9] 69)) w.heap.size) := Lib.hid (heap_alloc_new _ _)
  have HwB : Hid (w.heap.size ≠ B) := Lib.hid (by have := lt_of_heap hB; omega)
  have HwG : Hid (w.heap.size ≠ g) := Lib.hid (by have := h.1.facts.2.2.2.2.2; omega)
  obtain ⟨c0, c1, c2, c3, cf⟩ := HB0.out.cells
  have f1 := cf 1
  have HB2 : BhAt ((w.alloc (Obj.cells #[Value.int IntKind.i64 1, Value.int IntKind.i64 3, Value.int IntKind.i64 3, Value.int IntKind.i64 3, Value.int IntKind.i64 1, Value.int IntKind.i64 9] 69)).setCell ⟨B, 1, none⟩ (.bool true)) B st true none goes := cobj_set _ HB0.out
  have HJ2 := HJ.out.cobj_set HB0.out hBg.out hBS.out hB0.out (i := 1) (v := .bool true)
  have HK2 := HK.out.trans (Keep2.set g B 1 (w.alloc (Obj.cells #[Value.int IntKind.i64 1, Value.int IntKind.i64 3, Value.int IntKind.i64 3, Value.int IntKind.i64 3, Value.int IntKind.i64 1, Value.int IntKind.i64 9] 69)) (.bool true))
  have HR2 : Hid (RCAt ((w.alloc (Obj.cells #[Value.int IntKind.i64 1, Value.int IntKind.i64 3, Value.int IntKind.i64 3, Value.int IntKind.i64 3, Value.int IntKind.i64 1, Value.int IntKind.i64 9] 69)).setCell ⟨B, 1, none⟩ (.bool true)) w.heap.size) := Lib.hid ((modify_other (w.alloc (Obj.cells #[Value.int IntKind.i64 1, Value.int IntKind.i64 3, Value.int IntKind.i64 3, Value.int IntKind.i64 3, Value.int IntKind.i64 1, Value.int IntKind.i64 9] 69)) B 1 _ _ HwB.out).trans HR.out)
  clear hB cf h HK HJ HR HB0
  go_enter Try.func45, Try.ntmps45
  go_wp2_with fail
  obtain ⟨V1, hV1⟩ : ∃ V1, (w.alloc (Obj.cells #[Value.int IntKind.i64 1, Value.int IntKind.i64 3, Value.int IntKind.i64 3, Value.int IntKind.i64 3, Value.int IntKind.i64 1, Value.int IntKind.i64 9] 69)).setCell ⟨B, 1, none⟩ (.bool true) = V1 := ⟨_, rfl⟩
  rw [hV1] at HB2 HJ2 HK2 HR2 ⊢
  clear hV1 c0 c1 c2 c3 f1
  obtain ⟨r0, r1, r2, r3, r4, r5⟩ := HR2.out.cells
  have c0 := HB2.cells.1
  have hdr : J w0 V1.drew S g xs := HJ2.below' (w' := V1.drew) (by go_grown)
  have HB3 := Lib.hid HB2
  go_region_held3 (fun w' => w'.cell? ⟨w.heap.size, 0, none⟩ = some (.int .i64 1) ∧ w'.cell? ⟨w.heap.size, 1, none⟩ = some (.int .i64 3) ∧ w'.cell? ⟨w.heap.size, 2, none⟩ = some (.int .i64 3) ∧ w'.cell? ⟨w.heap.size, 3, none⟩ = some (.int .i64 3) ∧ w'.cell? ⟨w.heap.size, 4, none⟩ = some (.int .i64 1) ∧ w'.cell? ⟨w.heap.size, 5, none⟩ = some (.int .i64 9) ∧ w'.cell? ⟨B, 0, none⟩ = some (.int .i64 st)) (first | (with_reducible assumption) | exact hcs | exact ⟨r0, r1, r2, r3, r4, r5, c0⟩)
    (first | (go_at_call 70; refine (rcome_j S g 9 xs 1 9 0 7 0 x w0 _ hdr (by decide) (by decide) (Lib.hid (by decide)) (by decide) (Lib.hid (by decide)) (Lib.hid (by decide)) hx hxl hxm).mono ?_; rintro e w5 ⟨rfl, hj, hk0⟩; have hk1 : Keep g V1 w5 := hk0; have HB6 : BhAt w5 B st true none goes := hk1.block HB3.out hBg.out; have HR6 : RCAt w5 w.heap.size := hk1.block HR2.out HwG.out; have hcs : w5.cell? ⟨w.heap.size, 0, none⟩ = some (.int .i64 1) ∧ w5.cell? ⟨w.heap.size, 1, none⟩ = some (.int .i64 3) ∧ w5.cell? ⟨w.heap.size, 2, none⟩ = some (.int .i64 3) ∧ w5.cell? ⟨w.heap.size, 3, none⟩ = some (.int .i64 3) ∧ w5.cell? ⟨w.heap.size, 4, none⟩ = some (.int .i64 1) ∧ w5.cell? ⟨w.heap.size, 5, none⟩ = some (.int .i64 9) ∧ w5.cell? ⟨B, 0, none⟩ = some (.int .i64 st) := ⟨HR6.cells.1, HR6.cells.2.1, HR6.cells.2.2.1, HR6.cells.2.2.2.1, HR6.cells.2.2.2.2.1, HR6.cells.2.2.2.2.2, HB6.cells.1⟩))
  have HK6 := HK2.trans (hk1.two B)
  clear HB2 HJ2 HK2 HR2 HB3 r0 r1 r2 r3 r4 r5 c0 hdr hk1 hcs
  obtain ⟨r0, r1, r2, r3, r4, r5⟩ := HR6.cells
  have c0 := HB6.cells.1
  have HB6' := Lib.hid HB6
  have hsz6 : w.heap.size ≤ w5.heap.size := HK6.1
  go_wp2_with fail
  go_region_held3 (fun w' => w'.cell? ⟨w.heap.size, 0, none⟩ = some (.int .i64 1) ∧ w'.cell? ⟨w.heap.size, 1, none⟩ = some (.int .i64 3) ∧ w'.cell? ⟨w.heap.size, 2, none⟩ = some (.int .i64 3) ∧ w'.cell? ⟨w.heap.size, 3, none⟩ = some (.int .i64 3) ∧ w'.cell? ⟨w.heap.size, 4, none⟩ = some (.int .i64 1) ∧ w'.cell? ⟨w.heap.size, 5, none⟩ = some (.int .i64 9) ∧ w'.cell? ⟨B, 0, none⟩ = some (.int .i64 st)) (first | (with_reducible assumption) | exact hcs | exact hct | exact ⟨r0, r1, r2, r3, r4, r5, c0⟩)
    (first | (go_at_call 34; refine (stop_new 1 9 1 st _).mono ?_; rintro e w6 ⟨R, rfl, hR, hRA, hb6⟩; have hb7 : Below w5.heap.size w5 w6 := btr (show Below w5.heap.size w5 w5.drew by go_grown) hb6; have HB7 : BhAt w6 B st true none goes := HB6'.out.below hb7; have HR7 : RCAt w6 w.heap.size := (hb7.block _ (lt_of_heap HR6)).trans HR6; have e3 := HB7.cells.2.2.1; have g3 := HB7.cells.2.2.2.2 2; have HB8 : BhAt (w6.setCell ⟨B, 2, none⟩ (.pointer (some ⟨R, 0, none⟩))) B st true (some ⟨R, 0, none⟩) goes := cobj_set _ HB7; have HR8 : RCAt (w6.setCell ⟨B, 2, none⟩ (.pointer (some ⟨R, 0, none⟩))) w.heap.size := (modify_other w6 B 2 _ _ HwB.out).trans HR7; have hcs : w6.cell? ⟨w.heap.size, 0, none⟩ = some (.int .i64 1) ∧ w6.cell? ⟨w.heap.size, 1, none⟩ = some (.int .i64 3) ∧ w6.cell? ⟨w.heap.size, 2, none⟩ = some (.int .i64 3) ∧ w6.cell? ⟨w.heap.size, 3, none⟩ = some (.int .i64 3) ∧ w6.cell? ⟨w.heap.size, 4, none⟩ = some (.int .i64 1) ∧ w6.cell? ⟨w.heap.size, 5, none⟩ = some (.int .i64 9) ∧ w6.cell? ⟨B, 0, none⟩ = some (.int .i64 st) := ⟨HR7.cells.1, HR7.cells.2.1, HR7.cells.2.2.1, HR7.cells.2.2.2.1, HR7.cells.2.2.2.2.1, HR7.cells.2.2.2.2.2, HB7.cells.1⟩; have hct : (w6.setCell ⟨B, 2, none⟩ (.pointer (some ⟨R, 0, none⟩))).cell? ⟨w.heap.size, 0, none⟩ = some (.int .i64 1) ∧ (w6.setCell ⟨B, 2, none⟩ (.pointer (some ⟨R, 0, none⟩))).cell? ⟨w.heap.size, 1, none⟩ = some (.int .i64 3) ∧ (w6.setCell ⟨B, 2, none⟩ (.pointer (some ⟨R, 0, none⟩))).cell? ⟨w.heap.size, 2, none⟩ = some (.int .i64 3) ∧ (w6.setCell ⟨B, 2, none⟩ (.pointer (some ⟨R, 0, none⟩))).cell? ⟨w.heap.size, 3, none⟩ = some (.int .i64 3) ∧ (w6.setCell ⟨B, 2, none⟩ (.pointer (some ⟨R, 0, none⟩))).cell? ⟨w.heap.size, 4, none⟩ = some (.int .i64 1) ∧ (w6.setCell ⟨B, 2, none⟩ (.pointer (some ⟨R, 0, none⟩))).cell? ⟨w.heap.size, 5, none⟩ = some (.int .i64 9) ∧ (w6.setCell ⟨B, 2, none⟩ (.pointer (some ⟨R, 0, none⟩))).cell? ⟨B, 0, none⟩ = some (.int .i64 st) := ⟨HR8.cells.1, HR8.cells.2.1, HR8.cells.2.2.1, HR8.cells.2.2.2.1, HR8.cells.2.2.2.2.1, HR8.cells.2.2.2.2.2, HB8.cells.1⟩))
  have HJ8 := (hj.below' hb7).cobj_set HB7 hBg.out hBS.out hB0.out (i := 2) (v := .pointer (some ⟨R, 0, none⟩))
  have HK8 := (HK6.trans ((Keep.of_below hb7).two B)).trans (Keep2.set g B 2 w6 (.pointer (some ⟨R, 0, none⟩)))
  have hR' : w5.heap.size ≤ R := hR
  have HAR : R ≠ B := by have := lt_of_heap HB6'.out; omega
  have HRR : ParkAt (w6.setCell ⟨B, 2, none⟩ (.pointer (some ⟨R, 0, none⟩))) R 1 9 1 st 0 false := (modify_other w6 B 2 _ _ HAR).trans hRA
  have FIN := Lib.hid (And.intro HJ8 (And.intro HB8 (And.intro HRR (And.intro (show w.heap.size ≤ R by omega) HK8))))
  clear hcs hct HB7 HB8 HR7 HR8 HJ8 HK8 HRR hb7 e3 g3 hRA r0 r1 r2 r3 r4 r5 c0
  go_wp2_with fail
  go_end0
  exact ⟨rfl, FIN.out.1, R, FIN.out.2.1, FIN.out.2.2.1, FIN.out.2.2.2.1, FIN.out.2.2.2.2⟩
set_option maxHeartbeats 2000000 in
set_option maxRecDepth 20000 in
theorem b_run (S g B R : Nat) (xs ys : List Int) (st goes nx : Int) (w0 w : World) (h : J w0 w S g xs) (hB : BhAt w B st true (some ⟨R, 0, none⟩) goes) (hBg : Hid (B ≠ g)) (hBR : Hid (B ≠ R)) (hC : PStep w0 w S g R xs ys st nx false false) :
    Calls Try.prog 45 #[.pointer (some ⟨B, 0, none⟩), .pointer (some ⟨S, 0, none⟩), .agg #[.int .i64 1, .int .i64 3, .int .i64 3, .int .i64 3, .int .i64 1, .int .i64 9]] w fun e w' => e = .returned (.tuple #[]) ∧ J w0 w' S g ys ∧ BhAt w' B st true (some ⟨R, 0, none⟩) goes ∧ ParkAt w' R 1 9 1 st nx false ∧ Keep3 g B R w w' := by
  have HA := Lib.hid hB
  have HC := Lib.hid hC
  obtain ⟨c0, c1, c2, c3, cf⟩ := (hB.below (w' := (w.alloc (Obj.cells #[Value.int IntKind.i64 1, Value.int IntKind.i64 3, Value.int IntKind.i64 3, Value.int IntKind.i64 3, Value.int IntKind.i64 1, Value.int IntKind.i64 9] 69))) (by go_grown)).cells
  clear hB cf hC
  go_enter Try.func45, Try.ntmps45
  go_wp2_with fail
  refine (HC.out _ (by go_grown) (h.below' (by go_grown))).mono ?_
  rintro e w1 ⟨rfl, hj, hr, hk⟩
  have hk0 : Keep2 g R w w1 := ((Keep.of_below (by go_grown)).two R).trans hk
  have hA1 := Lib.hid (show BhAt w1 B st true (some ⟨R, 0, none⟩) goes from hk0.block HA.out hBg.out hBR.out)
  have HR := Lib.hid hr
  clear hk hr c0 c1 c2 c3
  go_wp2_with fail
  go_end0
  exact ⟨rfl, hj, hA1.out, HR.out, hk0.r3 B⟩
set_option maxHeartbeats 2000000 in
set_option maxRecDepth 20000 in
theorem b_end (bk : Bool) (S g B R : Nat) (xs ys : List Int) (st goes nx : Int) (w0 w : World) (h : J w0 w S g xs) (hB : BhAt w B st true (some ⟨R, 0, none⟩) goes) (hBg : Hid (B ≠ g)) (hBR : Hid (B ≠ R)) (hBS : Hid (B ≠ S)) (hB0 : Hid (w0.heap.size ≤ B)) (g0 : 0 ≤ goes) (g1 : goes ≤ 1000) (hC : PStep w0 w S g R xs ys st nx true bk) :
    Calls Try.prog 45 #[.pointer (some ⟨B, 0, none⟩), .pointer (some ⟨S, 0, none⟩), .agg #[.int .i64 1, .int .i64 3, .int .i64 3, .int .i64 3, .int .i64 1, .int .i64 9]] w fun e w' => e = .returned (.tuple #[]) ∧ J w0 w' S g ys ∧ BhAt w' B st true none (if bk then goes + 1 else goes) ∧ Keep3 g B R w w' := by
  have HA := Lib.hid hB
  have HC := Lib.hid hC
  obtain ⟨c0, c1, c2, c3, cf⟩ := (hB.below (w' := (w.alloc (Obj.cells #[Value.int IntKind.i64 1, Value.int IntKind.i64 3, Value.int IntKind.i64 3, Value.int IntKind.i64 3, Value.int IntKind.i64 1, Value.int IntKind.i64 9] 69))) (by go_grown)).cells
  clear hB cf hC
  cases bk
  · go_enter Try.func45, Try.ntmps45
    go_wp2_with fail
    refine (HC.out _ (by go_grown) (h.below' (by go_grown))).mono ?_
    rintro e w1 ⟨rfl, hj, hr, hk⟩
    have hk0 : Keep2 g R w w1 := ((Keep.of_below (by go_grown)).two R).trans hk
    have hA1 : BhAt w1 B st true (some ⟨R, 0, none⟩) goes := hk0.block HA.out hBg.out hBR.out
    clear hk c0 c1 c2 c3
    obtain ⟨c0, c1, c2, c3, cf⟩ := hA1.cells
    have HA1 := Lib.hid hA1
    clear hA1 cf
    go_wp2_with fail
    refine (pback_of R _ _ _ _ _ _ _ hr).mono ?_
    rintro e w2 ⟨rfl, rfl⟩
    clear c0 c1 c2 c3 hr
    obtain ⟨c0, c1, c2, c3, cf⟩ := HA1.out.cells
    have f2 := cf 2
    have f3 := cf 3
    clear cf
    have hT2 := Lib.hid (show BhAt (w2.setCell ⟨B, 2, none⟩ (.pointer none)) B st true none goes from cobj_set _ HA1.out)
    have hJ4 := hj.cobj_set HA1.out hBg.out hBS.out hB0.out (i := 2) (v := .pointer none)
    have hK4 := (hk0.r3 B).trans ((Keep2.set g B 2 _ (.pointer none)).a3 R)
    clear hj hk0
    go_wp2_with fail
    go_end0
    exact ⟨rfl, hJ4, hT2.out, hK4⟩
  · go_enter Try.func45, Try.ntmps45
    go_wp2_with fail
    refine (HC.out _ (by go_grown) (h.below' (by go_grown))).mono ?_
    rintro e w1 ⟨rfl, hj, hr, hk⟩
    have hk0 : Keep2 g R w w1 := ((Keep.of_below (by go_grown)).two R).trans hk
    have hA1 : BhAt w1 B st true (some ⟨R, 0, none⟩) goes := hk0.block HA.out hBg.out hBR.out
    clear hk c0 c1 c2 c3
    obtain ⟨c0, c1, c2, c3, cf⟩ := hA1.cells
    have HA1 := Lib.hid hA1
    clear hA1 cf
    go_wp2_with fail
    refine (pback_of R _ _ _ _ _ _ _ hr).mono ?_
    rintro e w2 ⟨rfl, rfl⟩
    clear c0 c1 c2 c3 hr
    obtain ⟨c0, c1, c2, c3, cf⟩ := HA1.out.cells
    have f2 := cf 2
    have f3 := cf 3
    clear cf
    have hT : BhAt (w2.setCell ⟨B, 3, none⟩ (.int .i64 (goes + 1))) B st true (some ⟨R, 0, none⟩) (goes + 1) := cobj_set _ HA1.out
    have hJ3 := hj.cobj_set HA1.out hBg.out hBS.out hB0.out (i := 3) (v := .int .i64 (goes + 1))
    have hK3 := (hk0.r3 B).trans ((Keep2.set g B 3 w2 (.int .i64 (goes + 1))).a3 R)
    have hT2 := Lib.hid (show BhAt ((w2.setCell ⟨B, 3, none⟩ (.int .i64 (goes + 1))).setCell ⟨B, 2, none⟩ (.pointer none)) B st true none (goes + 1) from cobj_set _ hT)
    have hJ4 := hJ3.cobj_set hT hBg.out hBS.out hB0.out (i := 2) (v := .pointer none)
    have hK4 := hK3.trans ((Keep2.set g B 2 _ (.pointer none)).a3 R)
    have e2 := hT.cells.2.2.1
    clear hT
    clear hj hk0
    go_wp2_with fail
    go_end0
    exact ⟨rfl, hJ4, hT2.out, hK4⟩
end Go.Proofs.Ytegbifphekhgkaa
