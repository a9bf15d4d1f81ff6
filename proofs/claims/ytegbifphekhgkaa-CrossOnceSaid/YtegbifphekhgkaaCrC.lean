/- Who goes ahead, and who waits: what each access of theirs does (layer 19). -/
import Derived.Test.YtegbifphekhgkaaCrB
import Derived.IntWalk
namespace Go.Proofs.Ytegbifphekhgkaa
open Go.ChangeShapes Go.WideShapes Go.ChangeAt Go.RowKit
set_option linter.unusedVariables false
set_option linter.unusedSimpArgs false
/-- Behind w only the blocks g, A and R were written. -/
def Keep3 (g A R : Nat) (w w' : World) : Prop := w.heap.size ≤ w'.heap.size ∧ ∀ C, C < w.heap.size → C ≠ g → C ≠ A → C ≠ R → w'.heap[C]? = w.heap[C]?
theorem Keep3.trans {g A R : Nat} {w w1 w2 : World} (h : Keep3 g A R w w1) (h' : Keep3 g A R w1 w2) : Keep3 g A R w w2 :=
  ⟨Nat.le_trans h.1 h'.1, fun C hC hg hA hR => (h'.2 C (Nat.lt_of_lt_of_le hC h.1) hg hA hR).trans (h.2 C hC hg hA hR)⟩
theorem Keep2.r3 {g R : Nat} {w w' : World} (h : Keep2 g R w w') (A : Nat) : Keep3 g A R w w' := ⟨h.1, fun C hC hg _ hR => h.2 C hC hg hR⟩
theorem Keep2.a3 {g A : Nat} {w w' : World} (h : Keep2 g A w w') (R : Nat) : Keep3 g A R w w' := ⟨h.1, fun C hC hg hA _ => h.2 C hC hg hA⟩
theorem Keep3.block {g A R : Nat} {w w' : World} {C : Nat} {o : Obj} (h : Keep3 g A R w w') (hb : w.heap[C]? = some o) (hg : C ≠ g) (hA : C ≠ A) (hR : C ≠ R) : w'.heap[C]? = some o :=
  (h.2 C (lt_of_heap hb) hg hA hR).trans hb
def AhC (y : Option Addr) (len cap : Nat) (ata come : Int) (lk : Option Addr) (got : Int) : Array Value := #[.slice y len cap, .int .i64 ata, .int .i64 come, .pointer lk, .int .i64 got]
def AhAt (w : World) (B : Nat) (y : Option Addr) (len cap : Nat) (ata come : Int) (lk : Option Addr) (got : Int) : Prop := w.heap[B]? = some (.cells (AhC y len cap ata come lk got) 91 (0, 0))
theorem AhAt.cells {w : World} {B : Nat} {y : Option Addr} {len cap : Nat} {ata come : Int} {lk : Option Addr} {got : Int} (h : AhAt w B y len cap ata come lk got) : w.cell? ⟨B, 0, none⟩ = some (.slice y len cap) ∧ w.cell? ⟨B, 1, none⟩ = some (.int .i64 ata) ∧ w.cell? ⟨B, 2, none⟩ = some (.int .i64 come) ∧ w.cell? ⟨B, 3, none⟩ = some (.pointer lk) ∧ w.cell? ⟨B, 4, none⟩ = some (.int .i64 got) ∧ ∀ i, w.frozen? ⟨B, i, none⟩ = false := by
  unfold AhAt at h
  refine ⟨?_, ?_, ?_, ?_, ?_, fun i => by simp [World.frozen?, h]⟩ <;> simp [World.cell?, h, AhC]
theorem AhAt.below {w w' : World} {B : Nat} {y : Option Addr} {len cap : Nat} {ata come : Int} {lk : Option Addr} {got : Int} (h : AhAt w B y len cap ata come lk got) (hb : Below w.heap.size w w') : AhAt w' B y len cap ata come lk got := (hb.block B (lt_of_heap h)).trans h
def BhC (st : Int) (lo : Bool) (pk : Option Addr) (goes : Int) : Array Value := #[.int .i64 st, .bool lo, .pointer pk, .int .i64 goes]
def BhAt (w : World) (B : Nat) (st : Int) (lo : Bool) (pk : Option Addr) (goes : Int) : Prop := w.heap[B]? = some (.cells (BhC st lo pk goes) 94 (0, 0))
theorem BhAt.cells {w : World} {B : Nat} {st : Int} {lo : Bool} {pk : Option Addr} {goes : Int} (h : BhAt w B st lo pk goes) : w.cell? ⟨B, 0, none⟩ = some (.int .i64 st) ∧ w.cell? ⟨B, 1, none⟩ = some (.bool lo) ∧ w.cell? ⟨B, 2, none⟩ = some (.pointer pk) ∧ w.cell? ⟨B, 3, none⟩ = some (.int .i64 goes) ∧ ∀ i, w.frozen? ⟨B, i, none⟩ = false := by
  unfold BhAt at h
  refine ⟨?_, ?_, ?_, ?_, fun i => by simp [World.frozen?, h]⟩ <;> simp [World.cell?, h, BhC]
theorem BhAt.below {w w' : World} {B : Nat} {st : Int} {lo : Bool} {pk : Option Addr} {goes : Int} (h : BhAt w B st lo pk goes) (hb : Below w.heap.size w w') : BhAt w' B st lo pk goes := (hb.block B (lt_of_heap h)).trans h
theorem before_of (A : Nat) (y : Option Addr) (len cap : Nat) (ata come : Int) (lk : Option Addr) (got : Int) (w : World) (h : AhAt w A y len cap ata come lk got) : Calls Try.prog 72 #[.pointer (some ⟨A, 0, none⟩)] w fun e w' => e = .returned (.int .i64 come) ∧ w = w' := by
  obtain ⟨c0, c1, c2, c3, c4, cf⟩ := h.cells
  clear h cf
  go_enter Try.func72, Try.ntmps72
  go_wp2_with fail
  go_ret
  exact ⟨rfl, rfl⟩
/-- A step of a Right in any world that has grown from w. -/
def RStep (w0 w : World) (S g R : Nat) (xs ys : List Int) (c nx st : Int) (b gt : Bool) : Prop :=
  ∀ w1, Below w.heap.size w w1 → J w0 w1 S g xs → Calls Try.prog 39 #[.pointer (some ⟨R, 0, none⟩), .pointer (some ⟨S, 0, none⟩)] w1 fun e w' => e = .returned (.bool b) ∧ J w0 w' S g ys ∧ (∃ fr, RightAt w' R 1 9 c nx st fr gt) ∧ Keep2 g R w1 w'
def PStep (w0 w : World) (S g R : Nat) (xs ys : List Int) (st nx : Int) (b bk : Bool) : Prop :=
  ∀ w1, Below w.heap.size w w1 → J w0 w1 S g xs → Calls Try.prog 41 #[.pointer (some ⟨R, 0, none⟩), .pointer (some ⟨S, 0, none⟩)] w1 fun e w' => e = .returned (.bool b) ∧ J w0 w' S g ys ∧ ParkAt w' R 1 9 1 st nx bk ∧ Keep2 g R w1 w'
set_option maxHeartbeats 1000000 in
set_option maxRecDepth 20000 in
theorem a_run (S g A R : Nat) (xs ys : List Int) (y : Option Addr) (len cap : Nat) (ata come got c nx st : Int) (w0 w : World) (h : J w0 w S g xs) (hA : AhAt w A y len cap ata come (some ⟨R, 0, none⟩) got) (hAg : Hid (A ≠ g)) (hAR : Hid (A ≠ R)) (hC : RStep w0 w S g R xs ys c nx st false false) :
    Calls Try.prog 44 #[.pointer (some ⟨A, 0, none⟩), .pointer (some ⟨S, 0, none⟩), .agg #[.int .i64 1, .int .i64 3, .int .i64 3, .int .i64 3, .int .i64 1, .int .i64 9]] w fun e w' => e = .returned (.tuple #[]) ∧ J w0 w' S g ys ∧ AhAt w' A y len cap ata come (some ⟨R, 0, none⟩) got ∧ (∃ fr, RightAt w' R 1 9 c nx st fr false) ∧ Keep3 g A R w w' := by
  have HA := Lib.hid hA
  have HC := Lib.hid hC
  obtain ⟨c0, c1, c2, c3, c4, cf⟩ := (hA.below (w' := (w.alloc (Obj.cells #[Value.int IntKind.i64 1, Value.int IntKind.i64 3, Value.int IntKind.i64 3, Value.int IntKind.i64 3, Value.int IntKind.i64 1, Value.int IntKind.i64 9] 69))) (by go_grown)).cells
  clear hA cf hC
  go_enter Try.func44, Try.ntmps44
  go_wp2_with fail
  refine (HC.out _ (by go_grown) (h.below' (by go_grown))).mono ?_
  rintro e w1 ⟨rfl, hj, hr, hk⟩
  have hk0 : Keep2 g R w w1 := ((Keep.of_below (by go_grown)).two R).trans hk
  have hA1 := Lib.hid (show AhAt w1 A y len cap ata come (some ⟨R, 0, none⟩) got from hk0.block HA.out hAg.out hAR.out)
  have HR := Lib.hid hr
  clear hk hr c0 c1 c2 c3 c4
  go_wp2_with fail
  go_end0
  exact ⟨rfl, hj, hA1.out, HR.out, hk0.r3 A⟩
set_option maxHeartbeats 1000000 in
set_option maxRecDepth 20000 in
theorem a_end (gt : Bool) (S g A R : Nat) (xs ys : List Int) (y : Option Addr) (len cap : Nat) (ata come got c nx st : Int) (w0 w : World) (h : J w0 w S g xs) (hA : AhAt w A y len cap ata come (some ⟨R, 0, none⟩) got) (hAg : Hid (A ≠ g)) (hAR : Hid (A ≠ R)) (hAS : Hid (A ≠ S)) (hA0 : Hid (w0.heap.size ≤ A)) (g0 : 0 ≤ got) (g1 : got ≤ 1000) (hC : RStep w0 w S g R xs ys c nx st true gt) :
    Calls Try.prog 44 #[.pointer (some ⟨A, 0, none⟩), .pointer (some ⟨S, 0, none⟩), .agg #[.int .i64 1, .int .i64 3, .int .i64 3, .int .i64 3, .int .i64 1, .int .i64 9]] w fun e w' => e = .returned (.tuple #[]) ∧ J w0 w' S g ys ∧ AhAt w' A y len cap ata come none (if gt then got + 1 else got) ∧ Keep3 g A R w w' := by
  have HA := Lib.hid hA
  have HC := Lib.hid hC
  obtain ⟨c0, c1, c2, c3, c4, cf⟩ := (hA.below (w' := (w.alloc (Obj.cells #[Value.int IntKind.i64 1, Value.int IntKind.i64 3, Value.int IntKind.i64 3, Value.int IntKind.i64 3, Value.int IntKind.i64 1, Value.int IntKind.i64 9] 69))) (by go_grown)).cells
  clear hA cf hC
  cases gt
  · go_enter Try.func44, Try.ntmps44
    go_wp2_with fail
    refine (HC.out _ (by go_grown) (h.below' (by go_grown))).mono ?_
    rintro e w1 ⟨rfl, hj, ⟨fr, hr⟩, hk⟩
    have hk0 : Keep2 g R w w1 := ((Keep.of_below (by go_grown)).two R).trans hk
    have hA1 : AhAt w1 A y len cap ata come (some ⟨R, 0, none⟩) got := hk0.block HA.out hAg.out hAR.out
    clear hk c0 c1 c2 c3 c4
    obtain ⟨c0, c1, c2, c3, c4, cf⟩ := hA1.cells
    have HA1 := Lib.hid hA1
    clear hA1 cf
    go_wp2_with fail
    refine (rgot_of R _ _ _ _ _ _ _ _ hr).mono ?_
    rintro e w2 ⟨rfl, n, rfl⟩
    have hA2 : AhAt (w1.drewN n) A y len cap ata come (some ⟨R, 0, none⟩) got := HA1.out
    have hj2 : J w0 (w1.drewN n) S g ys := hj.below' (below_drewN (Below.refl _ _) n)
    have hk2 : Keep2 g R w (w1.drewN n) := hk0
    obtain ⟨W, hW⟩ : ∃ W, w1.drewN n = W := ⟨_, rfl⟩
    rw [hW] at hA2 hj2 hk2 ⊢
    clear c0 c1 c2 c3 c4 hj hk0 hr hW HA1 w1
    obtain ⟨c0, c1, c2, c3, c4, cf⟩ := hA2.cells
    have f3 := cf 3
    have f4 := cf 4
    clear cf
    have hT2 := Lib.hid (show AhAt (W.setCell ⟨A, 3, none⟩ (.pointer none)) A y len cap ata come none got from cobj_set _ hA2)
    have hJ4 := hj2.cobj_set hA2 hAg.out hAS.out hA0.out (i := 3) (v := .pointer none)
    have hK4 := (hk2.r3 A).trans ((Keep2.set g A 3 _ (.pointer none)).a3 R)
    clear hA2 hj2 hk2
    go_wp2_with fail
    go_end0
    exact ⟨rfl, hJ4, hT2.out, hK4⟩
  · go_enter Try.func44, Try.ntmps44
    go_wp2_with fail
    refine (HC.out _ (by go_grown) (h.below' (by go_grown))).mono ?_
    rintro e w1 ⟨rfl, hj, ⟨fr, hr⟩, hk⟩
    have hk0 : Keep2 g R w w1 := ((Keep.of_below (by go_grown)).two R).trans hk
    have hA1 : AhAt w1 A y len cap ata come (some ⟨R, 0, none⟩) got := hk0.block HA.out hAg.out hAR.out
    clear hk c0 c1 c2 c3 c4
    obtain ⟨c0, c1, c2, c3, c4, cf⟩ := hA1.cells
    have HA1 := Lib.hid hA1
    clear hA1 cf
    go_wp2_with fail
    refine (rgot_of R _ _ _ _ _ _ _ _ hr).mono ?_
    rintro e w2 ⟨rfl, n, rfl⟩
    have hA2 : AhAt (w1.drewN n) A y len cap ata come (some ⟨R, 0, none⟩) got := HA1.out
    have hj2 : J w0 (w1.drewN n) S g ys := hj.below' (below_drewN (Below.refl _ _) n)
    have hk2 : Keep2 g R w (w1.drewN n) := hk0
    obtain ⟨W, hW⟩ : ∃ W, w1.drewN n = W := ⟨_, rfl⟩
    rw [hW] at hA2 hj2 hk2 ⊢
    clear c0 c1 c2 c3 c4 hj hk0 hr hW HA1 w1
    obtain ⟨c0, c1, c2, c3, c4, cf⟩ := hA2.cells
    have f3 := cf 3
    have f4 := cf 4
    clear cf
    have hT : AhAt (W.setCell ⟨A, 4, none⟩ (.int .i64 (got + 1))) A y len cap ata come (some ⟨R, 0, none⟩) (got + 1) := cobj_set _ hA2
    have hJ3 := hj2.cobj_set hA2 hAg.out hAS.out hA0.out (i := 4) (v := .int .i64 (got + 1))
    have hK3 := (hk2.r3 A).trans ((Keep2.set g A 4 W (.int .i64 (got + 1))).a3 R)
    have hT2 := Lib.hid (show AhAt ((W.setCell ⟨A, 4, none⟩ (.int .i64 (got + 1))).setCell ⟨A, 3, none⟩ (.pointer none)) A y len cap ata come none (got + 1) from cobj_set _ hT)
    have hJ4 := hJ3.cobj_set hT hAg.out hAS.out hA0.out (i := 3) (v := .pointer none)
    have hK4 := hK3.trans ((Keep2.set g A 3 _ (.pointer none)).a3 R)
    have e3 := hT.cells.2.2.2.1
    clear hT
    clear hA2 hj2 hk2
    go_wp2_with fail
    go_end0
    exact ⟨rfl, hJ4, hT2.out, hK4⟩
def RCAt (w : World) (B : Nat) : Prop := w.heap[B]? = some (.cells #[.int .i64 1, .int .i64 3, .int .i64 3, .int .i64 3, .int .i64 1, .int .i64 9] 69 (0, 0))
theorem RCAt.cells {w : World} {B : Nat} (h : RCAt w B) : w.cell? ⟨B, 0, none⟩ = some (.int .i64 1) ∧ w.cell? ⟨B, 1, none⟩ = some (.int .i64 3) ∧ w.cell? ⟨B, 2, none⟩ = some (.int .i64 3) ∧ w.cell? ⟨B, 3, none⟩ = some (.int .i64 3) ∧ w.cell? ⟨B, 4, none⟩ = some (.int .i64 1) ∧ w.cell? ⟨B, 5, none⟩ = some (.int .i64 9) := by
  unfold RCAt at h
  refine ⟨?_, ?_, ?_, ?_, ?_, ?_⟩ <;> simp [World.cell?, h]
theorem cell_block {w w' : World} {B i : Nat} {v : Value} (h : w'.heap[B]? = w.heap[B]?) (hc : w.cell? ⟨B, i, none⟩ = some v) : w'.cell? ⟨B, i, none⟩ = some v := (cell_heap h).trans hc
theorem modify_other (w : World) (A i B : Nat) (v : Value) (h : B ≠ A) : (w.setCell ⟨A, i, none⟩ v).heap[B]? = w.heap[B]? := by
  show (w.heap.modify A _)[B]? = _
  rw [Array.getElem?_modify, if_neg (fun e => h e.symm)]
set_option maxHeartbeats 2000000 in
set_option maxRecDepth 20000 in
theorem a_go_past (S g A : Nat) (xs : List Int) (y : Option Addr) (len cap : Nat) (ata come got : Int) (w0 w : World) (h : J w0 w S g xs) (hA : AhAt w A y len cap ata come none got) (hAg : Hid (A ≠ g)) (hAS : Hid (A ≠ S)) (hA0 : Hid (w0.heap.size ≤ A)) (a0 : 0 ≤ ata) (l1 : len ≤ 60) (hat : ata = (len : Int)) (hxl : 9 < xs.length) (hxm : xs.length ≤ 1048576) :
    Calls Try.prog 44 #[.pointer (some ⟨A, 0, none⟩), .pointer (some ⟨S, 0, none⟩), .agg #[.int .i64 1, .int .i64 3, .int .i64 3, .int .i64 3, .int .i64 1, .int .i64 9]] w fun e w' => e = .returned (.tuple #[]) ∧ J w0 w' S g (xs.set 9 1048576) ∧ ∃ R, AhAt w' A y len cap (ata + 1) 1048576 (some ⟨R, 0, none⟩) got ∧ RightAt w' R 1 9 1048576 0 0 0 false ∧ w.heap.size ≤ R ∧ Keep2 g A w w' := by
  have HA := Lib.hid (hA.below (w' := (w.alloc (Obj.cells #[Value.int IntKind.i64 1, Value.int IntKind.i64 3, Value.int IntKind.i64 3, Value.int IntKind.i64 3, Value.int IntKind.i64 1, Value.int IntKind.i64 9] 69))) (by go_grown))
  have HJ := Lib.hid (h.below' (w' := (w.alloc (Obj.cells #[Value.int IntKind.i64 1, Value.int IntKind.i64 3, Value.int IntKind.i64 3, Value.int IntKind.i64 3, Value.int IntKind.i64 1, Value.int IntKind.i64 9] 69))) (by go_grown))
  have HK : Hid (Keep2 g A w (w.alloc (Obj.cells #[Value.int IntKind.i64 1, Value.int IntKind.i64 3, Value.int IntKind.i64 3, Value.int IntKind.i64 3, Value.int IntKind.i64 1, Value.int IntKind.i64 9] 69))) := Lib.hid ((Keep.of_below (by go_grown)).two A)
  have HR : Hid (RCAt (w.alloc (Obj.cells #[Value.int IntKind.i64 1, Value.int IntKind.i64 3, Value.int IntKind.i64 3, Value.int IntKind.i64 3, Value.int IntKind.i64 1, Value.int IntKind.i64 9] 69)) w.heap.size) := Lib.hid (heap_alloc_new _ _)
  have HwA : Hid (w.heap.size ≠ A) := Lib.hid (by have := lt_of_heap hA; omega)
  have HwG : Hid (w.heap.size ≠ g) := Lib.hid (by have := h.1.facts.2.2.2.2.2; omega)
  have Hg0 := h.2.2
  obtain ⟨c0, c1, c2, c3, c4, cf⟩ := HA.out.cells
  clear hA cf
  subst hat
  have hle : (len : Int) ≤ (len : Int) := by omega
  have hnl : ¬ (len : Int) < (len : Int) := by omega
  go_enter Try.func44, Try.ntmps44
  go_wp2_with fail
  go_quiet (fail)
  obtain ⟨W, hW⟩ : ∃ W, (w.alloc (Obj.cells #[Value.int IntKind.i64 1, Value.int IntKind.i64 3, Value.int IntKind.i64 3, Value.int IntKind.i64 3, Value.int IntKind.i64 1, Value.int IntKind.i64 9] 69)).drewN nq = W := ⟨_, rfl⟩
  have HA1 : AhAt W A y len cap (len : Int) come none got := by rw [← hW]; exact HA.out
  have HJ1 : J w0 W S g xs := by rw [← hW]; exact HJ.out.below' (below_drewN (Below.refl _ _) nq)
  have HK1 : Keep2 g A w W := by rw [← hW]; exact HK.out
  have HR1 : Hid (RCAt W w.heap.size) := Lib.hid (by rw [← hW]; exact HR.out)
  rw [hW]
  clear hW HA HJ HK HR c0 c1 c2 c3 c4
  obtain ⟨c0, c1, c2, c3, c4, cf⟩ := HA1.cells
  have f2 := cf 2
  have HA2 : AhAt (W.setCell ⟨A, 2, none⟩ (.int .i64 1048576)) A y len cap (len : Int) 1048576 none got := cobj_set _ HA1
  have HJ2 := HJ1.cobj_set HA1 hAg.out hAS.out hA0.out (i := 2) (v := .int .i64 1048576)
  have HK2 := HK1.trans (Keep2.set g A 2 W (.int .i64 1048576))
  have HR2 : Hid (RCAt (W.setCell ⟨A, 2, none⟩ (.int .i64 1048576)) w.heap.size) := Lib.hid ((modify_other W A 2 _ _ HwA.out).trans HR1.out)
  clear HA1 HJ1 HK1 HR1 cf
  go_wp2_with fail
  obtain ⟨W1, hW1⟩ : ∃ W1, W.setCell ⟨A, 2, none⟩ (.int .i64 1048576) = W1 := ⟨_, rfl⟩
  rw [hW1] at HA2 HJ2 HK2 HR2 ⊢
  clear hW1 c0 c1 c2 c3 c4 f2 W
  obtain ⟨c0, c1, c2, c3, c4, cf⟩ := HA2.cells
  clear cf
  go_quiet (fail)
  obtain ⟨W, hW⟩ : ∃ W, W1.drewN nq = W := ⟨_, rfl⟩
  have HA3 : AhAt W A y len cap (len : Int) 1048576 none got := by rw [← hW]; exact HA2
  have HJ3 : J w0 W S g xs := by rw [← hW]; exact HJ2.below' (below_drewN (Below.refl _ _) nq)
  have HK3 : Keep2 g A w W := by rw [← hW]; exact HK2
  have HR3 : Hid (RCAt W w.heap.size) := Lib.hid (by rw [← hW]; exact HR2.out)
  rw [hW]
  clear hW HA2 HJ2 HK2 HR2 c0 c1 c2 c3 c4
  obtain ⟨c0, c1, c2, c3, c4, cf⟩ := HA3.cells
  have f1 := cf 1
  have f2 := cf 2
  have f3 := cf 3
  have HT := HA3
  have HJ4 := HJ3
  have HK4 := HK3
  have HR4 := HR3
  obtain ⟨V, hV⟩ : ∃ V, W = V := ⟨_, rfl⟩
  subst hV
  clear HA3 HJ3 HK3 HR3 c0 c1 c2 c3 c4 f1 f2 f3 cf
  obtain ⟨c0, c1, c2, c3, c4, cf⟩ := HT.cells
  have f1 := cf 1
  have HA5 : AhAt (W.setCell ⟨A, 1, none⟩ (.int .i64 ((len : Int) + 1))) A y len cap ((len : Int) + 1) 1048576 none got := cobj_set _ HT
  have HJ5 := HJ4.cobj_set HT hAg.out hAS.out hA0.out (i := 1) (v := .int .i64 ((len : Int) + 1))
  have HK5 := HK4.trans (Keep2.set g A 1 W (.int .i64 ((len : Int) + 1)))
  have HR5 : Hid (RCAt (W.setCell ⟨A, 1, none⟩ (.int .i64 ((len : Int) + 1))) w.heap.size) := Lib.hid ((modify_other W A 1 _ _ HwA.out).trans HR4.out)
  clear HT HJ4 HK4 HR4 cf
  go_wp2_with fail
  obtain ⟨V1, hV1⟩ : ∃ V1, W.setCell ⟨A, 1, none⟩ (.int .i64 ((len : Int) + 1)) = V1 := ⟨_, rfl⟩
  rw [hV1] at HA5 HJ5 HK5 HR5 ⊢
  clear hV1 c0 c1 c2 c3 c4 f1
  obtain ⟨r0, r1, r2, r3, r4, r5⟩ := HR5.out.cells
  have c2 := HA5.cells.2.2.1
  have hdr : J w0 V1.drew S g xs := HJ5.below' (w' := V1.drew) (by go_grown)
  have HA5' := Lib.hid HA5
  go_region_held3 (fun w' => w'.cell? ⟨w.heap.size, 0, none⟩ = some (.int .i64 1) ∧ w'.cell? ⟨w.heap.size, 1, none⟩ = some (.int .i64 3) ∧ w'.cell? ⟨w.heap.size, 2, none⟩ = some (.int .i64 3) ∧ w'.cell? ⟨w.heap.size, 3, none⟩ = some (.int .i64 3) ∧ w'.cell? ⟨w.heap.size, 4, none⟩ = some (.int .i64 1) ∧ w'.cell? ⟨w.heap.size, 5, none⟩ = some (.int .i64 9) ∧ w'.cell? ⟨A, 2, none⟩ = some (.int .i64 1048576)) (first | (with_reducible assumption) | exact hcs | exact ⟨r0, r1, r2, r3, r4, r5, c2⟩)
    (first | (go_at_call 58; refine (rgo_j S g 9 xs 1 9 0 7 0 1048576 w0 _ hdr (by decide) (by decide) (Lib.hid (by decide)) (by decide) (Lib.hid (by decide)) (Lib.hid (by decide)) hxl hxm).mono ?_; rintro e w5 ⟨rfl, hj, hk0⟩; have hk1 : Keep g V1 w5 := hk0; have HA6 : AhAt w5 A y len cap ((len : Int) + 1) 1048576 none got := hk1.block HA5'.out hAg.out; have HR6 : RCAt w5 w.heap.size := hk1.block HR5.out HwG.out; have hcs : w5.cell? ⟨w.heap.size, 0, none⟩ = some (.int .i64 1) ∧ w5.cell? ⟨w.heap.size, 1, none⟩ = some (.int .i64 3) ∧ w5.cell? ⟨w.heap.size, 2, none⟩ = some (.int .i64 3) ∧ w5.cell? ⟨w.heap.size, 3, none⟩ = some (.int .i64 3) ∧ w5.cell? ⟨w.heap.size, 4, none⟩ = some (.int .i64 1) ∧ w5.cell? ⟨w.heap.size, 5, none⟩ = some (.int .i64 9) ∧ w5.cell? ⟨A, 2, none⟩ = some (.int .i64 1048576) := ⟨HR6.cells.1, HR6.cells.2.1, HR6.cells.2.2.1, HR6.cells.2.2.2.1, HR6.cells.2.2.2.2.1, HR6.cells.2.2.2.2.2, HA6.cells.2.2.1⟩))
  have HK6 := HK5.trans (hk1.two A)
  clear HA5 HJ5 HK5 HR5 HA5' r0 r1 r2 r3 r4 r5 c2 hdr hk1 hcs
  obtain ⟨r0, r1, r2, r3, r4, r5⟩ := HR6.cells
  have c2 := HA6.cells.2.2.1
  have HA6' := Lib.hid HA6
  have hsz6 : w.heap.size ≤ w5.heap.size := HK6.1
  go_wp2_with fail
  go_region_held3 (fun w' => w'.cell? ⟨w.heap.size, 0, none⟩ = some (.int .i64 1) ∧ w'.cell? ⟨w.heap.size, 1, none⟩ = some (.int .i64 3) ∧ w'.cell? ⟨w.heap.size, 2, none⟩ = some (.int .i64 3) ∧ w'.cell? ⟨w.heap.size, 3, none⟩ = some (.int .i64 3) ∧ w'.cell? ⟨w.heap.size, 4, none⟩ = some (.int .i64 1) ∧ w'.cell? ⟨w.heap.size, 5, none⟩ = some (.int .i64 9) ∧ w'.cell? ⟨A, 2, none⟩ = some (.int .i64 1048576)) (first | (with_reducible assumption) | exact hcs | exact hct | exact ⟨r0, r1, r2, r3, r4, r5, c2⟩)
    (first | (go_at_call 33; refine (look_new 1 9 1048576 _ (by decide) (by decide)).mono ?_; rintro e w6 ⟨R, rfl, hR, hRA, hb6⟩; have hb7 : Below w5.heap.size w5 w6 := btr (show Below w5.heap.size w5 w5.drew by go_grown) hb6; have HA7 : AhAt w6 A y len cap ((len : Int) + 1) 1048576 none got := HA6'.out.below hb7; have HR7 : RCAt w6 w.heap.size := (hb7.block _ (lt_of_heap HR6)).trans HR6; have e3 := HA7.cells.2.2.2.1; have g3 := HA7.cells.2.2.2.2.2 3; have HA8 : AhAt (w6.setCell ⟨A, 3, none⟩ (.pointer (some ⟨R, 0, none⟩))) A y len cap ((len : Int) + 1) 1048576 (some ⟨R, 0, none⟩) got := cobj_set _ HA7; have HR8 : RCAt (w6.setCell ⟨A, 3, none⟩ (.pointer (some ⟨R, 0, none⟩))) w.heap.size := (modify_other w6 A 3 _ _ HwA.out).trans HR7; have hcs : w6.cell? ⟨w.heap.size, 0, none⟩ = some (.int .i64 1) ∧ w6.cell? ⟨w.heap.size, 1, none⟩ = some (.int .i64 3) ∧ w6.cell? ⟨w.heap.size, 2, none⟩ = some (.int .i64 3) ∧ w6.cell? ⟨w.heap.size, 3, none⟩ = some (.int .i64 3) ∧ w6.cell? ⟨w.heap.size, 4, none⟩ = some (.int .i64 1) ∧ w6.cell? ⟨w.heap.size, 5, none⟩ = some (.int .i64 9) ∧ w6.cell? ⟨A, 2, none⟩ = some (.int .i64 1048576) := ⟨HR7.cells.1, HR7.cells.2.1, HR7.cells.2.2.1, HR7.cells.2.2.2.1, HR7.cells.2.2.2.2.1, HR7.cells.2.2.2.2.2, HA7.cells.2.2.1⟩; have hct : (w6.setCell ⟨A, 3, none⟩ (.pointer (some ⟨R, 0, none⟩))).cell? ⟨w.heap.size, 0, none⟩ = some (.int .i64 1) ∧ (w6.setCell ⟨A, 3, none⟩ (.pointer (some ⟨R, 0, none⟩))).cell? ⟨w.heap.size, 1, none⟩ = some (.int .i64 3) ∧ (w6.setCell ⟨A, 3, none⟩ (.pointer (some ⟨R, 0, none⟩))).cell? ⟨w.heap.size, 2, none⟩ = some (.int .i64 3) ∧ (w6.setCell ⟨A, 3, none⟩ (.pointer (some ⟨R, 0, none⟩))).cell? ⟨w.heap.size, 3, none⟩ = some (.int .i64 3) ∧ (w6.setCell ⟨A, 3, none⟩ (.pointer (some ⟨R, 0, none⟩))).cell? ⟨w.heap.size, 4, none⟩ = some (.int .i64 1) ∧ (w6.setCell ⟨A, 3, none⟩ (.pointer (some ⟨R, 0, none⟩))).cell? ⟨w.heap.size, 5, none⟩ = some (.int .i64 9) ∧ (w6.setCell ⟨A, 3, none⟩ (.pointer (some ⟨R, 0, none⟩))).cell? ⟨A, 2, none⟩ = some (.int .i64 1048576) := ⟨HR8.cells.1, HR8.cells.2.1, HR8.cells.2.2.1, HR8.cells.2.2.2.1, HR8.cells.2.2.2.2.1, HR8.cells.2.2.2.2.2, HA8.cells.2.2.1⟩))
  have HJ8 := (hj.below' hb7).cobj_set HA7 hAg.out hAS.out hA0.out (i := 3) (v := .pointer (some ⟨R, 0, none⟩))
  have HK8 := (HK6.trans ((Keep.of_below hb7).two A)).trans (Keep2.set g A 3 w6 (.pointer (some ⟨R, 0, none⟩)))
  have hR' : w5.heap.size ≤ R := hR
  have HAR : R ≠ A := by have := lt_of_heap HA6'.out; omega
  have HRR : RightAt (w6.setCell ⟨A, 3, none⟩ (.pointer (some ⟨R, 0, none⟩))) R 1 9 1048576 0 0 0 false := (modify_other w6 A 3 _ _ HAR).trans hRA
  have FIN := Lib.hid (And.intro HJ8 (And.intro HA8 (And.intro HRR (And.intro (show w.heap.size ≤ R by omega) HK8))))
  clear hcs hct HA7 HA8 HR7 HR8 HJ8 HK8 HRR hb7 e3 g3 hRA r0 r1 r2 r3 r4 r5 c2
  go_wp2_with fail
  go_end0
  exact ⟨rfl, FIN.out.1, R, FIN.out.2.1, FIN.out.2.2.1, FIN.out.2.2.2.1, FIN.out.2.2.2.2⟩
set_option maxHeartbeats 2000000 in
set_option maxRecDepth 20000 in
theorem a_go_on (S g A : Nat) (xs : List Int) (y : Option Addr) (len cap : Nat) (ata come got : Int) (w0 w : World) (h : J w0 w S g xs) (hA : AhAt w A y len cap ata come none got) (hAg : Hid (A ≠ g)) (hAS : Hid (A ≠ S)) (hA0 : Hid (w0.heap.size ≤ A)) (a0 : 0 ≤ ata) (l1 : len ≤ 60) (hlt : ata < (len : Int)) (ya yo k : Nat) (hy : y = some ⟨ya, yo, none⟩) (z m : Int) (hk : Hid (ata = (k : Int))) (hz : w.cell? ⟨ya, yo + k, none⟩ = some (.int .u8 z)) (hyA : Hid (ya ≠ A)) (hyg : Hid (ya ≠ g)) (z0 : 0 ≤ z) (z1 : z ≤ 255) (hm : Hid (z.tmod 4 = m)) (m0 : 0 ≤ m) (m1 : m ≤ 3) (hxl : 9 < xs.length) (hxm : xs.length ≤ 1048576) :
    Calls Try.prog 44 #[.pointer (some ⟨A, 0, none⟩), .pointer (some ⟨S, 0, none⟩), .agg #[.int .i64 1, .int .i64 3, .int .i64 3, .int .i64 3, .int .i64 1, .int .i64 9]] w fun e w' => e = .returned (.tuple #[]) ∧ J w0 w' S g (xs.set 9 1048575) ∧ ∃ R, AhAt w' A y len cap (ata + 1) 1048575 (some ⟨R, 0, none⟩) got ∧ RightAt w' R 1 9 1048575 0 0 0 false ∧ w.heap.size ≤ R ∧ Keep2 g A w w' := by
  have HA := Lib.hid (hA.below (w' := (w.alloc (Obj.cells #[Value.int IntKind.i64 1, Value.int IntKind.i64 3, Value.int IntKind.i64 3, Value.int IntKind.i64 3, Value.int IntKind.i64 1, Value.int IntKind.i64 9] 69))) (by go_grown))
  have HJ := Lib.hid (h.below' (w' := (w.alloc (Obj.cells #[Value.int IntKind.i64 1, Value.int IntKind.i64 3, Value.int IntKind.i64 3, Value.int IntKind.i64 3, Value.int IntKind.i64 1, Value.int IntKind.i64 9] 69))) (by go_grown))
  have HK : Hid (Keep2 g A w (w.alloc (Obj.cells #[Value.int IntKind.i64 1, Value.int IntKind.i64 3, Value.int IntKind.i64 3, Value.int IntKind.i64 3, Value.int IntKind.i64 1, Value.int IntKind.i64 9] 69))) := Lib.hid ((Keep.of_below (by go_grown)).two A)
  have HR : Hid (RCAt (w.alloc (Obj.cells #[Value.int IntKind.i64 1, Value.int IntKind.i64 3, Value.int IntKind.i64 3, Value.int IntKind.i64 3, Value.int IntKind.i64 1, Value.int IntKind.i64 9] 69)) w.heap.size) := Lib.hid (heap_alloc_new _ _)
  have HwA : Hid (w.heap.size ≠ A) := Lib.hid (by have := lt_of_heap hA; omega)
  have HwG : Hid (w.heap.size ≠ g) := Lib.hid (by have := h.1.facts.2.2.2.2.2; omega)
  have Hg0 := h.2.2
  obtain ⟨c0, c1, c2, c3, c4, cf⟩ := HA.out.cells
  clear hA cf
  have HZ : Hid ((w.alloc (Obj.cells #[Value.int IntKind.i64 1, Value.int IntKind.i64 3, Value.int IntKind.i64 3, Value.int IntKind.i64 3, Value.int IntKind.i64 1, Value.int IntKind.i64 9] 69)).cell? ⟨ya, yo + k, none⟩ = some (.int .u8 z)) := Lib.hid (((show Below w.heap.size w (w.alloc (Obj.cells #[Value.int IntKind.i64 1, Value.int IntKind.i64 3, Value.int IntKind.i64 3, Value.int IntKind.i64 3, Value.int IntKind.i64 1, Value.int IntKind.i64 9] 69)) by go_grown).cell (p := ⟨ya, yo + k, none⟩) (World.block_lt_of_cell? w _ hz)).trans hz)
  obtain rfl : ata = (k : Int) := hk.out
  subst hy
  clear hk hz
  have hle : (k : Int) ≤ (len : Int) := by omega
  have e1 : (k : Int).toNat = k := by omega
  go_enter Try.func44, Try.ntmps44
  go_wp2_with fail
  go_quiet (fail)
  obtain ⟨W, hW⟩ : ∃ W, (w.alloc (Obj.cells #[Value.int IntKind.i64 1, Value.int IntKind.i64 3, Value.int IntKind.i64 3, Value.int IntKind.i64 3, Value.int IntKind.i64 1, Value.int IntKind.i64 9] 69)).drewN nq = W := ⟨_, rfl⟩
  have HA1 : AhAt W A (some ⟨ya, yo, none⟩) len cap (k : Int) come none got := by rw [← hW]; exact HA.out
  have HJ1 : J w0 W S g xs := by rw [← hW]; exact HJ.out.below' (below_drewN (Below.refl _ _) nq)
  have HK1 : Keep2 g A w W := by rw [← hW]; exact HK.out
  have HR1 : Hid (RCAt W w.heap.size) := Lib.hid (by rw [← hW]; exact HR.out)
  have HZ1 : Hid (W.cell? ⟨ya, yo + k, none⟩ = some (.int .u8 z)) := Lib.hid (by rw [← hW]; exact HZ.out)
  rw [hW]
  clear hW HA HJ HK HR c0 c1 c2 c3 c4 HZ
  obtain ⟨c0, c1, c2, c3, c4, cf⟩ := HA1.cells
  have f2 := cf 2
  have HA2 : AhAt (W.setCell ⟨A, 2, none⟩ (.int .i64 1048576)) A (some ⟨ya, yo, none⟩) len cap (k : Int) 1048576 none got := cobj_set _ HA1
  have HJ2 := HJ1.cobj_set HA1 hAg.out hAS.out hA0.out (i := 2) (v := .int .i64 1048576)
  have HK2 := HK1.trans (Keep2.set g A 2 W (.int .i64 1048576))
  have HR2 : Hid (RCAt (W.setCell ⟨A, 2, none⟩ (.int .i64 1048576)) w.heap.size) := Lib.hid ((modify_other W A 2 _ _ HwA.out).trans HR1.out)
  have HZ2 : Hid ((W.setCell ⟨A, 2, none⟩ (.int .i64 1048576)).cell? ⟨ya, yo + k, none⟩ = some (.int .u8 z)) := Lib.hid (cell_block (modify_other W A 2 _ _ hyA.out) HZ1.out)
  clear HA1 HJ1 HK1 HR1 cf HZ1
  go_wp2_with fail
  obtain ⟨W1, hW1⟩ : ∃ W1, W.setCell ⟨A, 2, none⟩ (.int .i64 1048576) = W1 := ⟨_, rfl⟩
  rw [hW1] at HA2 HJ2 HK2 HR2 HZ2 ⊢
  clear hW1 c0 c1 c2 c3 c4 f2 W
  obtain ⟨c0, c1, c2, c3, c4, cf⟩ := HA2.cells
  clear cf
  go_quiet (fail)
  obtain ⟨W, hW⟩ : ∃ W, W1.drewN nq = W := ⟨_, rfl⟩
  have HA3 : AhAt W A (some ⟨ya, yo, none⟩) len cap (k : Int) 1048576 none got := by rw [← hW]; exact HA2
  have HJ3 : J w0 W S g xs := by rw [← hW]; exact HJ2.below' (below_drewN (Below.refl _ _) nq)
  have HK3 : Keep2 g A w W := by rw [← hW]; exact HK2
  have HR3 : Hid (RCAt W w.heap.size) := Lib.hid (by rw [← hW]; exact HR2.out)
  have HZ3 : Hid (W.cell? ⟨ya, yo + k, none⟩ = some (.int .u8 z)) := Lib.hid (by rw [← hW]; exact HZ2.out)
  rw [hW]
  clear hW HA2 HJ2 HK2 HR2 c0 c1 c2 c3 c4 HZ2
  obtain ⟨c0, c1, c2, c3, c4, cf⟩ := HA3.cells
  have f1 := cf 1
  have f2 := cf 2
  have f3 := cf 3
  have z3 := HZ3.out
  have hm' : z.tmod 4 = m := hm.out
  have wz : IntKind.i64.wrap z = z := by rw [IntKind.wrap_i64]; omega
  have w1' : IntKind.i64.wrap (1048577 : Int) = 1048577 := by rw [IntKind.wrap_i64]; omega
  have wm : IntKind.i64.wrap (1048577 + m) = 1048577 + m := by rw [IntKind.wrap_i64]; omega
  have wmm : IntKind.i64.wrap m = m := by rw [IntKind.wrap_i64]; omega
  have hmin : (1048575 : Int) < 1048577 + m := by omega
  have HA4 : AhAt W.drew A (some ⟨ya, yo, none⟩) len cap (k : Int) 1048576 none got := HA3
  have HT : AhAt (W.setCell ⟨A, 2, none⟩ (.int .i64 1048575)).drew A (some ⟨ya, yo, none⟩) len cap (k : Int) 1048575 none got := cobj_set _ HA3
  clear cf
  go_wp2_with fail
  go_region_held3 (fun w' => w'.cell? ⟨A, 0, none⟩ = some (.slice (some ⟨ya, yo, none⟩) len cap) ∧ w'.cell? ⟨A, 1, none⟩ = some (.int .i64 (k : Int)) ∧ w'.cell? ⟨ya, yo + k, none⟩ = some (.int .u8 z)) (first | (with_reducible assumption) | exact ⟨c0, c1, z3⟩ | exact ⟨HT.cells.1, HT.cells.2.1, cell_block (modify_other W A 2 _ _ hyA.out) z3⟩)
    (first | (go_at_call 72; refine (before_of A _ _ _ _ _ _ _ _ HA4).mono ?_; rintro e w1 ⟨rfl, rfl⟩))
  have HJ4 : J w0 (W.setCell ⟨A, 2, none⟩ (.int .i64 1048575)).drew S g xs := (HJ3.cobj_set HA3 hAg.out hAS.out hA0.out (i := 2) (v := .int .i64 1048575)).below' (by go_grown)
  have HK4 : Keep2 g A w (W.setCell ⟨A, 2, none⟩ (.int .i64 1048575)).drew := HK3.trans (Keep2.set g A 2 W (.int .i64 1048575))
  have HR4 : Hid (RCAt (W.setCell ⟨A, 2, none⟩ (.int .i64 1048575)).drew w.heap.size) := Lib.hid ((modify_other W A 2 _ _ HwA.out).trans HR3.out)
  obtain ⟨V, hV⟩ : ∃ V, (W.setCell ⟨A, 2, none⟩ (.int .i64 1048575)).drew = V := ⟨_, rfl⟩
  rw [hV] at HT HJ4 HK4 HR4 ⊢
  clear hV HA3 HJ3 HK3 HR3 HA4 c0 c1 c2 c3 c4 f1 f2 f3 z3 hm' wz w1' wm wmm hmin HZ3
  obtain ⟨c0, c1, c2, c3, c4, cf⟩ := HT.cells
  have f1 := cf 1
  have HA5 : AhAt (V.setCell ⟨A, 1, none⟩ (.int .i64 ((k : Int) + 1))) A (some ⟨ya, yo, none⟩) len cap ((k : Int) + 1) 1048575 none got := cobj_set _ HT
  have HJ5 := HJ4.cobj_set HT hAg.out hAS.out hA0.out (i := 1) (v := .int .i64 ((k : Int) + 1))
  have HK5 := HK4.trans (Keep2.set g A 1 V (.int .i64 ((k : Int) + 1)))
  have HR5 : Hid (RCAt (V.setCell ⟨A, 1, none⟩ (.int .i64 ((k : Int) + 1))) w.heap.size) := Lib.hid ((modify_other V A 1 _ _ HwA.out).trans HR4.out)
  clear HT HJ4 HK4 HR4 cf
  go_wp2_with fail
  obtain ⟨V1, hV1⟩ : ∃ V1, V.setCell ⟨A, 1, none⟩ (.int .i64 ((k : Int) + 1)) = V1 := ⟨_, rfl⟩
  rw [hV1] at HA5 HJ5 HK5 HR5 ⊢
  clear hV1 c0 c1 c2 c3 c4 f1
  obtain ⟨r0, r1, r2, r3, r4, r5⟩ := HR5.out.cells
  have c2 := HA5.cells.2.2.1
  have hdr : J w0 V1.drew S g xs := HJ5.below' (w' := V1.drew) (by go_grown)
  have HA5' := Lib.hid HA5
  go_region_held3 (fun w' => w'.cell? ⟨w.heap.size, 0, none⟩ = some (.int .i64 1) ∧ w'.cell? ⟨w.heap.size, 1, none⟩ = some (.int .i64 3) ∧ w'.cell? ⟨w.heap.size, 2, none⟩ = some (.int .i64 3) ∧ w'.cell? ⟨w.heap.size, 3, none⟩ = some (.int .i64 3) ∧ w'.cell? ⟨w.heap.size, 4, none⟩ = some (.int .i64 1) ∧ w'.cell? ⟨w.heap.size, 5, none⟩ = some (.int .i64 9) ∧ w'.cell? ⟨A, 2, none⟩ = some (.int .i64 1048575)) (first | (with_reducible assumption) | exact hcs | exact ⟨r0, r1, r2, r3, r4, r5, c2⟩)
    (first | (go_at_call 58; refine (rgo_j S g 9 xs 1 9 0 7 0 1048575 w0 _ hdr (by decide) (by decide) (Lib.hid (by decide)) (by decide) (Lib.hid (by decide)) (Lib.hid (by decide)) hxl hxm).mono ?_; rintro e w5 ⟨rfl, hj, hk0⟩; have hk1 : Keep g V1 w5 := hk0; have HA6 : AhAt w5 A (some ⟨ya, yo, none⟩) len cap ((k : Int) + 1) 1048575 none got := hk1.block HA5'.out hAg.out; have HR6 : RCAt w5 w.heap.size := hk1.block HR5.out HwG.out; have hcs : w5.cell? ⟨w.heap.size, 0, none⟩ = some (.int .i64 1) ∧ w5.cell? ⟨w.heap.size, 1, none⟩ = some (.int .i64 3) ∧ w5.cell? ⟨w.heap.size, 2, none⟩ = some (.int .i64 3) ∧ w5.cell? ⟨w.heap.size, 3, none⟩ = some (.int .i64 3) ∧ w5.cell? ⟨w.heap.size, 4, none⟩ = some (.int .i64 1) ∧ w5.cell? ⟨w.heap.size, 5, none⟩ = some (.int .i64 9) ∧ w5.cell? ⟨A, 2, none⟩ = some (.int .i64 1048575) := ⟨HR6.cells.1, HR6.cells.2.1, HR6.cells.2.2.1, HR6.cells.2.2.2.1, HR6.cells.2.2.2.2.1, HR6.cells.2.2.2.2.2, HA6.cells.2.2.1⟩))
  have HK6 := HK5.trans (hk1.two A)
  clear HA5 HJ5 HK5 HR5 HA5' r0 r1 r2 r3 r4 r5 c2 hdr hk1 hcs
  obtain ⟨r0, r1, r2, r3, r4, r5⟩ := HR6.cells
  have c2 := HA6.cells.2.2.1
  have HA6' := Lib.hid HA6
  have hsz6 : w.heap.size ≤ w5.heap.size := HK6.1
  go_wp2_with fail
  go_region_held3 (fun w' => w'.cell? ⟨w.heap.size, 0, none⟩ = some (.int .i64 1) ∧ w'.cell? ⟨w.heap.size, 1, none⟩ = some (.int .i64 3) ∧ w'.cell? ⟨w.heap.size, 2, none⟩ = some (.int .i64 3) ∧ w'.cell? ⟨w.heap.size, 3, none⟩ = some (.int .i64 3) ∧ w'.cell? ⟨w.heap.size, 4, none⟩ = some (.int .i64 1) ∧ w'.cell? ⟨w.heap.size, 5, none⟩ = some (.int .i64 9) ∧ w'.cell? ⟨A, 2, none⟩ = some (.int .i64 1048575)) (first | (with_reducible assumption) | exact hcs | exact hct | exact ⟨r0, r1, r2, r3, r4, r5, c2⟩)
    (first | (go_at_call 33; refine (look_new 1 9 1048575 _ (by decide) (by decide)).mono ?_; rintro e w6 ⟨R, rfl, hR, hRA, hb6⟩; have hb7 : Below w5.heap.size w5 w6 := btr (show Below w5.heap.size w5 w5.drew by go_grown) hb6; have HA7 : AhAt w6 A (some ⟨ya, yo, none⟩) len cap ((k : Int) + 1) 1048575 none got := HA6'.out.below hb7; have HR7 : RCAt w6 w.heap.size := (hb7.block _ (lt_of_heap HR6)).trans HR6; have e3 := HA7.cells.2.2.2.1; have g3 := HA7.cells.2.2.2.2.2 3; have HA8 : AhAt (w6.setCell ⟨A, 3, none⟩ (.pointer (some ⟨R, 0, none⟩))) A (some ⟨ya, yo, none⟩) len cap ((k : Int) + 1) 1048575 (some ⟨R, 0, none⟩) got := cobj_set _ HA7; have HR8 : RCAt (w6.setCell ⟨A, 3, none⟩ (.pointer (some ⟨R, 0, none⟩))) w.heap.size := (modify_other w6 A 3 _ _ HwA.out).trans HR7; have hcs : w6.cell? ⟨w.heap.size, 0, none⟩ = some (.int .i64 1) ∧ w6.cell? ⟨w.heap.size, 1, none⟩ = some (.int .i64 3) ∧ w6.cell? ⟨w.heap.size, 2, none⟩ = some (.int .i64 3) ∧ w6.cell? ⟨w.heap.size, 3, none⟩ = some (.int .i64 3) ∧ w6.cell? ⟨w.heap.size, 4, none⟩ = some (.int .i64 1) ∧ w6.cell? ⟨w.heap.size, 5, none⟩ = some (.int .i64 9) ∧ w6.cell? ⟨A, 2, none⟩ = some (.int .i64 1048575) := ⟨HR7.cells.1, HR7.cells.2.1, HR7.cells.2.2.1, HR7.cells.2.2.2.1, HR7.cells.2.2.2.2.1, HR7.cells.2.2.2.2.2, HA7.cells.2.2.1⟩; have hct : (w6.setCell ⟨A, 3, none⟩ (.pointer (some ⟨R, 0, none⟩))).cell? ⟨w.heap.size, 0, none⟩ = some (.int .i64 1) ∧ (w6.setCell ⟨A, 3, none⟩ (.pointer (some ⟨R, 0, none⟩))).cell? ⟨w.heap.size, 1, none⟩ = some (.int .i64 3) ∧ (w6.setCell ⟨A, 3, none⟩ (.pointer (some ⟨R, 0, none⟩))).cell? ⟨w.heap.size, 2, none⟩ = some (.int .i64 3) ∧ (w6.setCell ⟨A, 3, none⟩ (.pointer (some ⟨R, 0, none⟩))).cell? ⟨w.heap.size, 3, none⟩ = some (.int .i64 3) ∧ (w6.setCell ⟨A, 3, none⟩ (.pointer (some ⟨R, 0, none⟩))).cell? ⟨w.heap.size, 4, none⟩ = some (.int .i64 1) ∧ (w6.setCell ⟨A, 3, none⟩ (.pointer (some ⟨R, 0, none⟩))).cell? ⟨w.heap.size, 5, none⟩ = some (.int .i64 9) ∧ (w6.setCell ⟨A, 3, none⟩ (.pointer (some ⟨R, 0, none⟩))).cell? ⟨A, 2, none⟩ = some (.int .i64 1048575) := ⟨HR8.cells.1, HR8.cells.2.1, HR8.cells.2.2.1, HR8.cells.2.2.2.1, HR8.cells.2.2.2.2.1, HR8.cells.2.2.2.2.2, HA8.cells.2.2.1⟩))
  have HJ8 := (hj.below' hb7).cobj_set HA7 hAg.out hAS.out hA0.out (i := 3) (v := .pointer (some ⟨R, 0, none⟩))
  have HK8 := (HK6.trans ((Keep.of_below hb7).two A)).trans (Keep2.set g A 3 w6 (.pointer (some ⟨R, 0, none⟩)))
  have hR' : w5.heap.size ≤ R := hR
  have HAR : R ≠ A := by have := lt_of_heap HA6'.out; omega
  have HRR : RightAt (w6.setCell ⟨A, 3, none⟩ (.pointer (some ⟨R, 0, none⟩))) R 1 9 1048575 0 0 0 false := (modify_other w6 A 3 _ _ HAR).trans hRA
  have FIN := Lib.hid (And.intro HJ8 (And.intro HA8 (And.intro HRR (And.intro (show w.heap.size ≤ R by omega) HK8))))
  clear hcs hct HA7 HA8 HR7 HR8 HJ8 HK8 HRR hb7 e3 g3 hRA r0 r1 r2 r3 r4 r5 c2
  go_wp2_with fail
  go_end0
  exact ⟨rfl, FIN.out.1, R, FIN.out.2.1, FIN.out.2.2.1, FIN.out.2.2.2.1, FIN.out.2.2.2.2⟩
end Go.Proofs.Ytegbifphekhgkaa
