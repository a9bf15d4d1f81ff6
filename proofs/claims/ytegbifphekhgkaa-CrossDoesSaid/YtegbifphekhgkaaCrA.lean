/- The objects of layer 19 (cross), and what each of their steps does. -/
import Derived.Test.YtegbifphekhgkaaMayC
import Derived.StillTailTactics
import Derived.Deep.RegionHeld3
import Derived.Deep.DrawnRows
namespace Go.Proofs.Ytegbifphekhgkaa
open Go.ChangeShapes Go.WideShapes Go.ChangeAt Go.RowKit
set_option linter.unusedVariables false
set_option linter.unusedSimpArgs false
theorem rlink_j (S g k : Nat) (xs : List Int) (id sr iter F q n : Int) (w0 w : World) (h : J w0 w S g xs) (h1 : 1 ≤ id) (h2 : id ≤ 3) (hF : Hid ((1 : Int) * (4 + 3) + (id - 1) * (2 + (3 + 1) * 4) = F)) (hn : 0 ≤ iter) (hq : Hid (iter.tmod (3 + 1) = q)) (hk : Hid (F + 2 + q * 4 + 2 = (k : Int))) (hat : k < xs.length) (hm : xs.length ≤ 1048576) :
    Calls Try.prog 43 #[.agg #[.int .i64 1, .int .i64 3, .int .i64 3, .int .i64 3, .int .i64 id, .int .i64 sr], .pointer (some ⟨S, 0, none⟩), .int .i64 iter, .int .i64 n] w fun e w' => e = .returned (.tuple #[]) ∧ J w0 w' S g (xs.set k n) ∧ Keep g w w' := by
  have hk' := hk.out
  have H := Lib.hid h
  clear h
  go_enter Try.func43, Try.ntmps43
  go_wp2_with fail
  refine (link_of 1 3 3 3 id iter F q _ okay17 h1 h2 hF hn hq).mono ?_
  rw [hk']
  rintro e w1 ⟨rfl, hb⟩
  have hb2 : Below w.heap.size w w1 := btr (by go_grown) hb
  have hJ1 := H.out.below' hb2
  clear hb
  go_wp2_with fail
  refine (store_in S g xs k n _ hJ1.1 hat hm).mono ?_
  rintro e w3 ⟨rfl, hw⟩
  have hJ3 := hJ1.set _ _ hw
  have hK : Keep g w w3 := (Keep.of_below hb2).trans (Keep.set hw)
  clear hw hJ1 hb2
  go_wp2_with fail
  go_end0
  exact ⟨rfl, hJ3, hK⟩
theorem rframe_j (S g k : Nat) (xs : List Int) (id sr iter F q x : Int) (w0 w : World) (h : J w0 w S g xs) (h1 : 1 ≤ id) (h2 : id ≤ 3) (hF : Hid ((1 : Int) * (4 + 3) + (id - 1) * (2 + (3 + 1) * 4) = F)) (hn : 0 ≤ iter) (hq : Hid (iter.tmod (3 + 1) = q)) (hk : Hid (F + 2 + q * 4 + 2 = (k : Int))) (hx : Hid (xs.getD k 0 = x)) (hat : k < xs.length) (hm : xs.length ≤ 1048576) :
    Calls Try.prog 68 #[.agg #[.int .i64 1, .int .i64 3, .int .i64 3, .int .i64 3, .int .i64 id, .int .i64 sr], .pointer (some ⟨S, 0, none⟩), .int .i64 iter] w fun e w' => e = .returned (.int .i64 x) ∧ J w0 w' S g xs ∧ Keep g w w' := by
  have hk' := hk.out
  have H := Lib.hid h
  clear h
  go_enter Try.func68, Try.ntmps68
  go_wp2_with fail
  refine (link_of 1 3 3 3 id iter F q _ okay17 h1 h2 hF hn hq).mono ?_
  rw [hk']
  rintro e w1 ⟨rfl, hb⟩
  have hb2 : Below w.heap.size w w1 := btr (by go_grown) hb
  have hJ1 := H.out.below' hb2
  clear hb
  go_wp2_with fail
  refine (load_in S g xs k _ hJ1.1 hat hm).mono ?_
  rw [hx.out]
  rintro e w3 ⟨rfl, rfl⟩
  go_wp2_with fail
  go_ret
  exact ⟨rfl, hJ1, Keep.of_below hb2⟩
/-- Behind w only the blocks g and B were written. -/
def Keep2 (g B : Nat) (w w' : World) : Prop := w.heap.size ≤ w'.heap.size ∧ ∀ C, C < w.heap.size → C ≠ g → C ≠ B → w'.heap[C]? = w.heap[C]?
theorem Keep.two {g : Nat} {w w' : World} (h : Keep g w w') (B : Nat) : Keep2 g B w w' := ⟨h.1, fun C hC hg _ => h.2 C hC hg⟩
theorem Keep2.trans {g B : Nat} {w w1 w2 : World} (h : Keep2 g B w w1) (h' : Keep2 g B w1 w2) : Keep2 g B w w2 :=
  ⟨Nat.le_trans h.1 h'.1, fun C hC hg hB => (h'.2 C (Nat.lt_of_lt_of_le hC h.1) hg hB).trans (h.2 C hC hg hB)⟩
theorem Keep2.set (g B i : Nat) (w : World) (v : Value) : Keep2 g B w (w.setCell ⟨B, i, none⟩ v) := by
  refine ⟨by show w.heap.size ≤ (w.heap.modify B _).size; rw [Array.size_modify]; exact Nat.le_refl _, fun C _ _ hB => ?_⟩
  show (w.heap.modify B _)[C]? = _
  rw [Array.getElem?_modify, if_neg (fun e => hB e.symm)]
theorem Keep2.block {g B : Nat} {w w' : World} {C : Nat} {o : Obj} (h : Keep2 g B w w') (hb : w.heap[C]? = some o) (hg : C ≠ g) (hB : C ≠ B) : w'.heap[C]? = some o :=
  (h.2 C (lt_of_heap hb) hg hB).trans hb
theorem cobj_set {w : World} {B i t : Nat} {a : Array Value} (v : Value) (h : w.heap[B]? = some (.cells a t (0, 0))) : (w.setCell ⟨B, i, none⟩ v).heap[B]? = some (.cells (a.setIfInBounds i v) t (0, 0)) := by
  obtain ⟨hlt, hk⟩ := Array.getElem?_eq_some_iff.1 h
  show (w.heap.modify B _)[B]? = _
  rw [Array.getElem?_eq_getElem (by rw [Array.size_modify]; exact hlt), Array.getElem_modify_self, hk]
  simp
theorem J.cobj_set {w0 w : World} {S g B i t : Nat} {xs : List Int} {a : Array Value} {v : Value} (h : J w0 w S g xs) (ho : w.heap[B]? = some (.cells a t (0, 0))) (hg : B ≠ g) (hS : B ≠ S) (h0 : w0.heap.size ≤ B) : J w0 (w.setCell ⟨B, i, none⟩ v) S g xs :=
  h.own_set ⟨ho, hg, hS, h0⟩ rfl
def RightC (id sr c nx st fr : Int) (gt : Bool) : Array Value := #[.int .i64 1, .int .i64 3, .int .i64 3, .int .i64 3, .int .i64 id, .int .i64 sr, .int .i64 1, .int .i64 c, .int .i64 nx, .int .i64 st, .int .i64 fr, .bool gt]
def RightAt (w : World) (B : Nat) (id sr c nx st fr : Int) (gt : Bool) : Prop := w.heap[B]? = some (.cells (RightC id sr c nx st fr gt) 109 (0, 0))
theorem RightAt.cells {w : World} {B : Nat} {id sr c nx st fr : Int} {gt : Bool} (h : RightAt w B id sr c nx st fr gt) : w.cell? ⟨B, 0, none⟩ = some (.int .i64 1) ∧ w.cell? ⟨B, 1, none⟩ = some (.int .i64 3) ∧ w.cell? ⟨B, 2, none⟩ = some (.int .i64 3) ∧ w.cell? ⟨B, 3, none⟩ = some (.int .i64 3) ∧ w.cell? ⟨B, 4, none⟩ = some (.int .i64 id) ∧ w.cell? ⟨B, 5, none⟩ = some (.int .i64 sr) ∧ w.cell? ⟨B, 6, none⟩ = some (.int .i64 1) ∧ w.cell? ⟨B, 7, none⟩ = some (.int .i64 c) ∧ w.cell? ⟨B, 8, none⟩ = some (.int .i64 nx) ∧ w.cell? ⟨B, 9, none⟩ = some (.int .i64 st) ∧ w.cell? ⟨B, 10, none⟩ = some (.int .i64 fr) ∧ w.cell? ⟨B, 11, none⟩ = some (.bool gt) ∧ ∀ i, w.frozen? ⟨B, i, none⟩ = false := by
  unfold RightAt at h
  refine ⟨?_, ?_, ?_, ?_, ?_, ?_, ?_, ?_, ?_, ?_, ?_, ?_, fun i => by simp [World.frozen?, h]⟩ <;> simp [World.cell?, h, RightC]
theorem RightAt.rd {w : World} {B : Nat} {id sr c nx st fr : Int} {gt : Bool} (h : RightAt w B id sr c nx st fr gt) : w.cell? ⟨B, 0, none⟩ = some (.int .i64 1) ∧ w.cell? ⟨B, 1, none⟩ = some (.int .i64 3) ∧ w.cell? ⟨B, 2, none⟩ = some (.int .i64 3) ∧ w.cell? ⟨B, 3, none⟩ = some (.int .i64 3) ∧ w.cell? ⟨B, 4, none⟩ = some (.int .i64 id) ∧ w.cell? ⟨B, 5, none⟩ = some (.int .i64 sr) ∧ w.cell? ⟨B, 6, none⟩ = some (.int .i64 1) ∧ w.cell? ⟨B, 7, none⟩ = some (.int .i64 c) := by
  unfold RightAt at h
  refine ⟨?_, ?_, ?_, ?_, ?_, ?_, ?_, ?_⟩ <;> simp [World.cell?, h, RightC]
def ParkC (id sr it st nx : Int) (bk : Bool) : Array Value := #[.int .i64 1, .int .i64 3, .int .i64 3, .int .i64 3, .int .i64 id, .int .i64 sr, .int .i64 it, .int .i64 st, .int .i64 nx, .bool bk]
def ParkAt (w : World) (B : Nat) (id sr it st nx : Int) (bk : Bool) : Prop := w.heap[B]? = some (.cells (ParkC id sr it st nx bk) 111 (0, 0))
theorem ParkAt.cells {w : World} {B : Nat} {id sr it st nx : Int} {bk : Bool} (h : ParkAt w B id sr it st nx bk) : w.cell? ⟨B, 0, none⟩ = some (.int .i64 1) ∧ w.cell? ⟨B, 1, none⟩ = some (.int .i64 3) ∧ w.cell? ⟨B, 2, none⟩ = some (.int .i64 3) ∧ w.cell? ⟨B, 3, none⟩ = some (.int .i64 3) ∧ w.cell? ⟨B, 4, none⟩ = some (.int .i64 id) ∧ w.cell? ⟨B, 5, none⟩ = some (.int .i64 sr) ∧ w.cell? ⟨B, 6, none⟩ = some (.int .i64 it) ∧ w.cell? ⟨B, 7, none⟩ = some (.int .i64 st) ∧ w.cell? ⟨B, 8, none⟩ = some (.int .i64 nx) ∧ w.cell? ⟨B, 9, none⟩ = some (.bool bk) ∧ ∀ i, w.frozen? ⟨B, i, none⟩ = false := by
  unfold ParkAt at h
  refine ⟨?_, ?_, ?_, ?_, ?_, ?_, ?_, ?_, ?_, ?_, fun i => by simp [World.frozen?, h]⟩ <;> simp [World.cell?, h, ParkC]
theorem ParkAt.rd {w : World} {B : Nat} {id sr it st nx : Int} {bk : Bool} (h : ParkAt w B id sr it st nx bk) : w.cell? ⟨B, 0, none⟩ = some (.int .i64 1) ∧ w.cell? ⟨B, 1, none⟩ = some (.int .i64 3) ∧ w.cell? ⟨B, 2, none⟩ = some (.int .i64 3) ∧ w.cell? ⟨B, 3, none⟩ = some (.int .i64 3) ∧ w.cell? ⟨B, 4, none⟩ = some (.int .i64 id) ∧ w.cell? ⟨B, 5, none⟩ = some (.int .i64 sr) ∧ w.cell? ⟨B, 6, none⟩ = some (.int .i64 it) ∧ w.cell? ⟨B, 7, none⟩ = some (.int .i64 st) := by
  unfold ParkAt at h
  refine ⟨?_, ?_, ?_, ?_, ?_, ?_, ?_, ?_⟩ <;> simp [World.cell?, h, ParkC]
theorem look_new (id sr c : Int) (w : World) (hc : 0 ≤ c) (hc2 : c ≤ 4611686018427387904) : Calls Try.prog 33 #[.agg #[.int .i64 1, .int .i64 3, .int .i64 3, .int .i64 3, .int .i64 id, .int .i64 sr], .int .i64 0, .int .i64 c] w fun e w' => ∃ B, e = .returned (.pointer (some ⟨B, 0, none⟩)) ∧ w.heap.size ≤ B ∧ RightAt w' B id sr c 0 0 0 false ∧ Below w.heap.size w w' := by
  go_enter Try.func33, Try.ntmps33
  go_wp2_with fail
  go_ret
  refine ⟨w.heap.size + 1, rfl, by omega, ?_, by go_grown⟩
  show ((w.heap.push _).push _)[w.heap.size + 1]? = _
  rw [show w.heap.size + 1 = (w.heap.push (Obj.cells #[Value.int IntKind.i64 1, Value.int IntKind.i64 3, Value.int IntKind.i64 3, Value.int IntKind.i64 3, Value.int IntKind.i64 id, Value.int IntKind.i64 sr] 69)).size from by simp, Array.getElem?_push_size]
  rfl
theorem stop_new (id sr it st : Int) (w : World) : Calls Try.prog 34 #[.agg #[.int .i64 1, .int .i64 3, .int .i64 3, .int .i64 3, .int .i64 id, .int .i64 sr], .int .i64 it, .int .i64 st] w fun e w' => ∃ B, e = .returned (.pointer (some ⟨B, 0, none⟩)) ∧ w.heap.size ≤ B ∧ ParkAt w' B id sr it st 0 false ∧ Below w.heap.size w w' := by
  go_enter Try.func34, Try.ntmps34
  go_wp2_with fail
  go_ret
  refine ⟨w.heap.size + 1, rfl, by omega, ?_, by go_grown⟩
  show ((w.heap.push _).push _)[w.heap.size + 1]? = _
  rw [show w.heap.size + 1 = (w.heap.push (Obj.cells #[Value.int IntKind.i64 1, Value.int IntKind.i64 3, Value.int IntKind.i64 3, Value.int IntKind.i64 3, Value.int IntKind.i64 id, Value.int IntKind.i64 sr] 69)).size from by simp, Array.getElem?_push_size]
  rfl
theorem rgot_of (B : Nat) (id sr c nx st fr : Int) (gt : Bool) (w : World) (h : RightAt w B id sr c nx st fr gt) : Calls Try.prog 40 #[.pointer (some ⟨B, 0, none⟩)] w fun e w' => e = .returned (.tuple #[.int .i64 fr, .bool gt]) ∧ ∃ n, w' = w.drewN n := by
  obtain ⟨c0, c1, c2, c3, c4, c5, c6, c7, c8, c9, c10, c11, cf⟩ := h.cells
  clear h cf
  go_enter Try.func40, Try.ntmps40
  go_wp2_with fail
  go_quiet (fail)
  go_wp2_with fail
  go_ret2
  exact ⟨rfl, nq, rfl⟩
theorem pback_of (B : Nat) (id sr it st nx : Int) (bk : Bool) (w : World) (h : ParkAt w B id sr it st nx bk) : Calls Try.prog 42 #[.pointer (some ⟨B, 0, none⟩)] w fun e w' => e = .returned (.bool bk) ∧ w' = w := by
  obtain ⟨c0, c1, c2, c3, c4, c5, c6, c7, c8, c9, cf⟩ := h.cells
  clear h cf
  go_enter Try.func42, Try.ntmps42
  go_wp2_with fail
  go_ret
  exact ⟨rfl, rfl⟩
theorem goOn_of (B : Nat) (id sr c nx st fr : Int) (gt : Bool) (b : Bool) (n : Int) (w : World) (h : RightAt w B id sr c nx st fr gt) : Calls Try.prog 66 #[.pointer (some ⟨B, 0, none⟩), .bool b, .int .i64 n] w fun e w' => e = .returned (.tuple #[]) ∧ RightAt w' B id sr c (if b then n else 3) st fr gt ∧ ∃ v1 v2, (w' = w.setCell ⟨B, 8, none⟩ v1 ∨ w' = (w.setCell ⟨B, 8, none⟩ v1).setCell ⟨B, 8, none⟩ v2) := by
  obtain ⟨c0, c1, c2, c3, c4, c5, c6, c7, c8, c9, c10, c11, cf⟩ := h.cells
  have f8 := cf 8
  have hH := Lib.hid h
  clear h cf
  cases b
  · go_enter Try.func66, Try.ntmps66
    go_wp2_with fail
    go_end0
    exact ⟨rfl, cobj_set _ hH.out, _, .nilFunc, .inl rfl⟩
  · have d8 : (w.setCell ⟨B, 8, none⟩ (.int .i64 3)).cell? ⟨B, 8, none⟩ = some (.int .i64 3) := by
      have := cobj_set (i := 8) (.int .i64 3) hH.out
      simp [World.cell?, this, RightC]
    go_enter Try.func66, Try.ntmps66
    go_wp2_with fail
    go_end0
    exact ⟨rfl, cobj_set _ (cobj_set _ hH.out), _, _, .inr rfl⟩
set_option maxHeartbeats 2000000 in
set_option maxRecDepth 20000 in
theorem right_look_yes (S g B k : Nat) (xs : List Int) (id sr F c x st0 fr : Int) (gt : Bool) (w0 w : World) (h : J w0 w S g xs) (ho : RightAt w B id sr c 0 st0 fr gt) (hg : Hid (B ≠ g)) (hS : Hid (B ≠ S)) (h0 : Hid (w0.heap.size ≤ B)) (h1 : 1 ≤ id) (h2 : id ≤ 3) (hF : Hid ((1 : Int) * (4 + 3) + (id - 1) * (2 + (3 + 1) * 4) = F)) (hq : Hid ((1 : Int).tmod (3 + 1) = 1)) (hat : k < xs.length) (hm : xs.length ≤ 1048576) (hk : Hid (F + 2 + 1 * 4 + 1 = (k : Int))) (st : Int) (hx : Hid (xs.getD k 0 = x)) (hn : Hid (tNextB x c = true)) (he : Hid (x = tOf sr 1 st)) (hp : Hid (tPart x 1 = st)) :
    Calls Try.prog 39 #[.pointer (some ⟨B, 0, none⟩), .pointer (some ⟨S, 0, none⟩)] w fun e w' => e = .returned (.bool false) ∧ J w0 w' S g xs ∧ RightAt w' B id sr c 1 st fr gt ∧ Keep2 g B w w' := by
  obtain ⟨c0, c1, c2, c3, c4, c5, c6, c7, c8, c9, c10, c11, cf⟩ := ho.cells
  have f8 := cf 8
  have f9 := cf 9
  have hO := Lib.hid ho
  clear ho cf
  go_enter Try.func39, Try.ntmps39
  go_wp2_with fail
  have hdr := h.below' (w' := w.drew) (by go_grown)
  go_region_held3 (fun w' => w'.cell? ⟨B, 0, none⟩ = some (.int .i64 1) ∧ w'.cell? ⟨B, 1, none⟩ = some (.int .i64 3) ∧ w'.cell? ⟨B, 2, none⟩ = some (.int .i64 3) ∧ w'.cell? ⟨B, 3, none⟩ = some (.int .i64 3) ∧ w'.cell? ⟨B, 4, none⟩ = some (.int .i64 id) ∧ w'.cell? ⟨B, 5, none⟩ = some (.int .i64 sr) ∧ w'.cell? ⟨B, 6, none⟩ = some (.int .i64 1) ∧ w'.cell? ⟨B, 7, none⟩ = some (.int .i64 c)) (first | (with_reducible assumption) | exact hcs2 | exact hcs | exact ⟨c0, c1, c2, c3, c4, c5, c6, c7⟩)
    (first | (go_at_call 65; refine (rwaits_j S g k xs id sr 1 F 1 x w0 _ hdr h1 h2 hF (by decide) hq hk hx hat hm).mono ?_; rintro e w1 ⟨rfl, hj, hk0⟩; have hk1 : Keep g w w1 := hk0; have ho1 : RightAt w1 B id sr c 0 st0 fr gt := hk1.block hO.out hg.out; have hO1 := Lib.hid ho1; have hcs := ho1.rd) | (go_at_call 64; refine (rmay_yes id sr x 1 c st _ hn.out he.out hp.out).mono ?_; rintro e w2 ⟨rfl, hb2⟩; have ho2 : RightAt w2 B id sr c 0 st0 fr gt := (hb2.block B (lt_of_heap hO1.out)).trans hO1.out; have hO2 := Lib.hid ho2; have hcs2 := ho2.rd))
  have hj2 := hj.below' hb2
  have hk2 := hk1.trans (Keep.of_below hb2)
  clear c0 c1 c2 c3 c4 c5 c6 c7 c8 c9 c10 c11 f8 f9 hcs hcs2 hj hb2 hk1 ho1
  obtain ⟨c0, c1, c2, c3, c4, c5, c6, c7, c8, c9, c10, c11, cf⟩ := ho2.cells
  have f9 := cf 9
  have hO3 : Hid (RightAt (w2.setCell ⟨B, 9, none⟩ (.int .i64 st)) B id sr c 0 st fr gt) := Lib.hid (cobj_set _ ho2)
  clear ho2 cf
  go_wp2_with fail
  refine (goOn_of B id sr c 0 st fr gt true 1 _ hO3.out).mono ?_
  rintro e w3 ⟨rfl, ho3, v1, v2, hw3⟩
  have hJ3 : J w0 w3 S g xs ∧ Keep2 g B w w3 := by
    have a1 := hj2.cobj_set (i := 9) (v := .int .i64 st) hO2.out hg.out hS.out h0.out
    have a2 := (hk2.two B).trans (Keep2.set g B 9 _ (.int .i64 st))
    rcases hw3 with rfl | rfl
    · exact ⟨a1.cobj_set hO3.out hg.out hS.out h0.out, a2.trans (Keep2.set g B 8 _ _)⟩
    · exact ⟨(a1.cobj_set hO3.out hg.out hS.out h0.out).cobj_set (cobj_set _ hO3.out) hg.out hS.out h0.out, (a2.trans (Keep2.set g B 8 _ _)).trans (Keep2.set g B 8 _ _)⟩
  clear hw3 c0 c1 c2 c3 c4 c5 c6 c7 c8 c9 c10 c11
  obtain ⟨c0, c1, c2, c3, c4, c5, c6, c7, c8, c9, c10, c11, cf⟩ := ho3.cells
  have hO4 := Lib.hid ho3
  clear ho3 cf
  simp only [if_true, if_false, Bool.false_eq_true] at c8
  go_wp2_with fail
  go_ret
  exact ⟨rfl, hJ3.1, hO4.out, hJ3.2⟩
set_option maxHeartbeats 2000000 in
set_option maxRecDepth 20000 in
theorem right_look_no (S g B k : Nat) (xs : List Int) (id sr F c x st0 fr : Int) (gt : Bool) (w0 w : World) (h : J w0 w S g xs) (ho : RightAt w B id sr c 0 st0 fr gt) (hg : Hid (B ≠ g)) (hS : Hid (B ≠ S)) (h0 : Hid (w0.heap.size ≤ B)) (h1 : 1 ≤ id) (h2 : id ≤ 3) (hF : Hid ((1 : Int) * (4 + 3) + (id - 1) * (2 + (3 + 1) * 4) = F)) (hq : Hid ((1 : Int).tmod (3 + 1) = 1)) (hat : k < xs.length) (hm : xs.length ≤ 1048576) (hk : Hid (F + 2 + 1 * 4 + 1 = (k : Int))) (hx : Hid (xs.getD k 0 = x)) (hn : Hid ((tNextB x c && (x == tOf sr 1 (tPart x 1))) = false)) :
    Calls Try.prog 39 #[.pointer (some ⟨B, 0, none⟩), .pointer (some ⟨S, 0, none⟩)] w fun e w' => e = .returned (.bool true) ∧ J w0 w' S g xs ∧ RightAt w' B id sr c 3 0 fr gt ∧ Keep2 g B w w' := by
  obtain ⟨c0, c1, c2, c3, c4, c5, c6, c7, c8, c9, c10, c11, cf⟩ := ho.cells
  have f8 := cf 8
  have f9 := cf 9
  have hO := Lib.hid ho
  clear ho cf
  go_enter Try.func39, Try.ntmps39
  go_wp2_with fail
  have hdr := h.below' (w' := w.drew) (by go_grown)
  go_region_held3 (fun w' => w'.cell? ⟨B, 0, none⟩ = some (.int .i64 1) ∧ w'.cell? ⟨B, 1, none⟩ = some (.int .i64 3) ∧ w'.cell? ⟨B, 2, none⟩ = some (.int .i64 3) ∧ w'.cell? ⟨B, 3, none⟩ = some (.int .i64 3) ∧ w'.cell? ⟨B, 4, none⟩ = some (.int .i64 id) ∧ w'.cell? ⟨B, 5, none⟩ = some (.int .i64 sr) ∧ w'.cell? ⟨B, 6, none⟩ = some (.int .i64 1) ∧ w'.cell? ⟨B, 7, none⟩ = some (.int .i64 c)) (first | (with_reducible assumption) | exact hcs2 | exact hcs | exact ⟨c0, c1, c2, c3, c4, c5, c6, c7⟩)
    (first | (go_at_call 65; refine (rwaits_j S g k xs id sr 1 F 1 x w0 _ hdr h1 h2 hF (by decide) hq hk hx hat hm).mono ?_; rintro e w1 ⟨rfl, hj, hk0⟩; have hk1 : Keep g w w1 := hk0; have ho1 : RightAt w1 B id sr c 0 st0 fr gt := hk1.block hO.out hg.out; have hO1 := Lib.hid ho1; have hcs := ho1.rd) | (go_at_call 64; refine (rmay_no id sr x 1 c _ hn.out).mono ?_; rintro e w2 ⟨rfl, hb2⟩; have ho2 : RightAt w2 B id sr c 0 st0 fr gt := (hb2.block B (lt_of_heap hO1.out)).trans hO1.out; have hO2 := Lib.hid ho2; have hcs2 := ho2.rd))
  have hj2 := hj.below' hb2
  have hk2 := hk1.trans (Keep.of_below hb2)
  clear c0 c1 c2 c3 c4 c5 c6 c7 c8 c9 c10 c11 f8 f9 hcs hcs2 hj hb2 hk1 ho1
  obtain ⟨c0, c1, c2, c3, c4, c5, c6, c7, c8, c9, c10, c11, cf⟩ := ho2.cells
  have f9 := cf 9
  have hO3 : Hid (RightAt (w2.setCell ⟨B, 9, none⟩ (.int .i64 0)) B id sr c 0 0 fr gt) := Lib.hid (cobj_set _ ho2)
  clear ho2 cf
  go_wp2_with fail
  refine (goOn_of B id sr c 0 0 fr gt false 1 _ hO3.out).mono ?_
  rintro e w3 ⟨rfl, ho3, v1, v2, hw3⟩
  have hJ3 : J w0 w3 S g xs ∧ Keep2 g B w w3 := by
    have a1 := hj2.cobj_set (i := 9) (v := .int .i64 0) hO2.out hg.out hS.out h0.out
    have a2 := (hk2.two B).trans (Keep2.set g B 9 _ (.int .i64 0))
    rcases hw3 with rfl | rfl
    · exact ⟨a1.cobj_set hO3.out hg.out hS.out h0.out, a2.trans (Keep2.set g B 8 _ _)⟩
    · exact ⟨(a1.cobj_set hO3.out hg.out hS.out h0.out).cobj_set (cobj_set _ hO3.out) hg.out hS.out h0.out, (a2.trans (Keep2.set g B 8 _ _)).trans (Keep2.set g B 8 _ _)⟩
  clear hw3 c0 c1 c2 c3 c4 c5 c6 c7 c8 c9 c10 c11
  obtain ⟨c0, c1, c2, c3, c4, c5, c6, c7, c8, c9, c10, c11, cf⟩ := ho3.cells
  have hO4 := Lib.hid ho3
  clear ho3 cf
  simp only [if_true, if_false, Bool.false_eq_true] at c8
  go_wp2_with fail
  go_ret
  exact ⟨rfl, hJ3.1, hO4.out, hJ3.2⟩
set_option maxHeartbeats 2000000 in
set_option maxRecDepth 20000 in
theorem right_free_yes (S g B k : Nat) (xs : List Int) (id sr F c st fr : Int) (gt : Bool) (w0 w : World) (h : J w0 w S g xs) (ho : RightAt w B id sr c 1 st fr gt) (hg : Hid (B ≠ g)) (hS : Hid (B ≠ S)) (h0 : Hid (w0.heap.size ≤ B)) (h1 : 1 ≤ id) (h2 : id ≤ 3) (hF : Hid ((1 : Int) * (4 + 3) + (id - 1) * (2 + (3 + 1) * 4) = F)) (hq : Hid ((1 : Int).tmod (3 + 1) = 1)) (hat : k < xs.length) (hm : xs.length ≤ 1048576) (hk : Hid (F + 2 + 1 * 4 + 1 = (k : Int))) (hx : Hid (xs.getD k 0 = tOf sr 1 st)) :
    Calls Try.prog 39 #[.pointer (some ⟨B, 0, none⟩), .pointer (some ⟨S, 0, none⟩)] w fun e w' => e = .returned (.bool false) ∧ J w0 w' S g (xs.set k 0) ∧ RightAt w' B id sr c 2 st fr gt ∧ Keep2 g B w w' := by
  obtain ⟨c0, c1, c2, c3, c4, c5, c6, c7, c8, c9, c10, c11, cf⟩ := ho.cells
  have f8 := cf 8
  have f9 := cf 9
  have hO := Lib.hid ho
  clear ho cf
  go_enter Try.func39, Try.ntmps39
  go_wp2_with fail
  have hdr := h.below' (w' := w.drew) (by go_grown)
  go_region_held3 (fun w' => w'.cell? ⟨B, 0, none⟩ = some (.int .i64 1) ∧ w'.cell? ⟨B, 1, none⟩ = some (.int .i64 3) ∧ w'.cell? ⟨B, 2, none⟩ = some (.int .i64 3) ∧ w'.cell? ⟨B, 3, none⟩ = some (.int .i64 3) ∧ w'.cell? ⟨B, 4, none⟩ = some (.int .i64 id) ∧ w'.cell? ⟨B, 5, none⟩ = some (.int .i64 sr) ∧ w'.cell? ⟨B, 6, none⟩ = some (.int .i64 1) ∧ w'.cell? ⟨B, 9, none⟩ = some (.int .i64 st)) (first | (with_reducible assumption) | exact ⟨hcs.1, hcs.2.1, hcs.2.2.1, hcs.2.2.2.1, hcs.2.2.2.2.1, hcs.2.2.2.2.2.1, hcs.2.2.2.2.2.2.1, hc9⟩ | exact ⟨c0, c1, c2, c3, c4, c5, c6, c9⟩)
    (first | (go_at_call 67; refine (rfree_yes S g k xs id sr 1 F 1 st w0 _ hdr h1 h2 hF (by decide) hq hk hx hat hm).mono ?_; rintro e w1 ⟨rfl, hj, hk0⟩; have hk1 : Keep g w w1 := hk0; have ho1 : RightAt w1 B id sr c 1 st fr gt := hk1.block hO.out hg.out; have hO1 := Lib.hid ho1; have hcs := ho1.rd; have hc9 := ho1.cells.2.2.2.2.2.2.2.2.2.1) | (go_at_call 66; refine (goOn_of B id sr c 1 st fr gt true 2 _ hO1.out).mono ?_; rintro e w2 ⟨rfl, ho2, v1, v2, hw2⟩; have hcs := ho2.rd; have hc9 := ho2.cells.2.2.2.2.2.2.2.2.2.1))
  have hJ3 : J w0 w2 S g (xs.set k 0) ∧ Keep2 g B w w2 := by
    rcases hw2 with rfl | rfl
    · exact ⟨hj.cobj_set hO1.out hg.out hS.out h0.out, (hk1.two B).trans (Keep2.set g B 8 _ _)⟩
    · exact ⟨(hj.cobj_set hO1.out hg.out hS.out h0.out).cobj_set (cobj_set _ hO1.out) hg.out hS.out h0.out, ((hk1.two B).trans (Keep2.set g B 8 _ _)).trans (Keep2.set g B 8 _ _)⟩
  clear hw2 c0 c1 c2 c3 c4 c5 c6 c7 c8 c9 c10 c11 hcs hc9
  obtain ⟨c0, c1, c2, c3, c4, c5, c6, c7, c8, c9, c10, c11, cf⟩ := ho2.cells
  have hO4 := Lib.hid ho2
  clear ho2 cf
  simp only [if_true, if_false, Bool.false_eq_true] at c8
  go_wp2_with fail
  go_ret
  exact ⟨rfl, hJ3.1, hO4.out, hJ3.2⟩
set_option maxHeartbeats 2000000 in
set_option maxRecDepth 20000 in
theorem right_free_no (S g B k : Nat) (xs : List Int) (id sr F c st fr : Int) (gt : Bool) (w0 w : World) (h : J w0 w S g xs) (ho : RightAt w B id sr c 1 st fr gt) (hg : Hid (B ≠ g)) (hS : Hid (B ≠ S)) (h0 : Hid (w0.heap.size ≤ B)) (h1 : 1 ≤ id) (h2 : id ≤ 3) (hF : Hid ((1 : Int) * (4 + 3) + (id - 1) * (2 + (3 + 1) * 4) = F)) (hq : Hid ((1 : Int).tmod (3 + 1) = 1)) (hat : k < xs.length) (hm : xs.length ≤ 1048576) (hk : Hid (F + 2 + 1 * 4 + 1 = (k : Int))) (x : Int) (hx : Hid (xs.getD k 0 = x)) (hn : Hid (x ≠ tOf sr 1 st)) :
    Calls Try.prog 39 #[.pointer (some ⟨B, 0, none⟩), .pointer (some ⟨S, 0, none⟩)] w fun e w' => e = .returned (.bool true) ∧ J w0 w' S g xs ∧ RightAt w' B id sr c 3 st fr gt ∧ Keep2 g B w w' := by
  obtain ⟨c0, c1, c2, c3, c4, c5, c6, c7, c8, c9, c10, c11, cf⟩ := ho.cells
  have f8 := cf 8
  have f9 := cf 9
  have hO := Lib.hid ho
  clear ho cf
  go_enter Try.func39, Try.ntmps39
  go_wp2_with fail
  have hdr := h.below' (w' := w.drew) (by go_grown)
  go_region_held3 (fun w' => w'.cell? ⟨B, 0, none⟩ = some (.int .i64 1) ∧ w'.cell? ⟨B, 1, none⟩ = some (.int .i64 3) ∧ w'.cell? ⟨B, 2, none⟩ = some (.int .i64 3) ∧ w'.cell? ⟨B, 3, none⟩ = some (.int .i64 3) ∧ w'.cell? ⟨B, 4, none⟩ = some (.int .i64 id) ∧ w'.cell? ⟨B, 5, none⟩ = some (.int .i64 sr) ∧ w'.cell? ⟨B, 6, none⟩ = some (.int .i64 1) ∧ w'.cell? ⟨B, 9, none⟩ = some (.int .i64 st)) (first | (with_reducible assumption) | exact ⟨hcs.1, hcs.2.1, hcs.2.2.1, hcs.2.2.2.1, hcs.2.2.2.2.1, hcs.2.2.2.2.2.1, hcs.2.2.2.2.2.2.1, hc9⟩ | exact ⟨c0, c1, c2, c3, c4, c5, c6, c9⟩)
    (first | (go_at_call 67; refine (rfree_no S g k xs id sr 1 F 1 st x w0 _ hdr h1 h2 hF (by decide) hq hk hx hn hat hm).mono ?_; rintro e w1 ⟨rfl, hj, hk0⟩; have hk1 : Keep g w w1 := hk0; have ho1 : RightAt w1 B id sr c 1 st fr gt := hk1.block hO.out hg.out; have hO1 := Lib.hid ho1; have hcs := ho1.rd; have hc9 := ho1.cells.2.2.2.2.2.2.2.2.2.1) | (go_at_call 66; refine (goOn_of B id sr c 1 st fr gt false 2 _ hO1.out).mono ?_; rintro e w2 ⟨rfl, ho2, v1, v2, hw2⟩; have hcs := ho2.rd; have hc9 := ho2.cells.2.2.2.2.2.2.2.2.2.1))
  have hJ3 : J w0 w2 S g xs ∧ Keep2 g B w w2 := by
    rcases hw2 with rfl | rfl
    · exact ⟨hj.cobj_set hO1.out hg.out hS.out h0.out, (hk1.two B).trans (Keep2.set g B 8 _ _)⟩
    · exact ⟨(hj.cobj_set hO1.out hg.out hS.out h0.out).cobj_set (cobj_set _ hO1.out) hg.out hS.out h0.out, ((hk1.two B).trans (Keep2.set g B 8 _ _)).trans (Keep2.set g B 8 _ _)⟩
  clear hw2 c0 c1 c2 c3 c4 c5 c6 c7 c8 c9 c10 c11 hcs hc9
  obtain ⟨c0, c1, c2, c3, c4, c5, c6, c7, c8, c9, c10, c11, cf⟩ := ho2.cells
  have hO4 := Lib.hid ho2
  clear ho2 cf
  simp only [if_true, if_false, Bool.false_eq_true] at c8
  go_wp2_with fail
  go_ret
  exact ⟨rfl, hJ3.1, hO4.out, hJ3.2⟩
set_option maxHeartbeats 2000000 in
set_option maxRecDepth 20000 in
theorem right_take (S g B k : Nat) (xs : List Int) (id sr F c st fr x : Int) (gt : Bool) (w0 w : World) (h : J w0 w S g xs) (ho : RightAt w B id sr c 2 st fr gt) (hg : Hid (B ≠ g)) (hS : Hid (B ≠ S)) (h0 : Hid (w0.heap.size ≤ B)) (h1 : 1 ≤ id) (h2 : id ≤ 3) (hF : Hid ((1 : Int) * (4 + 3) + (id - 1) * (2 + (3 + 1) * 4) = F)) (hq : Hid ((1 : Int).tmod (3 + 1) = 1)) (hat : k < xs.length) (hm : xs.length ≤ 1048576) (hk : Hid (F + 2 + 1 * 4 + 2 = (k : Int))) (hx : Hid (xs.getD k 0 = x)) :
    Calls Try.prog 39 #[.pointer (some ⟨B, 0, none⟩), .pointer (some ⟨S, 0, none⟩)] w fun e w' => e = .returned (.bool true) ∧ J w0 w' S g xs ∧ RightAt w' B id sr c 3 st x true ∧ Keep2 g B w w' := by
  obtain ⟨c0, c1, c2, c3, c4, c5, c6, c7, c8, c9, c10, c11, cf⟩ := ho.cells
  have f8 := cf 8
  have f9 := cf 9
  have hO := Lib.hid ho
  clear ho cf
  go_enter Try.func39, Try.ntmps39
  go_wp2_with fail
  have hdr := h.below' (w' := w.drew) (by go_grown)
  go_region_held3 (fun w' => w'.cell? ⟨B, 0, none⟩ = some (.int .i64 1) ∧ w'.cell? ⟨B, 1, none⟩ = some (.int .i64 3) ∧ w'.cell? ⟨B, 2, none⟩ = some (.int .i64 3) ∧ w'.cell? ⟨B, 3, none⟩ = some (.int .i64 3) ∧ w'.cell? ⟨B, 4, none⟩ = some (.int .i64 id) ∧ w'.cell? ⟨B, 5, none⟩ = some (.int .i64 sr) ∧ w'.cell? ⟨B, 6, none⟩ = some (.int .i64 1) ∧ w'.cell? ⟨B, 7, none⟩ = some (.int .i64 c)) (first | (with_reducible assumption) | exact hd7 | exact hd8 | exact hcs | exact ⟨c0, c1, c2, c3, c4, c5, c6, c7⟩)
    (first | (go_at_call 68; refine (rframe_j S g k xs id sr 1 F 1 x w0 _ hdr h1 h2 hF (by decide) hq hk hx hat hm).mono ?_; rintro e w1 ⟨rfl, hj, hk0⟩; have hk1 : Keep g w w1 := hk0; have ho1 : RightAt w1 B id sr c 2 st fr gt := hk1.block hO.out hg.out; have hO1 := Lib.hid ho1; have hcs := ho1.rd; have e10 := ho1.cells.2.2.2.2.2.2.2.2.2.2.1; have e11 := ho1.cells.2.2.2.2.2.2.2.2.2.2.2.1; have g10 := ho1.cells.2.2.2.2.2.2.2.2.2.2.2.2 10; have g11 := ho1.cells.2.2.2.2.2.2.2.2.2.2.2.2 11; have hT1 : RightAt (w1.setCell ⟨B, 10, none⟩ (.int .i64 x)) B id sr c 2 st x gt := cobj_set _ ho1; have hT2 : RightAt ((w1.setCell ⟨B, 10, none⟩ (.int .i64 x)).setCell ⟨B, 11, none⟩ (.bool true)) B id sr c 2 st x true := cobj_set _ hT1; have hd7 := hT1.rd; have hd8 := hT2.rd))
  have hJ3 := (hj.cobj_set hO1.out hg.out hS.out h0.out (i := 10) (v := .int .i64 x)).cobj_set hT1 hg.out hS.out h0.out (i := 11) (v := .bool true)
  have hK3 := ((hk1.two B).trans (Keep2.set g B 10 _ (.int .i64 x))).trans (Keep2.set g B 11 _ (.bool true))
  have hO4 := Lib.hid hT2
  obtain ⟨W, hW⟩ : ∃ W, (w1.setCell ⟨B, 10, none⟩ (.int .i64 x)).setCell ⟨B, 11, none⟩ (.bool true) = W := ⟨_, rfl⟩
  clear hT1 hd7 hd8 hcs c0 c1 c2 c3 c4 c5 c6 c7 c8 c9 c10 c11 f8 f9 e10 e11 g10 g11
  rw [hW] at hJ3 hK3 hO4 hT2 ⊢
  obtain ⟨c0, c1, c2, c3, c4, c5, c6, c7, c8, c9, c10, c11, cf⟩ := hT2.cells
  have f8 := cf 8
  have hO5 : Hid (RightAt (W.setCell ⟨B, 8, none⟩ (.int .i64 3)) B id sr c 3 st x true) := Lib.hid (cobj_set _ hT2)
  have hJ5 := hJ3.cobj_set hO4.out hg.out hS.out h0.out (i := 8) (v := .int .i64 3)
  have hK5 := hK3.trans (Keep2.set g B 8 _ (.int .i64 3))
  clear hT2 cf hW hJ3 hK3
  have e8 := hO5.out.cells.2.2.2.2.2.2.2.2.1
  go_wp2_with fail
  go_ret
  exact ⟨rfl, hJ5, hO5.out, hK5⟩
end Go.Proofs.Ytegbifphekhgkaa
