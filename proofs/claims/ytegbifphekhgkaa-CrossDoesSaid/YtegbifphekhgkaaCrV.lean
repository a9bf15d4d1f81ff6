/- That the laws of layer 19 begin. -/
import Derived.Test.YtegbifphekhgkaaCrB
import Derived.IntWalk
namespace Go.Proofs.Ytegbifphekhgkaa
open Go.ChangeShapes Go.WideShapes Go.ChangeAt Go.RowKit
set_option linter.unusedVariables false
set_option linter.unusedSimpArgs false
def PCAt (w : World) (B : Nat) : Prop := w.heap[B]? = some (.cells #[.int .i64 1, .int .i64 3, .int .i64 3, .int .i64 3] 25 (0, 0))
theorem PCAt.cells {w : World} {B : Nat} (h : PCAt w B) : w.cell? ⟨B, 0, none⟩ = some (.int .i64 1) ∧ w.cell? ⟨B, 1, none⟩ = some (.int .i64 3) ∧ w.cell? ⟨B, 2, none⟩ = some (.int .i64 3) ∧ w.cell? ⟨B, 3, none⟩ = some (.int .i64 3) := by
  unfold PCAt at h
  refine ⟨?_, ?_, ?_, ?_⟩ <;> simp [World.cell?, h]
def RIAt (w : World) (B : Nat) (id sr : Int) : Prop := w.heap[B]? = some (.cells #[.int .i64 1, .int .i64 3, .int .i64 3, .int .i64 3, .int .i64 id, .int .i64 sr] 69 (0, 0))
theorem RIAt.cells {w : World} {B : Nat} {id sr : Int} (h : RIAt w B id sr) : w.cell? ⟨B, 0, none⟩ = some (.int .i64 1) ∧ w.cell? ⟨B, 1, none⟩ = some (.int .i64 3) ∧ w.cell? ⟨B, 2, none⟩ = some (.int .i64 3) ∧ w.cell? ⟨B, 3, none⟩ = some (.int .i64 3) ∧ w.cell? ⟨B, 4, none⟩ = some (.int .i64 id) ∧ w.cell? ⟨B, 5, none⟩ = some (.int .i64 sr) := by
  unfold RIAt at h
  refine ⟨?_, ?_, ?_, ?_, ?_, ?_⟩ <;> simp [World.cell?, h]
theorem bkeep {w w' : World} {B : Nat} {o : Obj} (h : w.heap[B]? = some o) (hb : Below w.heap.size w w') : w'.heap[B]? = some o := (hb.block B (lt_of_heap h)).trans h
set_option maxHeartbeats 4000000 in
set_option maxRecDepth 20000 in
theorem works19 (w : World) : Calls Try.prog 30 #[] w fun e w' => e = .returned (.bool true) ∧ Below w.heap.size w w' := by
  go_enter Try.func30, Try.ntmps30
  go_wp2_with fail
  refine (plan17 w).mono ?_
  rintro e w1 ⟨rfl, hb1⟩
  go_wp2_with fail
  obtain ⟨W, hW⟩ : ∃ W, W = w1.alloc (Obj.cells #[Value.int IntKind.i64 1, Value.int IntKind.i64 3, Value.int IntKind.i64 3, Value.int IntKind.i64 3] 25) := ⟨_, rfl⟩
  have hp : PCAt W w1.heap.size := by rw [hW]; exact heap_alloc_new _ _
  have hb : Below w.heap.size w W := by rw [hW]; exact btr hb1 (by go_grown)
  rw [← hW]
  clear hW hb1
  generalize w1.heap.size = P at *
  obtain ⟨p0, p1, p2, p3⟩ := hp.cells
  refine (size_of 1 3 3 3 7 54 _ okay17 (Lib.hid (by decide)) (Lib.hid (by decide))).mono ?_
  rintro e w2 ⟨rfl, hb2⟩
  clear p0 p1 p2 p3
  replace hp : PCAt w2 P := bkeep hp hb2
  replace hb := btr hb hb2
  clear hb2
  obtain ⟨p0, p1, p2, p3⟩ := hp.cells
  go_wp2_with fail
  refine (new_n 61 w2 (by decide)).mono ?_
  rintro e w3 ⟨rfl, hs, hb2⟩
  clear p0 p1 p2 p3
  have hPg0 : P < w2.heap.size := lt_of_heap hp
  have h : J w w3 (w2.heap.size + 1) w2.heap.size (List.replicate 61 0) := ⟨hs, btr hb hb2, hb.size⟩
  replace hp : PCAt w3 P := bkeep hp hb2
  have hPg : Hid (P ≠ w2.heap.size) := Lib.hid (by omega)
  clear hb hb2 hs hPg0
  generalize w2.heap.size + 1 = S at *
  generalize w2.heap.size = g at *
  obtain ⟨p0, p1, p2, p3⟩ := hp.cells
  go_wp2_with fail
  refine (new17 2 1 w3).mono ?_
  rintro e w4 ⟨rfl, hb2⟩
  clear p0 p1 p2 p3
  replace hp : PCAt w4 P := bkeep hp hb2
  replace h := h.below' hb2
  clear hb2
  go_wp2_with fail
  obtain ⟨W, hW⟩ : ∃ W, W = w4.alloc (Obj.cells #[Value.int IntKind.i64 1, Value.int IntKind.i64 3, Value.int IntKind.i64 3, Value.int IntKind.i64 3, Value.int IntKind.i64 2, Value.int IntKind.i64 1] 69) := ⟨_, rfl⟩
  have hr : RIAt W w4.heap.size 2 1 := by rw [hW]; exact heap_alloc_new _ _
  have hb : Below w4.heap.size w4 W := by rw [hW]; go_grown
  rw [← hW]
  clear hW
  have hRg : Hid (w4.heap.size ≠ g) := Lib.hid (by have := h.1.facts.2.2.2.2.2; omega)
  have hPR : Hid (P ≠ w4.heap.size) := Lib.hid (by have := lt_of_heap hp; omega)
  replace h := h.below' hb
  replace hp : PCAt W P := bkeep hp hb
  clear hb
  generalize w4.heap.size = R at *
  obtain ⟨r0, r1, r2, r3, r4, r5⟩ := hr.cells
  go_wp2_with fail
  refine (rlink_j S g 33 (List.replicate 61 (0 : Int)) 2 1 1 25 1 3 w _ h (by decide) (by decide) (Lib.hid (by decide)) (by decide) (Lib.hid (by decide)) (Lib.hid (by decide)) (by simp) (by simp)).mono ?_
  rintro e wz ⟨rfl, hj, hk⟩
  clear r0 r1 r2 r3 r4 r5
  replace h := hj
  replace hp : PCAt wz P := hk.block hp hPg.out
  replace hr : RIAt wz R 2 1 := hk.block hr hRg.out
  clear hj hk
  obtain ⟨r0, r1, r2, r3, r4, r5⟩ := hr.cells
  go_wp2_with fail
  refine (stop_new 2 1 1 4 _).mono ?_
  rintro e wy ⟨K, rfl, hK, ho, hb⟩
  clear r0 r1 r2 r3 r4 r5
  have hKg : Hid (K ≠ g) := Lib.hid (by have := h.1.facts.2.2.2.2.2; omega)
  have hKS : Hid (K ≠ S) := Lib.hid (by have := h.1.facts.2.2.2.2.1; omega)
  have hK0 : Hid (w.heap.size ≤ K) := Lib.hid (by have := h.2.1.size; omega)
  have hPK : Hid (P ≠ K) := Lib.hid (by have := lt_of_heap hp; omega)
  have hRK : Hid (R ≠ K) := Lib.hid (by have := lt_of_heap hr; omega)
  replace h := h.below' hb
  replace hp : PCAt wy P := bkeep hp hb
  replace hr : RIAt wy R 2 1 := bkeep hr hb
  clear hb hK wz
  go_wp2_with fail
  refine (park_wait S g K 32 ((List.replicate 61 (0 : Int)).set 33 3) 2 1 25 4 false w _ h ho hKg hKS hK0 (by decide) (by decide) (Lib.hid (by decide)) (Lib.hid (by decide)) (by simp) (by simp) (Lib.hid (by decide))).mono ?_
  rintro e wz ⟨rfl, hj, ho1, hk⟩
  replace h := hj
  replace hp : PCAt wz P := hk.block hp hPg.out hPK.out
  replace hr : RIAt wz R 2 1 := hk.block hr hRg.out hRK.out
  replace ho := ho1
  clear hj hk ho1
  go_wp2_with fail
  refine (park_look_no S g K 27 (((List.replicate 61 (0 : Int)).set 33 3).set 32 (tOf 1 1 4)) 2 1 25 4 false w _ h ho hKg hKS hK0 (by decide) (by decide) (Lib.hid (by decide)) (Lib.hid (by decide)) (by simp) (by simp) (Lib.hid (by decide)) 0 (Lib.hid rfl) (by decide)).mono ?_
  rintro e wx ⟨rfl, hj, ho1, hk⟩
  replace h := hj
  replace hp : PCAt wx P := hk.block hp hPg.out hPK.out
  replace hr : RIAt wx R 2 1 := hk.block hr hRg.out hRK.out
  replace ho := ho1
  clear hj hk ho1 wz
  obtain ⟨r0, r1, r2, r3, r4, r5⟩ := hr.cells
  go_wp2_with fail
  refine (rgo_j S g 27 (((List.replicate 61 (0 : Int)).set 33 3).set 32 (tOf 1 1 4)) 2 1 0 25 0 5 w _ h (by decide) (by decide) (Lib.hid (by decide)) (by decide) (Lib.hid (by decide)) (Lib.hid (by decide)) (by simp) (by simp)).mono ?_
  rintro e wz ⟨rfl, hj, hk⟩
  clear r0 r1 r2 r3 r4 r5
  replace h := hj
  replace hp : PCAt wz P := hk.block hp hPg.out
  replace hr : RIAt wz R 2 1 := hk.block hr hRg.out
  replace ho : ParkAt wz K 2 1 1 4 3 false := hk.block ho hKg.out
  clear hj hk
  obtain ⟨r0, r1, r2, r3, r4, r5⟩ := hr.cells
  go_wp2_with fail
  refine (look_new 2 1 5 _ (by decide) (by decide)).mono ?_
  rintro e wy ⟨X, rfl, hX, hx, hb⟩
  clear r0 r1 r2 r3 r4 r5
  have hXg : Hid (X ≠ g) := Lib.hid (by have := h.1.facts.2.2.2.2.2; omega)
  have hXS : Hid (X ≠ S) := Lib.hid (by have := h.1.facts.2.2.2.2.1; omega)
  have hX0 : Hid (w.heap.size ≤ X) := Lib.hid (by have := h.2.1.size; omega)
  have hPX : Hid (P ≠ X) := Lib.hid (by have := lt_of_heap hp; omega)
  have hRX : Hid (R ≠ X) := Lib.hid (by have := lt_of_heap hr; omega)
  have hKX : Hid (K ≠ X) := Lib.hid (by have := lt_of_heap ho; omega)
  replace h := h.below' hb
  replace hp : PCAt wy P := bkeep hp hb
  replace hr : RIAt wy R 2 1 := bkeep hr hb
  replace ho : ParkAt wy K 2 1 1 4 3 false := bkeep ho hb
  clear hb hX
  have T := tPart_loop 1 1 4 (by decide) (by decide) (by decide) (by decide) (by decide) (by decide)
  have hn : Hid (tNextB (tOf 1 1 4) 5 = true) := Lib.hid (by unfold tNextB; rw [T.2.2.2.2, T.2.2.2.1]; decide)
  have hpt : Hid (tPart (tOf 1 1 4) 1 = 4) := Lib.hid T.2.2.2.1
  clear T
  go_wp2_with fail
  refine (right_look_yes S g X 32 ((((List.replicate 61 (0 : Int)).set 33 3).set 32 (tOf 1 1 4)).set 27 5) 2 1 25 5 (tOf 1 1 4) 0 0 false w _ h hx hXg hXS hX0 (by decide) (by decide) (Lib.hid (by decide)) (Lib.hid (by decide)) (by simp) (by simp) (Lib.hid (by decide)) 4 (Lib.hid rfl) hn (Lib.hid rfl) hpt).mono ?_
  rintro e wq ⟨rfl, hj, hx1, hk⟩
  replace h := hj
  replace hp : PCAt wq P := hk.block hp hPg.out hPX.out
  replace hr : RIAt wq R 2 1 := hk.block hr hRg.out hRX.out
  replace ho : ParkAt wq K 2 1 1 4 3 false := hk.block ho hKg.out hKX.out
  replace hx := hx1
  clear hj hk hx1
  go_wp2_with fail
  refine (right_free_yes S g X 32 ((((List.replicate 61 (0 : Int)).set 33 3).set 32 (tOf 1 1 4)).set 27 5) 2 1 25 5 4 0 false w _ h hx hXg hXS hX0 (by decide) (by decide) (Lib.hid (by decide)) (Lib.hid (by decide)) (by simp) (by simp) (Lib.hid (by decide)) (Lib.hid rfl)).mono ?_
  rintro e wq ⟨rfl, hj, hx1, hk⟩
  replace h := hj
  replace hp : PCAt wq P := hk.block hp hPg.out hPX.out
  replace hr : RIAt wq R 2 1 := hk.block hr hRg.out hRX.out
  replace ho : ParkAt wq K 2 1 1 4 3 false := hk.block ho hKg.out hKX.out
  replace hx := hx1
  clear hj hk hx1
  go_wp2_with fail
  refine (right_take S g X 33 (((((List.replicate 61 (0 : Int)).set 33 3).set 32 (tOf 1 1 4)).set 27 5).set 32 0) 2 1 25 5 4 0 3 false w _ h hx hXg hXS hX0 (by decide) (by decide) (Lib.hid (by decide)) (Lib.hid (by decide)) (by simp) (by simp) (Lib.hid (by decide)) (Lib.hid rfl)).mono ?_
  rintro e wq ⟨rfl, hj, hx1, hk⟩
  replace h := hj
  replace hp : PCAt wq P := hk.block hp hPg.out hPX.out
  replace hr : RIAt wq R 2 1 := hk.block hr hRg.out hRX.out
  replace ho : ParkAt wq K 2 1 1 4 3 false := hk.block ho hKg.out hKX.out
  replace hx := hx1
  clear hj hk hx1
  go_wp2_with fail
  refine (rgot_of X _ _ _ _ _ _ _ _ hx).mono ?_
  rintro e wr ⟨rfl, n, rfl⟩
  have hb : Below wq.heap.size wq (wq.drewN n) := below_drewN (Below.refl _ _) n
  replace h := h.below' hb
  replace hp : PCAt (wq.drewN n) P := bkeep hp hb
  replace ho : ParkAt (wq.drewN n) K 2 1 1 4 3 false := bkeep ho hb
  generalize wq.drewN n = V at *
  clear hb hx hr
  obtain ⟨p0, p1, p2, p3⟩ := hp.cells
  go_wp2_with fail
  refine (size_of 1 3 3 3 7 54 _ okay17 (Lib.hid (by decide)) (Lib.hid (by decide))).mono ?_
  rintro e wt ⟨rfl, hb⟩
  replace h := h.below' hb
  replace ho : ParkAt wt K 2 1 1 4 3 false := bkeep ho hb
  clear p0 p1 p2 p3
  clear hb hp
  go_wp2_with (first | (go_at_call 42; refine (pback_of K _ _ _ _ _ _ _ ho).mono ?_; rintro e wu ⟨rfl, rfl⟩))
  go_ret
  exact ⟨rfl, h.2.1⟩
end Go.Proofs.Ytegbifphekhgkaa
