/- That the laws of layer 16 begin. -/
import Derived.Test.YtajmmglfdinahaaFrB
import Derived.Laws.Tables
import Derived.Deep.WholeRow
import Derived.Deep.DeepCutAuto
namespace Go.Proofs.Ytajmmglfdinahaa.fr
open Go.ChangeShapes Go.WideShapes Go.ChangeAt Go.RowKit
open Go.Proofs.Ytajmmglfdinahaa.ar
attribute [local go_sem ↓] Go.wp_at_zero Go.wp_at_succ
set_option linter.unusedVariables false
set_option linter.unusedSimpArgs false
theorem plan16 (n : Int) (w : World) : Calls Try.prog 47 #[.int .i64 n] w fun e w' => e = .returned (.agg #[.int .i64 1, .int .i64 n, .int .i64 2, .int .i64 3]) ∧ Below w.heap.size w w' := by
  go_enter Try.func47, Try.ntmps47
  go_wp2_with fail
  exact bodyPost_ret (v := .agg #[.int .i64 1, .int .i64 n, .int .i64 2, .int .i64 3]) (by simp [results, Try.results47, go_sem]) rfl ⟨rfl, by go_grown⟩
theorem infoF : (Try.prog.info? 67).map (·.size) = some 19 := by kernel_rfl
/-- A whole frame into the block that was made last. -/
theorem wpList_storeNew {ops : Array Oper} {rest : List Oper} {o : Oper} {a : Act} {w : World} {Q : Exit → Act → World → Prop} (hgd : o.guard = none) (p x : Operand)
    (ho : o.op = .store 67 p x) (c c' : Array Value) (hp : a.eval p = .pointer (some ⟨w.heap.size, 0, none⟩)) (hx : a.eval x = .agg c') (h1 : c.size = 19) (h2 : c'.size = 19) (h3 : c'.all (·.oneCell') = true)
    (h : wpList Try.prog ops Q rest (a.put o.dst undef) (w.alloc (.cells c' 67))) : wpList Try.prog ops Q (o :: rest) a (w.alloc (.cells c 67)) :=
  wpList_plain hgd fun K hK => by
    have hr := run_storeAt_new (P := Try.prog) w 67 c c' (by rw [infoF, h2]) (by rw [h1, h2]) h3
    unfold Oper.wp execOp
    simp only [ho, resolve, hp, hx, Sem.run_bind, Sem.run_pure, Result.andThen_ok, hr]
    exact hK _ _ h
theorem results_cell1 {fn : Func} {p : Tmp} {ty : TypeId} (h : fn.results = #[.cell p ty]) (tmps : Array Value) (P : Program) (w : World) :
    (results fn tmps).run P w = ((asAddr (tmps.getD p undef)).run P w).andThen fun a w₁ => (loadVar ty a).run P w₁ := by
  simp only [results, h]
  simp [Sem.run_bind, Result.andThen]
theorem loadF (w : World) (c : Array Value) (h : c.size = 19) : (loadVar 67 ⟨w.heap.size, 0, none⟩).run Try.prog (w.alloc (.cells c 67)) = .ok (.agg c) (w.alloc (.cells c 67)) :=
  run_loadVar_row _ _ 67 67 c (0, 0) _ (heap_alloc_last w _) Try.underlying67 rfl (by rw [infoF, h])
theorem resF {fn : Func} (h : fn.results = #[.cell 0 67]) (w : World) (c : Array Value) (tmps : Array Value) (h0 : tmps.getD 0 undef = .pointer (some ⟨w.heap.size, 0, none⟩)) (hc : c.size = 19) : (results fn tmps).run Try.prog (w.alloc (.cells c 67)) = .ok (.agg c) (w.alloc (.cells c 67)) := by
  rw [results_cell1 h, h0]
  simp only [asAddr, Sem.run_pure, Result.andThen_ok]
  exact loadF w c hc
theorem root_of (w : World) : Calls Try.prog 46 #[] w fun e w' => e = .returned (.agg #[.int .i64 1, .int .i64 0, .int .i64 0, .int .i64 0, .int .i64 0, .int .i64 0, .int .i64 0, .int .i64 0, .int .i64 0, .int .i64 0, .int .i64 0, .int .i64 0, .bool false, .bool false, .int .i64 0, .int .i64 0, .int .i64 0, .int .i64 0, .int .i64 0]) ∧ Below w.heap.size w w' := by
  have hbd : ∀ w, (Instr.build 67 #[(0, .int .i64 1)]).run Try.prog w = .ok (.agg #[.int .i64 1, .int .i64 0, .int .i64 0, .int .i64 0, .int .i64 0, .int .i64 0, .int .i64 0, .int .i64 0, .int .i64 0, .int .i64 0, .int .i64 0, .int .i64 0, .bool false, .bool false, .int .i64 0, .int .i64 0, .int .i64 0, .int .i64 0, .int .i64 0]) w := fun w => run_build w 67 _ _ (by kernel_rfl)
  go_enter Try.func46, Try.ntmps46
  go_upto_region 1 with (fail)
  refine wp_region_lit ?_
  refine wpList_step (fun K hK => ?_)
  go_simp
  refine hK _ _ ?_
  refine wpList_storeNew rfl _ _ rfl _ _ rfl rfl rfl rfl (by simp [Value.oneCell']) ?_
  refine wpList_nil ?_
  clear hbd hK K
  go_wp2_with fail
  refine bodyPost_ret (v := .agg #[.int .i64 1, .int .i64 0, .int .i64 0, .int .i64 0, .int .i64 0, .int .i64 0, .int .i64 0, .int .i64 0, .int .i64 0, .int .i64 0, .int .i64 0, .int .i64 0, .bool false, .bool false, .int .i64 0, .int .i64 0, .int .i64 0, .int .i64 0, .int .i64 0]) ?_ rfl ⟨rfl, by go_grown⟩
  exact resF rfl w _ _ rfl rfl
def PCAt (w : World) (B : Nat) (n : Int) : Prop := w.heap[B]? = some (.cells #[.int .i64 1, .int .i64 n, .int .i64 2, .int .i64 3] 54 (0, 0))
theorem PCAt.cells {w : World} {B : Nat} {n : Int} (h : PCAt w B n) : w.cell? ⟨B, 0, none⟩ = some (.int .i64 1) ∧ w.cell? ⟨B, 1, none⟩ = some (.int .i64 n) ∧ w.cell? ⟨B, 2, none⟩ = some (.int .i64 2) ∧ w.cell? ⟨B, 3, none⟩ = some (.int .i64 3) := by
  unfold PCAt at h
  refine ⟨?_, ?_, ?_, ?_⟩ <;> simp [World.cell?, h]
theorem bkeep {w w' : World} {B : Nat} {o : Obj} (h : w.heap[B]? = some o) (hb : Below w.heap.size w w') : w'.heap[B]? = some o := (hb.block B (lt_of_heap h)).trans h
theorem okay16 (n : Nat) (h1 : 1 ≤ n) (h2 : n ≤ 256) : Hid (Okay 1 (n : Int) 2 3) := Lib.hid (by unfold Okay; omega)
/-- A table just made. -/
theorem ts_new {w0 w w' : World} {T S g A L n : Nat} {N : Nat} (h : J w0 w S g (List.replicate N 0)) (ht : TAt w' T 1 (n : Int) 2 3 S A L n) (hl : LAt w' L (List.replicate n (.pointer none))) (ha : AS (fun k => k < w.heap.size ∨ k = T ∨ k = L) w0.heap.size A w' (n : Int) 0 0 (.slice none 0 0) (.slice none 0 0) (.slice none 0 0) (.slice none 0 0) [] []) (hd : w.heap.size ≤ T ∧ w.heap.size ≤ A ∧ w.heap.size ≤ L ∧ T ≠ A ∧ T ≠ L ∧ A ≠ L) (hb : Below w.heap.size w w') :
    TS w0 w' (fun k => k < w.heap.size ∨ k = T ∨ k = L) T S g A L n (List.replicate N 0) (List.replicate n (.pointer none)) 0 (.slice none 0 0) (.slice none 0 0) [] [] := by
  have hf := h.1.facts.2.2.2.2
  have h0 := h.2.1.size
  obtain ⟨d1, d2, d3, d4, d5, d6⟩ := hd
  exact ⟨h.below' hb, ht, hl, by simpa using ha, by simp, .inr (.inl rfl), .inr (.inr rfl), .inl hf.1, .inl hf.2, by have := hf.2; omega, by have := hf.1; omega, fun e => d5 e.symm, by have := hf.2; omega, by omega, by omega⟩
set_option maxHeartbeats 4000000 in
set_option maxRecDepth 20000 in
theorem works16 (w : World) : Calls Try.prog 42 #[] w fun e w' => e = .returned (.bool true) ∧ Below w.heap.size w w' := by
  go_enter Try.func42, Try.ntmps42
  go_wp2_with fail
  refine (plan16 2 w).mono ?_
  rintro e w1 ⟨rfl, hb1⟩
  go_wp2_with fail
  obtain ⟨W, hW⟩ : ∃ W, W = w1.alloc (Obj.cells #[Value.int IntKind.i64 1, Value.int IntKind.i64 2, Value.int IntKind.i64 2, Value.int IntKind.i64 3] 54) := ⟨_, rfl⟩
  have hp : PCAt W w1.heap.size 2 := by rw [hW]; exact heap_alloc_new _ _
  have hb : Below w.heap.size w W := by rw [hW]; exact btr hb1 (by go_grown)
  rw [← hW]
  clear hW hb1
  generalize w1.heap.size = P at *
  obtain ⟨p0, p1, p2, p3⟩ := hp.cells
  refine (size_of 1 2 2 3 7 28 _ (okay16 2 (by omega) (by omega)) (Lib.hid (by decide)) (Lib.hid (by decide))).mono ?_
  rintro e w2 ⟨rfl, hb2⟩
  clear p0 p1 p2 p3
  replace hp : PCAt w2 P 2 := bkeep hp hb2
  replace hb := btr hb hb2
  clear hb2
  obtain ⟨p0, p1, p2, p3⟩ := hp.cells
  go_wp2_with fail
  refine (new_n 35 w2 (by decide)).mono ?_
  rintro e w3 ⟨rfl, hs, hb2⟩
  clear p0 p1 p2 p3
  have hPg0 : P < w2.heap.size := lt_of_heap hp
  have h : J w w3 (w2.heap.size + 1) w2.heap.size (List.replicate 35 0) := ⟨hs, btr hb hb2, hb.size⟩
  replace hp : PCAt w3 P 2 := bkeep hp hb2
  have hPg : Hid (P ≠ w2.heap.size) := Lib.hid (by omega)
  clear hb hb2 hs hPg0
  generalize w2.heap.size + 1 = S at *
  generalize w2.heap.size = g at *
  obtain ⟨p0, p1, p2, p3⟩ := hp.cells
  go_wp2_with fail
  refine (tab_new S 1 2 3 2 (okay16 2 (by omega) (by omega)) (by omega) w.heap.size _ h.2.1.size).mono ?_
  rintro e w4 ⟨T, A, L, rfl, ht, hl, ha, hd, hb⟩
  clear p0 p1 p2 p3
  have HT := Lib.hid (ts_new h ht hl ha hd hb)
  have hPS : Hid (P < w3.heap.size ∧ P ≠ L) := Lib.hid ⟨lt_of_heap hp, by have := lt_of_heap hp; omega⟩
  replace hp : PCAt w4 P 2 := bkeep hp hb
  clear ht hl ha hd hb h
  go_wp2_with fail
  refine (root_of w4).mono ?_
  rintro e w5 ⟨rfl, hb⟩
  replace HT := Lib.hid (HT.out.below hb)
  replace hp : PCAt w5 P 2 := bkeep hp hb
  clear hb
  go_wp2_with fail
  refine (make_yes 0 0 [false] [] 1 w w5 _ T S g A L 2 _ _ 0 _ _ [] [] HT.out (by omega) (by simp) (by simp) (by omega) (.inr ⟨rfl, by simp, rfl, rfl, rfl⟩) (by simp) (by simp) (by simp) (by simp) (by decide)).mono ?_
  rintro e w6 ⟨hv', bv', q, rfl, h6, hq, hqs, hk, hs6⟩
  replace hp : PCAt w6 P 2 := (hk P (.inl hPS.out.1) hPS.out.2 hPg.out).trans hp
  have H6 := Lib.hid h6
  have HQ := Lib.hid hq
  clear HT h6 hk hq
  go_wp2_with fail
  refine (at_yes 0 w w6 _ T S g A L 2 _ _ 1 _ _ [true] [] H6.out (by simp) (by decide) (by omega) (by omega) q (Lib.hid (by simp))).mono ?_
  rintro e w7 ⟨rfl, rfl⟩
  obtain ⟨p0, p1, p2, p3⟩ := hp.cells
  go_wp2_with fail
  refine (frame_of 1 2 2 3 1 7 _ (okay16 2 (by omega) (by omega)) (by omega) (by omega) (Lib.hid (by decide))).mono ?_
  rintro e w8 ⟨rfl, hb⟩
  replace H6 := Lib.hid (H6.out.below hb)
  replace HQ : Hid (w8.heap[q]? = some (.cells (fcs 0) 67 (0, 0))) := Lib.hid (bkeep HQ.out hb)
  clear p0 p1 p2 p3 hp hb
  go_wp2_with fail
  refine (load_in S g _ 7 _ H6.out.j.1 (by simp [fl]) (by simp [fl])).mono ?_
  rintro e w9 ⟨rfl, rfl⟩
  have e7 : ((fl (List.replicate 35 (0 : Int)) (7 + 14 * 0) 0 14).set (7 + 14 * 0) 1).getD 7 0 = 1 := by decide
  rw [e7]
  clear e7
  have q0 : w8.cell? ⟨q, 0, none⟩ = some (.int .i64 1) := by
    have := HQ.out
    simp [World.cell?, this, fcs]
  have CU := Lib.hid (tused_of w w8 _ T S g A L 2 _ _ 1 _ _ [true] [] H6.out (by simp))
  go_wp2_with fail
  refine CU.out.mono ?_
  rintro e w9 ⟨rfl, hb⟩
  clear q0 CU
  have hbf := H6.out.j.2.1.trans (hb.mono H6.out.j.2.1.size)
  go_wp2_with fail
  go_ret
  exact ⟨rfl, hbf⟩
end Go.Proofs.Ytajmmglfdinahaa.fr
