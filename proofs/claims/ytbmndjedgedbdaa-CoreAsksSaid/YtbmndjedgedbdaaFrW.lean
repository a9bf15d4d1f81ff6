/- That the laws of layer 16 begin. -/
import Derived.Test.YtbmndjedgedbdaaFrB
import Derived.Laws.Tables
import Derived.Deep.WholeRow
import Derived.Deep.DeepCutAuto
namespace Go.Proofs.Ytbmndjedgedbdaa.fr
open Go.ChangeShapes Go.WideShapes Go.ChangeAt Go.RowKit
open Go.Proofs.Ytbmndjedgedbdaa.ar
attribute [local go_sem ↓] Go.wp_at_zero Go.wp_at_succ
set_option linter.unusedVariables false
set_option linter.unusedSimpArgs false
theorem infoF : (Try.prog.info? 51).map (·.size) = some 19 := by kernel_rfl
/-- A whole frame into the block that was made last. -/
theorem wpList_storeNew {ops : Array Oper} {rest : List Oper} {o : Oper} {a : Act} {w : World} {Q : Exit → Act → World → Prop} (hgd : o.guard = none) (p x : Operand)
    (ho : o.op = .store 51 p x) (c c' : Array Value) (hp : a.eval p = .pointer (some ⟨w.heap.size, 0, none⟩)) (hx : a.eval x = .agg c') (h1 : c.size = 19) (h2 : c'.size = 19) (h3 : c'.all (·.oneCell') = true)
    (h : wpList Try.prog ops Q rest (a.put o.dst undef) (w.alloc (.cells c' 51))) : wpList Try.prog ops Q (o :: rest) a (w.alloc (.cells c 51)) :=
  wpList_plain hgd fun K hK => by
    have hr := run_storeAt_new (P := Try.prog) w 51 c c' (by rw [infoF, h2]) (by rw [h1, h2]) h3
    unfold Oper.wp execOp
    simp only [ho, resolve, hp, hx, Sem.run_bind, Sem.run_pure, Result.andThen_ok, hr]
    exact hK _ _ h
theorem results_cell1 {fn : Func} {p : Tmp} {ty : TypeId} (h : fn.results = #[.cell p ty]) (tmps : Array Value) (P : Program) (w : World) :
    (results fn tmps).run P w = ((asAddr (tmps.getD p undef)).run P w).andThen fun a w₁ => (loadVar ty a).run P w₁ := by
  simp only [results, h]
  simp [Sem.run_bind, Result.andThen]
theorem loadF (w : World) (c : Array Value) (h : c.size = 19) : (loadVar 51 ⟨w.heap.size, 0, none⟩).run Try.prog (w.alloc (.cells c 51)) = .ok (.agg c) (w.alloc (.cells c 51)) :=
  run_loadVar_row _ _ 51 51 c (0, 0) _ (heap_alloc_last w _) Try.underlying51 rfl (by rw [infoF, h])
theorem resF {fn : Func} (h : fn.results = #[.cell 0 51]) (w : World) (c : Array Value) (tmps : Array Value) (h0 : tmps.getD 0 undef = .pointer (some ⟨w.heap.size, 0, none⟩)) (hc : c.size = 19) : (results fn tmps).run Try.prog (w.alloc (.cells c 51)) = .ok (.agg c) (w.alloc (.cells c 51)) := by
  rw [results_cell1 h, h0]
  simp only [asAddr, Sem.run_pure, Result.andThen_ok]
  exact loadF w c hc
theorem root_of (w : World) : Calls Try.prog 19 #[] w fun e w' => e = .returned (.agg #[.int .i64 1, .int .i64 0, .int .i64 0, .int .i64 0, .int .i64 0, .int .i64 0, .int .i64 0, .int .i64 0, .int .i64 0, .int .i64 0, .int .i64 0, .int .i64 0, .bool false, .bool false, .int .i64 0, .int .i64 0, .int .i64 0, .int .i64 0, .int .i64 0]) ∧ Below w.heap.size w w' := by
  have hbd : ∀ w, (Instr.build 51 #[(0, .int .i64 1)]).run Try.prog w = .ok (.agg #[.int .i64 1, .int .i64 0, .int .i64 0, .int .i64 0, .int .i64 0, .int .i64 0, .int .i64 0, .int .i64 0, .int .i64 0, .int .i64 0, .int .i64 0, .int .i64 0, .bool false, .bool false, .int .i64 0, .int .i64 0, .int .i64 0, .int .i64 0, .int .i64 0]) w := fun w => run_build w 51 _ _ (by kernel_rfl)
  go_enter Try.func19, Try.ntmps19
  go_upto_region 1 with (fail)
  refine wp_region_lit ?_
  refine wpList_step (fun K hK => ?_)
  go_simp
  refine hK _ _ ?_
  refine wpList_storeNew rfl _ _ rfl _ _ rfl rfl rfl rfl (by simp [Value.oneCell']) ?_
  refine wpList_nil ?_
  clear hbd hK K
  go_wp2_with fail
  refine bodyPost_ret (v := .agg #[.int .i64 1, .int .i64 0, .int .i64 0, .int .i64 0, .int .i64 0, .int .i64 0, .int .i64 0, .int .i64 0, .int .i64 0, .int .i64 0, .int .i64 0, .int .i64 0, .bool false, .bool false, .int .i64 0, .int .i64 0, .int .i64 0, .int .i64 0, .int .i64 0]) ?_ rfl ⟨rfl, by go_grown⟩
  exact resF rfl w _ _ rfl rfl
def PCAt (w : World) (B : Nat) (n : Int) : Prop := w.heap[B]? = some (.cells #[.int .i64 1, .int .i64 n, .int .i64 2, .int .i64 3] 37 (0, 0))
theorem PCAt.cells {w : World} {B : Nat} {n : Int} (h : PCAt w B n) : w.cell? ⟨B, 0, none⟩ = some (.int .i64 1) ∧ w.cell? ⟨B, 1, none⟩ = some (.int .i64 n) ∧ w.cell? ⟨B, 2, none⟩ = some (.int .i64 2) ∧ w.cell? ⟨B, 3, none⟩ = some (.int .i64 3) := by
  unfold PCAt at h
  refine ⟨?_, ?_, ?_, ?_⟩ <;> simp [World.cell?, h]
theorem bkeep {w w' : World} {B : Nat} {o : Obj} (h : w.heap[B]? = some o) (hb : Below w.heap.size w w') : w'.heap[B]? = some o := (hb.block B (lt_of_heap h)).trans h
theorem okay16 (n : Nat) (h1 : 1 ≤ n) (h2 : n ≤ 256) : Hid (Okay 1 (n : Int) 2 3) := Lib.hid (by unfold Okay; omega)
/-- A table just made. -/
theorem ts_new {w0 w w' : World} {T S g A L n : Nat} {N : Nat} (h : J w0 w S g (List.replicate N 0)) (ht : TAt w' T 1 (n : Int) 2 3 S A L n) (hl : LAt w' L (List.replicate n (.pointer none))) (ha : AS (fun k => k < w.heap.size ∨ k = T ∨ k = L) w0.heap.size A w' (n : Int) 0 0 (.slice none 0 0) (.slice none 0 0) (.slice none 0 0) (.slice none 0 0) [] []) (hd : w.heap.size ≤ T ∧ w.heap.size ≤ A ∧ w.heap.size ≤ L ∧ T ≠ A ∧ T ≠ L ∧ A ≠ L) (hb : Below w.heap.size w w') :
    TS w0 w' (fun k => k < w.heap.size ∨ k = T ∨ k = L) T S g A L n (List.replicate N 0) (List.replicate n (.pointer none)) 0 (.slice none 0 0) (.slice none 0 0) [] [] := by
  have hf := h.1.facts.2.2.2.2
  have h0 := h.2.1.size
  obtain ⟨d1, d2, d3, d4, d5, d6⟩ := hd
  exact ⟨h.below' hb, ht, hl, by simpa using ha, by simp, .inr (.inl rfl), .inr (.inr rfl), .inl hf.1, .inl hf.2, by have := hf.2; omega, by have := hf.1; omega, fun e => d5 e.symm, by have := hf.2; omega, by omega, by omega⟩

end Go.Proofs.Ytbmndjedgedbdaa.fr
