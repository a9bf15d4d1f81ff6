/- The root's, a child's, a loop's and an iteration's frame, of any frame, are as the document says, and the frame that they come of stays: the law FrameMakes answers true. No condition. -/
import Derived.Test.YtajmmglfdinahaaFmC
namespace Go.Proofs.Ytajmmglfdinahaa.frameMakes
open Go.ChangeShapes Go.WideShapes Go.ChangeAt Go.RowKit
open Go.Proofs.Ytajmmglfdinahaa.fr
open Go.Proofs.Ytajmmglfdinahaa.fm
open Go.Proofs.Ytajmmglfdinahaa.ft (range_blk there_blk put_blk below_put)
attribute [local go_sem ↓] Go.wp_at_zero Go.wp_at_succ
set_option linter.unusedVariables false
set_option linter.unusedSimpArgs false
theorem b_child_lit (r0 r1 r2 r3 r4 r5 r6 r7 own fn : Int) (w : World) : (Instr.build 67 #[(0, .int .i64 1), (1, .int .i64 fn), (3, .agg #[.int .i64 r0, .int .i64 r1, .int .i64 r2, .int .i64 r3, .int .i64 r4, .int .i64 r5, .int .i64 r6, .int .i64 r7]), (4, .int .i64 own)]).run Try.prog w = .ok (.agg #[.int .i64 1, .int .i64 fn, .int .i64 0, .int .i64 r0, .int .i64 r1, .int .i64 r2, .int .i64 r3, .int .i64 r4, .int .i64 r5, .int .i64 r6, .int .i64 r7, .int .i64 own, .bool false, .bool false, .int .i64 0, .int .i64 0, .int .i64 0, .int .i64 0, .int .i64 0]) w := run_build w 67 _ _ (by kernel_rfl)
theorem b_child (x : Fm) (own fn : Int) (w : World) : (Instr.build 67 #[(0, .int .i64 1), (1, .int .i64 fn), (3, .agg x.regs), (4, .int .i64 own)]).run Try.prog w = .ok (.agg (x.child own fn).cs) w := b_child_lit x.r0 x.r1 x.r2 x.r3 x.r4 x.r5 x.r6 x.r7 own fn w
theorem b_loop_lit (r0 r1 r2 r3 r4 r5 r6 r7 own fn serial : Int) (w : World) : (Instr.build 67 #[(0, .int .i64 3), (1, .int .i64 fn), (3, .agg #[.int .i64 r0, .int .i64 r1, .int .i64 r2, .int .i64 r3, .int .i64 r4, .int .i64 r5, .int .i64 r6, .int .i64 r7]), (4, .int .i64 own), (11, .int .i64 serial)]).run Try.prog w = .ok (.agg #[.int .i64 3, .int .i64 fn, .int .i64 0, .int .i64 r0, .int .i64 r1, .int .i64 r2, .int .i64 r3, .int .i64 r4, .int .i64 r5, .int .i64 r6, .int .i64 r7, .int .i64 own, .bool false, .bool false, .int .i64 0, .int .i64 0, .int .i64 0, .int .i64 0, .int .i64 serial]) w := run_build w 67 _ _ (by kernel_rfl)
theorem b_loop (x : Fm) (own fn serial : Int) (w : World) : (Instr.build 67 #[(0, .int .i64 3), (1, .int .i64 fn), (3, .agg x.regs), (4, .int .i64 own), (11, .int .i64 serial)]).run Try.prog w = .ok (.agg (x.loop own fn serial).cs) w := b_loop_lit x.r0 x.r1 x.r2 x.r3 x.r4 x.r5 x.r6 x.r7 own fn serial w
theorem b_iter_lit (r0 r1 r2 r3 r4 r5 r6 r7 own fX sX : Int) (w : World) : (Instr.build 67 #[(0, .int .i64 2), (1, .int .i64 fX), (3, .agg #[.int .i64 r0, .int .i64 r1, .int .i64 r2, .int .i64 r3, .int .i64 r4, .int .i64 r5, .int .i64 r6, .int .i64 r7]), (4, .int .i64 own), (7, .int .i64 sX)]).run Try.prog w = .ok (.agg #[.int .i64 2, .int .i64 fX, .int .i64 0, .int .i64 r0, .int .i64 r1, .int .i64 r2, .int .i64 r3, .int .i64 r4, .int .i64 r5, .int .i64 r6, .int .i64 r7, .int .i64 own, .bool false, .bool false, .int .i64 sX, .int .i64 0, .int .i64 0, .int .i64 0, .int .i64 0]) w := run_build w 67 _ _ (by kernel_rfl)
theorem b_iter (x : Fm) (own : Int) (w : World) : (Instr.build 67 #[(0, .int .i64 2), (1, .int .i64 x.f), (3, .agg x.regs), (4, .int .i64 own), (7, .int .i64 x.sd)]).run Try.prog w = .ok (.agg (x.iter own).cs) w := b_iter_lit x.r0 x.r1 x.r2 x.r3 x.r4 x.r5 x.r6 x.r7 own x.f x.sd w
theorem wp_build {op : Oper} {a : Act} {w : World} {K : Act → World → Prop} {Q : Exit → Act → World → Prop} (t : TypeId) (parts : Array (Nat × Operand)) (ho : op.op = .build t parts) (ps : Array (Nat × Value)) (hp : (parts.map fun (i, x) => (i, a.eval x)) = ps) (v : Value) (hb : (Instr.build t ps).run Try.prog w = .ok v w) (hk : K (a.put op.dst v) w) : op.wp Try.prog a w K Q := by
  unfold Oper.wp execOp
  simp only [ho]
  rw [hp]
  simp only [Sem.run_bind, Sem.run_pure, Result.andThen_ok, hb]
  exact hk
theorem wp_eql {op : Oper} {a : Act} {w : World} {K : Act → World → Prop} {Q : Exit → Act → World → Prop} {x y : Operand} {u v : Value} (t : TypeId) (ho : op.op = .binOp .eql t x y t) (hx : a.eval x = u) (hy : a.eval y = v) (hg : (eqGuard .eql t x y u v).run Try.prog w = .ok () w) (h : (binOp .eql t u v).run Try.prog w = .ok (.bool true) w) (hk : K (a.put op.dst (.bool true)) w) : op.wp Try.prog a w K Q := by
  unfold Oper.wp execOp
  simp only [ho, hx, hy, Sem.run_bind, Sem.run_pure, Result.andThen_ok, hg, h]
  exact hk
theorem st_start {x : Fm} {own fn serial : Int} {B : Nat} {wR w : World} {u0 u5 u6 u7 u8 u9 u10 u11 u12 u13 u14 u15 u19 u24 u27 u28 u29 u30 u31 u32 u33 u34 u35 u36 u37 u38 u39 u40 u41 u42 u43 u44 u45 u46 u47 u48 u49 u50 u51 u52 u53 u54 u55 u56 u57 u58 u59 u60 u61 u62 u63 u64 u65 u66 : Value} {Q : Exit → Act → World → Prop} {l : Array Bool} {fu : Nat} (hl : l = #[true, true, true, false, true, true, true, true, false, true, true, false, false, false, false, false, false, false]) (hf : fu = 9) (hB : wR.heap[B]? = some (.cells x.cs 67 (0, 0))) (hb : Below wR.heap.size wR w)
    (hN : ∀ (a10 a11 a12 : Nat) (w' : World), Below wR.heap.size wR w' → w'.heap[a10]? = some (.cells (x.child own fn).cs 67 (0, 0)) → w'.heap[a11]? = some (.cells (x.loop own fn serial).cs 67 (0, 0)) → w'.heap[a12]? = some (.cells (x.iter own).cs 67 (0, 0)) → Q .normal ⟨#[u0, .int .i64 own, .int .i64 fn, .int .i64 serial, .pointer (some ⟨B, 0, none⟩), u5, u6, u7, u8, u9, .pointer (some ⟨a10, 0, none⟩), .pointer (some ⟨a11, 0, none⟩), .pointer (some ⟨a12, 0, none⟩), u13, u14, u15, .agg x.cs, .int .i64 own, .int .i64 fn, .agg (x.child own fn).cs, .agg x.cs, .int .i64 own, .int .i64 fn, .int .i64 serial, .agg (x.loop own fn serial).cs, .agg x.cs, .int .i64 own, .agg (x.iter own).cs, u28, u29, u30, u31, u32, u33, u34, u35, u36, u37, u38, u39, u40, u41, u42, u43, u44, u45, u46, u47, u48, u49, u50, u51, u52, u53, u54, u55, u56, u57, u58, u59, u60, u61, u62, u63, u64, u65, u66], []⟩ w') :
    wpAnyH Try.prog .any ops4 Q (fun w' => w'.heap[B]? = some (.cells x.cs 67 (0, 0))) fu l ⟨#[u0, .int .i64 own, .int .i64 fn, .int .i64 serial, .pointer (some ⟨B, 0, none⟩), u5, u6, u7, u8, u9, u10, u11, u12, u13, u14, u15, .agg x.cs, .int .i64 own, .int .i64 fn, u19, .agg x.cs, .int .i64 own, .int .i64 fn, .int .i64 serial, u24, .agg x.cs, .int .i64 own, u27, u28, u29, u30, u31, u32, u33, u34, u35, u36, u37, u38, u39, u40, u41, u42, u43, u44, u45, u46, u47, u48, u49, u50, u51, u52, u53, u54, u55, u56, u57, u58, u59, u60, u61, u62, u63, u64, u65, u66], []⟩ w := by
  subst hl
  subst hf
  exact st_0_n hB hb hN
theorem wp_load8 {op : Oper} {a : Act} {w : World} {K : Act → World → Prop} {Q : Exit → Act → World → Prop} (y : Operand) (ho : op.op = .load 65 y) (q : Nat) (hx : a.eval y = .pointer (some ⟨q, 3, none⟩)) (x : Fm) (h : w.heap[q]? = some (.cells x.cs 67 (0, 0))) (hk : K (a.put op.dst (.agg x.regs)) w) : op.wp Try.prog a w K Q :=
  wp_load_mid _ y ho q 3 hx x.regs.toList _ (regs_at h) Try.underlying65 rfl (by rw [info65]; rfl) (by simpa using hk)
set_option maxRecDepth 20000 in
set_option maxHeartbeats 4000000 in
theorem core (x : Fm) (own fn serial : Int) (w : World) : Calls Try.prog 8 #[.agg x.cs, .int .i64 own, .int .i64 fn, .int .i64 serial] w fun e w' => e = .returned (.bool true) ∧ Below w.heap.size w w' := by
  go_enter Try.func8, Try.ntmps8
  go_wp2_with fail
  obtain ⟨wb, hwb⟩ : ∃ wb, w.alloc (.cells x.cs 67) = wb := ⟨_, rfl⟩
  have h0 : wb.heap[w.heap.size]? = some (.cells x.cs 67 (0, 0)) := by rw [← hwb]; exact heap_alloc_new _ _
  have hbb : Below w.heap.size w wb := by rw [← hwb]; go_grown
  rw [hwb]
  refine (works16 _).mono ?_
  rintro e w1 ⟨rfl, hb1⟩
  have hB1 := (hb1.block _ (lt_of_heap h0)).trans h0
  have HB1 := Lib.hid (hbb.trans (hb1.mono hbb.size))
  obtain ⟨B, hB⟩ : ∃ B, w.heap.size = B := ⟨_, rfl⟩
  rw [hB] at hB1 ⊢
  have HH1 := Lib.hid hB1
  clear hwb h0 hbb hb1 hB hB1
  go_upto_region 3 with (fail)
  refine wp_region_lit ?_
  refine wpList_step (fun K2 hK2 => ?_)
  rw [if_pos (by rfl)]
  refine wp_load19 _ rfl B rfl x.cs rfl HH1.out ?_
  refine hK2 _ _ ?_
  clear hK2 K2
  try simp only [Act.put, List.setIfInBounds_toArray, List.set_cons_zero, List.set_cons_succ]
  refine wpList_step (fun K2 hK2 => ?_)
  go_simp
  refine hK2 _ _ ?_
  clear hK2 K2
  refine wpList_storeNew rfl _ _ rfl _ _ rfl rfl rfl rfl (by simp [Value.oneCell', Fm.cs]) ?_
  refine wpList_nil ?_
  obtain ⟨w3, hw3⟩ : ∃ w3, w1.alloc (.cells x.cs 67) = w3 := ⟨_, rfl⟩
  have hK3 : w3.heap[w1.heap.size]? = some (.cells x.cs 67 (0, 0)) := by rw [← hw3]; exact heap_alloc_new _ _
  have hb3 : Below w1.heap.size w1 w3 := by rw [← hw3]; go_grown
  rw [hw3]
  have HH3 := Lib.hid ((hb3.block _ (lt_of_heap HH1.out)).trans HH1.out)
  have HB3 := Lib.hid (HB1.out.trans (hb3.mono HB1.out.size))
  obtain ⟨K, hK⟩ : ∃ K, w1.heap.size = K := ⟨_, rfl⟩
  rw [hK] at hK3 ⊢
  have HK3 := Lib.hid hK3
  clear hw3 hb3 hK3 hK HB1 HH1
  go_upto_region 4 with (fail)
  refine wp_region_noPanic ?_
  refine wp_region_held_drew (S := fun w' => w'.heap[B]? = some (.cells x.cs 67 (0, 0))) (by kernel_rfl) HH3.out ?_
  intro _
  refine wpAnyH_take (i := 0) (oi := { dst := some 16, op := Go.Op.load 67 (Go.Operand.tmp 4), type := 67, pos := "law.go:33", after := #[], guard := none }) (v := .agg x.cs) rfl (by kernel_rfl) (by kernel_rfl) (by kernel_rfl) (fun _ _ _ h => h) (yieldsIf_load_mid (by rfl) _ _ rfl B 0 rfl x.cs.toList _ (fun w' hw => range_blk hw) Try.underlying67 rfl (by rw [infoF]; rfl)) HH3.out ?_
  try simp only [Act.put, List.setIfInBounds_toArray, List.set_cons_zero, List.set_cons_succ]
  refine wpAnyH_take (i := 1) (oi := { dst := some 17, op := Go.Op.move (Go.Operand.tmp 1), type := 3, pos := "law.go:33", after := #[], guard := none }) (v := ?_) rfl (by kernel_rfl) (by kernel_rfl) (by kernel_rfl) (fun _ _ _ h => h) (Or.inl ⟨by rfl, ?_⟩) HH3.out ?_
  rotate_left
  · (intro w' hSw; (try dsimp only at hSw); go_simp <;> (with_reducible rfl))
  try simp only [Act.put, List.setIfInBounds_toArray, List.set_cons_zero, List.set_cons_succ]
  refine wpAnyH_take (i := 2) (oi := { dst := some 18, op := Go.Op.move (Go.Operand.tmp 2), type := 3, pos := "law.go:33", after := #[], guard := none }) (v := ?_) rfl (by kernel_rfl) (by kernel_rfl) (by kernel_rfl) (fun _ _ _ h => h) (Or.inl ⟨by rfl, ?_⟩) HH3.out ?_
  rotate_left
  · (intro w' hSw; (try dsimp only at hSw); go_simp <;> (with_reducible rfl))
  try simp only [Act.put, List.setIfInBounds_toArray, List.set_cons_zero, List.set_cons_succ]
  refine wpAnyH_take (i := 4) (oi := { dst := some 20, op := Go.Op.load 67 (Go.Operand.tmp 4), type := 67, pos := "law.go:33", after := #[], guard := none }) (v := .agg x.cs) rfl (by kernel_rfl) (by kernel_rfl) (by kernel_rfl) (fun _ _ _ h => h) (yieldsIf_load_mid (by rfl) _ _ rfl B 0 rfl x.cs.toList _ (fun w' hw => range_blk hw) Try.underlying67 rfl (by rw [infoF]; rfl)) HH3.out ?_
  try simp only [Act.put, List.setIfInBounds_toArray, List.set_cons_zero, List.set_cons_succ]
  refine wpAnyH_take (i := 5) (oi := { dst := some 21, op := Go.Op.move (Go.Operand.tmp 1), type := 3, pos := "law.go:33", after := #[], guard := none }) (v := ?_) rfl (by kernel_rfl) (by kernel_rfl) (by kernel_rfl) (fun _ _ _ h => h) (Or.inl ⟨by rfl, ?_⟩) HH3.out ?_
  rotate_left
  · (intro w' hSw; (try dsimp only at hSw); go_simp <;> (with_reducible rfl))
  try simp only [Act.put, List.setIfInBounds_toArray, List.set_cons_zero, List.set_cons_succ]
  refine wpAnyH_take (i := 6) (oi := { dst := some 22, op := Go.Op.move (Go.Operand.tmp 2), type := 3, pos := "law.go:33", after := #[], guard := none }) (v := ?_) rfl (by kernel_rfl) (by kernel_rfl) (by kernel_rfl) (fun _ _ _ h => h) (Or.inl ⟨by rfl, ?_⟩) HH3.out ?_
  rotate_left
  · (intro w' hSw; (try dsimp only at hSw); go_simp <;> (with_reducible rfl))
  try simp only [Act.put, List.setIfInBounds_toArray, List.set_cons_zero, List.set_cons_succ]
  refine wpAnyH_take (i := 7) (oi := { dst := some 23, op := Go.Op.move (Go.Operand.tmp 3), type := 3, pos := "law.go:33", after := #[], guard := none }) (v := ?_) rfl (by kernel_rfl) (by kernel_rfl) (by kernel_rfl) (fun _ _ _ h => h) (Or.inl ⟨by rfl, ?_⟩) HH3.out ?_
  rotate_left
  · (intro w' hSw; (try dsimp only at hSw); go_simp <;> (with_reducible rfl))
  try simp only [Act.put, List.setIfInBounds_toArray, List.set_cons_zero, List.set_cons_succ]
  refine wpAnyH_take (i := 9) (oi := { dst := some 25, op := Go.Op.load 67 (Go.Operand.tmp 4), type := 67, pos := "law.go:33", after := #[], guard := none }) (v := .agg x.cs) rfl (by kernel_rfl) (by kernel_rfl) (by kernel_rfl) (fun _ _ _ h => h) (yieldsIf_load_mid (by rfl) _ _ rfl B 0 rfl x.cs.toList _ (fun w' hw => range_blk hw) Try.underlying67 rfl (by rw [infoF]; rfl)) HH3.out ?_
  try simp only [Act.put, List.setIfInBounds_toArray, List.set_cons_zero, List.set_cons_succ]
  refine wpAnyH_take (i := 10) (oi := { dst := some 26, op := Go.Op.move (Go.Operand.tmp 1), type := 3, pos := "law.go:33", after := #[], guard := none }) (v := ?_) rfl (by kernel_rfl) (by kernel_rfl) (by kernel_rfl) (fun _ _ _ h => h) (Or.inl ⟨by rfl, ?_⟩) HH3.out ?_
  rotate_left
  · (intro w' hSw; (try dsimp only at hSw); go_simp <;> (with_reducible rfl))
  try simp only [Act.put, List.setIfInBounds_toArray, List.set_cons_zero, List.set_cons_succ]
  have hwd : Below w3.heap.size w3 w3.drew := by go_grown
  refine st_start (wR := w3.drew) (by kernel_rfl) (by kernel_rfl) HH3.out (Below.refl _ _) ?_
  intro a10 a11 a12 w5 hb5 e10 e11 e12
  refine NoPanic.normal ?_
  have hb35 : Below w3.heap.size w3 w5 := hwd.trans (hb5.mono hwd.size)
  have HE := Lib.hid (And.intro e10 (And.intro e11 e12))
  have HB5 := Lib.hid (HB3.out.trans (hb35.mono HB3.out.size))
  have HH5 := Lib.hid ((hb35.block _ (lt_of_heap HH3.out)).trans HH3.out)
  have HK5 := Lib.hid ((hb35.block _ (lt_of_heap HK3.out)).trans HK3.out)
  clear hwd hb5 e10 e11 e12 hb35 HB3 HH3 HK3
  have hq0 : ∀ w, (Instr.build 67 #[(0, .int .i64 1)]).run Try.prog w = .ok (.agg #[.int .i64 1, .int .i64 0, .int .i64 0, .int .i64 0, .int .i64 0, .int .i64 0, .int .i64 0, .int .i64 0, .int .i64 0, .int .i64 0, .int .i64 0, .int .i64 0, .bool false, .bool false, .int .i64 0, .int .i64 0, .int .i64 0, .int .i64 0, .int .i64 0]) w := fun w => run_build w 67 _ _ (by kernel_rfl)
  have hq1 := b_child x own fn
  have hq2 := b_loop x own fn serial
  have hq3 := b_iter x own
  have he0 : ∀ w, (binOp .eql 67 (.agg #[.int .i64 1, .int .i64 0, .int .i64 0, .int .i64 0, .int .i64 0, .int .i64 0, .int .i64 0, .int .i64 0, .int .i64 0, .int .i64 0, .int .i64 0, .int .i64 0, .bool false, .bool false, .int .i64 0, .int .i64 0, .int .i64 0, .int .i64 0, .int .i64 0]) (.agg #[.int .i64 1, .int .i64 0, .int .i64 0, .int .i64 0, .int .i64 0, .int .i64 0, .int .i64 0, .int .i64 0, .int .i64 0, .int .i64 0, .int .i64 0, .int .i64 0, .bool false, .bool false, .int .i64 0, .int .i64 0, .int .i64 0, .int .i64 0, .int .i64 0])).run Try.prog w = .ok (.bool true) w := fun w => eq_frame Fm.root w
  have he1 : ∀ w, (binOp .eql 67 (.agg (x.child own fn).cs) (.agg (x.child own fn).cs)).run Try.prog w = .ok (.bool true) w := fun w => eq_frame _ w
  have he2 : ∀ w, (binOp .eql 67 (.agg (x.loop own fn serial).cs) (.agg (x.loop own fn serial).cs)).run Try.prog w = .ok (.bool true) w := fun w => eq_frame _ w
  have he3 : ∀ w, (binOp .eql 67 (.agg (x.iter own).cs) (.agg (x.iter own).cs)).run Try.prog w = .ok (.bool true) w := fun w => eq_frame _ w
  have he4 : ∀ w, (binOp .eql 67 (.agg x.cs) (.agg x.cs)).run Try.prog w = .ok (.bool true) w := fun w => eq_frame _ w
  go_upto_region 5 with (fail)
  refine wp_region_lit ?_
  refine wpList_step (fun K2 hK2 => ?_)
  go_simp
  refine (root_of _).mono ?_
  rintro e w6 ⟨rfl, hb6⟩
  try simp only [go_sem]
  have HB6 := Lib.hid (HB5.out.trans (hb6.mono HB5.out.size))
  have kB := (hb6.block _ (lt_of_heap HH5.out)).trans HH5.out
  have kK := (hb6.block _ (lt_of_heap HK5.out)).trans HK5.out
  have k10 := (hb6.block _ (lt_of_heap HE.out.1)).trans HE.out.1
  have k11 := (hb6.block _ (lt_of_heap HE.out.2.1)).trans HE.out.2.1
  have k12 := (hb6.block _ (lt_of_heap HE.out.2.2)).trans HE.out.2.2
  have c1 : w6.cell? ⟨B, 1, none⟩ = some (.int .i64 x.f) := by simp [World.cell?, kB, Fm.cs]
  have c17 : w6.cell? ⟨B, 17, none⟩ = some (.int .i64 x.sd) := by simp [World.cell?, kB, Fm.cs]
  have HKB := Lib.hid kB
  have HKK := Lib.hid kK
  have H10 := Lib.hid k10
  have H11 := Lib.hid k11
  have H12 := Lib.hid k12
  clear hb6 kB kK k10 k11 k12 HE HB5 HH5 HK5
  refine hK2 _ _ ?_
  clear hK2 K2
  refine wpList_step (fun K2 hK2 => ?_)
  go_simp
  refine hK2 _ _ ?_
  clear hK2 K2
  refine wpList_step (fun K2 hK2 => ?_)
  go_simp
  refine hK2 _ _ ?_
  clear hK2 K2
  refine wpList_step (fun K2 hK2 => ?_)
  go_simp
  refine hK2 _ _ ?_
  clear hK2 K2
  refine wpList_step (fun K2 hK2 => ?_)
  rw [if_pos (by rfl)]
  refine wp_load19 _ rfl a10 rfl (x.child own fn).cs rfl H10.out ?_
  refine hK2 _ _ ?_
  clear hK2 K2
  try simp only [Act.put, List.setIfInBounds_toArray, List.set_cons_zero, List.set_cons_succ]
  refine wpList_step (fun K2 hK2 => ?_)
  go_simp
  refine hK2 _ _ ?_
  clear hK2 K2
  refine wpList_step (fun K2 hK2 => ?_)
  go_simp
  refine hK2 _ _ ?_
  clear hK2 K2
  refine wpList_step (fun K2 hK2 => ?_)
  rw [if_pos (by rfl)]
  refine wp_load8 _ rfl B rfl x HKB.out ?_
  refine hK2 _ _ ?_
  clear hK2 K2
  try simp only [Act.put, List.setIfInBounds_toArray, List.set_cons_zero, List.set_cons_succ]
  refine wpList_step (fun K2 hK2 => ?_)
  go_simp
  refine hK2 _ _ ?_
  clear hK2 K2
  refine wpList_step (fun K2 hK2 => ?_)
  rw [if_pos (by rfl)]
  refine wp_build _ _ rfl #[(0, .int .i64 1), (1, .int .i64 fn), (3, .agg x.regs), (4, .int .i64 own)] (by simp [Act.eval]) (.agg (x.child own fn).cs) (hq1 _) ?_
  refine hK2 _ _ ?_
  clear hK2 K2
  try simp only [Act.put, List.setIfInBounds_toArray, List.set_cons_zero, List.set_cons_succ]
  refine wpList_step (fun K2 hK2 => ?_)
  rw [if_pos (by rfl)]
  refine wp_eql _ rfl rfl rfl (by unfold Fm.cs; kernel_rfl) (he1 _) ?_
  refine hK2 _ _ ?_
  clear hK2 K2
  try simp only [Act.put, List.setIfInBounds_toArray, List.set_cons_zero, List.set_cons_succ]
  refine wpList_step (fun K2 hK2 => ?_)
  go_simp
  refine hK2 _ _ ?_
  clear hK2 K2
  refine wpList_step (fun K2 hK2 => ?_)
  go_simp
  refine hK2 _ _ ?_
  clear hK2 K2
  refine wpList_step (fun K2 hK2 => ?_)
  rw [if_pos (by rfl)]
  refine wp_load19 _ rfl a11 rfl (x.loop own fn serial).cs rfl H11.out ?_
  refine hK2 _ _ ?_
  clear hK2 K2
  try simp only [Act.put, List.setIfInBounds_toArray, List.set_cons_zero, List.set_cons_succ]
  refine wpList_step (fun K2 hK2 => ?_)
  go_simp
  refine hK2 _ _ ?_
  clear hK2 K2
  refine wpList_step (fun K2 hK2 => ?_)
  go_simp
  refine hK2 _ _ ?_
  clear hK2 K2
  refine wpList_step (fun K2 hK2 => ?_)
  rw [if_pos (by rfl)]
  refine wp_load8 _ rfl B rfl x HKB.out ?_
  refine hK2 _ _ ?_
  clear hK2 K2
  try simp only [Act.put, List.setIfInBounds_toArray, List.set_cons_zero, List.set_cons_succ]
  refine wpList_step (fun K2 hK2 => ?_)
  go_simp
  refine hK2 _ _ ?_
  clear hK2 K2
  refine wpList_step (fun K2 hK2 => ?_)
  go_simp
  refine hK2 _ _ ?_
  clear hK2 K2
  refine wpList_step (fun K2 hK2 => ?_)
  rw [if_pos (by rfl)]
  refine wp_build _ _ rfl #[(0, .int .i64 3), (1, .int .i64 fn), (3, .agg x.regs), (4, .int .i64 own), (11, .int .i64 serial)] (by simp [Act.eval]) (.agg (x.loop own fn serial).cs) (hq2 _) ?_
  refine hK2 _ _ ?_
  clear hK2 K2
  try simp only [Act.put, List.setIfInBounds_toArray, List.set_cons_zero, List.set_cons_succ]
  refine wpList_step (fun K2 hK2 => ?_)
  rw [if_pos (by rfl)]
  refine wp_eql _ rfl rfl rfl (by unfold Fm.cs; kernel_rfl) (he2 _) ?_
  refine hK2 _ _ ?_
  clear hK2 K2
  try simp only [Act.put, List.setIfInBounds_toArray, List.set_cons_zero, List.set_cons_succ]
  refine wpList_step (fun K2 hK2 => ?_)
  go_simp
  refine hK2 _ _ ?_
  clear hK2 K2
  refine wpList_step (fun K2 hK2 => ?_)
  go_simp
  refine hK2 _ _ ?_
  clear hK2 K2
  refine wpList_step (fun K2 hK2 => ?_)
  rw [if_pos (by rfl)]
  refine wp_load19 _ rfl a12 rfl (x.iter own).cs rfl H12.out ?_
  refine hK2 _ _ ?_
  clear hK2 K2
  try simp only [Act.put, List.setIfInBounds_toArray, List.set_cons_zero, List.set_cons_succ]
  refine wpList_step (fun K2 hK2 => ?_)
  go_simp
  refine hK2 _ _ ?_
  clear hK2 K2
  refine wpList_step (fun K2 hK2 => ?_)
  go_simp
  refine hK2 _ _ ?_
  clear hK2 K2
  refine wpList_step (fun K2 hK2 => ?_)
  go_simp
  refine hK2 _ _ ?_
  clear hK2 K2
  refine wpList_step (fun K2 hK2 => ?_)
  rw [if_pos (by rfl)]
  refine wp_load8 _ rfl B rfl x HKB.out ?_
  refine hK2 _ _ ?_
  clear hK2 K2
  try simp only [Act.put, List.setIfInBounds_toArray, List.set_cons_zero, List.set_cons_succ]
  refine wpList_step (fun K2 hK2 => ?_)
  go_simp
  refine hK2 _ _ ?_
  clear hK2 K2
  refine wpList_step (fun K2 hK2 => ?_)
  go_simp
  refine hK2 _ _ ?_
  clear hK2 K2
  refine wpList_step (fun K2 hK2 => ?_)
  go_simp
  refine hK2 _ _ ?_
  clear hK2 K2
  refine wpList_step (fun K2 hK2 => ?_)
  rw [if_pos (by rfl)]
  refine wp_build _ _ rfl #[(0, .int .i64 2), (1, .int .i64 x.f), (3, .agg x.regs), (4, .int .i64 own), (7, .int .i64 x.sd)] (by simp [Act.eval]) (.agg (x.iter own).cs) (hq3 _) ?_
  refine hK2 _ _ ?_
  clear hK2 K2
  try simp only [Act.put, List.setIfInBounds_toArray, List.set_cons_zero, List.set_cons_succ]
  refine wpList_step (fun K2 hK2 => ?_)
  rw [if_pos (by rfl)]
  refine wp_eql _ rfl rfl rfl (by unfold Fm.cs; kernel_rfl) (he3 _) ?_
  refine hK2 _ _ ?_
  clear hK2 K2
  try simp only [Act.put, List.setIfInBounds_toArray, List.set_cons_zero, List.set_cons_succ]
  refine wpList_step (fun K2 hK2 => ?_)
  go_simp
  refine hK2 _ _ ?_
  clear hK2 K2
  refine wpList_step (fun K2 hK2 => ?_)
  go_simp
  refine hK2 _ _ ?_
  clear hK2 K2
  refine wpList_step (fun K2 hK2 => ?_)
  rw [if_pos (by rfl)]
  refine wp_load19 _ rfl B rfl x.cs rfl HKB.out ?_
  refine hK2 _ _ ?_
  clear hK2 K2
  try simp only [Act.put, List.setIfInBounds_toArray, List.set_cons_zero, List.set_cons_succ]
  refine wpList_step (fun K2 hK2 => ?_)
  rw [if_pos (by rfl)]
  refine wp_load19 _ rfl K rfl x.cs rfl HKK.out ?_
  refine hK2 _ _ ?_
  clear hK2 K2
  try simp only [Act.put, List.setIfInBounds_toArray, List.set_cons_zero, List.set_cons_succ]
  refine wpList_step (fun K2 hK2 => ?_)
  rw [if_pos (by rfl)]
  refine wp_eql _ rfl rfl rfl (by unfold Fm.cs; kernel_rfl) (he4 _) ?_
  refine hK2 _ _ ?_
  clear hK2 K2
  try simp only [Act.put, List.setIfInBounds_toArray, List.set_cons_zero, List.set_cons_succ]
  refine wpList_step (fun K2 hK2 => ?_)
  go_simp
  refine hK2 _ _ ?_
  clear hK2 K2
  refine wpList_step (fun K2 hK2 => ?_)
  go_simp
  refine hK2 _ _ ?_
  clear hK2 K2
  refine wpList_nil ?_
  clear hq0 hq1 hq2 hq3 he0 he1 he2 he3 he4 c1 c17
  go_wp2_with fail
  go_ret
  exact ⟨rfl, HB6.out⟩
theorem walk (x0 : Fm) (a1 a2 a3 : Int) (w : World) (w1 : (Lit.int .i64 a1).wf = true) (w2 : (Lit.int .i64 a2).wf = true) (w3 : (Lit.int .i64 a3).wf = true) :
    Calls Try.prog 8 #[.agg x0.cs, .int .i64 a1, .int .i64 a2, .int .i64 a3] w fun e w' => e = .returned (.bool true) ∧ Below w.heap.size w w' := core x0 a1 a2 a3 w
end Go.Proofs.Ytajmmglfdinahaa.frameMakes
