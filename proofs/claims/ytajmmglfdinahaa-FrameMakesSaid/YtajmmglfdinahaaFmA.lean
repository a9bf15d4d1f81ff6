/- Frames by value: any frame, and those that come of it (layer 16). -/
import Derived.Test.YtajmmglfdinahaaFtB
namespace Go.Proofs.Ytajmmglfdinahaa.fm
open Go.ChangeShapes Go.WideShapes Go.ChangeAt Go.RowKit
open Go.Proofs.Ytajmmglfdinahaa.fr
open Go.Proofs.Ytajmmglfdinahaa.ft (range_blk there_blk put_blk below_put zcs)
attribute [local go_sem ↓] Go.wp_at_zero Go.wp_at_succ
set_option linter.unusedVariables false
set_option linter.unusedSimpArgs false
structure Fm where
  k : Int
  f : Int
  p : Int
  r0 : Int
  r1 : Int
  r2 : Int
  r3 : Int
  r4 : Int
  r5 : Int
  r6 : Int
  r7 : Int
  pa : Int
  d : Bool
  u : Bool
  ix : Int
  st : Int
  fo : Int
  sd : Int
  se : Int
def Fm.cs (x : Fm) : Array Value := #[.int .i64 x.k, .int .i64 x.f, .int .i64 x.p, .int .i64 x.r0, .int .i64 x.r1, .int .i64 x.r2, .int .i64 x.r3, .int .i64 x.r4, .int .i64 x.r5, .int .i64 x.r6, .int .i64 x.r7, .int .i64 x.pa, .bool x.d, .bool x.u, .int .i64 x.ix, .int .i64 x.st, .int .i64 x.fo, .int .i64 x.sd, .int .i64 x.se]
def Fm.regs (x : Fm) : Array Value := #[.int .i64 x.r0, .int .i64 x.r1, .int .i64 x.r2, .int .i64 x.r3, .int .i64 x.r4, .int .i64 x.r5, .int .i64 x.r6, .int .i64 x.r7]
def Fm.root : Fm := ⟨1, 0, 0, 0, 0, 0, 0, 0, 0, 0, 0, 0, false, false, 0, 0, 0, 0, 0⟩
def Fm.child (x : Fm) (own fn : Int) : Fm := ⟨1, fn, 0, x.r0, x.r1, x.r2, x.r3, x.r4, x.r5, x.r6, x.r7, own, false, false, 0, 0, 0, 0, 0⟩
def Fm.loop (x : Fm) (own fn serial : Int) : Fm := ⟨3, fn, 0, x.r0, x.r1, x.r2, x.r3, x.r4, x.r5, x.r6, x.r7, own, false, false, 0, 0, 0, 0, serial⟩
def Fm.iter (x : Fm) (own : Int) : Fm := ⟨2, x.f, 0, x.r0, x.r1, x.r2, x.r3, x.r4, x.r5, x.r6, x.r7, own, false, false, x.sd, 0, 0, 0, 0⟩
theorem okWide_row {P : Program} {w : World} {r : Reach} {b : Nat} {t : TypeId} {fs : Array Field} {v : Value} (ht : P.underlying t = some (.struct fs)) (h : Value.okWide P w r b t v) : ∃ cs, v = .agg cs ∧ cs.size = P.cellsOf t ∧ Row.okWide P w r b t cs := by
  unfold Value.okWide at h
  rw [ht] at h
  exact h
theorem cell_int {P : Program} {w : World} {r : Reach} {b : Nat} {t : TypeId} {k : IntKind} {v : Value} (ht : P.underlying t = some (.int k)) (h : Cell.okWide P w r b t v) : ∃ n, v = .int k n := okWide_int ht (by unfold Value.okWide; rw [ht]; exact h)
theorem cell_bool {P : Program} {w : World} {r : Reach} {b : Nat} {t : TypeId} {v : Value} (ht : P.underlying t = some .bool) (h : Cell.okWide P w r b t v) : ∃ n, v = .bool n := okWide_bool ht (by unfold Value.okWide; rw [ht]; exact h)
set_option maxRecDepth 20000 in
theorem open_frame {w : World} {v : Value} {b : Nat} (h : Value.okWide Try.prog w .any b 67 v) : ∃ x : Fm, v = .agg x.cs := by
  obtain ⟨cs, rfl, hsz, ts, hts, _, hc⟩ := okWide_row Try.underlying67 h
  have e : Try.prog.cellTypes Try.prog.depth 67 = some [3, 3, 3, 3, 3, 3, 3, 3, 3, 3, 3, 3, 4, 4, 3, 3, 3, 3, 3] := by kernel_rfl
  rw [e] at hts
  injection hts with hts
  subst hts
  have hs19 : cs.size = 19 := by rw [hsz]; kernel_rfl
  have int : ∀ i, i < 19 → ([3, 3, 3, 3, 3, 3, 3, 3, 3, 3, 3, 3, 4, 4, 3, 3, 3, 3, 3] : List TypeId)[i]? = some 3 → ∃ n, cs[i]? = some (.int .i64 n) := fun i hi ht => by
    have hv : cs[i]? = some (cs[i]'(by omega)) := Array.getElem?_eq_getElem (by omega)
    obtain ⟨u, hu, hk⟩ := hc i _ hv
    have e2 : i % ([3, 3, 3, 3, 3, 3, 3, 3, 3, 3, 3, 3, 4, 4, 3, 3, 3, 3, 3] : List TypeId).length = i := Nat.mod_eq_of_lt hi
    rw [e2, ht] at hu
    injection hu with hu
    subst hu
    obtain ⟨n, hn⟩ := cell_int Try.underlying3 hk
    exact ⟨n, by rw [hv, hn]⟩
  have bool : ∀ i, i < 19 → ([3, 3, 3, 3, 3, 3, 3, 3, 3, 3, 3, 3, 4, 4, 3, 3, 3, 3, 3] : List TypeId)[i]? = some 4 → ∃ n, cs[i]? = some (.bool n) := fun i hi ht => by
    have hv : cs[i]? = some (cs[i]'(by omega)) := Array.getElem?_eq_getElem (by omega)
    obtain ⟨u, hu, hk⟩ := hc i _ hv
    have e2 : i % ([3, 3, 3, 3, 3, 3, 3, 3, 3, 3, 3, 3, 4, 4, 3, 3, 3, 3, 3] : List TypeId).length = i := Nat.mod_eq_of_lt hi
    rw [e2, ht] at hu
    injection hu with hu
    subst hu
    obtain ⟨n, hn⟩ := cell_bool Try.underlying4 hk
    exact ⟨n, by rw [hv, hn]⟩
  obtain ⟨a0, h0⟩ := int 0 (by omega) rfl
  obtain ⟨a1, h1⟩ := int 1 (by omega) rfl
  obtain ⟨a2, h2⟩ := int 2 (by omega) rfl
  obtain ⟨a3, h3⟩ := int 3 (by omega) rfl
  obtain ⟨a4, h4⟩ := int 4 (by omega) rfl
  obtain ⟨a5, h5⟩ := int 5 (by omega) rfl
  obtain ⟨a6, h6⟩ := int 6 (by omega) rfl
  obtain ⟨a7, h7⟩ := int 7 (by omega) rfl
  obtain ⟨a8, h8⟩ := int 8 (by omega) rfl
  obtain ⟨a9, h9⟩ := int 9 (by omega) rfl
  obtain ⟨a10, h10⟩ := int 10 (by omega) rfl
  obtain ⟨a11, h11⟩ := int 11 (by omega) rfl
  obtain ⟨a12, h12⟩ := bool 12 (by omega) rfl
  obtain ⟨a13, h13⟩ := bool 13 (by omega) rfl
  obtain ⟨a14, h14⟩ := int 14 (by omega) rfl
  obtain ⟨a15, h15⟩ := int 15 (by omega) rfl
  obtain ⟨a16, h16⟩ := int 16 (by omega) rfl
  obtain ⟨a17, h17⟩ := int 17 (by omega) rfl
  obtain ⟨a18, h18⟩ := int 18 (by omega) rfl
  refine ⟨⟨a0, a1, a2, a3, a4, a5, a6, a7, a8, a9, a10, a11, a12, a13, a14, a15, a16, a17, a18⟩, ?_⟩
  congr 1
  apply Array.ext_getElem?
  intro i
  by_cases hi : i < 19
  · match i, hi with
    | 0, _ => exact h0
    | 1, _ => exact h1
    | 2, _ => exact h2
    | 3, _ => exact h3
    | 4, _ => exact h4
    | 5, _ => exact h5
    | 6, _ => exact h6
    | 7, _ => exact h7
    | 8, _ => exact h8
    | 9, _ => exact h9
    | 10, _ => exact h10
    | 11, _ => exact h11
    | 12, _ => exact h12
    | 13, _ => exact h13
    | 14, _ => exact h14
    | 15, _ => exact h15
    | 16, _ => exact h16
    | 17, _ => exact h17
    | 18, _ => exact h18
    | i + 19, hi => exact absurd hi (by omega)
  · rw [Array.getElem?_eq_none (by omega), Array.getElem?_eq_none (by simp [Fm.cs]; omega)]
theorem regs_at {w : World} {q : Nat} {x : Fm} {t : TypeId} (h : w.heap[q]? = some (.cells x.cs t (0, 0))) : w.rangeAt q 3 x.regs.toList := fun j v hv => by
  have := range_blk h (3 + j) v
  rw [Nat.zero_add] at this
  refine this ?_
  have hj : j < 8 := by
    have := (List.getElem?_eq_some_iff.1 hv).1
    simpa [Fm.regs] using this
  match j, hj with
  | 0, _ => exact hv
  | 1, _ => exact hv
  | 2, _ => exact hv
  | 3, _ => exact hv
  | 4, _ => exact hv
  | 5, _ => exact hv
  | 6, _ => exact hv
  | 7, _ => exact hv
theorem info65 : (Try.prog.info? 65).map (·.size) = some 8 := by kernel_rfl
theorem res19 {fn : Func} {i q : Nat} (h : fn.results = #[.cell i 67]) {w : World} {c : Array Value} (tmps : Array Value) (h0 : tmps.getD i undef = .pointer (some ⟨q, 0, none⟩)) (hb : w.heap[q]? = some (.cells c 67 (0, 0))) (hc : c.size = 19) : (results fn tmps).run Try.prog w = .ok (.agg c) w := by
  rw [results_cell1 h, h0]
  simp only [asAddr, Sem.run_pure, Result.andThen_ok]
  exact run_loadVar_row _ _ 67 67 c (0, 0) _ hb Try.underlying67 rfl (by rw [infoF, hc])
set_option maxRecDepth 20000 in
set_option maxHeartbeats 1000000 in
theorem child_lit (k f p r0 r1 r2 r3 r4 r5 r6 r7 pa : Int) (d u : Bool) (ix st fo sd se : Int) (own fn : Int) (w : World) : Calls Try.prog 43 #[.agg #[.int .i64 k, .int .i64 f, .int .i64 p, .int .i64 r0, .int .i64 r1, .int .i64 r2, .int .i64 r3, .int .i64 r4, .int .i64 r5, .int .i64 r6, .int .i64 r7, .int .i64 pa, .bool d, .bool u, .int .i64 ix, .int .i64 st, .int .i64 fo, .int .i64 sd, .int .i64 se], .int .i64 own, .int .i64 fn] w fun e w' => e = .returned (.agg #[.int .i64 1, .int .i64 fn, .int .i64 0, .int .i64 r0, .int .i64 r1, .int .i64 r2, .int .i64 r3, .int .i64 r4, .int .i64 r5, .int .i64 r6, .int .i64 r7, .int .i64 own, .bool false, .bool false, .int .i64 0, .int .i64 0, .int .i64 0, .int .i64 0, .int .i64 0]) ∧ Below w.heap.size w w' := by
  have hbd : ∀ w, (Instr.build 67 #[(0, .int .i64 1), (1, .int .i64 fn), (3, .agg #[.int .i64 r0, .int .i64 r1, .int .i64 r2, .int .i64 r3, .int .i64 r4, .int .i64 r5, .int .i64 r6, .int .i64 r7]), (4, .int .i64 own)]).run Try.prog w = .ok (.agg #[.int .i64 1, .int .i64 fn, .int .i64 0, .int .i64 r0, .int .i64 r1, .int .i64 r2, .int .i64 r3, .int .i64 r4, .int .i64 r5, .int .i64 r6, .int .i64 r7, .int .i64 own, .bool false, .bool false, .int .i64 0, .int .i64 0, .int .i64 0, .int .i64 0, .int .i64 0]) w := fun w => run_build w 67 _ _ (by kernel_rfl)
  go_enter Try.func43, Try.ntmps43
  go_upto_region 1 with (fail)
  obtain ⟨W, hW⟩ : ∃ W, (w.alloc (Obj.cells #[.int .i64 k, .int .i64 f, .int .i64 p, .int .i64 r0, .int .i64 r1, .int .i64 r2, .int .i64 r3, .int .i64 r4, .int .i64 r5, .int .i64 r6, .int .i64 r7, .int .i64 pa, .bool d, .bool u, .int .i64 ix, .int .i64 st, .int .i64 fo, .int .i64 sd, .int .i64 se] 67)).alloc (Obj.cells #[.int .i64 0, .int .i64 0, .int .i64 0, .int .i64 0, .int .i64 0, .int .i64 0, .int .i64 0, .int .i64 0, .int .i64 0, .int .i64 0, .int .i64 0, .int .i64 0, .bool false, .bool false, .int .i64 0, .int .i64 0, .int .i64 0, .int .i64 0, .int .i64 0] 67) = W := ⟨_, rfl⟩
  have hb : Below w.heap.size w W := by rw [← hW]; go_grown
  have h0 : W.heap[w.heap.size]? = some (.cells #[.int .i64 k, .int .i64 f, .int .i64 p, .int .i64 r0, .int .i64 r1, .int .i64 r2, .int .i64 r3, .int .i64 r4, .int .i64 r5, .int .i64 r6, .int .i64 r7, .int .i64 pa, .bool d, .bool u, .int .i64 ix, .int .i64 st, .int .i64 fo, .int .i64 sd, .int .i64 se] 67 (0, 0)) := by
    rw [← hW]
    exact ((show Below (w.alloc (Obj.cells #[.int .i64 k, .int .i64 f, .int .i64 p, .int .i64 r0, .int .i64 r1, .int .i64 r2, .int .i64 r3, .int .i64 r4, .int .i64 r5, .int .i64 r6, .int .i64 r7, .int .i64 pa, .bool d, .bool u, .int .i64 ix, .int .i64 st, .int .i64 fo, .int .i64 sd, .int .i64 se] 67)).heap.size (w.alloc (Obj.cells #[.int .i64 k, .int .i64 f, .int .i64 p, .int .i64 r0, .int .i64 r1, .int .i64 r2, .int .i64 r3, .int .i64 r4, .int .i64 r5, .int .i64 r6, .int .i64 r7, .int .i64 pa, .bool d, .bool u, .int .i64 ix, .int .i64 st, .int .i64 fo, .int .i64 sd, .int .i64 se] 67)) _ by go_grown).block _ (by simp)).trans (heap_alloc_new _ _)
  have h1 : W.heap[w.heap.size + 1]? = some (.cells #[.int .i64 0, .int .i64 0, .int .i64 0, .int .i64 0, .int .i64 0, .int .i64 0, .int .i64 0, .int .i64 0, .int .i64 0, .int .i64 0, .int .i64 0, .int .i64 0, .bool false, .bool false, .int .i64 0, .int .i64 0, .int .i64 0, .int .i64 0, .int .i64 0] 67 (0, 0)) := by
    have := heap_alloc_new (w.alloc (Obj.cells #[.int .i64 k, .int .i64 f, .int .i64 p, .int .i64 r0, .int .i64 r1, .int .i64 r2, .int .i64 r3, .int .i64 r4, .int .i64 r5, .int .i64 r6, .int .i64 r7, .int .i64 pa, .bool d, .bool u, .int .i64 ix, .int .i64 st, .int .i64 fo, .int .i64 sd, .int .i64 se] 67)) (Obj.cells #[.int .i64 0, .int .i64 0, .int .i64 0, .int .i64 0, .int .i64 0, .int .i64 0, .int .i64 0, .int .i64 0, .int .i64 0, .int .i64 0, .int .i64 0, .int .i64 0, .bool false, .bool false, .int .i64 0, .int .i64 0, .int .i64 0, .int .i64 0, .int .i64 0] 67)
    rw [World.size_alloc, hW] at this
    exact this
  rw [hW]
  have k1 : W.cell? ⟨w.heap.size, 1, none⟩ = some (.int .i64 f) := by simp [World.cell?, h0]
  have k10 : W.cell? ⟨w.heap.size, 17, none⟩ = some (.int .i64 sd) := by simp [World.cell?, h0]
  have hreg : W.rangeAt w.heap.size 3 [.int .i64 r0, .int .i64 r1, .int .i64 r2, .int .i64 r3, .int .i64 r4, .int .i64 r5, .int .i64 r6, .int .i64 r7] := regs_at (x := ⟨k, f, p, r0, r1, r2, r3, r4, r5, r6, r7, pa, d, u, ix, st, fo, sd, se⟩) h0
  obtain ⟨p1, p2, p3⟩ := put_blk (vs := #[.int .i64 1, .int .i64 fn, .int .i64 0, .int .i64 r0, .int .i64 r1, .int .i64 r2, .int .i64 r3, .int .i64 r4, .int .i64 r5, .int .i64 r6, .int .i64 r7, .int .i64 own, .bool false, .bool false, .int .i64 0, .int .i64 0, .int .i64 0, .int .i64 0, .int .i64 0]) h1 rfl
  have hbF := below_put (w.heap.size + 1) (Nat.le_succ _) (Array.toList #[.int .i64 1, .int .i64 fn, .int .i64 0, .int .i64 r0, .int .i64 r1, .int .i64 r2, .int .i64 r3, .int .i64 r4, .int .i64 r5, .int .i64 r6, .int .i64 r7, .int .i64 own, .bool false, .bool false, .int .i64 0, .int .i64 0, .int .i64 0, .int .i64 0, .int .i64 0]) 0 hb
  have hth := there_blk h1
  obtain ⟨V, hV⟩ : ∃ V, W.setCells (w.heap.size + 1) 0 (Array.toList #[.int .i64 1, .int .i64 fn, .int .i64 0, .int .i64 r0, .int .i64 r1, .int .i64 r2, .int .i64 r3, .int .i64 r4, .int .i64 r5, .int .i64 r6, .int .i64 r7, .int .i64 own, .bool false, .bool false, .int .i64 0, .int .i64 0, .int .i64 0, .int .i64 0, .int .i64 0]) = V := ⟨_, rfl⟩
  rw [hV] at p1 hbF
  have HF := Lib.hid (And.intro p1 hbF)
  have HV := Lib.hid hV
  clear hW hb p1 p2 p3 hbF h0 h1 hV
  refine wp_region_lit ?_
  refine wpList_step (fun K2 hK2 => ?_)
  go_simp
  refine hK2 _ _ ?_
  clear hK2 K2
  refine wpList_step (fun K2 hK2 => ?_)
  go_simp
  refine hK2 _ _ ?_
  clear hK2 K2
  refine wpList_load_mid rfl _ _ rfl w.heap.size 3 rfl [.int .i64 r0, .int .i64 r1, .int .i64 r2, .int .i64 r3, .int .i64 r4, .int .i64 r5, .int .i64 r6, .int .i64 r7] _ hreg Try.underlying65 rfl (by rw [info65]; rfl) ?_
  refine wpList_step (fun K2 hK2 => ?_)
  go_simp
  refine hK2 _ _ ?_
  clear hK2 K2
  refine wpList_step (fun K2 hK2 => ?_)
  go_simp
  refine hK2 _ _ ?_
  clear hK2 K2
  refine wpList_store_mid rfl _ _ _ rfl (w.heap.size + 1) 0 #[.int .i64 1, .int .i64 fn, .int .i64 0, .int .i64 r0, .int .i64 r1, .int .i64 r2, .int .i64 r3, .int .i64 r4, .int .i64 r5, .int .i64 r6, .int .i64 r7, .int .i64 own, .bool false, .bool false, .int .i64 0, .int .i64 0, .int .i64 0, .int .i64 0, .int .i64 0] rfl rfl hth (by rw [infoF]; rfl) (by simp [Value.oneCell']) ?_
  rw [HV.out]
  refine wpList_nil ?_
  clear hbd k1 k10 hreg hth HV
  go_wp2_with fail
  exact bodyPost_ret (res19 rfl _ rfl HF.out.1 rfl) rfl ⟨rfl, HF.out.2⟩
theorem child_of (x : Fm) (own fn : Int) (w : World) : Calls Try.prog 43 #[.agg x.cs, .int .i64 own, .int .i64 fn] w fun e w' => e = .returned (.agg (x.child own fn).cs) ∧ Below w.heap.size w w' :=
  child_lit x.k x.f x.p x.r0 x.r1 x.r2 x.r3 x.r4 x.r5 x.r6 x.r7 x.pa x.d x.u x.ix x.st x.fo x.sd x.se own fn w
set_option maxRecDepth 20000 in
set_option maxHeartbeats 1000000 in
theorem loop_lit (k f p r0 r1 r2 r3 r4 r5 r6 r7 pa : Int) (d u : Bool) (ix st fo sd se : Int) (own fn serial : Int) (w : World) : Calls Try.prog 44 #[.agg #[.int .i64 k, .int .i64 f, .int .i64 p, .int .i64 r0, .int .i64 r1, .int .i64 r2, .int .i64 r3, .int .i64 r4, .int .i64 r5, .int .i64 r6, .int .i64 r7, .int .i64 pa, .bool d, .bool u, .int .i64 ix, .int .i64 st, .int .i64 fo, .int .i64 sd, .int .i64 se], .int .i64 own, .int .i64 fn, .int .i64 serial] w fun e w' => e = .returned (.agg #[.int .i64 3, .int .i64 fn, .int .i64 0, .int .i64 r0, .int .i64 r1, .int .i64 r2, .int .i64 r3, .int .i64 r4, .int .i64 r5, .int .i64 r6, .int .i64 r7, .int .i64 own, .bool false, .bool false, .int .i64 0, .int .i64 0, .int .i64 0, .int .i64 0, .int .i64 serial]) ∧ Below w.heap.size w w' := by
  have hbd : ∀ w, (Instr.build 67 #[(0, .int .i64 3), (1, .int .i64 fn), (3, .agg #[.int .i64 r0, .int .i64 r1, .int .i64 r2, .int .i64 r3, .int .i64 r4, .int .i64 r5, .int .i64 r6, .int .i64 r7]), (4, .int .i64 own), (11, .int .i64 serial)]).run Try.prog w = .ok (.agg #[.int .i64 3, .int .i64 fn, .int .i64 0, .int .i64 r0, .int .i64 r1, .int .i64 r2, .int .i64 r3, .int .i64 r4, .int .i64 r5, .int .i64 r6, .int .i64 r7, .int .i64 own, .bool false, .bool false, .int .i64 0, .int .i64 0, .int .i64 0, .int .i64 0, .int .i64 serial]) w := fun w => run_build w 67 _ _ (by kernel_rfl)
  go_enter Try.func44, Try.ntmps44
  go_upto_region 1 with (fail)
  obtain ⟨W, hW⟩ : ∃ W, (w.alloc (Obj.cells #[.int .i64 k, .int .i64 f, .int .i64 p, .int .i64 r0, .int .i64 r1, .int .i64 r2, .int .i64 r3, .int .i64 r4, .int .i64 r5, .int .i64 r6, .int .i64 r7, .int .i64 pa, .bool d, .bool u, .int .i64 ix, .int .i64 st, .int .i64 fo, .int .i64 sd, .int .i64 se] 67)).alloc (Obj.cells #[.int .i64 0, .int .i64 0, .int .i64 0, .int .i64 0, .int .i64 0, .int .i64 0, .int .i64 0, .int .i64 0, .int .i64 0, .int .i64 0, .int .i64 0, .int .i64 0, .bool false, .bool false, .int .i64 0, .int .i64 0, .int .i64 0, .int .i64 0, .int .i64 0] 67) = W := ⟨_, rfl⟩
  have hb : Below w.heap.size w W := by rw [← hW]; go_grown
  have h0 : W.heap[w.heap.size]? = some (.cells #[.int .i64 k, .int .i64 f, .int .i64 p, .int .i64 r0, .int .i64 r1, .int .i64 r2, .int .i64 r3, .int .i64 r4, .int .i64 r5, .int .i64 r6, .int .i64 r7, .int .i64 pa, .bool d, .bool u, .int .i64 ix, .int .i64 st, .int .i64 fo, .int .i64 sd, .int .i64 se] 67 (0, 0)) := by
    rw [← hW]
    exact ((show Below (w.alloc (Obj.cells #[.int .i64 k, .int .i64 f, .int .i64 p, .int .i64 r0, .int .i64 r1, .int .i64 r2, .int .i64 r3, .int .i64 r4, .int .i64 r5, .int .i64 r6, .int .i64 r7, .int .i64 pa, .bool d, .bool u, .int .i64 ix, .int .i64 st, .int .i64 fo, .int .i64 sd, .int .i64 se] 67)).heap.size (w.alloc (Obj.cells #[.int .i64 k, .int .i64 f, .int .i64 p, .int .i64 r0, .int .i64 r1, .int .i64 r2, .int .i64 r3, .int .i64 r4, .int .i64 r5, .int .i64 r6, .int .i64 r7, .int .i64 pa, .bool d, .bool u, .int .i64 ix, .int .i64 st, .int .i64 fo, .int .i64 sd, .int .i64 se] 67)) _ by go_grown).block _ (by simp)).trans (heap_alloc_new _ _)
  have h1 : W.heap[w.heap.size + 1]? = some (.cells #[.int .i64 0, .int .i64 0, .int .i64 0, .int .i64 0, .int .i64 0, .int .i64 0, .int .i64 0, .int .i64 0, .int .i64 0, .int .i64 0, .int .i64 0, .int .i64 0, .bool false, .bool false, .int .i64 0, .int .i64 0, .int .i64 0, .int .i64 0, .int .i64 0] 67 (0, 0)) := by
    have := heap_alloc_new (w.alloc (Obj.cells #[.int .i64 k, .int .i64 f, .int .i64 p, .int .i64 r0, .int .i64 r1, .int .i64 r2, .int .i64 r3, .int .i64 r4, .int .i64 r5, .int .i64 r6, .int .i64 r7, .int .i64 pa, .bool d, .bool u, .int .i64 ix, .int .i64 st, .int .i64 fo, .int .i64 sd, .int .i64 se] 67)) (Obj.cells #[.int .i64 0, .int .i64 0, .int .i64 0, .int .i64 0, .int .i64 0, .int .i64 0, .int .i64 0, .int .i64 0, .int .i64 0, .int .i64 0, .int .i64 0, .int .i64 0, .bool false, .bool false, .int .i64 0, .int .i64 0, .int .i64 0, .int .i64 0, .int .i64 0] 67)
    rw [World.size_alloc, hW] at this
    exact this
  rw [hW]
  have k1 : W.cell? ⟨w.heap.size, 1, none⟩ = some (.int .i64 f) := by simp [World.cell?, h0]
  have k10 : W.cell? ⟨w.heap.size, 17, none⟩ = some (.int .i64 sd) := by simp [World.cell?, h0]
  have hreg : W.rangeAt w.heap.size 3 [.int .i64 r0, .int .i64 r1, .int .i64 r2, .int .i64 r3, .int .i64 r4, .int .i64 r5, .int .i64 r6, .int .i64 r7] := regs_at (x := ⟨k, f, p, r0, r1, r2, r3, r4, r5, r6, r7, pa, d, u, ix, st, fo, sd, se⟩) h0
  obtain ⟨p1, p2, p3⟩ := put_blk (vs := #[.int .i64 3, .int .i64 fn, .int .i64 0, .int .i64 r0, .int .i64 r1, .int .i64 r2, .int .i64 r3, .int .i64 r4, .int .i64 r5, .int .i64 r6, .int .i64 r7, .int .i64 own, .bool false, .bool false, .int .i64 0, .int .i64 0, .int .i64 0, .int .i64 0, .int .i64 serial]) h1 rfl
  have hbF := below_put (w.heap.size + 1) (Nat.le_succ _) (Array.toList #[.int .i64 3, .int .i64 fn, .int .i64 0, .int .i64 r0, .int .i64 r1, .int .i64 r2, .int .i64 r3, .int .i64 r4, .int .i64 r5, .int .i64 r6, .int .i64 r7, .int .i64 own, .bool false, .bool false, .int .i64 0, .int .i64 0, .int .i64 0, .int .i64 0, .int .i64 serial]) 0 hb
  have hth := there_blk h1
  obtain ⟨V, hV⟩ : ∃ V, W.setCells (w.heap.size + 1) 0 (Array.toList #[.int .i64 3, .int .i64 fn, .int .i64 0, .int .i64 r0, .int .i64 r1, .int .i64 r2, .int .i64 r3, .int .i64 r4, .int .i64 r5, .int .i64 r6, .int .i64 r7, .int .i64 own, .bool false, .bool false, .int .i64 0, .int .i64 0, .int .i64 0, .int .i64 0, .int .i64 serial]) = V := ⟨_, rfl⟩
  rw [hV] at p1 hbF
  have HF := Lib.hid (And.intro p1 hbF)
  have HV := Lib.hid hV
  clear hW hb p1 p2 p3 hbF h0 h1 hV
  refine wp_region_lit ?_
  refine wpList_step (fun K2 hK2 => ?_)
  go_simp
  refine hK2 _ _ ?_
  clear hK2 K2
  refine wpList_step (fun K2 hK2 => ?_)
  go_simp
  refine hK2 _ _ ?_
  clear hK2 K2
  refine wpList_load_mid rfl _ _ rfl w.heap.size 3 rfl [.int .i64 r0, .int .i64 r1, .int .i64 r2, .int .i64 r3, .int .i64 r4, .int .i64 r5, .int .i64 r6, .int .i64 r7] _ hreg Try.underlying65 rfl (by rw [info65]; rfl) ?_
  refine wpList_step (fun K2 hK2 => ?_)
  go_simp
  refine hK2 _ _ ?_
  clear hK2 K2
  refine wpList_step (fun K2 hK2 => ?_)
  go_simp
  refine hK2 _ _ ?_
  clear hK2 K2
  refine wpList_step (fun K2 hK2 => ?_)
  go_simp
  refine hK2 _ _ ?_
  clear hK2 K2
  refine wpList_store_mid rfl _ _ _ rfl (w.heap.size + 1) 0 #[.int .i64 3, .int .i64 fn, .int .i64 0, .int .i64 r0, .int .i64 r1, .int .i64 r2, .int .i64 r3, .int .i64 r4, .int .i64 r5, .int .i64 r6, .int .i64 r7, .int .i64 own, .bool false, .bool false, .int .i64 0, .int .i64 0, .int .i64 0, .int .i64 0, .int .i64 serial] rfl rfl hth (by rw [infoF]; rfl) (by simp [Value.oneCell']) ?_
  rw [HV.out]
  refine wpList_nil ?_
  clear hbd k1 k10 hreg hth HV
  go_wp2_with fail
  exact bodyPost_ret (res19 rfl _ rfl HF.out.1 rfl) rfl ⟨rfl, HF.out.2⟩
theorem loop_of (x : Fm) (own fn serial : Int) (w : World) : Calls Try.prog 44 #[.agg x.cs, .int .i64 own, .int .i64 fn, .int .i64 serial] w fun e w' => e = .returned (.agg (x.loop own fn serial).cs) ∧ Below w.heap.size w w' :=
  loop_lit x.k x.f x.p x.r0 x.r1 x.r2 x.r3 x.r4 x.r5 x.r6 x.r7 x.pa x.d x.u x.ix x.st x.fo x.sd x.se own fn serial w
set_option maxRecDepth 20000 in
set_option maxHeartbeats 1000000 in
theorem iter_lit (k f p r0 r1 r2 r3 r4 r5 r6 r7 pa : Int) (d u : Bool) (ix st fo sd se : Int) (own : Int) (w : World) : Calls Try.prog 45 #[.agg #[.int .i64 k, .int .i64 f, .int .i64 p, .int .i64 r0, .int .i64 r1, .int .i64 r2, .int .i64 r3, .int .i64 r4, .int .i64 r5, .int .i64 r6, .int .i64 r7, .int .i64 pa, .bool d, .bool u, .int .i64 ix, .int .i64 st, .int .i64 fo, .int .i64 sd, .int .i64 se], .int .i64 own] w fun e w' => e = .returned (.agg #[.int .i64 2, .int .i64 f, .int .i64 0, .int .i64 r0, .int .i64 r1, .int .i64 r2, .int .i64 r3, .int .i64 r4, .int .i64 r5, .int .i64 r6, .int .i64 r7, .int .i64 own, .bool false, .bool false, .int .i64 sd, .int .i64 0, .int .i64 0, .int .i64 0, .int .i64 0]) ∧ Below w.heap.size w w' := by
  have hbd : ∀ w, (Instr.build 67 #[(0, .int .i64 2), (1, .int .i64 f), (3, .agg #[.int .i64 r0, .int .i64 r1, .int .i64 r2, .int .i64 r3, .int .i64 r4, .int .i64 r5, .int .i64 r6, .int .i64 r7]), (4, .int .i64 own), (7, .int .i64 sd)]).run Try.prog w = .ok (.agg #[.int .i64 2, .int .i64 f, .int .i64 0, .int .i64 r0, .int .i64 r1, .int .i64 r2, .int .i64 r3, .int .i64 r4, .int .i64 r5, .int .i64 r6, .int .i64 r7, .int .i64 own, .bool false, .bool false, .int .i64 sd, .int .i64 0, .int .i64 0, .int .i64 0, .int .i64 0]) w := fun w => run_build w 67 _ _ (by kernel_rfl)
  go_enter Try.func45, Try.ntmps45
  go_upto_region 1 with (fail)
  obtain ⟨W, hW⟩ : ∃ W, (w.alloc (Obj.cells #[.int .i64 k, .int .i64 f, .int .i64 p, .int .i64 r0, .int .i64 r1, .int .i64 r2, .int .i64 r3, .int .i64 r4, .int .i64 r5, .int .i64 r6, .int .i64 r7, .int .i64 pa, .bool d, .bool u, .int .i64 ix, .int .i64 st, .int .i64 fo, .int .i64 sd, .int .i64 se] 67)).alloc (Obj.cells #[.int .i64 0, .int .i64 0, .int .i64 0, .int .i64 0, .int .i64 0, .int .i64 0, .int .i64 0, .int .i64 0, .int .i64 0, .int .i64 0, .int .i64 0, .int .i64 0, .bool false, .bool false, .int .i64 0, .int .i64 0, .int .i64 0, .int .i64 0, .int .i64 0] 67) = W := ⟨_, rfl⟩
  have hb : Below w.heap.size w W := by rw [← hW]; go_grown
  have h0 : W.heap[w.heap.size]? = some (.cells #[.int .i64 k, .int .i64 f, .int .i64 p, .int .i64 r0, .int .i64 r1, .int .i64 r2, .int .i64 r3, .int .i64 r4, .int .i64 r5, .int .i64 r6, .int .i64 r7, .int .i64 pa, .bool d, .bool u, .int .i64 ix, .int .i64 st, .int .i64 fo, .int .i64 sd, .int .i64 se] 67 (0, 0)) := by
    rw [← hW]
    exact ((show Below (w.alloc (Obj.cells #[.int .i64 k, .int .i64 f, .int .i64 p, .int .i64 r0, .int .i64 r1, .int .i64 r2, .int .i64 r3, .int .i64 r4, .int .i64 r5, .int .i64 r6, .int .i64 r7, .int .i64 pa, .bool d, .bool u, .int .i64 ix, .int .i64 st, .int .i64 fo, .int .i64 sd, .int .i64 se] 67)).heap.size (w.alloc (Obj.cells #[.int .i64 k, .int .i64 f, .int .i64 p, .int .i64 r0, .int .i64 r1, .int .i64 r2, .int .i64 r3, .int .i64 r4, .int .i64 r5, .int .i64 r6, .int .i64 r7, .int .i64 pa, .bool d, .bool u, .int .i64 ix, .int .i64 st, .int .i64 fo, .int .i64 sd, .int .i64 se] 67)) _ by go_grown).block _ (by simp)).trans (heap_alloc_new _ _)
  have h1 : W.heap[w.heap.size + 1]? = some (.cells #[.int .i64 0, .int .i64 0, .int .i64 0, .int .i64 0, .int .i64 0, .int .i64 0, .int .i64 0, .int .i64 0, .int .i64 0, .int .i64 0, .int .i64 0, .int .i64 0, .bool false, .bool false, .int .i64 0, .int .i64 0, .int .i64 0, .int .i64 0, .int .i64 0] 67 (0, 0)) := by
    have := heap_alloc_new (w.alloc (Obj.cells #[.int .i64 k, .int .i64 f, .int .i64 p, .int .i64 r0, .int .i64 r1, .int .i64 r2, .int .i64 r3, .int .i64 r4, .int .i64 r5, .int .i64 r6, .int .i64 r7, .int .i64 pa, .bool d, .bool u, .int .i64 ix, .int .i64 st, .int .i64 fo, .int .i64 sd, .int .i64 se] 67)) (Obj.cells #[.int .i64 0, .int .i64 0, .int .i64 0, .int .i64 0, .int .i64 0, .int .i64 0, .int .i64 0, .int .i64 0, .int .i64 0, .int .i64 0, .int .i64 0, .int .i64 0, .bool false, .bool false, .int .i64 0, .int .i64 0, .int .i64 0, .int .i64 0, .int .i64 0] 67)
    rw [World.size_alloc, hW] at this
    exact this
  rw [hW]
  have k1 : W.cell? ⟨w.heap.size, 1, none⟩ = some (.int .i64 f) := by simp [World.cell?, h0]
  have k10 : W.cell? ⟨w.heap.size, 17, none⟩ = some (.int .i64 sd) := by simp [World.cell?, h0]
  have hreg : W.rangeAt w.heap.size 3 [.int .i64 r0, .int .i64 r1, .int .i64 r2, .int .i64 r3, .int .i64 r4, .int .i64 r5, .int .i64 r6, .int .i64 r7] := regs_at (x := ⟨k, f, p, r0, r1, r2, r3, r4, r5, r6, r7, pa, d, u, ix, st, fo, sd, se⟩) h0
  obtain ⟨p1, p2, p3⟩ := put_blk (vs := #[.int .i64 2, .int .i64 f, .int .i64 0, .int .i64 r0, .int .i64 r1, .int .i64 r2, .int .i64 r3, .int .i64 r4, .int .i64 r5, .int .i64 r6, .int .i64 r7, .int .i64 own, .bool false, .bool false, .int .i64 sd, .int .i64 0, .int .i64 0, .int .i64 0, .int .i64 0]) h1 rfl
  have hbF := below_put (w.heap.size + 1) (Nat.le_succ _) (Array.toList #[.int .i64 2, .int .i64 f, .int .i64 0, .int .i64 r0, .int .i64 r1, .int .i64 r2, .int .i64 r3, .int .i64 r4, .int .i64 r5, .int .i64 r6, .int .i64 r7, .int .i64 own, .bool false, .bool false, .int .i64 sd, .int .i64 0, .int .i64 0, .int .i64 0, .int .i64 0]) 0 hb
  have hth := there_blk h1
  obtain ⟨V, hV⟩ : ∃ V, W.setCells (w.heap.size + 1) 0 (Array.toList #[.int .i64 2, .int .i64 f, .int .i64 0, .int .i64 r0, .int .i64 r1, .int .i64 r2, .int .i64 r3, .int .i64 r4, .int .i64 r5, .int .i64 r6, .int .i64 r7, .int .i64 own, .bool false, .bool false, .int .i64 sd, .int .i64 0, .int .i64 0, .int .i64 0, .int .i64 0]) = V := ⟨_, rfl⟩
  rw [hV] at p1 hbF
  have HF := Lib.hid (And.intro p1 hbF)
  have HV := Lib.hid hV
  clear hW hb p1 p2 p3 hbF h0 h1 hV
  refine wp_region_lit ?_
  refine wpList_step (fun K2 hK2 => ?_)
  go_simp
  refine hK2 _ _ ?_
  clear hK2 K2
  refine wpList_step (fun K2 hK2 => ?_)
  go_simp
  refine hK2 _ _ ?_
  clear hK2 K2
  refine wpList_step (fun K2 hK2 => ?_)
  go_simp
  refine hK2 _ _ ?_
  clear hK2 K2
  refine wpList_load_mid rfl _ _ rfl w.heap.size 3 rfl [.int .i64 r0, .int .i64 r1, .int .i64 r2, .int .i64 r3, .int .i64 r4, .int .i64 r5, .int .i64 r6, .int .i64 r7] _ hreg Try.underlying65 rfl (by rw [info65]; rfl) ?_
  refine wpList_step (fun K2 hK2 => ?_)
  go_simp
  refine hK2 _ _ ?_
  clear hK2 K2
  refine wpList_step (fun K2 hK2 => ?_)
  go_simp
  refine hK2 _ _ ?_
  clear hK2 K2
  refine wpList_step (fun K2 hK2 => ?_)
  go_simp
  refine hK2 _ _ ?_
  clear hK2 K2
  refine wpList_step (fun K2 hK2 => ?_)
  go_simp
  refine hK2 _ _ ?_
  clear hK2 K2
  refine wpList_store_mid rfl _ _ _ rfl (w.heap.size + 1) 0 #[.int .i64 2, .int .i64 f, .int .i64 0, .int .i64 r0, .int .i64 r1, .int .i64 r2, .int .i64 r3, .int .i64 r4, .int .i64 r5, .int .i64 r6, .int .i64 r7, .int .i64 own, .bool false, .bool false, .int .i64 sd, .int .i64 0, .int .i64 0, .int .i64 0, .int .i64 0] rfl rfl hth (by rw [infoF]; rfl) (by simp [Value.oneCell']) ?_
  rw [HV.out]
  refine wpList_nil ?_
  clear hbd k1 k10 hreg hth HV
  go_wp2_with fail
  exact bodyPost_ret (res19 rfl _ rfl HF.out.1 rfl) rfl ⟨rfl, HF.out.2⟩
theorem iter_of (x : Fm) (own : Int) (w : World) : Calls Try.prog 45 #[.agg x.cs, .int .i64 own] w fun e w' => e = .returned (.agg (x.iter own).cs) ∧ Below w.heap.size w w' :=
  iter_lit x.k x.f x.p x.r0 x.r1 x.r2 x.r3 x.r4 x.r5 x.r6 x.r7 x.pa x.d x.u x.ix x.st x.fo x.sd x.se own w
end Go.Proofs.Ytajmmglfdinahaa.fm
