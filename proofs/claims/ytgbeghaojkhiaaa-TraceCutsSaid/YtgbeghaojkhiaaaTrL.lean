/- Where a node is, as a map's key (layer 34). -/
import Derived.Test.YtgbeghaojkhiaaaTrK
import Derived.DeepKeys4
import Derived.Laws.Rows
namespace Go.Proofs.Ytgbeghaojkhiaaa.tr
open Go.ChangeShapes Go.WideShapes Go.ChangeAt Go.RowKit Go.Maps
open Go.Proofs.Ytgbeghaojkhiaaa.ro
open Go.Proofs.Ytgbeghaojkhiaaa.gr (C2 enC recC d2 PM rec_new cx hd iter_v stage_v tr3 kb)
attribute [local go_sem ↓] Go.wp_at_zero Go.wp_at_succ
attribute [local go_sem] Oper.semAt_some
set_option linter.unusedVariables false
set_option linter.unusedSimpArgs false
theorem laidOut' : laidOutB Try.prog = true := by kernel_rfl
theorem sp_row : (67 : TypeId) < Try.prog.types.size := of_decide_eq_true (by kernel_rfl)
theorem sp_wide : (match Try.prog.underlying 67 with | some (.array _ _) | some (.struct _) => true | _ => false) = true := by rw [Try.underlying67]
theorem spL : Keyed Try.prog 67 := Keyed.of_law (deep_law_laid laidOut' (m := 2) (by omega) sp_row (by kernel_rfl) sp_wide)
theorem sp_cells : Try.prog.cellsOf 67 = 2 := by kernel_rfl
theorem int_cells : Try.prog.cellsOf 3 = 1 := by kernel_rfl
theorem sp_kt : Try.prog.keyType 67 = true := by kernel_rfl
theorem ty_size : ∃ m, Try.prog.types.size = m + 2 := ⟨Try.prog.types.size - 2, by have := sp_row; have : 2 ≤ Try.prog.types.size := of_decide_eq_true (by kernel_rfl); omega⟩
abbrev spV (a b : Int) : Value := .agg #[.int .i64 a, .int .i64 b]
def kS (a b : Int) : Lit := .string (keyBytes [.int .i64 a, .int .i64 b])
theorem keyS {a b : Int} (wa : (Lit.int .i64 a).wf = true) (wb : (Lit.int .i64 b).wf = true) : keyOf Try.prog 67 (spV a b) = some (kS a b) := by
  have hf : (spV a b).formed Try.prog 67 = true := by simp [Value.formed, Try.underlying67, sp_cells]
  obtain ⟨m, hm⟩ := ty_size
  unfold keyOf
  simp only [Try.underlying67]
  rw [if_pos (by simp only [sp_kt, hf, Bool.and_self]), hm]
  simp [Program.keyLits, Try.underlying67, Try.underlying3, sp_cells, int_cells, Value.cells, wa, wb, kS]
theorem kS_ne {a b a' b' : Int} (wa : (Lit.int .i64 a).wf = true) (wb : (Lit.int .i64 b).wf = true) (wa' : (Lit.int .i64 a').wf = true) (wb' : (Lit.int .i64 b').wf = true) (h : ¬ (a = a' ∧ b = b')) : kS a b ≠ kS a' b' := fun e => by
  have h1 := keyS wa wb
  have h2 := keyS wa' wb'
  rw [e] at h1
  have := spL.inj h1 h2
  simp [spV] at this
  exact h this
theorem hd_wf (i : Int) : (Lit.int .i64 ((hd i : Nat) : Int)).wf = true := by
  have := Go.Proofs.Ytgbeghaojkhiaaa.gr.hd_le i
  have h1 : IntKind.i64.min = -9223372036854775808 := by decide
  have h2 : IntKind.i64.max = 9223372036854775807 := by decide
  simp [Lit.wf]
  omega
theorem spot_v (w : World) (i k : Int) : Calls Try.prog 27 #[cx i k] w fun e w' => e = .returned (spV (hd i) (hd k)) ∧ Below w.heap.size w w' := by
  obtain ⟨x, y, hxy⟩ : ∃ x y, cx i k = .complex .f64 x y := ⟨_, _, rfl⟩
  have HI := Lib.hid (fun w => iter_v w i k)
  have HS := Lib.hid (fun w => stage_v w i k)
  rw [hxy] at HI HS ⊢
  clear hxy
  go_enter Try.func27, Try.ntmps27
  go_wp2_with (first | (go_at_call 40; (with_reducible refine (HI.out _).mono ?_); rintro _ _ ⟨rfl, rfl⟩) | (go_at_call 41; (with_reducible refine (HS.out _).mono ?_); rintro _ _ ⟨rfl, rfl⟩))
  (try simp only [Exit.inBlock, Exit.then])
  refine bodyPost_ret (results_cell_row rfl _ _ w.heap.size 67 #[.int .i64 (hd i), .int .i64 (hd k)] (0, 0) _ rfl ?_ Try.underlying67 rfl (by kernel_rfl)) rfl ?_
  · exact heap_new _ _
  exact ⟨rfl, by go_grown⟩
abbrev Pt := Nat × Nat
def Ls (D : Dm) (f : Pt → Option Nat) : Prop := IsMap D ∧ ∀ p : Pt, (p.1 ≤ 1048576 ∧ p.2 ≤ 1048576) → D.atKey (kS p.1 p.2) zi = (match f p with | some b => .lit (.int .i64 (b : Int)) | none => zi)
theorem nat_wf {n : Nat} (h : n ≤ 1048576) : (Lit.int .i64 (n : Int)).wf = true := by
  have h1 : IntKind.i64.min = -9223372036854775808 := by decide
  have h2 : IntKind.i64.max = 9223372036854775807 := by decide
  simp [Lit.wf]
  omega
theorem Ls.empty : Ls (.map []) (fun _ => none) := ⟨isMap_empty, fun z _ => rfl⟩
theorem Ls.put {D : Dm} {f : Pt → Option Nat} (h : Ls D f) (z : Pt) (hz : z.1 ≤ 1048576 ∧ z.2 ≤ 1048576) (b : Nat) : Ls (D.put (kS z.1 z.2) (.lit (.int .i64 (b : Int)))) (fun y => if y = z then some b else f y) := by
  refine ⟨h.1.put _ _, fun y hy => ?_⟩
  by_cases e : y = z
  · subst e
    simp only [if_true]
    exact atKey_put_same h.1 (spL.key (keyS (nat_wf hy.1) (nat_wf hy.2))) _ _
  · simp only [e, if_false]
    exact (atKey_put_other (kS_ne (nat_wf hy.1) (nat_wf hy.2) (nat_wf hz.1) (nat_wf hz.2) (fun h => e (Prod.ext (by have := h.1; omega) (by have := h.2; omega)))) _ _).trans (h.2 y hy)
theorem ownsMap_blkS {w w' : World} {b n : Nat} {D : Dm} (h : w.ownsMap Try.prog 67 inE b n D) (hb : w'.heap[b]? = w.heap[b]?) : w'.ownsMap Try.prog 67 inE b n D := by
  obtain ⟨es, c, h1, h2⟩ := h
  exact ⟨es, c, hb.trans h1, h2⟩
theorem wpList_look_sp (w : World) {ops : Array Oper} {rest : List Oper} {o : Oper} {a : Act} {Q : Exit → Act → World → Prop}
    (hg : o.guard = none) (m x : Operand) (hop : o.op = Op.lookup 65 m x false) (b n : Nat) (D : Dm) (hm : a.eval m = .map (some b)) (hown : w.ownsMap Try.prog 67 inE b n D) (z : Pt) (hx : a.eval x = spV z.1 z.2) (hz : z.1 ≤ 1048576 ∧ z.2 ≤ 1048576)
    (f : Pt → Option Nat) (hL : Ls D f) (v : Int) (hv : (match f z with | some B => (B : Int) | none => 0) = v)
    (hK : wpList Try.prog ops Q rest (a.put o.dst (.int .i64 v)) w) :
    wpList Try.prog ops Q (o :: rest) a w := by
  refine wpList_plain hg fun K' hK' => ?_
  obtain ⟨u, ps, hrun, hu⟩ := hown.lookup spL Try.underlying65 (zeroI w) (show inE (.int .i64 0) = some (zi, []) from rfl) (keyS (nat_wf hz.1) (nat_wf hz.2))
  rw [hL.2 z hz] at hu
  have : u = .int .i64 v := by
    rw [← hv]
    cases e : f z with
    | none => rw [e] at hu; exact inE_inv hu
    | some B => rw [e] at hu; exact inE_inv hu
  subst this
  unfold Oper.wp
  simp [execOp, hop, hm, hx, hrun, Result.andThen]
  exact hK' _ _ hK
end Go.Proofs.Ytgbeghaojkhiaaa.tr
