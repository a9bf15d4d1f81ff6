/- A table of frames: Free (layer 16). -/
import Derived.Test.YtajmmglfdinahaaFtA
import Derived.Deep.MidRow
import Derived.Deep.RegionHeld3
namespace Go.Proofs.Ytajmmglfdinahaa.ft
open Go.ChangeShapes Go.WideShapes Go.ChangeAt Go.RowKit
open Go.Proofs.Ytajmmglfdinahaa.ar (AS heldB FreeTo Gd row_keep Same heldB_true)
open Go.Proofs.Ytajmmglfdinahaa.rf (RS RPost Pu KN FS hasB)
open Go.Proofs.Ytajmmglfdinahaa.fr
open Go.Proofs.Ytajmmglfdinahaa.ro (Ro KX ext ext_lt ext_ge)
attribute [local go_sem ↓] Go.wp_at_zero Go.wp_at_succ
set_option linter.unusedVariables false
set_option linter.unusedSimpArgs false
theorem free_nil (id : Int) (w : World) : Calls Try.prog 52 #[.pointer none, .int .i64 id] w fun e w' => e = .returned (.bool false) ∧ w' = w := by
  go_enter Try.func52, Try.ntmps52
  go_wp2_with (first | (go_at_call 53; refine (at_nil id _).mono ?_; rintro e w1 ⟨rfl, rfl⟩))
  go_ret
  exact ⟨rfl, rfl⟩
set_option maxRecDepth 20000 in
theorem free_no (id : Int) (w0 w : World) (Sx : Nat → Prop) (T S g A L n : Nat) (xs : List Int) (ps : List Value) (p : Int) (hv bv : Value) (hs : List Bool) (bk : List Int) (h : TS w0 w Sx T S g A L n xs ps p hv bv hs bk) (hl : hs.length ≤ 100000) (hn : heldB hs id = false) : Calls Try.prog 52 #[.pointer (some ⟨T, 0, none⟩), .int .i64 id] w fun e w' => e = .returned (.bool false) ∧ w' = w := by
  have C := Lib.hid (at_no id w0 w Sx T S g A L n xs ps p hv bv hs bk h hl hn)
  clear h hn
  go_enter Try.func52, Try.ntmps52
  go_wp2_with (first | (go_at_call 53; refine C.out.mono ?_; rintro e w1 ⟨rfl, rfl⟩))
  go_ret
  exact ⟨rfl, rfl⟩
def zcs : Array Value := #[.int .i64 0, .int .i64 0, .int .i64 0, .int .i64 0, .int .i64 0, .int .i64 0, .int .i64 0, .int .i64 0, .int .i64 0, .int .i64 0, .int .i64 0, .int .i64 0, .bool false, .bool false, .int .i64 0, .int .i64 0, .int .i64 0, .int .i64 0, .int .i64 0]
theorem range_blk {w : World} {q : Nat} {cs : Array Value} {t : TypeId} (h : w.heap[q]? = some (.cells cs t (0, 0))) : w.rangeAt q 0 cs.toList := fun j v hv => by
  rw [Nat.zero_add]
  simp only [World.cell?, h]
  simpa using hv
theorem there_blk {w : World} {q : Nat} {cs : Array Value} {t : TypeId} (h : w.heap[q]? = some (.cells cs t (0, 0))) : w.there q 0 cs.size := fun j hj => by
  rw [Nat.zero_add]
  refine ⟨?_, by simp [World.frozen?, h]⟩
  simp only [World.cell?, h]
  simp [hj]
theorem neq_fr (pc : Int) (w : World) : Sem.run Try.prog (binOp .neq 67 (.agg (fcs pc)) (.agg zcs)) w = .ok (.bool true) w := by
  unfold fcs zcs
  kernel_rfl
theorem below_put {B : Nat} {a : World} (b : Nat) (hb : B ≤ b) : ∀ (vs : List Value) (o : Nat) {w : World}, Below B a w → Below B a (w.setCells b o vs)
  | [], _, _, h => h
  | v :: r, o, _, h => below_put b hb r (o + 1) (h.setCell (p := ⟨b, o, none⟩) hb v)
theorem exec_neq {ev : Operand → Value} {o : Oper} {x y : Operand} {a b : Array Value} {w : World} (ho : o.op = .binOp .neq 67 x y 67) (hx : ev x = .agg a) (hy : ev y = .agg b) (hg : Sem.run Try.prog (eqGuard .neq 67 x y (.agg a) (.agg b)) w = .ok () w) (h : Sem.run Try.prog (binOp .neq 67 (.agg a) (.agg b)) w = .ok (.bool true) w) : (execOp ev o).run Try.prog w = .ok (.value (.bool true)) w := by
  unfold execOp
  simp only [ho, hx, hy]
  simp only [Sem.run_bind, hg, h, Result.andThen_ok, Sem.run_pure]
/-- a whole frame over another. -/
theorem put_blk {w : World} {q : Nat} {cs vs : Array Value} {t : TypeId} (h : w.heap[q]? = some (.cells cs t (0, 0))) (hl : vs.size = cs.size) : (w.setCells q 0 vs.toList).heap[q]? = some (.cells vs t (0, 0)) ∧ (w.setCells q 0 vs.toList).heap.size = w.heap.size ∧ ∀ k, k ≠ q → (w.setCells q 0 vs.toList).heap[k]? = w.heap[k]? := by
  obtain ⟨cur, h1, h2, _, h4, h5, h6⟩ := Go.Proofs.Ytajmmglfdinahaa.mo.setCells_row q t vs.toList 0 w cs h (by simp; omega)
  refine ⟨?_, h5, h6⟩
  rw [h1]
  congr 2
  apply Array.ext_getElem?
  intro j
  by_cases hj : j < vs.size
  · have := h4 j (by simpa using hj)
    rw [Nat.zero_add] at this
    simpa using this
  · rw [Array.getElem?_eq_none (by omega), Array.getElem?_eq_none (by omega)]
set_option maxRecDepth 20000 in
set_option maxHeartbeats 4000000 in
theorem free_yes (j q : Nat) (pc : Int) (w0 w : World) (Sx : Nat → Prop) (T S g A L n : Nat) (xs : List Int) (ps : List Value) (p : Int) (hv bv : Value) (hs : List Bool) (bk : List Int) (h : TS w0 w Sx T S g A L n xs ps p hv bv hs bk) (hl : hs.length ≤ 100000) (hk : bk.length ≤ 100000) (hj : hs[j]? = some true) (hjn : j < n) (hn6 : n ≤ 256) (hp : Hid (ps[j]? = some (.pointer (some ⟨q, 0, none⟩)))) (hq : w.heap[q]? = some (.cells (fcs pc) 67 (0, 0))) (hqx : Sx q) (hqL : q ≠ L) (hqg : q ≠ g) (hqT : q ≠ T) (hqS : q ≠ S) (hq0 : w0.heap.size ≤ q) :
    Calls Try.prog 52 #[.pointer (some ⟨T, 0, none⟩), .int .i64 ((j : Int) + 1)] w fun e w' => ∃ hv' bv', e = .returned (.bool true) ∧ TS w0 w' Sx T S g A L n xs (ps.set j (.pointer none)) p hv' bv' (hs.set j false) (bk ++ [(j : Int) + 1]) ∧ (∀ k, Sx k → k ≠ L → k ≠ g → k ≠ q → w'.heap[k]? = w.heap[k]?) ∧ w.heap.size ≤ w'.heap.size := by
  have hn : heldB hs ((j : Int) + 1) = true := by
    have := Go.Proofs.Ytajmmglfdinahaa.ar.heldB_nat hs (j + 1)
    push_cast at this
    rw [this]
    simp [List.getD_eq_getElem?_getD, hj]
  have hql : q < w.heap.size := lt_of_heap hq
  have CA := Lib.hid (at_yes j w0 w Sx T S g A L n xs ps p hv bv hs bk h hl hn hjn hn6 q hp)
  have hbd : ∀ w, (Instr.build 67 #[]).run Try.prog w = .ok (.agg zcs) w := fun w => run_build w 67 _ _ (by kernel_rfl)
  have H := Lib.hid h
  have HQ := Lib.hid hq
  have HJ := Lib.hid hj
  clear h hq hj hn
  go_enter Try.func52, Try.ntmps52
  go_upto_region 4 with (first | (go_at_call 53; refine CA.out.mono ?_; rintro e w1 ⟨rfl, rfl⟩))
  refine wp_region_lit ?_
  refine wpList_step (fun K2 hK2 => ?_)
  go_simp
  refine hK2 _ _ ?_
  clear hK2 K2
  refine wpList_step (fun K2 hK2 => ?_)
  go_simp
  refine hK2 _ _ ?_
  clear hK2 K2
  refine wpList_storeNew rfl _ _ rfl _ _ rfl rfl rfl rfl (by simp [Value.oneCell', zcs]) ?_
  refine wpList_nil ?_
  obtain ⟨W, hW⟩ : ∃ W, w1.alloc (.cells zcs 67) = W := ⟨_, rfl⟩
  have hbW : Below w1.heap.size w1 W := by rw [← hW]; go_grown
  have hz : W.heap[w1.heap.size]? = some (.cells zcs 67 (0, 0)) := by rw [← hW]; exact heap_alloc_new _ _
  have hqW : W.heap[q]? = some (.cells (fcs pc) 67 (0, 0)) := (hbW.block q (lt_of_heap HQ.out)).trans HQ.out
  have hWz : w1.alloc (.cells #[.int .i64 0, .int .i64 0, .int .i64 0, .int .i64 0, .int .i64 0, .int .i64 0, .int .i64 0, .int .i64 0, .int .i64 0, .int .i64 0, .int .i64 0, .int .i64 0, .bool false, .bool false, .int .i64 0, .int .i64 0, .int .i64 0, .int .i64 0, .int .i64 0] 67) = W := hW
  rw [hWz]
  have HW := Lib.hid hW
  have HBW := Lib.hid hbW
  have HZ := Lib.hid hz
  have HQW := Lib.hid hqW
  clear hW hbW hz hqW hWz hbd
  go_upto_region 5 with (fail)
  refine wp_region_noPanic ?_
  refine wp_region_held_drew (S := fun w' => w'.heap[q]? = some (.cells (fcs pc) 67 (0, 0)) ∧ w'.heap[w1.heap.size]? = some (.cells zcs 67 (0, 0))) (by kernel_rfl) ⟨HQW.out, HZ.out⟩ ?_
  intro hS0
  refine wpAnyH_take (i := 0) (oi := { dst := some 13, op := Go.Op.move (Go.Operand.tmp 5), type := 81, pos := "frame.go:86", after := #[], guard := none }) (v := ?_) rfl (by kernel_rfl) (by kernel_rfl) (by kernel_rfl) (fun _ _ _ h => h) (Or.inl ⟨by rfl, ?_⟩) hS0 ?_
  rotate_left
  · (intro w' hSw; (try dsimp only at hSw); go_simp <;> (with_reducible rfl))
  try simp only [Act.put, List.setIfInBounds_toArray, List.set_cons_zero, List.set_cons_succ]
  refine wpAnyH_take (i := 1) (oi := { dst := some 14, op := Go.Op.nilCheck (Go.Operand.tmp 13), type := 0, pos := "frame.go:86", after := #[{ on := 0, ground := Go.Ground.data }], guard := none }) (v := ?_) rfl (by kernel_rfl) (by kernel_rfl) (by kernel_rfl) (fun _ _ _ h => h) (Or.inl ⟨by rfl, ?_⟩) hS0 ?_
  rotate_left
  · (intro w' hSw; (try dsimp only at hSw); go_simp <;> (with_reducible rfl))
  try simp only [Act.put, List.setIfInBounds_toArray, List.set_cons_zero, List.set_cons_succ]
  refine wpAnyH_take (i := 2) (oi := { dst := some 15, op := Go.Op.load 67 (Go.Operand.tmp 14), type := 67, pos := "frame.go:86", after := #[{ on := 1, ground := Go.Ground.data }], guard := none }) (v := .agg (fcs pc)) rfl (by kernel_rfl) (by kernel_rfl) (by kernel_rfl) (fun _ _ _ h => h) (yieldsIf_load_mid (by rfl) _ _ rfl q 0 rfl (fcs pc).toList _ (fun w' hw => range_blk hw.1) Try.underlying67 rfl (by rw [infoF]; rfl)) hS0 ?_
  try simp only [Act.put, List.setIfInBounds_toArray, List.set_cons_zero, List.set_cons_succ]
  refine wpAnyH_take (i := 3) (oi := { dst := some 16, op := Go.Op.load 67 (Go.Operand.tmp 6), type := 67, pos := "frame.go:86", after := #[], guard := none }) (v := .agg zcs) rfl (by kernel_rfl) (by kernel_rfl) (by kernel_rfl) (fun _ _ _ h => h) (yieldsIf_load_mid (by rfl) _ _ rfl w1.heap.size 0 rfl zcs.toList _ (fun w' hw => range_blk hw.2) Try.underlying67 rfl (by rw [infoF]; rfl)) hS0 ?_
  try simp only [Act.put, List.setIfInBounds_toArray, List.set_cons_zero, List.set_cons_succ]
  refine wpAnyH_take (i := 4) (oi := { dst := some 17, op := Go.Op.binOp Go.BinOp.neq 67 (Go.Operand.tmp 15) (Go.Operand.tmp 16) 67, type := 4, pos := "frame.go:86", after := #[{ on := 2, ground := Go.Ground.data }, { on := 3, ground := Go.Ground.data }], guard := none }) (v := .bool true) rfl (by kernel_rfl) (by kernel_rfl) (by kernel_rfl) (fun _ _ _ h => h) (Or.inl ⟨by rfl, fun w' _ => ?_⟩) hS0 ?_
  · exact exec_neq rfl rfl rfl (by unfold fcs zcs; kernel_rfl) (neq_fr pc w')
  try simp only [Act.put, List.setIfInBounds_toArray, List.set_cons_zero, List.set_cons_succ]
  refine wpAnyH_done (by kernel_rfl) ?_ _
  refine NoPanic.normal ?_
  go_upto_region 6 with (fail)
  obtain ⟨Wd, hWd⟩ : ∃ Wd, W.drew = Wd := ⟨_, rfl⟩
  have hbd2 : Below W.heap.size W Wd := by rw [← hWd]; go_grown
  have hzd := (hbd2.block _ (lt_of_heap HZ.out)).trans HZ.out
  have hqd := (hbd2.block _ (lt_of_heap HQW.out)).trans HQW.out
  rw [hWd]
  have hb1 : Below w1.heap.size w1 Wd := HBW.out.trans (hbd2.mono HBW.out.size)
  clear hWd hbd2 hS0
  refine wp_region_lit ?_
  refine wpList_step (fun K2 hK2 => ?_)
  go_simp
  refine hK2 _ _ ?_
  clear hK2 K2
  refine wpList_load_mid rfl _ _ rfl w1.heap.size 0 rfl zcs.toList _ (range_blk hzd) Try.underlying67 rfl (by rw [infoF]; rfl) ?_
  refine wpList_step (fun K2 hK2 => ?_)
  go_simp
  refine hK2 _ _ ?_
  clear hK2 K2
  refine wpList_store_mid rfl _ _ _ rfl q 0 zcs rfl rfl (fun j hj => there_blk hqd j hj) (by rw [infoF]; rfl) (by simp [Value.oneCell', zcs]) ?_
  refine wpList_nil ?_
  obtain ⟨p1, p2, p3⟩ := put_blk (vs := zcs) hqd rfl
  obtain ⟨V, hV⟩ : ∃ V, Wd.setCells q 0 zcs.toList = V := ⟨_, rfl⟩
  rw [hV] at p1 p2 p3
  have hkV : Keep q Wd V := ⟨by omega, fun B _ hB => p3 B hB⟩
  have h0 := H.out
  have h1 := h0.below hb1
  have hbV : Below w0.heap.size w0 V := by
    have hb := h1.j.2.1
    rw [← hV]
    exact below_put q hq0 _ _ hb
  rw [hV]
  have hAV := as_keep h1.a hkV hqx
  have hJV : J w0 V S g xs := ⟨⟨hkV.block h1.j.1.1 (fun e => hqS e.symm), hkV.block h1.j.1.2.1 (fun e => hqg e.symm), h1.j.1.2.2⟩, hbV, h1.j.2.2⟩
  have hTV : TAt V T 1 (n : Int) 2 3 S A L n := hkV.block h1.t (fun e => hqT e.symm)
  have hLV : LAt V L ps := hkV.block h1.l (fun e => hqL e.symm)
  have HK1 : Hid (∀ k, Sx k → k ≠ q → V.heap[k]? = w1.heap[k]?) := Lib.hid fun k hk hkq => (p3 k hkq).trans (hb1.block k (h0.a.sa k hk).1)
  have HS1 : Hid (w1.heap.size ≤ V.heap.size) := Lib.hid (by have := hb1.size; omega)
  have hpl := h0.pl
  have HSX := Lib.hid (show Sx T ∧ Sx L ∧ Sx S ∧ Sx g from ⟨h0.sT, h0.sL, h0.sS, h0.sg⟩)
  have HNE := Lib.hid (show L ≠ g ∧ L ≠ S ∧ L ≠ T ∧ T ≠ g ∧ w0.heap.size ≤ L ∧ w0.heap.size ≤ T from ⟨h0.lg, h0.lS, h0.lT, h0.tg, h0.l0, h0.t0⟩)
  obtain ⟨t0, t1, t2, t3, t4, t5, t6⟩ := hTV.cells
  obtain ⟨lc, lf⟩ := l_cell (j := j) hLV (by omega)
  have e1 : (j : Int) + 1 - 1 = (j : Int) := by omega
  have e2 : (0 : Int) ≤ (j : Int) := by omega
  have e3 : (j : Int) < (n : Int) := by omega
  have e4 : (j : Int).toNat = j := by omega
  obtain ⟨W2, hW2⟩ : ∃ W2, V.setCell ⟨L, j, none⟩ (.pointer none) = W2 := ⟨_, rfl⟩
  have hk2 : Keep L V W2 := by rw [← hW2]; exact Keep.set rfl
  have hL2 : LAt W2 L (ps.set j (.pointer none)) := by rw [← hW2]; exact l_set (j := j) (.pointer none) hLV
  have hA2 := as_keep hAV hk2 HSX.out.2.1
  have hJ2 : J w0 W2 S g xs := ⟨⟨hk2.block hJV.1.1 (fun e => HNE.out.2.1 e.symm), hk2.block hJV.1.2.1 (fun e => HNE.out.1 e.symm), hJV.1.2.2⟩, by rw [← hW2]; exact hJV.2.1.setCell HNE.out.2.2.2.2.1 _, hJV.2.2⟩
  have hT2 : TAt W2 T 1 (n : Int) 2 3 S A L n := hk2.block hTV (fun e => HNE.out.2.2.1 e.symm)
  obtain ⟨d0, d1, d2, d3, d4, d5, d6⟩ := hT2.cells
  have C := Lib.hid (Go.Proofs.Ytajmmglfdinahaa.ar.give_yes W2 j hA2 hl hk HJ.out)
  have HK2 : Hid (∀ k, Sx k → k ≠ L → k ≠ q → W2.heap[k]? = w1.heap[k]?) := Lib.hid fun k hk hkL hkq => (hk2.2 k (by have := (hAV.sa k hk).1; exact this) hkL).trans (HK1.out k hk hkq)
  have HS2 : Hid (w1.heap.size ≤ W2.heap.size) := Lib.hid (Nat.le_trans HS1.out hk2.1)
  have HFX := Lib.hid (And.intro hL2 (And.intro hJ2 (And.intro hT2 hA2)))
  have HW2 := Lib.hid hW2
  rw [← hW2] at d0 d1 d2 d3 d4 d5 d6
  clear hL2 hJ2 hT2 hA2 hk2 hW2 hAV hJV hTV hLV hkV hbV hV p1 p2 p3 h0 h1 hb1 hzd hqd HQW HZ HBW HW CA HK1 HS1 HQ
  go_wp2_with fail
  rw [HW2.out]
  refine C.out.mono ?_
  rintro e w3 ⟨hv', bv', rfl, hA3, hb3, hS3⟩
  obtain ⟨hL2, hJ2, hT2, hA2⟩ := HFX.out
  have FIN : Hid (TS w0 w3 Sx T S g A L n xs (ps.set j (.pointer none)) p hv' bv' (hs.set j false) (bk ++ [(j : Int) + 1])) := Lib.hid ⟨Go.Proofs.Ytajmmglfdinahaa.fr.j_same (Sx := Sx) hJ2 hS3 HSX.out.2.2.1 HSX.out.2.2.2 hb3, (hS3 T HSX.out.1).trans hT2, (hS3 L HSX.out.2.1).trans hL2, hA3, by rw [List.length_set]; exact hpl, HSX.out.1, HSX.out.2.1, HSX.out.2.2.1, HSX.out.2.2.2, HNE.out.1, HNE.out.2.1, HNE.out.2.2.1, HNE.out.2.2.2.1, HNE.out.2.2.2.2.1, HNE.out.2.2.2.2.2⟩
  have FK : Hid (∀ k, Sx k → k ≠ L → k ≠ g → k ≠ q → w3.heap[k]? = w1.heap[k]?) := Lib.hid fun k hk hkL _ hkq => (hS3 k hk).trans (HK2.out k hk hkL hkq)
  have FS1 : Hid (w1.heap.size ≤ w3.heap.size) := Lib.hid (Nat.le_trans HS2.out hb3.size)
  clear hA3 hb3 hS3 hL2 hJ2 hT2 hA2 d0 d1 d2 d3 d4 d5 d6 t0 t1 t2 t3 t4 t5 t6 lc lf C
  go_wp2_with fail
  go_ret
  exact ⟨hv', bv', rfl, FIN.out, FK.out, FS1.out⟩
end Go.Proofs.Ytajmmglfdinahaa.ft
