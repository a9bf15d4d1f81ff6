/- The law FrameTable: what lies in memory: the table, its words, the reference's arena, the law's own rows (layer 16). -/
import Derived.Test.YtajmmglfdinahaaFrW
import Derived.Test.YtajmmglfdinahaaRfE
import Derived.Test.YtajmmglfdinahaaRo
namespace Go.Proofs.Ytajmmglfdinahaa.ft
open Go.ChangeShapes Go.WideShapes Go.ChangeAt Go.RowKit
open Go.Proofs.Ytajmmglfdinahaa.ar (AS heldB FreeTo Gd row_keep)
open Go.Proofs.Ytajmmglfdinahaa.rf (RS RPost Pu KN FS hasB)
open Go.Proofs.Ytajmmglfdinahaa.fr (TS TAt LAt fcs PCAt)
open Go.Proofs.Ytajmmglfdinahaa.ro (Ro KX ext ext_lt ext_ge)
set_option linter.unusedVariables false
set_option linter.unusedSimpArgs false
section
variable {Q : Nat → Prop} {w0 w w' : World} {ρ ρ' : Ro} {Sx : Nat → Prop} {P S g T A L N Wd Pc n : Nat} {xs xs' ys ys' : List Int} {ps ps' : List Value} {pcl : List Int} {p p' fr pr fr' pr' : Int} {hv bv vb vt hv' bv' vb' vt' : Value} {hs hs' : List Bool} {bk br tk bk' br' tk' : List Int} {F F' : Nat → Int} {ob : Option (Nat × Array Value)}
/-- the table's blocks, by their roles. -/
structure RT (ρ : Ro) (S g T A L : Nat) (hv bv : Value) : Prop where
  s : ρ S = 2
  g : ρ g = 3
  t : ρ T = 4
  a : ρ A = 5
  l : ρ L = 6
  h : ∀ k, hv.ownBlock = some k → ρ k = 10
  b : ∀ k, bv.ownBlock = some k → ρ k = 10
theorem RT.far (h : RT ρ S g T A L hv bv) {B d : Nat} (hl : B < w.heap.size) (hr : ρ B = d) (hd : d ≠ 5) (hd2 : d ≠ 10) : FS A hv bv w B :=
  ⟨hl, fun e => by subst e; have := h.a; omega, fun e => by have := h.h B e; omega, fun e => by have := h.b B e; omega⟩
/-- a table whose far blocks are all others. -/
theorem ts_fs (h : TS w0 w Sx T S g A L n xs ps p hv bv hs bk) (hr : RT ρ S g T A L hv bv) : TS w0 w (FS A hv bv w) T S g A L n xs ps p hv bv hs bk := by
  have hf := h.j.1.facts.2.2.2.2
  exact ⟨h.j, h.t, h.l, ⟨h.a.obj, h.a.rh, h.a.rb, h.a.h1, h.a.h2, h.a.h3, h.a.base, fun k hk => hk⟩, h.pl, hr.far (lt_of_heap h.t) hr.t (by omega) (by omega), hr.far (lt_of_heap h.l) hr.l (by omega) (by omega), hr.far hf.1 hr.s (by omega) (by omega), hr.far hf.2 hr.g (by omega) (by omega), h.lg, h.lS, h.lT, h.tg, h.l0, h.t0⟩
theorem RT.kx (h : RT ρ S g T A L hv bv) (ht : TS w0 w (FS A hv bv w) T S g A L n xs ps p hv bv hs bk) (hk : KX Q ρ ρ' w w') (hq : ∀ d, (2 ≤ d ∧ d ≤ 6) ∨ d = 10 → ¬ Q d) : RT ρ' S g T A L hv bv := by
  have hf := ht.j.1.facts.2.2.2.2
  have key : ∀ b d, b < w.heap.size → ρ b = d → ((2 ≤ d ∧ d ≤ 6) ∨ d = 10) → ρ' b = d := fun b d hb hr hd => (hk.k d (hq d hd) b hb hr).1
  exact ⟨key S 2 hf.1 h.s (by omega), key g 3 hf.2 h.g (by omega), key T 4 (lt_of_heap ht.t) h.t (by omega), key A 5 (lt_of_heap ht.a.obj) h.a (by omega), key L 6 (lt_of_heap ht.l) h.l (by omega), fun k e => key k 10 (ht.a.rh.lt k e).2 (h.h k e) (by omega), fun k e => key k 10 (ht.a.rb.lt k e).2 (h.b k e) (by omega)⟩
/-- a table of which the words may be others. -/
theorem ts_kx (h : RT ρ S g T A L hv bv) (ht : TS w0 w (FS A hv bv w) T S g A L n xs ps p hv bv hs bk) (hk : KX Q ρ ρ' w w') (hz : ∀ k, k < w0.heap.size → ρ k = 0) (hq : ∀ d, d = 0 ∨ d = 2 ∨ (4 ≤ d ∧ d ≤ 6) ∨ d = 10 → ¬ Q d) (hg : w'.heap[g]? = some (.cells (xs'.map (Value.int .i64)).toArray 3 (0, 0))) (hl : xs'.length = xs.length) (hr' : RT ρ' S g T A L hv bv) : TS w0 w' (FS A hv bv w') T S g A L n xs' ps p hv bv hs bk := by
  have hb := (hk.bel (hq 0 (.inl rfl)) hz ht.j.2.1.size).1
  have blk : ∀ {b : Nat} {o : Obj} {d : Nat}, w.heap[b]? = some o → ρ b = d → (d = 2 ∨ (4 ≤ d ∧ d ≤ 6) ∨ d = 10) → w'.heap[b]? = some o := fun hb hr hd => (hk.blk hb hr (hq _ (.inr hd))).1
  have hh : ∀ k, hv.ownBlock = some k → w'.heap[k]? = w.heap[k]? := fun k e => (hk.k 10 (hq _ (.inr (.inr (.inr rfl)))) k (ht.a.rh.lt k e).2 (h.h k e)).2
  have hh2 : ∀ k, bv.ownBlock = some k → w'.heap[k]? = w.heap[k]? := fun k e => (hk.k 10 (hq _ (.inr (.inr (.inr rfl)))) k (ht.a.rb.lt k e).2 (h.b k e)).2
  have hA : AS (FS A hv bv w') w0.heap.size A w' (n : Int) (hs.length : Int) p hv bv hv bv hs bk :=
    ⟨blk ht.a.obj h.a (by omega), row_keep ht.a.rh hh, row_keep ht.a.rb hh2, ht.a.h1, ht.a.h2, ht.a.h3, ht.a.base, fun k hk => hk⟩
  have hT := blk ht.t h.t (by omega)
  have hL := blk ht.l h.l (by omega)
  have hS := blk ht.j.1.1 h.s (by omega)
  rw [← hl] at hS
  exact ⟨⟨⟨hS, hg, ht.j.1.2.2⟩, ht.j.2.1.trans hb, ht.j.2.2⟩, hT, hL, hA, ht.pl, hr'.far (lt_of_heap hT) hr'.t (by omega) (by omega), hr'.far (lt_of_heap hL) hr'.l (by omega) (by omega), hr'.far (lt_of_heap hS) hr'.s (by omega) (by omega), hr'.far (lt_of_heap hg) hr'.g (by omega) (by omega), ht.lg, ht.lS, ht.lT, ht.tg, ht.l0, ht.t0⟩
structure FT (w0 w : World) (ρ : Ro) (P S g T A L N Wd Pc n : Nat) (xs ys : List Int) (ps : List Value) (pcl : List Int) (p : Int) (hv bv vb vt : Value) (hs : List Bool) (bk : List Int) (fr pr : Int) (br tk : List Int) (F : Nat → Int) (ob : Option (Nat × Array Value)) : Prop where
  ts : TS w0 w (FS A hv bv w) T S g A L n xs ps p hv bv hs bk
  rt : RT ρ S g T A L hv bv
  r : RS N w (n : Int) fr pr vb vt br tk
  pl : PCAt w P (n : Int)
  wd : w.heap[Wd]? = some (.cells (ys.map (Value.int .i64)).toArray 3 (0, 0))
  pc : w.heap[Pc]? = some (.cells (pcl.map (Value.int .i64)).toArray 3 (0, 0))
  f : ∀ j, hs[j]? = some true → ∃ q, ps[j]? = some (.pointer (some ⟨q, 0, none⟩)) ∧ ρ q = 20 + j ∧ w.heap[q]? = some (.cells (fcs (F j)) 67 (0, 0))
  z : ∀ k, k < w0.heap.size → ρ k = 0
  rP : ρ P = 1
  rN : ρ N = 7
  rW : ρ Wd = 8
  rC : ρ Pc = 9
  rvb : ∀ k, vb.ownBlock = some k → ρ k = 11
  rvt : ∀ k, vt.ownBlock = some k → ρ k = 11
  o : ∀ B cs, ob = some (B, cs) → w.heap[B]? = some (.cells cs 78 (0, 0)) ∧ ρ B = 12
  lx : xs.length = 7 + 14 * n
  ly : ys.length = 7 + 14 * n
  lp : pcl.length = 10
theorem FT.b (h : FT w0 w ρ P S g T A L N Wd Pc n xs ys ps pcl p hv bv vb vt hs bk fr pr br tk F ob) : Below w0.heap.size w0 w := h.ts.j.2.1
theorem r_kx (hr : RS N w (n : Int) fr pr vb vt br tk) (rN : ρ N = 7) (rvb : ∀ k, vb.ownBlock = some k → ρ k = 11) (rvt : ∀ k, vt.ownBlock = some k → ρ k = 11) (hk : KX Q ρ ρ' w w') (hq : ¬ Q 7) (hq2 : ¬ Q 11) : RS N w' (n : Int) fr pr vb vt br tk ∧ ρ' N = 7 ∧ (∀ k, vb.ownBlock = some k → ρ' k = 11) ∧ (∀ k, vt.ownBlock = some k → ρ' k = 11) :=
  ⟨hr.keep hk.size (hk.k 7 hq N hr.ltN rN).2 (fun k e => (hk.k 11 hq2 k (hr.lb k e) (rvb k e)).2) (fun k e => (hk.k 11 hq2 k (hr.lt k e) (rvt k e)).2), (hk.k 7 hq N hr.ltN rN).1, fun k e => (hk.k 11 hq2 k (hr.lb k e) (rvb k e)).1, fun k e => (hk.k 11 hq2 k (hr.lt k e) (rvt k e)).1⟩
theorem f_kx (hf : ∀ j, hs[j]? = some true → ∃ q, ps[j]? = some (.pointer (some ⟨q, 0, none⟩)) ∧ ρ q = 20 + j ∧ w.heap[q]? = some (.cells (fcs (F j)) 67 (0, 0))) (hk : KX Q ρ ρ' w w') (hq : ∀ j, ¬ Q (20 + j)) : ∀ j, hs[j]? = some true → ∃ q, ps[j]? = some (.pointer (some ⟨q, 0, none⟩)) ∧ ρ' q = 20 + j ∧ w'.heap[q]? = some (.cells (fcs (F j)) 67 (0, 0)) := fun j hj => by
  obtain ⟨q, h1, h2, h3⟩ := hf j hj
  have := hk.blk h3 h2 (hq j)
  exact ⟨q, h1, this.2, this.1⟩
theorem o_kx (ho : ∀ B cs, ob = some (B, cs) → w.heap[B]? = some (.cells cs 78 (0, 0)) ∧ ρ B = 12) (hk : KX Q ρ ρ' w w') (hq : ¬ Q 12) : ∀ B cs, ob = some (B, cs) → w'.heap[B]? = some (.cells cs 78 (0, 0)) ∧ ρ' B = 12 := fun B cs e => by
  obtain ⟨h1, h2⟩ := ho B cs e
  exact hk.blk h1 h2 hq
/-- what keeps all. -/
theorem FT.kx (h : FT w0 w ρ P S g T A L N Wd Pc n xs ys ps pcl p hv bv vb vt hs bk fr pr br tk F ob) (hk : KX Q ρ ρ' w w') (hq : ∀ d, d ≤ 12 ∨ 20 ≤ d → ¬ Q d) : FT w0 w' ρ' P S g T A L N Wd Pc n xs ys ps pcl p hv bv vb vt hs bk fr pr br tk F ob := by
  have hrt := h.rt.kx h.ts hk fun d hd => hq d (by omega)
  have hg := (hk.blk h.ts.j.1.2.1 h.rt.g (hq 3 (by omega))).1
  have h1 := hk.blk h.pl h.rP (hq 1 (by omega))
  have h8 := hk.blk h.wd h.rW (hq 8 (by omega))
  have h9 := hk.blk h.pc h.rC (hq 9 (by omega))
  have hr := r_kx h.r h.rN h.rvb h.rvt hk (hq 7 (by omega)) (hq 11 (by omega))
  exact ⟨ts_kx h.rt h.ts hk h.z (fun d hd => hq d (by omega)) hg rfl hrt, hrt, hr.1, h1.1, h8.1, h9.1, f_kx h.f hk (fun j => hq _ (by omega)), (hk.bel (hq 0 (by omega)) h.z h.b.size).2, h1.2, hr.2.1, h8.2, h9.2, hr.2.2.1, hr.2.2.2, o_kx h.o hk (hq 12 (by omega)), h.lx, h.ly, h.lp⟩
theorem FT.below (h : FT w0 w ρ P S g T A L N Wd Pc n xs ys ps pcl p hv bv vb vt hs bk fr pr br tk F ob) (hb : Below w.heap.size w w') : FT w0 w' (ext ρ w.heap.size 15) P S g T A L N Wd Pc n xs ys ps pcl p hv bv vb vt hs bk fr pr br tk F ob :=
  h.kx (KX.below (fun _ => False) ρ 15 hb) (fun _ _ h => h)
/-- what is done next. -/
theorem FT.newO (h : FT w0 w ρ P S g T A L N Wd Pc n xs ys ps pcl p hv bv vb vt hs bk fr pr br tk F ob) (cs : Array Value) : FT w0 (w.alloc (.cells cs 78)) (ext ρ w.heap.size 12) P S g T A L N Wd Pc n xs ys ps pcl p hv bv vb vt hs bk fr pr br tk F (some (w.heap.size, cs)) := by
  have h' := h.kx (KX.below (fun _ => False) ρ 12 (show Below w.heap.size w (w.alloc (.cells cs 78)) by go_grown)) (fun _ _ h => h)
  refine ⟨h'.ts, h'.rt, h'.r, h'.pl, h'.wd, h'.pc, h'.f, h'.z, h'.rP, h'.rN, h'.rW, h'.rC, h'.rvb, h'.rvt, fun B c e => ?_, h'.lx, h'.ly, h'.lp⟩
  simp only [Option.some.injEq, Prod.mk.injEq] at e
  obtain ⟨rfl, rfl⟩ := e
  exact ⟨heap_alloc_new _ _, ext_ge _ _ (Nat.le_refl _)⟩
/-- a word of the law's own row. -/
theorem FT.setWd (h : FT w0 w ρ P S g T A L N Wd Pc n xs ys ps pcl p hv bv vb vt hs bk fr pr br tk F ob) (i : Nat) (v : Int) : FT w0 (w.setCell ⟨Wd, i, none⟩ (.int .i64 v)) ρ P S g T A L N Wd Pc n xs (ys.set i v) ps pcl p hv bv vb vt hs bk fr pr br tk F ob := by
  have hk : KX (fun d => d = 8) ρ ρ w (w.setCell ⟨Wd, i, none⟩ (.int .i64 v)) := KX.set Wd i _ h.rW
  have hrt := h.rt.kx h.ts hk fun d hd => by omega
  have hg := (hk.blk h.ts.j.1.2.1 h.rt.g (by omega)).1
  have h1 := hk.blk h.pl h.rP (by omega)
  have h9 := hk.blk h.pc h.rC (by omega)
  have hr := r_kx h.r h.rN h.rvb h.rvt hk (by omega) (by omega)
  have h8 := Go.Proofs.Ytajmmglfdinahaa.ar.set_obj (i := i) (.int .i64 v) h.wd
  refine ⟨ts_kx h.rt h.ts hk h.z (fun d hd => by omega) hg rfl hrt, hrt, hr.1, h1.1, ?_, h9.1, f_kx h.f hk (fun j => by omega), h.z, h1.2, hr.2.1, h.rW, h9.2, hr.2.2.1, hr.2.2.2, o_kx h.o hk (by omega), h.lx, by rw [List.length_set]; exact h.ly, h.lp⟩
  rw [h8]
  simp [List.map_set]
theorem FT.setPc (h : FT w0 w ρ P S g T A L N Wd Pc n xs ys ps pcl p hv bv vb vt hs bk fr pr br tk F ob) (i : Nat) (v : Int) : FT w0 (w.setCell ⟨Pc, i, none⟩ (.int .i64 v)) ρ P S g T A L N Wd Pc n xs ys ps (pcl.set i v) p hv bv vb vt hs bk fr pr br tk F ob := by
  have hk : KX (fun d => d = 9) ρ ρ w (w.setCell ⟨Pc, i, none⟩ (.int .i64 v)) := KX.set Pc i _ h.rC
  have hrt := h.rt.kx h.ts hk fun d hd => by omega
  have hg := (hk.blk h.ts.j.1.2.1 h.rt.g (by omega)).1
  have h1 := hk.blk h.pl h.rP (by omega)
  have h8 := hk.blk h.wd h.rW (by omega)
  have hr := r_kx h.r h.rN h.rvb h.rvt hk (by omega) (by omega)
  have h9 := Go.Proofs.Ytajmmglfdinahaa.ar.set_obj (i := i) (.int .i64 v) h.pc
  refine ⟨ts_kx h.rt h.ts hk h.z (fun d hd => by omega) hg rfl hrt, hrt, hr.1, h1.1, h8.1, ?_, f_kx h.f hk (fun j => by omega), h.z, h1.2, hr.2.1, h8.2, h.rC, hr.2.2.1, hr.2.2.2, o_kx h.o hk (by omega), h.lx, h.ly, by rw [List.length_set]; exact h.lp⟩
  rw [h9]
  simp [List.map_set]
/-- a frame's Pc. -/
theorem FT.setF (h : FT w0 w ρ P S g T A L N Wd Pc n xs ys ps pcl p hv bv vb vt hs bk fr pr br tk F ob) {j q : Nat} (hj : hs[j]? = some true) (hq : ps[j]? = some (.pointer (some ⟨q, 0, none⟩))) (v : Int) : FT w0 (w.setCell ⟨q, 2, none⟩ (.int .i64 v)) ρ P S g T A L N Wd Pc n xs ys ps pcl p hv bv vb vt hs bk fr pr br tk (fun i => if i = j then v else F i) ob := by
  obtain ⟨q', e1, rq, e3⟩ := h.f j hj
  obtain rfl : q = q' := by
    rw [hq] at e1
    simpa using e1
  have hk : KX (fun d => d = 20 + j) ρ ρ w (w.setCell ⟨q, 2, none⟩ (.int .i64 v)) := KX.set q 2 _ rq
  have hrt := h.rt.kx h.ts hk fun d hd => by omega
  have hg := (hk.blk h.ts.j.1.2.1 h.rt.g (by omega)).1
  have h1 := hk.blk h.pl h.rP (by omega)
  have h8 := hk.blk h.wd h.rW (by omega)
  have h9 := hk.blk h.pc h.rC (by omega)
  have hr := r_kx h.r h.rN h.rvb h.rvt hk (by omega) (by omega)
  have hq2 := Go.Proofs.Ytajmmglfdinahaa.ar.set_obj (i := 2) (.int .i64 v) e3
  refine ⟨ts_kx h.rt h.ts hk h.z (fun d hd => by omega) hg rfl hrt, hrt, hr.1, h1.1, h8.1, h9.1, fun i hi => ?_, h.z, h1.2, hr.2.1, h8.2, h9.2, hr.2.2.1, hr.2.2.2, o_kx h.o hk (by omega), h.lx, h.ly, h.lp⟩
  by_cases e : i = j
  · subst e
    refine ⟨q, hq, rq, ?_⟩
    rw [hq2, if_pos rfl]
    rfl
  · obtain ⟨q2, a1, a2, a3⟩ := h.f i hi
    have := hk.blk a3 a2 (by omega)
    rw [if_neg e]
    exact ⟨q2, a1, a2, this.1⟩
/-- a word of the store. -/
theorem FT.store (h : FT w0 w ρ P S g T A L N Wd Pc n xs ys ps pcl p hv bv vb vt hs bk fr pr br tk F ob) (i : Nat) (v : Int) : FT w0 (w.setCell ⟨g, i, none⟩ (.int .i64 v)) ρ P S g T A L N Wd Pc n (xs.set i v) ys ps pcl p hv bv vb vt hs bk fr pr br tk F ob := by
  have hk : KX (fun d => d = 3) ρ ρ w (w.setCell ⟨g, i, none⟩ (.int .i64 v)) := KX.set g i _ h.rt.g
  have h1 := hk.blk h.pl h.rP (by omega)
  have h8 := hk.blk h.wd h.rW (by omega)
  have h9 := hk.blk h.pc h.rC (by omega)
  have hr := r_kx h.r h.rN h.rvb h.rvt hk (by omega) (by omega)
  have hg := Go.Proofs.Ytajmmglfdinahaa.ar.set_obj (i := i) (.int .i64 v) h.ts.j.1.2.1
  have hg2 : (w.setCell ⟨g, i, none⟩ (.int .i64 v)).heap[g]? = some (.cells ((xs.set i v).map (Value.int .i64)).toArray 3 (0, 0)) := by
    rw [hg]
    simp [List.map_set]
  exact ⟨ts_kx h.rt h.ts hk h.z (fun d hd => by omega) hg2 (List.length_set) h.rt, h.rt, hr.1, h1.1, h8.1, h9.1, f_kx h.f hk (fun j => by omega), h.z, h1.2, hr.2.1, h8.2, h9.2, hr.2.2.1, hr.2.2.2, o_kx h.o hk (by omega), by rw [List.length_set]; exact h.lx, h.ly, h.lp⟩
/-- a step of the reference. -/
theorem FT.ref (h : FT w0 w ρ P S g T A L N Wd Pc n xs ys ps pcl p hv bv vb vt hs bk fr pr br tk F ob) {r : Value} {e : Ending} (hp : RPost N w (n : Int) fr' pr' vb vt br' tk' r e w') : e = .returned r ∧ ∃ ρ' vb' vt', FT w0 w' ρ' P S g T A L N Wd Pc n xs ys ps pcl p hv bv vb' vt' hs bk fr' pr' br' tk' F ob := by
  obtain ⟨he, vb', vt', hR, hkn, hb, ob, ot⟩ := hp
  have hk : KX (fun d => d = 7) ρ (ext ρ w.heap.size 11) w w' := ⟨hb.os, hb.tape, hb.output, hkn.1, fun d hd b hbl hr => ⟨by rw [ext_lt ρ 11 hbl]; exact hr, hkn.2 b hbl (fun e => by subst e; have := h.rN; omega)⟩⟩
  have hrt := h.rt.kx h.ts hk fun d hd => by omega
  have hg := (hk.blk h.ts.j.1.2.1 h.rt.g (by omega)).1
  have h1 := hk.blk h.pl h.rP (by omega)
  have h8 := hk.blk h.wd h.rW (by omega)
  have h9 := hk.blk h.pc h.rC (by omega)
  have hN : ext ρ w.heap.size 11 N = 7 := by rw [ext_lt ρ 11 h.r.ltN]; exact h.rN
  have own : ∀ (v v' : Value), (∀ k, v.ownBlock = some k → k < w.heap.size ∧ ρ k = 11) → (∀ k, v'.ownBlock = some k → v.ownBlock = some k ∨ w.heap.size ≤ k) → ∀ k, v'.ownBlock = some k → ext ρ w.heap.size 11 k = 11 := fun v v' hv hv' k e => by
    rcases hv' k e with h | h
    · rw [ext_lt ρ 11 (hv k h).1]; exact (hv k h).2
    · exact ext_ge ρ 11 h
  exact ⟨he, _, vb', vt', ts_kx h.rt h.ts hk h.z (fun d hd => by omega) hg rfl hrt, hrt, hR, h1.1, h8.1, h9.1, f_kx h.f hk (fun j => by omega), (hk.bel (by omega) h.z h.b.size).2, h1.2, hN, h8.2, h9.2, own vb vb' (fun k e => ⟨h.r.lb k e, h.rvb k e⟩) ob, own vt vt' (fun k e => ⟨h.r.lt k e, h.rvt k e⟩) ot, o_kx h.o hk (by omega), h.lx, h.ly, h.lp⟩
/-- the roles behind a step of the table: blocks that are new. -/
def nro (ρ : Ro) (w : World) (hv bv : Value) (q j : Nat) : Ro := fun k => if k < w.heap.size then ρ k else if hv.ownBlock = some k ∨ bv.ownBlock = some k then 10 else if k = q then 20 + j else 15
theorem nro_lt (ρ : Ro) {w : World} (hv bv : Value) (q j : Nat) {k : Nat} (h : k < w.heap.size) : nro ρ w hv bv q j k = ρ k := if_pos h
/-- a step of the table: its blocks 3, 5, 6, 10 and one frame may be others. -/
theorem FT.tab (h : FT w0 w ρ P S g T A L N Wd Pc n xs ys ps pcl p hv bv vb vt hs bk fr pr br tk F ob) {q0 q j : Nat} (ht : TS w0 w' (FS A hv bv w) T S g A L n xs' ps' p' hv' bv' hs' bk') (hkeep : ∀ k, FS A hv bv w k → k ≠ L → k ≠ g → k ≠ q0 → w'.heap[k]? = w.heap[k]?) (hsz : w.heap.size ≤ w'.heap.size) (hq0 : w.heap.size ≤ q0 ∨ ρ q0 = 20 + j) (hlx : xs'.length = 7 + 14 * n)
    (hf : ∀ i, hs'[i]? = some true → (i = j ∧ w.heap.size ≤ q ∧ ps'[i]? = some (.pointer (some ⟨q, 0, none⟩)) ∧ w'.heap[q]? = some (.cells (fcs (F' i)) 67 (0, 0))) ∨ (i ≠ j ∧ hs[i]? = some true ∧ ps'[i]? = ps[i]? ∧ F' i = F i)) :
    ∃ ρ', FT w0 w' ρ' P S g T A L N Wd Pc n xs' ys ps' pcl p' hv' bv' vb vt hs' bk' fr pr br tk F' ob := by
  have own : ∀ k, (hv'.ownBlock = some k ∨ bv'.ownBlock = some k) → nro ρ w hv' bv' q j k = 10 := fun k e => by
    by_cases hl : k < w.heap.size
    · rw [nro_lt ρ hv' bv' q j hl]
      by_cases hF : FS A hv bv w k
      · have := ht.a.sa k hF
        rcases e with e | e
        · exact absurd e this.2.2.1
        · exact absurd e this.2.2.2
      · by_cases hA : k = A
        · subst hA
          rcases e with e | e
          · exact absurd e ht.a.h1
          · exact absurd e ht.a.h2
        · by_cases h1 : hv.ownBlock = some k
          · exact h.rt.h k h1
          · by_cases h2 : bv.ownBlock = some k
            · exact h.rt.b k h2
            · exact absurd ⟨hl, hA, h1, h2⟩ hF
    · unfold nro
      rw [if_neg hl, if_pos e]
  have hk : KX (fun d => d = 3 ∨ d = 5 ∨ d = 6 ∨ d = 10 ∨ d = 20 + j) ρ (nro ρ w hv' bv' q j) w w' := by
    have h1 := h.b
    have h2 := ht.j.2.1
    refine ⟨h2.os.trans h1.os.symm, h2.tape.trans h1.tape.symm, h2.output.trans h1.output.symm, hsz, fun d hd b hbl hr => ⟨by rw [nro_lt ρ hv' bv' q j hbl]; exact hr, hkeep b (h.rt.far hbl hr (by omega) (by omega)) (fun e => ?_) (fun e => ?_) (fun e => ?_)⟩⟩
    · subst e; have := h.rt.l; omega
    · subst e; have := h.rt.g; omega
    · subst e
      rcases hq0 with h | h <;> omega
  have key : ∀ b d, b < w.heap.size → ρ b = d → nro ρ w hv' bv' q j b = d := fun b d hb hr => (nro_lt ρ hv' bv' q j hb).trans hr
  have hj0 := h.ts.j.1.facts.2.2.2.2
  have hrt : RT (nro ρ w hv' bv' q j) S g T A L hv' bv' := ⟨key S 2 hj0.1 h.rt.s, key g 3 hj0.2 h.rt.g, key T 4 (lt_of_heap h.ts.t) h.rt.t, key A 5 (lt_of_heap h.ts.a.obj) h.rt.a, key L 6 (lt_of_heap h.ts.l) h.rt.l, fun k e => own k (.inl e), fun k e => own k (.inr e)⟩
  have h1 := hk.blk h.pl h.rP (by omega)
  have h8 := hk.blk h.wd h.rW (by omega)
  have h9 := hk.blk h.pc h.rC (by omega)
  have hr := r_kx h.r h.rN h.rvb h.rvt hk (by omega) (by omega)
  refine ⟨_, ts_fs ht hrt, hrt, hr.1, h1.1, h8.1, h9.1, fun i hi => ?_, (hk.bel (by omega) h.z h.b.size).2, h1.2, hr.2.1, h8.2, h9.2, hr.2.2.1, hr.2.2.2, o_kx h.o hk (by omega), hlx, h.ly, h.lp⟩
  rcases hf i hi with ⟨rfl, hql, e1, e2⟩ | ⟨hne, e0, e1, e2⟩
  · refine ⟨q, e1, ?_, e2⟩
    have hno : ∀ (v : Value) (e : TypeId) (sz m : Nat) (l : List Value), w'.ownsRow w0.heap.size e sz v m l → e ≠ 67 → v.ownBlock ≠ some q := fun v e sz m l hrow he hv => by
      obtain ⟨_, hh | ⟨g', cap, cur, rfl, hg, hh, _⟩⟩ := hrow
      · rw [hh.1] at hv; simp [Value.ownBlock] at hv
      · simp only [Value.ownBlock, Option.some.injEq] at hv
        subst hv
        rw [hh] at e2
        injection e2 with e2
        injection e2 with _ e2 _
        exact he e2
    unfold nro
    rw [if_neg (by omega), if_neg (by
      rintro (e | e)
      · exact hno _ _ _ _ _ ht.a.rh (by decide) e
      · exact hno _ _ _ _ _ ht.a.rb (by decide) e), if_pos rfl]
  · obtain ⟨q2, a1, a2, a3⟩ := h.f i e0
    have := hk.blk a3 a2 (by omega)
    rw [e1, e2]
    exact ⟨q2, a1, this.2, this.1⟩
end
end Go.Proofs.Ytajmmglfdinahaa.ft
