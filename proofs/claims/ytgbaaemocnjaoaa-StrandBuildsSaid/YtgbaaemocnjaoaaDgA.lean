/- The document's builder of strands in memory, by roles; how each store turns it (layer 30). -/
import Derived.Test.YtgbaaemocnjaoaaSnN
namespace Go.Proofs.Ytgbaaemocnjaoaa.dg
open Go.ChangeShapes Go.WideShapes Go.ChangeAt Go.RowKit
open Go.Proofs.Ytgbaaemocnjaoaa.ro Go.Proofs.Ytgbaaemocnjaoaa.sn
attribute [local go_sem ↓] Go.wp_at_zero Go.wp_at_succ
set_option linter.unusedVariables false
set_option linter.unusedSimpArgs false
theorem infD : (Try.prog.info? 64).map (fun i => (i.zero, i.size, i.bytes)) = some (some (.agg #[.int .i64 0, .int .i64 0, .int .i64 0]), 3, 24) := by kernel_rfl
theorem infG : (Try.prog.info? 73).map (fun i => (i.zero, i.size, i.bytes)) = some (some (.agg #[.int .i64 0, .int .i64 0]), 2, 16) := by kernel_rfl
abbrev Mk := Int × Int × Int
structure Dx where
  at_ : Nat
  pv : Value
  nv : Value
  av : Value
  us : List Sl
  P : List (List Int)
  N : List (Int × Int × Int)
  A : List (Int × Int × Bool)
  ov : Bool
  er : Int
def Dx.cs (lv : Value) (x : Dx) : Array Value := #[lv, .int .i64 (x.at_ : Int), x.pv, x.nv, x.av, .bool x.ov, .int .i64 x.er]
structure DP (w0 w : World) (r : Ro) (b : Nat) (x : Dx) : Prop where
  ro : r b = 1
  pr : RR 1 enS w r 3 39 x.pv x.us
  no : RR 3 enN w r 4 64 x.nv x.N
  ac : RR 3 enA w r 5 41 x.av x.A
  pl : x.us.length = x.P.length
  pe : ∀ i u, x.us[i]? = some u → RD 1 enI w r 6 (sl u) (x.P.getD i [])
  z : ∀ k, k < w0.heap.size → r k = 0
  b : Below w0.heap.size w0 w
structure DB (w0 w : World) (r : Ro) (b : Nat) (lv : Value) (x : Dx) : Prop where
  p : DP w0 w r b x
  o : w.heap[b]? = some (.cells (x.cs lv) 61 (0, 0))
section
variable {P : Nat → Prop} {w0 w w' : World} {r r' : Ro} {b : Nat} {lv : Value} {x : Dx}
theorem DP.keep (h : DP w0 w r b x) (hk : KX P r r' w w') (hp : ∀ c, c = 0 ∨ c = 3 ∨ c = 4 ∨ c = 5 ∨ c = 6 → ¬ P c) (hb : r' b = 1) : DP w0 w' r' b x :=
  have hz := hk.bel (hp 0 (by omega)) h.z h.b.size
  ⟨hb, h.pr.keep hk (hp _ (by omega)), h.no.keep hk (hp _ (by omega)), h.ac.keep hk (hp _ (by omega)), h.pl, fun i u hu => (h.pe i u hu).keep hk (hp _ (by omega)), hz.2, h.b.trans hz.1⟩
theorem DB.keep (h : DB w0 w r b lv x) (hk : KX P r r' w w') (hp : ∀ c, c < 8 → ¬ P c) : DB w0 w' r' b lv x :=
  ⟨h.p.keep hk (fun c hc => hp c (by omega)) (hk.blk h.o h.p.ro (hp _ (by omega))).2, (hk.blk h.o h.p.ro (hp _ (by omega))).1⟩
theorem DB.below (h : DB w0 w r b lv x) (c : Nat) (hb : Below w.heap.size w w') : DB w0 w' (ext r w.heap.size c) b lv x ∧ KX (fun _ => False) r (ext r w.heap.size c) w w' :=
  ⟨h.keep (KX.below (fun _ => False) r c hb) (fun _ _ h => h), KX.below (fun _ => False) r c hb⟩
theorem DP.set (h : DP w0 w r b x) {x0 : Dx} (j : Nat) (v : Value) (ho : w.heap[b]? = some (.cells (x0.cs lv) 61 (0, 0))) (hc : (x0.cs lv).set! j v = x.cs lv) : DB w0 (w.setCell ⟨b, j, none⟩ v) r b lv x ∧ KX (fun c => c = 1) r r w (w.setCell ⟨b, j, none⟩ v) := by
  have hk : KX (fun c => c = 1) r r w (w.setCell ⟨b, j, none⟩ v) := KX.set b j v h.ro
  exact ⟨⟨h.keep hk (fun c hc => by omega) h.ro, by rw [set_blk _ _ _ _ ho, hc]⟩, hk⟩
/-- a cell that is no row. -/
theorem DB.set (h : DB w0 w r b lv x) (x' : Dx) (j : Nat) (v : Value) (hp : x'.pv = x.pv ∧ x'.nv = x.nv ∧ x'.av = x.av ∧ x'.us = x.us ∧ x'.P = x.P ∧ x'.N = x.N ∧ x'.A = x.A) (hc : (x.cs lv).set! j v = x'.cs lv) : DB w0 (w.setCell ⟨b, j, none⟩ v) r b lv x' ∧ KX (fun c => c = 1) r r w (w.setCell ⟨b, j, none⟩ v) := by
  obtain ⟨h1, h2, h3, h4, h5, h6, h7⟩ := hp
  have hq : DP w0 w r b x' := ⟨h.p.ro, by rw [h1, h4]; exact h.p.pr, by rw [h2, h6]; exact h.p.no, by rw [h3, h7]; exact h.p.ac, by rw [h4, h5]; exact h.p.pl, by rw [h4, h5]; exact h.p.pe, h.p.z, h.p.b⟩
  exact hq.set j v h.o hc
theorem DB.appP (h : DB w0 w r b lv x) {u : Sl} {ps : List Int} {v' : Value} (hu : RD 1 enI w r 6 (sl u) ps) (hg : w.grownBy w' x.pv.ownBlock) (ho : OR 1 enS w' 0 39 v' (x.us ++ [u])) (hor : v'.ownBlock = x.pv.ownBlock ∨ v'.ownBlock = some w.heap.size) :
    ∃ r', w'.heap[b]? = some (.cells (x.cs lv) 61 (0, 0)) ∧ DB w0 (w'.setCell ⟨b, 2, none⟩ v') r' b lv { x with pv := v', us := x.us ++ [u], P := x.P ++ [ps] } ∧ KX (fun c => c = 3 ∨ c = 1) r r' w (w'.setCell ⟨b, 2, none⟩ v') := by
  obtain ⟨hr, hk⟩ := h.p.pr.grown hg ho hor
  have hb := hk.blk h.o h.p.ro (by omega)
  have hz := hk.bel (by omega) h.p.z h.p.b.size
  have hp : DP w0 w' (ext r w.heap.size 3) b { x with pv := v', us := x.us ++ [u], P := x.P ++ [ps] } :=
    ⟨hb.2, hr, h.p.no.keep hk (by omega), h.p.ac.keep hk (by omega), by simp [h.p.pl], fun i u' hu' => by
      by_cases e : i < x.us.length
      · rw [List.getElem?_append_left e] at hu'
        have := (h.p.pe i u' hu').keep hk (by omega)
        rw [List.getD_eq_getElem?_getD, List.getElem?_append_left (by rw [← h.p.pl]; exact e), ← List.getD_eq_getElem?_getD]
        exact this
      · have e2 : i = x.us.length := by have := (List.getElem?_eq_some_iff.1 hu').1; simp at this; omega
        subst e2
        rw [List.getElem?_append_right (Nat.le_refl _)] at hu'
        simp at hu'
        subst hu'
        rw [List.getD_eq_getElem?_getD, h.p.pl, List.getElem?_append_right (Nat.le_refl _)]
        simpa using hu.keep hk (by omega), hz.2, h.p.b.trans hz.1⟩
  obtain ⟨h3, hk3⟩ := hp.set 2 v' hb.1 rfl
  exact ⟨_, hb.1, h3, hk.to hk3⟩
theorem DB.appN (h : DB w0 w r b lv x) {n : Int × Int × Int} {v' : Value} (hg : w.grownBy w' x.nv.ownBlock) (ho : OR 3 enN w' 0 64 v' (x.N ++ [n])) (hor : v'.ownBlock = x.nv.ownBlock ∨ v'.ownBlock = some w.heap.size) :
    ∃ r', w'.heap[b]? = some (.cells (x.cs lv) 61 (0, 0)) ∧ DB w0 (w'.setCell ⟨b, 3, none⟩ v') r' b lv { x with nv := v', N := x.N ++ [n] } ∧ KX (fun c => c = 4 ∨ c = 1) r r' w (w'.setCell ⟨b, 3, none⟩ v') := by
  obtain ⟨hr, hk⟩ := h.p.no.grown hg ho hor
  have hb := hk.blk h.o h.p.ro (by omega)
  have hz := hk.bel (by omega) h.p.z h.p.b.size
  have hp : DP w0 w' (ext r w.heap.size 4) b { x with nv := v', N := x.N ++ [n] } :=
    ⟨hb.2, h.p.pr.keep hk (by omega), hr, h.p.ac.keep hk (by omega), h.p.pl, fun i u hu => (h.p.pe i u hu).keep hk (by omega), hz.2, h.p.b.trans hz.1⟩
  obtain ⟨h3, hk3⟩ := hp.set 3 v' hb.1 rfl
  exact ⟨_, hb.1, h3, hk.to hk3⟩
theorem DB.appA (h : DB w0 w r b lv x) {n : Int × Int × Bool} {v' : Value} (hg : w.grownBy w' x.av.ownBlock) (ho : OR 3 enA w' 0 41 v' (x.A ++ [n])) (hor : v'.ownBlock = x.av.ownBlock ∨ v'.ownBlock = some w.heap.size) :
    ∃ r', w'.heap[b]? = some (.cells (x.cs lv) 61 (0, 0)) ∧ DB w0 (w'.setCell ⟨b, 4, none⟩ v') r' b lv { x with av := v', A := x.A ++ [n] } ∧ KX (fun c => c = 5 ∨ c = 1) r r' w (w'.setCell ⟨b, 4, none⟩ v') := by
  obtain ⟨hr, hk⟩ := h.p.ac.grown hg ho hor
  have hb := hk.blk h.o h.p.ro (by omega)
  have hz := hk.bel (by omega) h.p.z h.p.b.size
  have hp : DP w0 w' (ext r w.heap.size 5) b { x with av := v', A := x.A ++ [n] } :=
    ⟨hb.2, h.p.pr.keep hk (by omega), h.p.no.keep hk (by omega), hr, h.p.pl, fun i u hu => (h.p.pe i u hu).keep hk (by omega), hz.2, h.p.b.trans hz.1⟩
  obtain ⟨h3, hk3⟩ := hp.set 4 v' hb.1 rfl
  exact ⟨_, hb.1, h3, hk.to hk3⟩
theorem DB.cells (h : DB w0 w r b lv x) : w.cell? ⟨b, 0, none⟩ = some lv ∧ w.cell? ⟨b, 1, none⟩ = some (.int .i64 (x.at_ : Int)) ∧ w.cell? ⟨b, 2, none⟩ = some x.pv ∧ w.cell? ⟨b, 3, none⟩ = some x.nv ∧ w.cell? ⟨b, 4, none⟩ = some x.av ∧ w.cell? ⟨b, 5, none⟩ = some (.bool x.ov) ∧ w.cell? ⟨b, 6, none⟩ = some (.int .i64 x.er) ∧ ∀ i, w.frozen? ⟨b, i, none⟩ = false :=
  ⟨cel h.o 0, cel h.o 1, cel h.o 2, cel h.o 3, cel h.o 4, cel h.o 5, cel h.o 6, frz h.o⟩
end
def DgP (v : Value) (P : Ro → World → Prop) (e : Ending) (w' : World) : Prop := e = .returned v ∧ ∃ r', P r' w'
set_option maxRecDepth 20000 in
theorem wrong_of (w0 w : World) (r : Ro) (b : Nat) (lv : Value) (x : Dx) (h : DB w0 w r b lv x) :
    Calls Try.prog 29 #[.pointer (some ⟨b, 0, none⟩)] w (DgP (.tuple #[]) fun r' w' => DB w0 w' r' b lv { x with er := 4, ov := true } ∧ KX (fun c => c = 1) r r' w w') := by
  obtain ⟨c0, c1, c2, c3, c4, c5, c6, cf⟩ := h.cells
  have f5 := cf 5
  have f6 := cf 6
  obtain ⟨h1, k1⟩ := h.set { x with er := 4 } 6 (.int .i64 4) ⟨rfl, rfl, rfl, rfl, rfl, rfl, rfl⟩ rfl
  obtain ⟨h2, k2⟩ := h1.set { x with er := 4, ov := true } 5 (.bool true) ⟨rfl, rfl, rfl, rfl, rfl, rfl, rfl⟩ rfl
  have HF := Lib.hid (And.intro h2 (k1.trans k2))
  have d5 : (w.setCell ⟨b, 6, none⟩ (.int .i64 4)).cell? ⟨b, 5, none⟩ = some (.bool x.ov) := h1.cells.2.2.2.2.2.1
  have g5 := frz h1.o 5
  clear h h1 k1 h2 k2 cf
  go_enter Try.func29, Try.ntmps29
  go_wp2_with fail
  go_end0
  exact ⟨rfl, r, HF.out.1, HF.out.2⟩
end Go.Proofs.Ytgbaaemocnjaoaa.dg
