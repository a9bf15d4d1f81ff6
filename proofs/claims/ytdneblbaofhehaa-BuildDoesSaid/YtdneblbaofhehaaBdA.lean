/- The builder of layer 7 in memory: functions with their codes, labels and leaps. -/
import Derived.Test.YtdneblbaofhehaaPrD
import Derived.Test.YtdneblbaofhehaaRo
import Derived.Maps.OwnSet
import Derived.Maps.OwnOps
import Derived.Maps.Views
namespace Go.Proofs.Ytdneblbaofhehaa.bd
open Go.ChangeShapes Go.WideShapes Go.ChangeAt Go.RowKit Go.Maps
open Go.Proofs.Ytdneblbaofhehaa.ro
open Go.Proofs.Ytdneblbaofhehaa.pr
set_option linter.unusedVariables false
set_option linter.unusedSimpArgs false
theorem law : Keyed Try.prog 9 := string_keyed Try.underlying9
abbrev Dm := DataW Unit
def kl (s : ByteArray) : Lit := .string s.data.toList
theorem kl_ne {s t : ByteArray} (h : s ≠ t) : kl s ≠ kl t := fun e => h (by
  unfold kl at e
  rw [Lit.string.injEq] at e
  have : s.data = t.data := Array.ext' e
  cases s; cases t; simp_all)
theorem kl_key (s : ByteArray) : WideAt.IsKeyLit (kl s) := by
  unfold kl
  simp [WideAt.IsKeyLit]
/-- what the labels are. -/
def Lab (D : Dm) (f : ByteArray → Option Int) : Prop := IsMap D ∧ ∀ s : ByteArray, Maps.has D (kl s) = (f s).isSome ∧ ∀ p, f s = some p → D.atKey (kl s) (.lit (.int .i64 0)) = .lit (.int .i64 p)
theorem Lab.empty : Lab (.map []) (fun _ => none) := ⟨isMap_empty, fun s => ⟨rfl, fun p h => by cases h⟩⟩
theorem Lab.put {D : Dm} {f : ByteArray → Option Int} (h : Lab D f) (s : ByteArray) (p : Int) : Lab (D.put (kl s) (.lit (.int .i64 p))) (fun q => if q = s then some p else f q) := by
  refine ⟨h.1.put _ _, fun q => ?_⟩
  by_cases e : q = s
  · subst e
    simp only [if_true]
    exact ⟨has_put_same h.1 (kl_key q) _, fun p' hp => by cases hp; exact atKey_put_same h.1 (kl_key q) _ _⟩
  · simp only [e, if_false]
    exact ⟨(has_put_other (kl_ne e) _).trans (h.2 q).1, fun p' hp => (atKey_put_other (kl_ne e) _ _).trans ((h.2 q).2 p' hp)⟩
def enL (p : Int × ByteArray) : List Value := [.int .i64 p.1, .string p.2]
theorem recL : Rec 2 enL := ⟨by omega, fun _ => rfl, fun x u hu => by simp [enL] at hu; rcases hu with rfl | rfl <;> rfl⟩
def enP (b : Nat) : List Value := [.pointer (some ⟨b, 0, none⟩)]
theorem recP : Rec 1 enP := ⟨by omega, fun _ => rfl, fun x u hu => by simp [enP] at hu; rcases hu with rfl; rfl⟩
structure Fn where
  F : Nat
  M : Nat
  cv : Value
  lv : Value
  cs : List I4
  ls : List (Int × ByteArray)
  f : ByteArray → Option Int
  nl : Nat
theorem ownsMap_blk {w w' : World} {b n : Nat} {D : Dm} (h : w.ownsMap Try.prog 9 (plainElem (H := Unit) Try.prog 3) b n D) (hb : w'.heap[b]? = w.heap[b]?) : w'.ownsMap Try.prog 9 (plainElem (H := Unit) Try.prog 3) b n D := by
  obtain ⟨es, c, h1, h2⟩ := h
  exact ⟨es, c, hb.trans h1, h2⟩
/-- a function that is put together, in memory. -/
structure FnAt (w : World) (ρ : Ro) (j : Nat) (x : Fn) : Prop where
  o : w.heap[x.F]? = some (.cells #[x.cv, .map (some x.M), x.lv] 67 (0, 0))
  ro : ρ x.F = 100 + 4 * j
  m : ∃ D, w.ownsMap Try.prog 9 (plainElem (H := Unit) Try.prog 3) x.M x.nl D ∧ Lab D x.f
  rm : ρ x.M = 101 + 4 * j
  c : RR 4 enI w ρ (102 + 4 * j) 33 x.cv x.cs
  l : RR 2 enL w ρ (103 + 4 * j) 72 x.lv x.ls
structure BS (w0 w : World) (ρ : Ro) (Bb : Nat) (mem : Int) (fv : Value) (fs : List Fn) : Prop where
  z : ∀ k, k < w0.heap.size → ρ k = 0
  b : Below w0.heap.size w0 w
  o : w.heap[Bb]? = some (.cells #[.int .i64 mem, fv] 56 (0, 0))
  rb : ρ Bb = 1
  r : RR 1 enP w ρ 2 58 fv (fs.map Fn.F)
  fn : ∀ j x, fs[j]? = some x → FnAt w ρ j x
section
variable {Q : Nat → Prop} {w0 w w' : World} {ρ ρ' : Ro} {Bb : Nat} {mem : Int} {fv : Value} {fs : List Fn} {j : Nat} {x : Fn}
theorem FnAt.lt (h : FnAt w ρ j x) : x.F < w.heap.size := ro.lt_of h.o
theorem FnAt.keep (h : FnAt w ρ j x) (hk : KX Q ρ ρ' w w') (hq : ∀ d, 100 + 4 * j ≤ d → d ≤ 103 + 4 * j → ¬ Q d) : FnAt w' ρ' j x := by
  have e1 := hk.blk h.o h.ro (hq _ (by omega) (by omega))
  obtain ⟨D, hm, hl⟩ := h.m
  have e2 := hk.k _ (hq (101 + 4 * j) (by omega) (by omega)) x.M hm.lt h.rm
  exact ⟨e1.1, e1.2, ⟨D, ownsMap_blk hm e2.2, hl⟩, e2.1, h.c.keep hk (hq _ (by omega) (by omega)), h.l.keep hk (hq _ (by omega) (by omega))⟩
theorem BS.keep (h : BS w0 w ρ Bb mem fv fs) (hk : KX Q ρ ρ' w w') (hq : ∀ d, d ≤ 2 ∨ 100 ≤ d → ¬ Q d) : BS w0 w' ρ' Bb mem fv fs := by
  have hz := hk.bel (hq 0 (by omega)) h.z h.b.size
  have e1 := hk.blk h.o h.rb (hq 1 (by omega))
  exact ⟨hz.2, h.b.trans hz.1, e1.1, e1.2, h.r.keep hk (hq 2 (by omega)), fun j x hx => (h.fn j x hx).keep hk fun d h1 _ => hq d (by omega)⟩
theorem BS.below (h : BS w0 w ρ Bb mem fv fs) (hb : Below w.heap.size w w') : BS w0 w' (ext ρ w.heap.size 9) Bb mem fv fs :=
  h.keep (KX.below (fun _ => False) ρ 9 hb) (fun _ _ h => h)
/-- one function is another one now. -/
theorem BS.upd (h : BS w0 w ρ Bb mem fv fs) {y : Fn} (hx : fs[j]? = some x) (hF : y.F = x.F) (hk : KX (fun d => 100 + 4 * j ≤ d ∧ d ≤ 103 + 4 * j) ρ ρ' w w') (hy : FnAt w' ρ' j y) : BS w0 w' ρ' Bb mem fv (fs.set j y) := by
  have hz := hk.bel (by omega) h.z h.b.size
  have e1 := hk.blk h.o h.rb (by omega)
  have hj : j < fs.length := (List.getElem?_eq_some_iff.1 hx).1
  have hm : (fs.set j y).map Fn.F = fs.map Fn.F := by
    rw [List.map_set, hF]
    apply List.ext_getElem?
    intro i
    by_cases e : i = j
    · subst e
      rw [List.getElem?_set_self (by simpa using hj), List.getElem?_map, hx]
      rfl
    · rw [List.getElem?_set_ne (fun h => e h.symm)]
  refine ⟨hz.2, h.b.trans hz.1, e1.1, e1.2, hm ▸ h.r.keep hk (by omega), fun i u hu => ?_⟩
  by_cases e : i = j
  · subst e
    rw [List.getElem?_set_self hj] at hu
    cases hu
    exact hy
  · rw [List.getElem?_set_ne (fun h => e h.symm)] at hu
    exact (h.fn i u hu).keep hk (fun d h1 h2 h3 => by omega)
/-- the code of function j has grown. -/
theorem BS.code (h : BS w0 w ρ Bb mem fv fs) (hx : fs[j]? = some x) {W : World} {v' : Value} {cs' : List I4} (hg : w.grownBy W x.cv.ownBlock) (ho : OR 4 enI W 0 33 v' cs') (hor : v'.ownBlock = x.cv.ownBlock ∨ v'.ownBlock = some w.heap.size) :
    BS w0 (W.setCell ⟨x.F, 0, none⟩ v') (ext ρ w.heap.size (102 + 4 * j)) Bb mem fv (fs.set j { x with cv := v', cs := cs' }) := by
  have hf := h.fn j x hx
  obtain ⟨g1, g2⟩ := hf.c.grown hg ho hor
  have oW := g2.blk hf.o hf.ro (by omega)
  obtain ⟨D, hm, hl⟩ := hf.m
  have mW := g2.k (101 + 4 * j) (by omega) x.M hm.lt hf.rm
  have hs := KX.set (w := W) x.F 0 v' oW.2
  have hk : KX (fun d => 100 + 4 * j ≤ d ∧ d ≤ 103 + 4 * j) ρ (ext ρ w.heap.size (102 + 4 * j)) w (W.setCell ⟨x.F, 0, none⟩ v') := (g2.to hs).mono (fun c hc => by omega)
  have hlW := hf.l.keep g2 (by omega)
  refine h.upd (y := { x with cv := v', cs := cs' }) hx rfl hk ⟨by rw [ro.set_blk W x.F 0 v' oW.1]; rfl, oW.2, ⟨D, ownsMap_blk hm ((ro.set_oth W x.F 0 x.M v' (fun e => by have := mW.1; have := oW.2; rw [e] at *; omega)).trans mW.2), hl⟩, mW.1, g1.keep hs (by omega), hlW.keep hs (by omega)⟩
/-- its leaps have grown. -/
theorem BS.leap (h : BS w0 w ρ Bb mem fv fs) (hx : fs[j]? = some x) {W : World} {v' : Value} {ls' : List (Int × ByteArray)} (hg : w.grownBy W x.lv.ownBlock) (ho : OR 2 enL W 0 72 v' ls') (hor : v'.ownBlock = x.lv.ownBlock ∨ v'.ownBlock = some w.heap.size) :
    BS w0 (W.setCell ⟨x.F, 2, none⟩ v') (ext ρ w.heap.size (103 + 4 * j)) Bb mem fv (fs.set j { x with lv := v', ls := ls' }) := by
  have hf := h.fn j x hx
  obtain ⟨g1, g2⟩ := hf.l.grown hg ho hor
  have oW := g2.blk hf.o hf.ro (by omega)
  obtain ⟨D, hm, hl⟩ := hf.m
  have mW := g2.k (101 + 4 * j) (by omega) x.M hm.lt hf.rm
  have hs := KX.set (w := W) x.F 2 v' oW.2
  have hk : KX (fun d => 100 + 4 * j ≤ d ∧ d ≤ 103 + 4 * j) ρ (ext ρ w.heap.size (103 + 4 * j)) w (W.setCell ⟨x.F, 2, none⟩ v') := (g2.to hs).mono (fun c hc => by omega)
  have hcW := hf.c.keep g2 (by omega)
  refine h.upd (y := { x with lv := v', ls := ls' }) hx rfl hk ⟨by rw [ro.set_blk W x.F 2 v' oW.1]; rfl, oW.2, ⟨D, ownsMap_blk hm ((ro.set_oth W x.F 2 x.M v' (fun e => by have := mW.1; have := oW.2; rw [e] at *; omega)).trans mW.2), hl⟩, mW.1, hcW.keep hs (by omega), g1.keep hs (by omega)⟩
/-- a label more. -/
theorem BS.label (h : BS w0 w ρ Bb mem fv fs) (hx : fs[j]? = some x) {D : Dm} {f' : ByteArray → Option Int} (hg : w.grownBy w' (some x.M)) (hm : w'.ownsMap Try.prog 9 (plainElem (H := Unit) Try.prog 3) x.M (x.nl + 1) D) (hl : Lab D f') :
    BS w0 w' (ext ρ w.heap.size 9) Bb mem fv (fs.set j { x with f := f', nl := x.nl + 1 }) := by
  have hf := h.fn j x hx
  obtain ⟨D0, hm0, _⟩ := hf.m
  have g2 : KX (· = 101 + 4 * j) ρ (ext ρ w.heap.size 9) w w' := ⟨hg.os, hg.tape, hg.output, hg.size, fun d hd q hq e => ⟨by rw [ro.ext_lt ρ 9 hq]; exact e, hg.block q hq (fun e2 => hd (by cases e2; rw [← e]; exact hf.rm))⟩⟩
  have hk : KX (fun d => 100 + 4 * j ≤ d ∧ d ≤ 103 + 4 * j) ρ (ext ρ w.heap.size 9) w w' := g2.mono (fun c hc => by omega)
  have oW := g2.blk hf.o hf.ro (by omega)
  exact h.upd (y := { x with f := f', nl := x.nl + 1 }) hx rfl hk ⟨oW.1, oW.2, ⟨D, hm, hl⟩, by rw [ro.ext_lt ρ 9 hm0.lt]; exact hf.rm, hf.c.keep g2 (by omega), hf.l.keep g2 (by omega)⟩
end
end Go.Proofs.Ytdneblbaofhehaa.bd
