/- What could happen: the plain part (layer 34). -/
import Derived.Test.YtgbeghaojkhiaaaRo
namespace Go.Proofs.Ytgbeghaojkhiaaa.tr
set_option linter.unusedVariables false
set_option linter.unusedSimpArgs false
abbrev I4 := Int × Int × Int × Int
/-- an iteration: stage, begun, waits, past, finished. -/
structure It where
  s : Int
  b : Bool
  w : Bool
  p : Bool
  f : Bool
structure Lp where
  its : List It
  fin : Nat
  en : Bool
def it0 : It := ⟨0, false, false, false, false⟩
def lp0 : Lp := ⟨[], 0, false⟩
def gd (k s : Int) (it : It) : Bool := if k = 2 then !it.b && decide (s = it.s) else if k = 4 then it.b && decide (s = it.s) else it.b && decide (it.s < s) && decide (s ≤ 1048575)
def chN (x : Lp) (k i s : Int) : Int :=
  if i < 0 ∨ (x.its.length : Int) ≤ i then 7
  else if (x.its.getD i.toNat it0).f = true then 10
  else if gd k s (x.its.getD i.toNat it0) = false then 4
  else if k = 2 ∧ (x.its.getD i.toNat it0).w = true ∧ 0 < i ∧ (x.its.getD (i.toNat - 1) it0).f = false ∧ (x.its.getD (i.toNat - 1) it0).s ≤ (x.its.getD i.toNat it0).s then 1 else 0
def ch (x : Lp) (e : I4) : Int :=
  if e.1 < 1 ∨ 6 < e.1 then 5
  else if x.en = true then 8
  else if e.1 = 1 then (if e.2.2.1 ≠ (x.its.length : Int) ∨ e.2.2.2 ≠ 0 then 4 else if 0 < e.2.2.1 ∧ (x.its.getD (e.2.2.1.toNat - 1) it0).p = false then 1 else 0)
  else if e.1 = 5 then (if e.2.2.1 ≠ (x.its.length : Int) ∨ e.2.2.1 = 0 ∨ (x.fin : Int) ≠ e.2.2.1 ∨ e.2.2.2 ≠ 0 then 4 else 0)
  else chN x e.1 e.2.2.1 e.2.2.2
def tkI (k s : Int) (it : It) : It := if k = 2 then { it with b := true } else if k = 4 then { it with f := true, p := true } else ⟨s, false, decide (k = 3), true, false⟩
def tk (x : Lp) (e : I4) : Lp :=
  if e.1 = 1 then { x with its := x.its ++ [it0] }
  else if e.1 = 5 then { x with en := true }
  else { x with its := x.its.set e.2.2.1.toNat (tkI e.1 e.2.2.2 (x.its.getD e.2.2.1.toNat it0)), fin := if e.1 = 4 then x.fin + 1 else x.fin }
def upd (F : Int → Lp) (e : I4) : Int → Lp := fun z => if z = e.2.1 then tk (F e.2.1) e else F z
/-- the first one that could not happen, and why. -/
def go (F : Int → Lp) : Nat → List I4 → Nat × Int
  | _, [] => (0, 0)
  | i, e :: r => if ch (F e.2.1) e = 0 then go (upd F e) (i + 1) r else (i, ch (F e.2.1) e)
def stF (F : Int → Lp) (l : List I4) : Int → Lp := l.foldl upd F
def F0 : Int → Lp := fun _ => lp0
def chk (l : List I4) : Nat × Int := go F0 0 l
theorem ch_node {x : Lp} {e : I4} (h : ch x e = 0) (h1 : e.1 ≠ 1) (h5 : e.1 ≠ 5) : chN x e.1 e.2.2.1 e.2.2.2 = 0 := by
  unfold ch at h
  by_cases a : e.1 < 1 ∨ 6 < e.1
  · rw [if_pos a] at h; omega
  · rw [if_neg a] at h
    by_cases b : x.en = true
    · rw [if_pos b] at h; omega
    · rw [if_neg b, if_neg h1, if_neg h5] at h
      exact h
theorem chN_in {x : Lp} {k i s : Int} (h : chN x k i s = 0) : 0 ≤ i ∧ i < (x.its.length : Int) := by
  unfold chN at h
  split at h
  · omega
  · rename_i h2
    omega
end Go.Proofs.Ytgbeghaojkhiaaa.tr
