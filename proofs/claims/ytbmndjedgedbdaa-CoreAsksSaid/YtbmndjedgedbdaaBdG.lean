/- The builder of layer 7 in memory: functions with their codes, labels and leaps. -/
import Derived.Test.YtbmndjedgedbdaaPrD
import Derived.Test.YtbmndjedgedbdaaRo
import Derived.Maps.OwnSet
import Derived.Maps.OwnOps
import Derived.Maps.Views
import Derived.Deep.RegionHeld3
import Derived.Deep.DrawnRows
import Derived.RegionTactic
import Derived.ChangeAlike
import Derived.StillTailTactics
import Derived.Deep.RegionLaw
namespace Go.Proofs.Ytbmndjedgedbdaa.bd
open Go.ChangeShapes Go.WideShapes Go.ChangeAt Go.RowKit Go.Maps
open Go.Proofs.Ytbmndjedgedbdaa.ro
open Go.Proofs.Ytbmndjedgedbdaa.pr
set_option linter.unusedVariables false
set_option linter.unusedSimpArgs false
theorem law : Keyed Try.prog 9 := string_keyed Try.underlying9
abbrev Dm := DataW Unit
def kl (s : ByteArray) : Lit := .string s.data.toList
theorem kl_ne {s t : ByteArray} (h : s ≠ t) : kl s ≠ kl t := fun e => h (by
  unfold kl at e
  rw [Lit.string.injEq] at e
  have : s.data = t.data := Array.ext' e
  cases s; cases t; simp_all)
theorem kl_key (s : ByteArray) : WideAt.IsKeyLit (kl s) := by
  unfold kl
  simp [WideAt.IsKeyLit]
/-- what the labels are. -/
def Lab (D : Dm) (f : ByteArray → Option Int) : Prop := IsMap D ∧ ∀ s : ByteArray, Maps.has D (kl s) = (f s).isSome ∧ ∀ p, f s = some p → D.atKey (kl s) (.lit (.int .i64 0)) = .lit (.int .i64 p)
theorem Lab.empty : Lab (.map []) (fun _ => none) := ⟨isMap_empty, fun s => ⟨rfl, fun p h => by cases h⟩⟩
theorem Lab.put {D : Dm} {f : ByteArray → Option Int} (h : Lab D f) (s : ByteArray) (p : Int) : Lab (D.put (kl s) (.lit (.int .i64 p))) (fun q => if q = s then some p else f q) := by
  refine ⟨h.1.put _ _, fun q => ?_⟩
  by_cases e : q = s
  · subst e
    simp only [if_true]
    exact ⟨has_put_same h.1 (kl_key q) _, fun p' hp => by cases hp; exact atKey_put_same h.1 (kl_key q) _ _⟩
  · simp only [e, if_false]
    exact ⟨(has_put_other (kl_ne e) _).trans (h.2 q).1, fun p' hp => (atKey_put_other (kl_ne e) _ _).trans ((h.2 q).2 p' hp)⟩
def enL (p : Int × ByteArray) : List Value := [.int .i64 p.1, .string p.2]
theorem recL : Rec 2 enL := ⟨by omega, fun _ => rfl, fun x u hu => by simp [enL] at hu; rcases hu with rfl | rfl <;> rfl⟩
def enP (b : Nat) : List Value := [.pointer (some ⟨b, 0, none⟩)]
theorem recP : Rec 1 enP := ⟨by omega, fun _ => rfl, fun x u hu => by simp [enP] at hu; rcases hu with rfl; rfl⟩
structure Fn where
  F : Nat
  M : Nat
  cv : Value
  lv : Value
  cs : List I4
  ls : List (Int × ByteArray)
  f : ByteArray → Option Int
  nl : Nat
theorem ownsMap_blk {w w' : World} {b n : Nat} {D : Dm} (h : w.ownsMap Try.prog 9 (plainElem (H := Unit) Try.prog 3) b n D) (hb : w'.heap[b]? = w.heap[b]?) : w'.ownsMap Try.prog 9 (plainElem (H := Unit) Try.prog 3) b n D := by
  obtain ⟨es, c, h1, h2⟩ := h
  exact ⟨es, c, hb.trans h1, h2⟩

section
variable {Q : Nat → Prop} {w0 w w' : World} {ρ ρ' : Ro} {Bb : Nat} {mem : Int} {fv : Value} {fs : List Fn} {j : Nat} {x : Fn}

end
end Go.Proofs.Ytbmndjedgedbdaa.bd
namespace Go.Proofs.Ytbmndjedgedbdaa.bd
open Go.ChangeShapes Go.WideShapes Go.ChangeAt Go.RowKit Go.Maps
open Go.Proofs.Ytbmndjedgedbdaa.ro
open Go.Proofs.Ytbmndjedgedbdaa.pr
attribute [local go_sem ↓] Go.wp_at_zero Go.wp_at_succ
set_option linter.unusedVariables false
set_option linter.unusedSimpArgs false
theorem zeroI (w : World) : (zeroValue 3).run Try.prog w = .ok (.int .i64 0) w := by kernel_rfl
section
variable {w0 w : World} {ρ : Ro} {Bb : Nat} {mem : Int} {fv : Value} {fs : List Fn}
end
theorem three (w : World) (o1 o2 o3 : Obj) : (((w.alloc o1).alloc o2).alloc o3).heap[w.heap.size]? = some o1 ∧ (((w.alloc o1).alloc o2).alloc o3).heap[w.heap.size + 1]? = some o2 ∧ (((w.alloc o1).alloc o2).alloc o3).heap[w.heap.size + 1 + 1]? = some o3 ∧ Below w.heap.size w (((w.alloc o1).alloc o2).alloc o3) ∧ (((w.alloc o1).alloc o2).alloc o3).heap.size = w.heap.size + 1 + 1 + 1 := by
  refine ⟨?_, ?_, ?_, by go_grown, ?_⟩
  · show (((w.heap.push _).push _).push _)[w.heap.size]? = _
    simp only [Array.getElem?_push, Array.size_push]
    rw [if_neg (by omega), if_neg (by omega), if_pos trivial]
  · show (((w.heap.push _).push _).push _)[w.heap.size + 1]? = _
    simp only [Array.getElem?_push, Array.size_push]
    rw [if_neg (by omega), if_pos trivial]
  · show (((w.heap.push _).push _).push _)[w.heap.size + 1 + 1]? = _
    simp only [Array.getElem?_push, Array.size_push]
    rw [if_pos trivial]
  · show (((w.heap.push _).push _).push _).size = _
    simp

end Go.Proofs.Ytbmndjedgedbdaa.bd
namespace Go.Proofs.Ytbmndjedgedbdaa.bd
open Go.ChangeShapes Go.WideShapes Go.ChangeAt Go.RowKit Go.Maps
open Go.Proofs.Ytbmndjedgedbdaa.ro
open Go.Proofs.Ytbmndjedgedbdaa.pr
attribute [local go_sem ↓] Go.wp_at_zero Go.wp_at_succ
set_option linter.unusedVariables false
set_option linter.unusedSimpArgs false
theorem rec_new {α : Type} {en : α → List Value} {w : World} {cs : Array Value} {e g : Nat} (hg : w.heap.size = g) {p : α} (hp : cs.toList = en p) : ∀ j u, (en p)[j]? = some u → (w.alloc (.cells cs e)).cell? ((⟨g, 0, none⟩ : Addr).add j) = some u := by
  intro j u hu
  subst hg
  rw [← hp] at hu
  have h2 : cs[j]? = some u := by simpa using hu
  have := heap_new w (.cells cs e)
  rw [Go.WideShapes.add_plain, Nat.zero_add]
  simp only [World.cell?]
  rw [this]
  exact h2
theorem step_appR {α : Type} {k : Nat} {en : α → List Value} {ops : Array Oper} {o : Oper} {a : Act} {w : World} {K : Act → World → Prop} {Q : Exit → Act → World → Prop} {E : Prop} (hgd : o.guard = none) (s x : Operand) (t e : TypeId) (z : Value) (bytes : Nat)
    (ho : o.op = .call { callee := .builtin .append, args := #[s, x], argTypes := #[t, t] }) (ht : Try.prog.underlying t = some (.slice e)) (hinfo : (Try.prog.info? e).map (fun i => (i.zero, i.size, i.bytes)) = some (some z, k, bytes)) (hzs : z.cells.size = k) (hby : bytes ≤ 1000) (hr : Rec k en)
    (v : Value) (xs : List α) (p : α) (hs : a.eval s = v) (g c : Nat) (hx : a.eval x = .slice (some ⟨g, 0, none⟩) 1 c) (hown : OR k en w 0 e v xs) (hu : ∀ j u, (en p)[j]? = some u → w.cell? ((⟨g, 0, none⟩ : Addr).add j) = some u) (hsm : xs.length ≤ 1000000)
    (h : ∀ va vn vc w', Hid (OR k en w' 0 e (.slice va vn vc) (xs ++ [p])) → w.grownBy w' v.ownBlock → Hid ((Value.slice va vn vc).ownBlock = v.ownBlock ∨ (Value.slice va vn vc).ownBlock = some w.heap.size) → K (a.put o.dst (.slice va vn vc)) w') :
    if Region.wanted o (yielded ops a.tmps) = true then Oper.wp Try.prog o a w K Q else E := by
  have hw : Region.wanted o (yielded ops a.tmps) = true := by simp [Region.wanted, hgd]
  rw [if_pos hw]
  obtain ⟨i0, hi, hz0, hz1, hz2⟩ := info_parts hinfo
  have hb1 : (xs.length + 1) * bytes ≤ 140737488355328 := by
    have := Nat.mul_le_mul (show xs.length + 1 ≤ 1000001 by omega) hby
    omega
  obtain ⟨v', w', r1, r2, r3, _, r5⟩ := run_append_own_at (P := Try.prog) w 0 t o.type e i0 z k bytes ht hi hz0 hz1 hz2 hzs hr.1 v xs.length _ hown ⟨g, 0, none⟩ 1 c (en p) (by rw [hr.2.1]; omega) hu (hr.2.2 p) (by unfold maxLen; omega) hb1 (Nat.zero_le _)
  have r2' : OR k en w' 0 e v' (xs ++ [p]) := by unfold OR; rw [flat_snoc, List.length_append]; exact r2
  obtain ⟨va, vc, hvv⟩ := OR.form r2'
  obtain ⟨vn, hvn⟩ : ∃ vn, (xs ++ [p]).length = vn := ⟨_, rfl⟩
  rw [hvn] at hvv
  subst hvv
  unfold Oper.wp execOp
  simp only [ho, resolve, invoke, builtin, Sem.run_bind, Sem.run_pure, Result.andThen_ok, List.map_toArray, List.map_cons, List.map_nil, hs, hx, r1]
  exact h va vn vc w' (Lib.hid r2') r3 (Lib.hid r5)
theorem below_drewN (w : World) (n : Nat) : Below w.heap.size w (w.drewN n) := ⟨rfl, rfl, rfl, Nat.le_refl _, fun _ _ => rfl⟩
section
variable {w0 w : World} {ρ : Ro} {Bb : Nat} {mem : Int} {fv : Value} {fs : List Fn} {n : Nat} {x : Fn}

end
end Go.Proofs.Ytbmndjedgedbdaa.bd
namespace Go.Proofs.Ytbmndjedgedbdaa.bd
open Go.ChangeShapes Go.WideShapes Go.ChangeAt Go.RowKit Go.Maps
open Go.Proofs.Ytbmndjedgedbdaa.ro
open Go.Proofs.Ytbmndjedgedbdaa.pr
attribute [local go_sem ↓] Go.wp_at_zero Go.wp_at_succ
set_option linter.unusedVariables false
set_option linter.unusedSimpArgs false
section
variable {w0 w : World} {ρ : Ro} {Bb : Nat} {mem : Int} {fv : Value} {fs : List Fn} {n : Nat} {x : Fn}

end
end Go.Proofs.Ytbmndjedgedbdaa.bd
namespace Go.Proofs.Ytbmndjedgedbdaa.bd
open Go.ChangeShapes Go.WideShapes Go.ChangeAt Go.RowKit Go.Maps
open Go.Proofs.Ytbmndjedgedbdaa.ro
open Go.Proofs.Ytbmndjedgedbdaa.pr
attribute [local go_sem ↓] Go.wp_at_zero Go.wp_at_succ
set_option linter.unusedVariables false
set_option linter.unusedSimpArgs false
section
variable {w0 w : World} {ρ : Ro} {Bb : Nat} {mem : Int} {fv : Value} {fs : List Fn} {n : Nat} {x : Fn}
/-- behind a leap. -/
def lpd (x : Fn) (p : I4) (s : ByteArray) (cv lv : Value) : Fn := { x with cv := cv, lv := lv, cs := x.cs ++ [p], ls := x.ls ++ [((x.cs.length : Int), s)] }

end
end Go.Proofs.Ytbmndjedgedbdaa.bd
namespace Go.Proofs.Ytbmndjedgedbdaa.bd
open Go.ChangeShapes Go.WideShapes Go.ChangeAt Go.RowKit Go.Maps
open Go.Proofs.Ytbmndjedgedbdaa.ro
open Go.Proofs.Ytbmndjedgedbdaa.pr
attribute [local go_sem ↓] Go.wp_at_zero Go.wp_at_succ
set_option linter.unusedVariables false
set_option linter.unusedSimpArgs false
section
variable {w0 w : World} {ρ : Ro} {Bb : Nat} {mem : Int} {fv : Value} {fs : List Fn} {n : Nat} {x : Fn}

end
end Go.Proofs.Ytbmndjedgedbdaa.bd
namespace Go.Proofs.Ytbmndjedgedbdaa.bd
open Go.ChangeShapes Go.WideShapes Go.ChangeAt Go.RowKit Go.Maps
open Go.Proofs.Ytbmndjedgedbdaa.ro
open Go.Proofs.Ytbmndjedgedbdaa.pr
attribute [local go_sem ↓] Go.wp_at_zero Go.wp_at_succ
set_option linter.unusedVariables false
set_option linter.unusedSimpArgs false
theorem cloneI_none (w : World) : Calls Try.prog 40 #[.slice none 0 0] w fun e w' => ∃ v, e = .returned v ∧ OR 4 enI w' w.heap.size 68 v ([] : List I4) ∧ Below w.heap.size w w' := by
  have hs := @Lib.run_eql_slice_nil Try.prog
  go_enter Try.func40, Try.ntmps40
  go_wp2
  go_ret
  exact ⟨_, rfl, OR.nil _ _ _, Below.refl _ _⟩
theorem cloneI_some (ad : Addr) (n c : Nat) (xs : List I4) (w : World) (hv : RV 4 enI w (.slice (some ad) n c) xs) (hsm : xs.length ≤ 1000000) : Calls Try.prog 40 #[.slice (some ad) n c] w fun e w' => ∃ v, e = .returned v ∧ OR 4 enI w' w.heap.size 68 v xs ∧ Below w.heap.size w w' := by
  have hs := @Lib.run_eql_slice_nil Try.prog
  go_enter Try.func40, Try.ntmps40
  go_wp2_with (at_builtin; refine wpList_copyR (en := enI) rfl _ _ 69 68 _ 32 rfl Try.underlying69 infoI rfl (by decide) recI w.heap.size w.heap.size rfl ?o1 (Nat.le_refl _) xs ?v1 hsm ?_)
  case o1 => exact heap_new w _
  case v1 => exact hv.below ((Below.refl _ _).alloc (Nat.le_refl _) _)
  intro v' w' h1 h2
  clear hv
  go_wp2
  go_ret
  exact ⟨_, rfl, h1, ((Below.refl _ _).alloc (Nat.le_refl _) _).trans h2⟩
theorem cloneI (va : Value) (xs : List I4) (w : World) (hv : RV 4 enI w va xs) (hsm : xs.length ≤ 1000000) : Calls Try.prog 40 #[va] w fun e w' => ∃ v, e = .returned v ∧ OR 4 enI w' w.heap.size 68 v xs ∧ Below w.heap.size w w' := by
  have hv' := hv
  obtain ⟨a, c, rfl, h1, h2, hn, h3⟩ := hv
  cases a with
  | none =>
    have hc := hn rfl
    obtain rfl : xs = [] := List.eq_nil_of_length_eq_zero (by omega)
    subst hc
    exact cloneI_none w
  | some ad => exact cloneI_some ad _ c xs w hv' hsm
section
variable {α : Type} {k : Nat} {en : α → List Value}
theorem flat_set (hr : Rec k en) : ∀ (xs : List α) (i : Nat) (x y : α) (j : Nat) (u : Value), xs[i]? = some x → j < k → en y = (en x).set j u → flat en (xs.set i y) = (flat en xs).set (i * k + j) u
  | [], i, x, y, j, u, h, _, _ => by simp at h
  | q :: l, 0, x, y, j, u, h, hj, hy => by
    simp at h
    subst h
    show en y ++ flat en l = (en q ++ flat en l).set (0 * k + j) u
    rw [hy, List.set_append, if_pos (by rw [hr.2.1]; omega), Nat.zero_mul, Nat.zero_add]
  | q :: l, i + 1, x, y, j, u, h, hj, hy => by
    have h' : l[i]? = some x := by simpa using h
    show en q ++ flat en (l.set i y) = (en q ++ flat en l).set ((i + 1) * k + j) u
    rw [flat_set hr l i x y j u h' hj hy, List.set_append, if_neg (by rw [hr.2.1, Nat.succ_mul]; omega), hr.2.1]
    congr 2
    rw [Nat.succ_mul]
    omega
theorem OR.put {w : World} {B e g n c : Nat} {xs : List α} (hr : Rec k en) (h : OR k en w B e (.slice (some ⟨g, 0, none⟩) n c) xs) {i j : Nat} {x y : α} (hx : xs[i]? = some x) (hj : j < k) {u : Value} (hy : en y = (en x).set j u) :
    OR k en (w.setCell ⟨g, i * k + j, none⟩ u) B e (.slice (some ⟨g, 0, none⟩) n c) (xs.set i y) := by
  obtain ⟨hl, ⟨h0, _⟩ | ⟨g', cap, cur, h0, hg, hh, h1, h2, h3, h4⟩⟩ := h
  · simp at h0
  · simp only [Value.slice.injEq, Option.some.injEq, Addr.mk.injEq, and_true] at h0
    obtain ⟨rfl, rfl, rfl⟩ := h0
    refine ⟨by rw [flat_len hr], .inr ⟨g, c, cur.set! (i * k + j) u, by rw [List.length_set], hg, ro.set_blk w g _ u hh, by rw [List.length_set]; exact h1, h2, by simpa using h3, ?_⟩⟩
    rw [flat_set hr xs i x y j u hx hj hy, List.length_set, ← h4]
    simp [List.take_set]
end
/-- a jump's target is filled in. -/
def fillI (x : I4) (p : Int) : I4 := if x.1 = 18 then (x.1, p, x.2.2) else (x.1, x.2.1, p, x.2.2.2)
def fill1 (c : List I4) (a : Nat) (p : Int) : List I4 := c.set a (fillI (c.getD a d4) p)
/-- the targets, leap after leap. -/
def ledR (f : ByteArray → Option Int) : List (Int × ByteArray) → List I4 → Option (List I4)
  | [], c => some c
  | l :: r, c => match f l.2 with
    | none => none
    | some p => ledR f r (fill1 c l.1.toNat p)
end Go.Proofs.Ytbmndjedgedbdaa.bd
