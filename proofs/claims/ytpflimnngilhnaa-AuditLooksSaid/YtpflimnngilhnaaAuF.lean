/- Rows of two kinds side by side; one record more at a step of a drawn region (layer 37). -/
import Derived.Test.YtpflimnngilhnaaAuE
namespace Go.Proofs.Ytpflimnngilhnaa.au
open Go.ChangeShapes Go.WideShapes Go.ChangeAt Go.RowKit
open Go.Proofs.Ytpflimnngilhnaa.rh
set_option linter.unusedVariables false
set_option linter.unusedSimpArgs false
section
variable {α β : Type} {k k' : Nat} {en : α → List Value} {en' : β → List Value}
theorem OR.other {w w' : World} {B e e' : Nat} {v v' : Value} {xs : List α} {ys : List β} (h : OR k en w B e v xs) (h2 : OR k' en' w B e' v' ys) (hne : e ≠ e') (hg : w.grownBy w' v'.ownBlock) : OR k en w' B e v xs := by
  obtain ⟨hl, h | ⟨g, cap, cur, rfl, h1, hh, h3⟩⟩ := h
  · exact ⟨hl, .inl h⟩
  · refine ⟨hl, .inr ⟨g, cap, cur, rfl, h1, ?_, h3⟩⟩
    have hlt := (Array.getElem?_eq_some_iff.1 hh).1
    rw [hg.block g hlt ?_]
    · exact hh
    · intro e0
      obtain ⟨_, ⟨rfl, _⟩ | ⟨g2, cap2, cur2, rfl, _, hh2, _⟩⟩ := h2
      · simp [Value.ownBlock] at e0
      · simp [Value.ownBlock] at e0
        subst e0
        rw [hh] at hh2
        simp at hh2
        exact hne hh2.2
theorem rec_new {w : World} {cs : Array Value} {e g : Nat} (hg : w.heap.size = g) {p : α} (hp : cs.toList = en p) : ∀ j u, (en p)[j]? = some u → (w.alloc (.cells cs e)).cell? ((⟨g, 0, none⟩ : Addr).add j) = some u := by
  intro j u hu
  subst hg
  rw [← hp] at hu
  have h2 : cs[j]? = some u := by simpa using hu
  have := heap_box1 w cs e
  rw [Go.WideShapes.add_plain, Nat.zero_add]
  simp only [World.cell?]
  rw [this]
  exact h2
theorem step_appR {ops : Array Oper} {o : Oper} {a : Act} {w : World} {K : Act → World → Prop} {Q : Exit → Act → World → Prop} {E : Prop} (hgd : o.guard = none) (s x : Operand) (t e : TypeId) (z : Value) (bytes : Nat)
    (ho : o.op = .call { callee := .builtin .append, args := #[s, x], argTypes := #[t, t] }) (ht : Try.prog.underlying t = some (.slice e)) (hinfo : (Try.prog.info? e).map (fun i => (i.zero, i.size, i.bytes)) = some (some z, k, bytes)) (hzs : z.cells.size = k) (hby : bytes ≤ 1000) (hr : Rec k en)
    (B : Nat) (v : Value) (xs : List α) (p : α) (hs : a.eval s = v) (g c : Nat) (hx : a.eval x = .slice (some ⟨g, 0, none⟩) 1 c) (hown : Hid (OR k en w B e v xs)) (hu : ∀ j u, (en p)[j]? = some u → w.cell? ((⟨g, 0, none⟩ : Addr).add j) = some u) (hsm : xs.length ≤ 1000000) (hB : B ≤ w.heap.size)
    (h : ∀ v' w', Hid (OR k en w' B e v' (xs ++ [p])) → w.grownBy w' v.ownBlock → K (a.put o.dst v') w') :
    if Region.wanted o (yielded ops a.tmps) = true then Oper.wp Try.prog o a w K Q else E := by
  have hw : Region.wanted o (yielded ops a.tmps) = true := by simp [Region.wanted, hgd]
  rw [if_pos hw]
  obtain ⟨i0, hi, hz0, hz1, hz2⟩ := info_parts hinfo
  have hb1 : (xs.length + 1) * bytes ≤ 140737488355328 := by
    have := Nat.mul_le_mul (show xs.length + 1 ≤ 1000001 by omega) hby
    omega
  obtain ⟨v', w', r1, r2, r3, _, r5⟩ := run_append_own_at (P := Try.prog) w B t o.type e i0 z k bytes ht hi hz0 hz1 hz2 hzs hr.1 v xs.length _ hown.out ⟨g, 0, none⟩ 1 c (en p) (by rw [hr.2.1]; omega) hu (hr.2.2 p) (by unfold maxLen; omega) hb1 hB
  unfold Oper.wp execOp
  simp only [ho, resolve, invoke, builtin, Sem.run_bind, Sem.run_pure, Result.andThen_ok, List.map_toArray, List.map_cons, List.map_nil, hs, hx, r1]
  exact h v' w' (Lib.hid (by unfold OR; rw [flat_snoc, List.length_append]; exact r2)) r3
end
theorem infoV : (Try.prog.info? 30).map (fun i => (i.zero, i.size, i.bytes)) = some (some (.agg #[.int .i64 0, .int .i64 0, .int .i64 0, .int .i64 0]), 4, 32) := by kernel_rfl
theorem infoW : (Try.prog.info? 32).map (fun i => (i.zero, i.size, i.bytes)) = some (some (.agg #[.int .i64 0, .int .i64 0]), 2, 16) := by kernel_rfl
/-- The program's views and the document's, side by side. -/
structure Sd (w0 w : World) (u v : Value) (xs ys : List (Int × Int)) : Prop where
  o1 : OR 4 enV w w0.heap.size 30 u xs
  o2 : OR 2 enR w w0.heap.size 32 v ys
  b : Below w0.heap.size w0 w
theorem Sd.go {w0 w w' : World} {u v : Value} {xs ys : List (Int × Int)} (h : Sd w0 w u v xs ys) (hb : Below w.heap.size w w') : Sd w0 w' u v xs ys := ⟨h.o1.below hb, h.o2.below hb, h.b.trans (hb.mono h.b.size)⟩
theorem Sd.app1 {w0 w w' : World} {u v u' : Value} {xs ys xs' : List (Int × Int)} (h : Sd w0 w u v xs ys) (h' : Hid (OR 4 enV w' w0.heap.size 30 u' xs')) (hg : w.grownBy w' u.ownBlock) : Sd w0 w' u' v xs' ys :=
  ⟨h'.out, OR.other h.o2 h.o1 (by decide) hg, h.b.grown hg h.b.size (fun k e => (h.o1.lt k e).1)⟩
theorem Sd.app2 {w0 w w' : World} {u v v' : Value} {xs ys ys' : List (Int × Int)} (h : Sd w0 w u v xs ys) (h' : Hid (OR 2 enR w' w0.heap.size 32 v' ys')) (hg : w.grownBy w' v.ownBlock) : Sd w0 w' u v' xs ys' :=
  ⟨OR.other h.o1 h.o2 (by decide) hg, h'.out, h.b.grown hg h.b.size (fun k e => (h.o2.lt k e).1)⟩
def prV (z : Nat → Nat → Int) (k : Nat) : List (Int × Int) := (List.range k).map fun i => (z i 0, z i 1)
theorem prV_succ (z : Nat → Nat → Int) (k : Nat) : prV z (k + 1) = prV z k ++ [(z k 0, z k 1)] := by simp [prV, List.range_succ]
theorem prV_len (z : Nat → Nat → Int) (k : Nat) : (prV z k).length = k := by simp [prV]
theorem prV_at (z : Nat → Nat → Int) (n k : Nat) (h : k < n) : (prV z n).getD k (0, 0) = (z k 0, z k 1) := by simp [prV, h]
end Go.Proofs.Ytpflimnngilhnaa.au
