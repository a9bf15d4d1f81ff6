/- A log, its events; note; the predicates; whose events are told (layer 24). -/
import Derived.Test.YtbmndjedgedbdaaRo
import Derived.Test.YtbmndjedgedbdaaGrids
import Derived.RegionTactic
import Derived.ChangeAlike
import Derived.StillTailTactics
import Derived.Deep.RegionLaw
import Derived.Deep.RegionHeld3
import Derived.Deep.DrawnRows
import Derived.WalkKit
import Derived.OwnWalkIn
import Derived.TacticsInMore
import Derived.LoopNIn
import Derived.LoopIn
namespace Go.Proofs.Ytbmndjedgedbdaa.lg
open Go.ChangeShapes Go.WideShapes Go.ChangeAt Go.RowKit
open Go.Proofs.Ytbmndjedgedbdaa.ro
attribute [local go_sem ↓] Go.wp_at_zero Go.wp_at_succ
set_option linter.unusedVariables false
set_option linter.unusedSimpArgs false
abbrev I4 := Int × Int × Int × Int
def enE (p : I4) : List Value := [.int .i64 p.1, .int .i64 p.2.1, .int .i64 p.2.2.1, .int .i64 p.2.2.2]
def vE (p : I4) : Value := .agg #[.int .i64 p.1, .int .i64 p.2.1, .int .i64 p.2.2.1, .int .i64 p.2.2.2]
theorem recE : Rec 4 enE := ⟨by omega, fun _ => rfl, fun x u hu => by simp [enE] at hu; rcases hu with rfl | rfl | rfl | rfl <;> rfl⟩
theorem infoE : (Try.prog.info? 155).map (fun i => (i.zero, i.size, i.bytes)) = some (some (.agg #[.int .i64 0, .int .i64 0, .int .i64 0, .int .i64 0]), 4, 32) := by kernel_rfl
theorem rec_new {α : Type} {en : α → List Value} {w : World} {cs : Array Value} {e g : Nat} (hg : w.heap.size = g) {p : α} (hp : cs.toList = en p) : ∀ j u, (en p)[j]? = some u → (w.alloc (.cells cs e)).cell? ((⟨g, 0, none⟩ : Addr).add j) = some u := by
  intro j u hu
  subst hg
  rw [← hp] at hu
  have h2 : cs[j]? = some u := by simpa using hu
  have := heap_new w (.cells cs e)
  rw [Go.WideShapes.add_plain, Nat.zero_add]
  simp only [World.cell?]
  rw [this]
  exact h2
theorem step_appR {α : Type} {k : Nat} {en : α → List Value} {ops : Array Oper} {o : Oper} {a : Act} {w : World} {K : Act → World → Prop} {Q : Exit → Act → World → Prop} {E : Prop} (hgd : o.guard = none) (s x : Operand) (t e : TypeId) (z : Value) (bytes : Nat)
    (ho : o.op = .call { callee := .builtin .append, args := #[s, x], argTypes := #[t, t] }) (ht : Try.prog.underlying t = some (.slice e)) (hinfo : (Try.prog.info? e).map (fun i => (i.zero, i.size, i.bytes)) = some (some z, k, bytes)) (hzs : z.cells.size = k) (hby : bytes ≤ 1000) (hr : Rec k en)
    (B : Nat) (hB : B ≤ w.heap.size) (v : Value) (xs : List α) (p : α) (hs : a.eval s = v) (g c : Nat) (hx : a.eval x = .slice (some ⟨g, 0, none⟩) 1 c) (hown : OR k en w B e v xs) (hu : ∀ j u, (en p)[j]? = some u → w.cell? ((⟨g, 0, none⟩ : Addr).add j) = some u) (hsm : xs.length ≤ 1000000)
    (h : ∀ va vn vc w', Hid (OR k en w' B e (.slice va vn vc) (xs ++ [p])) → w.grownBy w' v.ownBlock → Hid ((Value.slice va vn vc).ownBlock = v.ownBlock ∨ (Value.slice va vn vc).ownBlock = some w.heap.size) → K (a.put o.dst (.slice va vn vc)) w') :
    if Region.wanted o (yielded ops a.tmps) = true then Oper.wp Try.prog o a w K Q else E := by
  have hw : Region.wanted o (yielded ops a.tmps) = true := by simp [Region.wanted, hgd]
  rw [if_pos hw]
  obtain ⟨i0, hi, hz0, hz1, hz2⟩ := info_parts hinfo
  have hb1 : (xs.length + 1) * bytes ≤ 140737488355328 := by
    have := Nat.mul_le_mul (show xs.length + 1 ≤ 1000001 by omega) hby
    omega
  obtain ⟨v', w', r1, r2, r3, _, r5⟩ := run_append_own_at (P := Try.prog) w B t o.type e i0 z k bytes ht hi hz0 hz1 hz2 hzs hr.1 v xs.length _ hown ⟨g, 0, none⟩ 1 c (en p) (by rw [hr.2.1]; omega) hu (hr.2.2 p) (by unfold maxLen; omega) hb1 hB
  have r2' : OR k en w' B e v' (xs ++ [p]) := by unfold OR; rw [flat_snoc, List.length_append]; exact r2
  obtain ⟨va, vc, hvv⟩ := OR.form r2'
  obtain ⟨vn, hvn⟩ : ∃ vn, (xs ++ [p]).length = vn := ⟨_, rfl⟩
  rw [hvn] at hvv
  subst hvv
  unfold Oper.wp execOp
  simp only [ho, resolve, invoke, builtin, Sem.run_bind, Sem.run_pure, Result.andThen_ok, List.map_toArray, List.map_cons, List.map_nil, hs, hx, r1]
  exact h va vn vc w' (Lib.hid r2') r3 (Lib.hid r5)
theorem below_drewN (w : World) (n : Nat) : Below w.heap.size w (w.drewN n) := ⟨rfl, rfl, rfl, Nat.le_refl _, fun _ _ => rfl⟩
structure LG (n0 : Nat) (w : World) (A : Nat) (v : Value) (es : List I4) : Prop where
  lo : n0 ≤ A
  o : w.heap[A]? = some (.cells #[v] 110 (0, 0))
  r : OR 4 enE w n0 155 v es
  ne : v.ownBlock ≠ some A
section
variable {n0 A : Nat} {w w' : World} {v v' : Value} {es es' : List I4}
theorem LG.below (h : LG n0 w A v es) (hb : Below w.heap.size w w') : LG n0 w' A v es :=
  ⟨h.lo, (hb.block A (lt_of h.o)).trans h.o, h.r.below hb, h.ne⟩
theorem LG.note (h : LG n0 w A v es) (hn : n0 ≤ w.heap.size) (hg : w.grownBy w' v.ownBlock) (ho : OR 4 enE w' n0 155 v' es') (hor : v'.ownBlock = v.ownBlock ∨ v'.ownBlock = some w.heap.size) :
    w'.heap[A]? = some (.cells #[v] 110 (0, 0)) ∧ LG n0 (w'.setCell ⟨A, 0, none⟩ v') A v' es' ∧ Below n0 w (w'.setCell ⟨A, 0, none⟩ v') := by
  have hA := lt_of h.o
  have hb : w'.heap[A]? = some (.cells #[v] 110 (0, 0)) := (hg.block A hA (fun e => h.ne e.symm)).trans h.o
  have hne : v'.ownBlock ≠ some A := by
    rcases hor with e | e <;> rw [e]
    · exact h.ne
    · intro e2
      have := Option.some.inj e2
      omega
  refine ⟨hb, ⟨h.lo, set_blk w' A 0 v' hb, OR.blk ho (fun g hg2 => set_oth _ _ _ _ _ (fun e => hne (by rw [hg2, e]))), hne⟩, ?_⟩
  exact ((Below.refl n0 w).grown hg hn (fun k hk => (h.r.lt k hk).1)).setCell (p := ⟨A, 0, none⟩) h.lo _
end
theorem new_v (w : World) : Calls Try.prog 39 #[] w fun e w' => e = .returned (.pointer (some ⟨w.heap.size, 0, none⟩)) ∧ Below w.heap.size w w' ∧ LG w.heap.size w' w.heap.size (.slice none 0 0) [] := by
  go_enter Try.func39, Try.ntmps39
  go_wp2_with fail
  go_ret
  refine ⟨rfl, by go_grown, Nat.le_refl _, heap_new _ _, OR.nil _ _ _, by simp [Value.ownBlock]⟩
set_option maxRecDepth 20000 in
theorem len_v {n0 A : Nat} {w : World} {v : Value} {es : List I4} (h : LG n0 w A v es) : Calls Try.prog 27 #[.pointer (some ⟨A, 0, none⟩)] w fun e w' => e = .returned (.int .i64 (es.length : Nat)) ∧ w' = w := by
  have hA := lt_of h.o
  obtain ⟨a, c, hv⟩ := OR.form h.r
  have q0 : w.cell? ⟨A, 0, none⟩ = some (.slice a es.length c) := by rw [← hv]; exact cel h.o 0
  obtain ⟨n, hn⟩ : ∃ n, es.length = n := ⟨_, rfl⟩
  rw [hn] at q0 ⊢
  clear h hv hn
  go_enter Try.func27, Try.ntmps27
  go_wp2_with fail
  go_ret
  exact ⟨rfl, rfl⟩
end Go.Proofs.Ytbmndjedgedbdaa.lg
