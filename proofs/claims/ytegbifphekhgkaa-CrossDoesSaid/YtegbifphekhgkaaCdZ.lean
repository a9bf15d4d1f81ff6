/- What the texts of the law CrossDoes share with those of other laws: rows of numbers of one's own, pieces of codes (layer 19). -/
import Derived.Test.YtegbifphekhgkaaCrB
import Derived.Test.YtegbifphekhgkaaRo
import Derived.Test.YtegbifphekhgkaaIntR
import Derived.Test.YtegbifphekhgkaaView
import Derived.BigQuiet
namespace Go.Proofs.Ytegbifphekhgkaa
open Go.ChangeShapes Go.WideShapes Go.ChangeAt Go.RowKit
attribute [local go_sem ↓] Go.wp_at_zero Go.wp_at_succ
set_option linter.unusedVariables false
set_option linter.unusedSimpArgs false
theorem OI.set {w : World} {B g n cap : Nat} {xs : List Int} (h : OI w B (.slice (some ⟨g, 0, none⟩) n cap) xs) (a : Nat) (x : Int) : OI (w.setCell ⟨g, a, none⟩ (.int .i64 x)) B (.slice (some ⟨g, 0, none⟩) n cap) (xs.set a x) := by
  obtain ⟨hl, ⟨e, h0⟩ | ⟨g', cap', cur, e, hg, hh, h1, h2, h3, h4⟩⟩ := h
  · rw [Value.slice.injEq] at e
    exact absurd e.1 (by simp)
  · rw [Value.slice.injEq] at e
    obtain ⟨e1, e2, e3⟩ := e
    rw [Option.some.injEq, Addr.mk.injEq] at e1
    obtain ⟨rfl, _, _⟩ := e1
    subst e3
    refine ⟨by simp, .inr ⟨g, cap, cur.setIfInBounds a (.int .i64 x), by rw [List.length_set, e2], hg, cobj_set _ hh, by rw [List.length_set]; exact h1, h2, by simpa using h3, ?_⟩⟩
    rw [List.length_set, Array.toList_setIfInBounds, List.take_set, h4, List.map_set]
namespace dqo
def ptrV (p : Option Nat) : Value := .pointer (p.map fun A => ⟨A, 0, none⟩)
theorem own_ltI {w : World} {B : Nat} {v : Value} {xs : List Int} (h : OI w B v xs) : ∀ q, v.ownBlock = some q → B ≤ q ∧ q < w.heap.size := by
  intro q hq
  obtain ⟨hl, ⟨rfl, _⟩ | ⟨g', cap, cur, rfl, h2, hh, h3⟩⟩ := h
  · simp [Value.ownBlock] at hq
  · simp only [Value.ownBlock, Option.some.injEq] at hq
    subst hq
    exact ⟨h2, lt_of_heap hh⟩
theorem keepOI {w w' : World} {B : Nat} {v : Value} {xs : List Int} (h : OI w B v xs) (hk : ∀ g, v.ownBlock = some g → w'.heap[g]? = w.heap[g]?) : OI w' B v xs := by
  obtain ⟨hl, h1 | ⟨g, cap, cur, rfl, h2, hh, h3⟩⟩ := h
  · exact ⟨hl, .inl h1⟩
  · exact ⟨hl, .inr ⟨g, cap, cur, rfl, h2, (hk g rfl).trans hh, h3⟩⟩
def loopsIn : Code → List Code
  | .loop c => [c]
  | .seq a b => loopsIn a ++ loopsIn b
  | .cond _ a b => loopsIn a ++ loopsIn b
  | .block _ c => loopsIn c
  | .scope c => loopsIn c
  | _ => []
def lft : Code → Code
  | .seq a _ => a
  | .cond _ a _ => a
  | .block _ c => c
  | _ => .skip
def rgt : Code → Code
  | .seq _ b => b
  | .cond _ _ b => b
  | _ => .skip
theorem inblock_exit {id : Nat} {Q : Exit → Act → World → Prop} {a : Act} {w : World} (h : Q .normal a w) : Exit.inBlock id Q (.exit id) a w := by
  simp only [Exit.inBlock, if_true]
  exact h
theorem run_make_cells1 (P : Program) (t e : TypeId) (z : Value) (size bytes : Nat) (ht : P.underlying t = some (.slice e)) (hinfo : (P.info? e).map (fun i => (i.zero, i.size, i.bytes)) = some (some z, size, bytes))
    (kl kc : IntKind) (n : Nat) (hbytes : bytes * n ≤ 281474976710656) (h63 : n ≤ 9223372036854775807) (w : World) :
    (Instr.makeSlice t (.int kl (n : Int)) (.int kc (n : Int))).run P w = .ok (.slice (some ⟨w.heap.size, 0, none⟩) n n) (w.alloc (.cells (madeCells z.cells (n * size)) e)) := by
  obtain ⟨i, hi, hzz⟩ := Option.map_eq_some_iff.1 hinfo
  simp only [Prod.mk.injEq] at hzz
  obtain ⟨hz, hs, hb⟩ := hzz
  have hb' : (i.bytes : Int) * (n : Int) ≤ 281474976710656 := by
    have h : ((i.bytes * n : Nat) : Int) ≤ 281474976710656 := by rw [hb]; omega
    rwa [Int.natCast_mul] at h
  have hr := run_make (P := P) w t e i z ht hi hz kl kc n n (by omega) (Int.le_refl _) hb' (by omega)
  simp only [Int.toNat_natCast, hs] at hr
  exact hr
theorem made_one1 (a : Value) (n : Nat) : madeCells #[a] n = (List.replicate n a).toArray := by
  apply Array.ext
  · simp [size_madeCells]
  · intro i h1 h2
    simp [madeCells, Nat.mod_one]
end dqo
namespace dqd
theorem StoreAt.view {w : World} {S g : Nat} {xs : List Int} (h : StoreAt w S g xs) (hm : xs.length ≤ maxLen) : View w (.slice (some ⟨g, 0, none⟩) xs.length xs.length) xs := by
  obtain ⟨_, _, h2, _, _, hg⟩ := h.facts
  exact ⟨_, _, rfl, ⟨Nat.le_refl _, hm⟩, (fun h => by cases h), fun _ => ⟨g, 0, rfl, hg, Nat.le_refl _, fun i hi => by rw [Nat.zero_add]; exact h2 i hi⟩⟩
theorem all_any (S g : Nat) (xs : List Int) (w : World) (h : StoreAt w S g xs) (hsm : xs.length ≤ 100000) : Calls Try.prog 26 #[.pointer (some ⟨S, 0, none⟩)] w (RowPost w.heap.size xs w) := by
  obtain ⟨h0, _, _, _, _, _⟩ := h.facts
  have hV := StoreAt.view h (by unfold maxLen; omega)
  clear h
  go_enter Try.func26, Try.ntmps26
  go_wp2_with fail
  refine (clone_any _ xs _ hV hsm).mono ?_
  rintro e w' ⟨v', rfl, h1, h2⟩
  clear hV h0
  go_wp2_with fail
  go_ret
  exact ⟨_, rfl, h1, h2⟩
end dqd
end Go.Proofs.Ytegbifphekhgkaa
