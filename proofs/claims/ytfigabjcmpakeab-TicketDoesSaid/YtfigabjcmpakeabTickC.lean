/- Rows beside a store; turns in a row. -/
import Derived.Test.YtfigabjcmpakeabTickW
import Derived.Deep.OwnRows
namespace Go.Proofs.Ytfigabjcmpakeab
open Go.ChangeShapes Go.WideShapes Go.ChangeAt Go.RowKit
set_option linter.unusedVariables false
set_option linter.unusedSimpArgs false
/-- Block B is a row of one's own beside a store: n cells, cell i is f i. -/
def Row (w0 w : World) (S g B t n : Nat) (f : Nat → Value) : Prop := w.rowIs B t n f ∧ B ≠ g ∧ B ≠ S ∧ w0.heap.size ≤ B
theorem Row.keep {w0 w w' : World} {S g B t n : Nat} {f : Nat → Value} (h : Row w0 w S g B t n f) (hk : Keep g w w') : Row w0 w' S g B t n f :=
  ⟨h.1.of_block (hk.2 B h.1.lt h.2.1), h.2⟩
theorem Row.set {w0 w w' : World} {S g B t n : Nat} {f : Nat → Value} (h : Row w0 w S g B t n f) (i : Nat) (v : Value) (hw : w.setCell ⟨B, i, none⟩ v = w') : Row w0 w' S g B t n (fun j => if j = i then v else f j) := by
  subst hw; exact ⟨h.1.set i v, h.2⟩
theorem Row.other {w0 w w' : World} {S g B C t n i : Nat} {f : Nat → Value} {v : Value} (h : Row w0 w S g B t n f) (hw : w.setCell ⟨C, i, none⟩ v = w') (hne : B ≠ C) : Row w0 w' S g B t n f := by
  subst hw; exact ⟨h.1.setOther hne v, h.2⟩
theorem J.row_set {w0 w w' : World} {S g B t n i : Nat} {xs : List Int} {f : Nat → Value} {v : Value} (h : J w0 w S g xs) (hr : Row w0 w S g B t n f) (hw : w.setCell ⟨B, i, none⟩ v = w') : J w0 w' S g xs := by
  obtain ⟨⟨c, hb, _, _⟩, h2, h3, h4⟩ := hr
  exact h.own_set ⟨hb, h2, h3, h4⟩ hw
theorem Row.congr {w0 w : World} {S g B t n : Nat} {f f' : Nat → Value} (h : Row w0 w S g B t n f) (e : ∀ i, i < n → f i = f' i) : Row w0 w S g B t n f' := ⟨h.1.congr e, h.2⟩
theorem Row.below {w0 w w' : World} {S g B t n : Nat} {f : Nat → Value} (h : Row w0 w S g B t n f) (hb : Below w.heap.size w w') : Row w0 w' S g B t n f := h.keep (Keep.of_below hb)
theorem run_make_cells (P : Program) (t e : TypeId) (z : Value) (size bytes : Nat) (ht : P.underlying t = some (.slice e)) (hinfo : (P.info? e).map (fun i => (i.zero, i.size, i.bytes)) = some (some z, size, bytes))
    (kl kc : IntKind) (n : Nat) (hbytes : bytes * n ≤ 281474976710656) (h63 : n ≤ 9223372036854775807) (w : World) :
    (Instr.makeSlice t (.int kl (n : Int)) (.int kc (n : Int))).run P w = .ok (.slice (some ⟨w.heap.size, 0, none⟩) n n) (w.alloc (.cells (madeCells z.cells (n * size)) e)) := by
  obtain ⟨i, hi, hzz⟩ := Option.map_eq_some_iff.1 hinfo
  simp only [Prod.mk.injEq] at hzz
  obtain ⟨hz, hs, hb⟩ := hzz
  have hb' : (i.bytes : Int) * (n : Int) ≤ 281474976710656 := by
    have h : ((i.bytes * n : Nat) : Int) ≤ 281474976710656 := by rw [hb]; omega
    rwa [Int.natCast_mul] at h
  have hr := run_make (P := P) w t e i z ht hi hz kl kc n n (by omega) (Int.le_refl _) hb' (by omega)
  simp only [Int.toNat_natCast, hs] at hr
  exact hr
theorem made2 (w : World) (a : Value) (n t : Nat) : (w.alloc (.cells (madeCells #[a, a] n) t)).rowIs w.heap.size t n (fun _ => a) :=
  ⟨madeCells #[a, a] n, by show (w.heap.push _)[w.heap.size]? = _; rw [Array.getElem?_push_size], size_madeCells _ _, fun i hi => by
    have h : i % 2 = 0 ∨ i % 2 = 1 := by omega
    rcases h with h | h <;> simp [madeCells, hi, h]⟩
end Go.Proofs.Ytfigabjcmpakeab
