/- The program that bytes are: behind the labels 'wrong' and 'end' (layer 4). -/
import Derived.Test.YthllikmnlnakkaaPrFl
namespace Go.Proofs.Ythllikmnlnakkaa.pr
open Go.ChangeShapes Go.WideShapes Go.ChangeAt Go.RowKit
open Go.Proofs.Ythllikmnlnakkaa.bin Go.Proofs.Ythllikmnlnakkaa.bits Go.Proofs.Ythllikmnlnakkaa.ins
set_option linter.unusedVariables false
set_option linter.unusedSimpArgs false
def st2 (w : World) (g : Nat) (a b : Value) : World := (w.setCell ⟨g, 0, none⟩ a).setCell ⟨g, 1, none⟩ b
theorem st2_blk {w : World} {g : Nat} {a b a' b' : Value} {e : TypeId} (h : w.heap[g]? = some (.cells #[a, b] e (0, 0))) : (st2 w g a' b').heap[g]? = some (.cells #[a', b'] e (0, 0)) := by
  exact set_blk _ _ _ _ (set_blk _ _ _ _ h)
theorem st2_below {w0 w : World} {B g : Nat} (h : Below B w0 w) (hg : B ≤ g) (a b : Value) : Below B w0 (st2 w g a b) :=
  (h.setCell (p := ⟨g, 0, none⟩) hg _).setCell (p := ⟨g, 1, none⟩) hg _
/-- All below but the block of the result itself -/
theorem cel2 {w : World} {g : Nat} {a b : Value} {e : TypeId} (h : w.heap[g]? = some (.cells #[a, b] e (0, 0))) : w.cell? ⟨g, 0, none⟩ = some a ∧ w.cell? ⟨g, 1, none⟩ = some b ∧ w.frozen? ⟨g, 0, none⟩ = false ∧ w.frozen? ⟨g, 1, none⟩ = false := ⟨cel h 0, cel h 1, frz h 0, frz h 1⟩
theorem OP.keep {w w' : World} {B : Nat} {v : Value} {rows : List Value} {L : List (List I4)} (h : OP w B v rows L) (hk : ∀ k, B ≤ k → w'.heap[k]? = w.heap[k]?) : OP w' B v rows L := by
  refine ⟨?_, fun i hi => ?_⟩
  · obtain ⟨hl, h1 | ⟨g2, cap2, cur2, rfl, h1, hh2, h3⟩⟩ := h.1
    · exact ⟨hl, .inl h1⟩
    · exact ⟨hl, .inr ⟨g2, cap2, cur2, rfl, h1, (hk g2 h1).trans hh2, h3⟩⟩
  · obtain ⟨u, hu, hl, h1 | ⟨g, cap, cur, h1, h2, hh, h3⟩⟩ := h.2 i hi
    · exact ⟨u, hu, hl, .inl h1⟩
    · exact ⟨u, hu, hl, .inr ⟨g, cap, cur, h1, h2, (hk g h2).trans hh, h3⟩⟩
theorem st2_oth (w : World) (g k : Nat) (a b : Value) (h : k ≠ g) : (st2 w g a b).heap[k]? = w.heap[k]? := (set_oth _ _ _ _ _ h).trans (set_oth _ _ _ _ _ h)
theorem JG.wrong {w0 w : World} {res : R3} {a : Act} {m : Int} {v : Value} {rows : List Value} {acc : List (List I4)} {e : Int} {n : Nat} (hn : 0 < n) (hf : FR w0 a) (hg : HG w0 w m v rows acc) (he : a.tmps.getD 10 undef = .int .i64 e) (hr : bad e = res) : KG w0 res n 0 a w :=
  ⟨.inl ⟨rfl, hf, m, v, rows, acc, e, hg, he, hr.symm⟩, by simpa [mu] using hn⟩
set_option maxRecDepth 20000 in
set_option maxHeartbeats 4000000 in
theorem H0 (w0 : World) (res : R3) (a : Act) (w : World) (J : Nat → Act → World → Prop) (h : J0 w0 res a w) : (R13 0).wp Try.prog (QG w0 res J) a w := by
  obtain ⟨hf, m, v, rows, acc, e, hg, he, rfl⟩ := h
  obtain ⟨t, rfl⟩ := hf.lit
  rw [show t 10 = _ from he]
  obtain ⟨c0, c1, f0, f1⟩ := cel2 hg.r0
  conv => arg 2; whnf
  go_wp2_with fail
  have hB : Below w0.heap.size w0 (st2 w w0.heap.size (.int .i64 0) (.slice none 0 0)) := st2_below hg.bel (Nat.le_refl _) _ _
  exact bodyPost_ret (res_pg Try.results13 rfl rfl (st2_blk (a' := .int .i64 0) (b' := .slice none 0 0) hg.r0)) rfl ⟨⟨_, rfl, PM.nil _⟩, hB⟩
end Go.Proofs.Ythllikmnlnakkaa.pr
