/- The law DequeDoes: more of what its play's state turns (layer 13). -/
import Derived.Test.YtegbifphekhgkaaDqL3
import Derived.Test.YtegbifphekhgkaaDqL5
namespace Go.Proofs.Ytegbifphekhgkaa.dqd
open Go.Proofs.Ytegbifphekhgkaa.ro (Ro KX ext)
open Go.ChangeShapes Go.WideShapes Go.ChangeAt Go.RowKit

attribute [local go_sem ↓] Go.wp_at_zero Go.wp_at_succ
set_option linter.unusedVariables false
set_option linter.unusedSimpArgs false
section
variable {w0 w w' : World} {ρ ρ' : Ro} {Pl S g Wv Rv P D who n c c' : Nat} {ps : Nat → Option Nat} {os : Nat → Wk} {rs : Nat → Rk} {mv : Value} {E E' : Nat → Prop} {ys xs : List Int}
theorem Num.mono {k A : Nat} {o : Wk} {r : Rk} (h : Num D who P c k A o r) (hc : c ≤ c') : Num D who P c' k A o r := by
  obtain ⟨h1, h2, h3, h4, h5, h6, h7⟩ := h
  exact ⟨h1, h2, h3, h4, by omega, fun e => ⟨(h6 e).1, by have := (h6 e).2; omega⟩, h7⟩
theorem DS.mono (h : DS w0 w ρ Pl S g Wv Rv P D who n c ps os rs mv E ys xs) (hc : c ≤ c') : DS w0 w ρ Pl S g Wv Rv P D who n c' ps os rs mv E ys xs :=
  ⟨h.z, h.b, h.st, h.g0, h.rS, h.rg, h.pl, h.rp, h.wv, h.rw', h.rv, h.rr, h.m, h.rm, fun k hk hE A hA => by
    obtain ⟨a1, a2, a3⟩ := h.on k hk hE A hA
    exact ⟨a1, a2, Num.mono a3 hc⟩, h.ln, h.lm, h.wd.1, by have := h.wd.2; omega⟩
theorem DS.weaken (h : DS w0 w ρ Pl S g Wv Rv P D who n c ps os rs mv E ys xs) (hE : ∀ q, E' q → E q) : DS w0 w ρ Pl S g Wv Rv P D who n c ps os rs mv E' ys xs :=
  ⟨h.z, h.b, h.st, h.g0, h.rS, h.rg, h.pl, h.rp, h.wv, h.rw', h.rv, h.rr, h.m, h.rm, fun k hk e => h.on k hk (hE k e), h.ln, h.lm, h.wd⟩
theorem DS.ref10 (h : DS w0 w ρ Pl S g Wv Rv P D who n c ps os rs mv E ys xs) (k : Nat) (hk : k < 4) : w.cell? ⟨Rv, k * 10, none⟩ = some (.int .i64 (rs k).kd) ∧ w.cell? ⟨Rv, k * 10 + 1, none⟩ = some (.int .i64 ((rs k).P : Int)) ∧ w.cell? ⟨Rv, k * 10 + 2, none⟩ = some (.int .i64 ((rs k).D : Int)) ∧ w.cell? ⟨Rv, k * 10 + 3, none⟩ = some (.int .i64 (rs k).at_) ∧ w.cell? ⟨Rv, k * 10 + 4, none⟩ = some (.int .i64 (rs k).t) ∧ w.cell? ⟨Rv, k * 10 + 5, none⟩ = some (.int .i64 (rs k).x) ∧ w.cell? ⟨Rv, k * 10 + 6, none⟩ = some (.int .i64 (rs k).tn) ∧ w.cell? ⟨Rv, k * 10 + 7, none⟩ = some (.int .i64 (rs k).h) ∧ w.cell? ⟨Rv, k * 10 + 8, none⟩ = some (.bool (rs k).got) ∧ w.cell? ⟨Rv, k * 10 + 9, none⟩ = some (.bool (rs k).full) := by
  have e : ∀ j, j < 10 → w.cell? ⟨Rv, k * 10 + j, none⟩ = (rs k).cs[j]? := fun j hj => by
    have := h.ref k j hk hj
    rw [Nat.mul_comm] at this
    exact this
  exact ⟨e 0 (by omega), e 1 (by omega), e 2 (by omega), e 3 (by omega), e 4 (by omega), e 5 (by omega), e 6 (by omega), e 7 (by omega), e 8 (by omega), e 9 (by omega)⟩
theorem DS.frzR (h : DS w0 w ρ Pl S g Wv Rv P D who n c ps os rs mv E ys xs) (hb : Below w.heap.size w w') (j : Nat) : w'.frozen? ⟨Rv, j, none⟩ = false := by
  have := (hb.block Rv (lt_of_heap h.rv)).trans h.rv
  simp [World.frozen?, this]
theorem DS.frzW (h : DS w0 w ρ Pl S g Wv Rv P D who n c ps os rs mv E ys xs) (hb : Below w.heap.size w w') (j : Nat) : w'.frozen? ⟨Wv, j, none⟩ = false := by
  have := (hb.block Wv (lt_of_heap h.wv)).trans h.wv
  simp [World.frozen?, this]
theorem DS.plan (h : DS w0 w ρ Pl S g Wv Rv P D who n c ps os rs mv E ys xs) : w.cell? ⟨Pl, 0, none⟩ = some (.int .i64 2) ∧ w.cell? ⟨Pl, 1, none⟩ = some (.int .i64 1) ∧ w.cell? ⟨Pl, 2, none⟩ = some (.int .i64 1) ∧ w.cell? ⟨Pl, 3, none⟩ = some (.int .i64 (D : Int)) := by
  have := h.pl
  refine ⟨?_, ?_, ?_, ?_⟩ <;> simp [World.cell?, this]
theorem DS.jj (h : DS w0 w ρ Pl S g Wv Rv P D who n c ps os rs mv E ys xs) : J w0 w S g xs := ⟨h.st, h.b, h.g0⟩
theorem DS.ge (h : DS w0 w ρ Pl S g Wv Rv P D who n c ps os rs mv E ys xs) {b d : Nat} (hr : ρ b = d) (hd : d ≠ 0) : w0.heap.size ≤ b := by
  rcases Nat.lt_or_ge b w0.heap.size with h' | h'
  · exact absurd ((hr.symm.trans (h.z b h'))) hd
  · exact h'
theorem DS.ws (h : DS w0 w ρ Pl S g Wv Rv P D who n c ps os rs mv E ys xs) {A k : Nat} {o : Wk} (hA : WAt w A o) (hr : ρ A = 10 + k) : WS w0 w S g A xs o :=
  ⟨h.jj, hA, (fun e => by subst e; have := h.rg; omega), (fun e => by subst e; have := h.rS; omega), h.ge hr (by omega)⟩
/-- 'refs[k]' is another. -/
theorem DS.setRef (h : DS w0 w ρ Pl S g Wv Rv P D who n c ps os rs mv E ys xs) (k : Nat) (hk : k < 4) (r : Rk) :
    DS w0 (World.setCell (World.setCell (World.setCell (World.setCell (World.setCell (World.setCell (World.setCell (World.setCell (World.setCell (World.setCell w ⟨Rv, k * 10, none⟩ (.int .i64 r.kd)) ⟨Rv, k * 10 + 1, none⟩ (.int .i64 (r.P : Int))) ⟨Rv, k * 10 + 2, none⟩ (.int .i64 (r.D : Int))) ⟨Rv, k * 10 + 3, none⟩ (.int .i64 r.at_)) ⟨Rv, k * 10 + 4, none⟩ (.int .i64 r.t)) ⟨Rv, k * 10 + 5, none⟩ (.int .i64 r.x)) ⟨Rv, k * 10 + 6, none⟩ (.int .i64 r.tn)) ⟨Rv, k * 10 + 7, none⟩ (.int .i64 r.h)) ⟨Rv, k * 10 + 8, none⟩ (.bool r.got)) ⟨Rv, k * 10 + 9, none⟩ (.bool r.full)) ρ Pl S g Wv Rv P D who n c ps os (fun q => if q = k then r else rs q) mv (fun q => E q ∧ q ≠ k) ys xs := by
  have hk4 : k = 0 ∨ k = 1 ∨ k = 2 ∨ k = 3 := by omega
  rcases hk4 with rfl | rfl | rfl | rfl
  · exact h.setRef0 r
  · exact h.setRef1 r
  · exact h.setRef2 r
  · exact h.setRef3 r
set_option maxRecDepth 20000 in
/-- 'refs[k].T = 0'. -/
theorem DS.setT (h : DS w0 w ρ Pl S g Wv Rv P D who n c ps os rs mv E ys xs) (k : Nat) (hk : k < 4) :
    DS w0 (w.setCell ⟨Rv, k * 10 + 4, none⟩ (.int .i64 0)) ρ Pl S g Wv Rv P D who n c ps os (fun q => if q = k then { rs k with t := 0 } else rs q) mv (fun q => E q ∧ q ≠ k) ys xs := by
  have b0 : w.heap[Rv]? = some (.cells #[(.int .i64 (rs 0).kd), (.int .i64 ((rs 0).P : Int)), (.int .i64 ((rs 0).D : Int)), (.int .i64 (rs 0).at_), (.int .i64 (rs 0).t), (.int .i64 (rs 0).x), (.int .i64 (rs 0).tn), (.int .i64 (rs 0).h), (.bool (rs 0).got), (.bool (rs 0).full), (.int .i64 (rs 1).kd), (.int .i64 ((rs 1).P : Int)), (.int .i64 ((rs 1).D : Int)), (.int .i64 (rs 1).at_), (.int .i64 (rs 1).t), (.int .i64 (rs 1).x), (.int .i64 (rs 1).tn), (.int .i64 (rs 1).h), (.bool (rs 1).got), (.bool (rs 1).full), (.int .i64 (rs 2).kd), (.int .i64 ((rs 2).P : Int)), (.int .i64 ((rs 2).D : Int)), (.int .i64 (rs 2).at_), (.int .i64 (rs 2).t), (.int .i64 (rs 2).x), (.int .i64 (rs 2).tn), (.int .i64 (rs 2).h), (.bool (rs 2).got), (.bool (rs 2).full), (.int .i64 (rs 3).kd), (.int .i64 ((rs 3).P : Int)), (.int .i64 ((rs 3).D : Int)), (.int .i64 (rs 3).at_), (.int .i64 (rs 3).t), (.int .i64 (rs 3).x), (.int .i64 (rs 3).tn), (.int .i64 (rs 3).h), (.bool (rs 3).got), (.bool (rs 3).full)] 37 (0, 0)) := by rw [← lit40]; exact h.rv
  have hx : KX (fun q => q = 3) ρ ρ w (w.setCell ⟨Rv, k * 10 + 4, none⟩ (.int .i64 0)) := KX.set Rv _ _ h.rr
  have hk4 : k = 0 ∨ k = 1 ∨ k = 2 ∨ k = 3 := by omega
  rcases hk4 with rfl | rfl | rfl | rfl
  · have b1 : (w.setCell ⟨Rv, 0 * 10 + 4, none⟩ (.int .i64 0)).heap[Rv]? = some (.cells #[(.int .i64 (rs 0).kd), (.int .i64 ((rs 0).P : Int)), (.int .i64 ((rs 0).D : Int)), (.int .i64 (rs 0).at_), (.int .i64 0), (.int .i64 (rs 0).x), (.int .i64 (rs 0).tn), (.int .i64 (rs 0).h), (.bool (rs 0).got), (.bool (rs 0).full), (.int .i64 (rs 1).kd), (.int .i64 ((rs 1).P : Int)), (.int .i64 ((rs 1).D : Int)), (.int .i64 (rs 1).at_), (.int .i64 (rs 1).t), (.int .i64 (rs 1).x), (.int .i64 (rs 1).tn), (.int .i64 (rs 1).h), (.bool (rs 1).got), (.bool (rs 1).full), (.int .i64 (rs 2).kd), (.int .i64 ((rs 2).P : Int)), (.int .i64 ((rs 2).D : Int)), (.int .i64 (rs 2).at_), (.int .i64 (rs 2).t), (.int .i64 (rs 2).x), (.int .i64 (rs 2).tn), (.int .i64 (rs 2).h), (.bool (rs 2).got), (.bool (rs 2).full), (.int .i64 (rs 3).kd), (.int .i64 ((rs 3).P : Int)), (.int .i64 ((rs 3).D : Int)), (.int .i64 (rs 3).at_), (.int .i64 (rs 3).t), (.int .i64 (rs 3).x), (.int .i64 (rs 3).tn), (.int .i64 (rs 3).h), (.bool (rs 3).got), (.bool (rs 3).full)] 37 (0, 0)) := setA_obj (i := 4) (.int .i64 0) b0
    rw [← lit40] at b1
    have b2 : (w.setCell ⟨Rv, 0 * 10 + 4, none⟩ (.int .i64 0)).heap[Rv]? = some (.cells (({ rs 0 with t := 0 } : Rk).cs ++ (rs 1).cs ++ (rs 2).cs ++ (rs 3).cs) 37 (0, 0)) := b1
    exact h.other (ps' := ps) (rs' := fun q => if q = 0 then { rs 0 with t := 0 } else rs q) hx (.inr rfl) (hx.blk h.wv h.rw' (by omega)).1 (by simpa using b2) (fun q _ => rfl) (fun q hq => if_neg hq)
  · have b1 : (w.setCell ⟨Rv, 1 * 10 + 4, none⟩ (.int .i64 0)).heap[Rv]? = some (.cells #[(.int .i64 (rs 0).kd), (.int .i64 ((rs 0).P : Int)), (.int .i64 ((rs 0).D : Int)), (.int .i64 (rs 0).at_), (.int .i64 (rs 0).t), (.int .i64 (rs 0).x), (.int .i64 (rs 0).tn), (.int .i64 (rs 0).h), (.bool (rs 0).got), (.bool (rs 0).full), (.int .i64 (rs 1).kd), (.int .i64 ((rs 1).P : Int)), (.int .i64 ((rs 1).D : Int)), (.int .i64 (rs 1).at_), (.int .i64 0), (.int .i64 (rs 1).x), (.int .i64 (rs 1).tn), (.int .i64 (rs 1).h), (.bool (rs 1).got), (.bool (rs 1).full), (.int .i64 (rs 2).kd), (.int .i64 ((rs 2).P : Int)), (.int .i64 ((rs 2).D : Int)), (.int .i64 (rs 2).at_), (.int .i64 (rs 2).t), (.int .i64 (rs 2).x), (.int .i64 (rs 2).tn), (.int .i64 (rs 2).h), (.bool (rs 2).got), (.bool (rs 2).full), (.int .i64 (rs 3).kd), (.int .i64 ((rs 3).P : Int)), (.int .i64 ((rs 3).D : Int)), (.int .i64 (rs 3).at_), (.int .i64 (rs 3).t), (.int .i64 (rs 3).x), (.int .i64 (rs 3).tn), (.int .i64 (rs 3).h), (.bool (rs 3).got), (.bool (rs 3).full)] 37 (0, 0)) := setA_obj (i := 14) (.int .i64 0) b0
    rw [← lit40] at b1
    have b2 : (w.setCell ⟨Rv, 1 * 10 + 4, none⟩ (.int .i64 0)).heap[Rv]? = some (.cells ((rs 0).cs ++ ({ rs 1 with t := 0 } : Rk).cs ++ (rs 2).cs ++ (rs 3).cs) 37 (0, 0)) := b1
    exact h.other (ps' := ps) (rs' := fun q => if q = 1 then { rs 1 with t := 0 } else rs q) hx (.inr rfl) (hx.blk h.wv h.rw' (by omega)).1 (by simpa using b2) (fun q _ => rfl) (fun q hq => if_neg hq)
  · have b1 : (w.setCell ⟨Rv, 2 * 10 + 4, none⟩ (.int .i64 0)).heap[Rv]? = some (.cells #[(.int .i64 (rs 0).kd), (.int .i64 ((rs 0).P : Int)), (.int .i64 ((rs 0).D : Int)), (.int .i64 (rs 0).at_), (.int .i64 (rs 0).t), (.int .i64 (rs 0).x), (.int .i64 (rs 0).tn), (.int .i64 (rs 0).h), (.bool (rs 0).got), (.bool (rs 0).full), (.int .i64 (rs 1).kd), (.int .i64 ((rs 1).P : Int)), (.int .i64 ((rs 1).D : Int)), (.int .i64 (rs 1).at_), (.int .i64 (rs 1).t), (.int .i64 (rs 1).x), (.int .i64 (rs 1).tn), (.int .i64 (rs 1).h), (.bool (rs 1).got), (.bool (rs 1).full), (.int .i64 (rs 2).kd), (.int .i64 ((rs 2).P : Int)), (.int .i64 ((rs 2).D : Int)), (.int .i64 (rs 2).at_), (.int .i64 0), (.int .i64 (rs 2).x), (.int .i64 (rs 2).tn), (.int .i64 (rs 2).h), (.bool (rs 2).got), (.bool (rs 2).full), (.int .i64 (rs 3).kd), (.int .i64 ((rs 3).P : Int)), (.int .i64 ((rs 3).D : Int)), (.int .i64 (rs 3).at_), (.int .i64 (rs 3).t), (.int .i64 (rs 3).x), (.int .i64 (rs 3).tn), (.int .i64 (rs 3).h), (.bool (rs 3).got), (.bool (rs 3).full)] 37 (0, 0)) := setA_obj (i := 24) (.int .i64 0) b0
    rw [← lit40] at b1
    have b2 : (w.setCell ⟨Rv, 2 * 10 + 4, none⟩ (.int .i64 0)).heap[Rv]? = some (.cells ((rs 0).cs ++ (rs 1).cs ++ ({ rs 2 with t := 0 } : Rk).cs ++ (rs 3).cs) 37 (0, 0)) := b1
    exact h.other (ps' := ps) (rs' := fun q => if q = 2 then { rs 2 with t := 0 } else rs q) hx (.inr rfl) (hx.blk h.wv h.rw' (by omega)).1 (by simpa using b2) (fun q _ => rfl) (fun q hq => if_neg hq)
  · have b1 : (w.setCell ⟨Rv, 3 * 10 + 4, none⟩ (.int .i64 0)).heap[Rv]? = some (.cells #[(.int .i64 (rs 0).kd), (.int .i64 ((rs 0).P : Int)), (.int .i64 ((rs 0).D : Int)), (.int .i64 (rs 0).at_), (.int .i64 (rs 0).t), (.int .i64 (rs 0).x), (.int .i64 (rs 0).tn), (.int .i64 (rs 0).h), (.bool (rs 0).got), (.bool (rs 0).full), (.int .i64 (rs 1).kd), (.int .i64 ((rs 1).P : Int)), (.int .i64 ((rs 1).D : Int)), (.int .i64 (rs 1).at_), (.int .i64 (rs 1).t), (.int .i64 (rs 1).x), (.int .i64 (rs 1).tn), (.int .i64 (rs 1).h), (.bool (rs 1).got), (.bool (rs 1).full), (.int .i64 (rs 2).kd), (.int .i64 ((rs 2).P : Int)), (.int .i64 ((rs 2).D : Int)), (.int .i64 (rs 2).at_), (.int .i64 (rs 2).t), (.int .i64 (rs 2).x), (.int .i64 (rs 2).tn), (.int .i64 (rs 2).h), (.bool (rs 2).got), (.bool (rs 2).full), (.int .i64 (rs 3).kd), (.int .i64 ((rs 3).P : Int)), (.int .i64 ((rs 3).D : Int)), (.int .i64 (rs 3).at_), (.int .i64 0), (.int .i64 (rs 3).x), (.int .i64 (rs 3).tn), (.int .i64 (rs 3).h), (.bool (rs 3).got), (.bool (rs 3).full)] 37 (0, 0)) := setA_obj (i := 34) (.int .i64 0) b0
    rw [← lit40] at b1
    have b2 : (w.setCell ⟨Rv, 3 * 10 + 4, none⟩ (.int .i64 0)).heap[Rv]? = some (.cells ((rs 0).cs ++ (rs 1).cs ++ (rs 2).cs ++ ({ rs 3 with t := 0 } : Rk).cs) 37 (0, 0)) := b1
    exact h.other (ps' := ps) (rs' := fun q => if q = 3 then { rs 3 with t := 0 } else rs q) hx (.inr rfl) (hx.blk h.wv h.rw' (by omega)).1 (by simpa using b2) (fun q _ => rfl) (fun q hq => if_neg hq)
end
end Go.Proofs.Ytegbifphekhgkaa.dqd
