/- The play of DequeOnce: what lies in memory ahead of each round: the plan, the store, the walks, what has come out (layer 13). -/
import Derived.Test.YtegbifphekhgkaaRo
import Derived.Test.YtegbifphekhgkaaDqK
import Derived.Test.YtegbifphekhgkaaDqO2
import Derived.Test.YtegbifphekhgkaaDqP4
namespace Go.Proofs.Ytegbifphekhgkaa.dqo
open Go.ChangeShapes Go.WideShapes Go.ChangeAt Go.RowKit
open Go.Proofs.Ytegbifphekhgkaa.ro (Ro KX ext)
open Go.Proofs.Ytegbifphekhgkaa.DO (Ag AgR)
set_option linter.unusedVariables false
set_option linter.unusedSimpArgs false
def ptrV (p : Option Nat) : Value := .pointer (p.map fun A => ⟨A, 0, none⟩)
theorem own_ltI {w : World} {B : Nat} {v : Value} {xs : List Int} (h : OI w B v xs) : ∀ q, v.ownBlock = some q → B ≤ q ∧ q < w.heap.size := by
  intro q hq
  obtain ⟨hl, ⟨rfl, _⟩ | ⟨g', cap, cur, rfl, h2, hh, h3⟩⟩ := h
  · simp [Value.ownBlock] at hq
  · simp only [Value.ownBlock, Option.some.injEq] at hq
    subst hq
    exact ⟨h2, lt_of_heap hh⟩
theorem keepOI {w w' : World} {B : Nat} {v : Value} {xs : List Int} (h : OI w B v xs) (hk : ∀ g, v.ownBlock = some g → w'.heap[g]? = w.heap[g]?) : OI w' B v xs := by
  obtain ⟨hl, h1 | ⟨g, cap, cur, rfl, h2, hh, h3⟩⟩ := h
  · exact ⟨hl, .inl h1⟩
  · exact ⟨hl, .inr ⟨g, cap, cur, rfl, h2, (hk g rfl).trans hh, h3⟩⟩
section
variable {w w' : World} {ρ : Ro} {g : Nat}
theorem kx_fr {A k : Nat} (hF : Fr g A w w') (hg : ρ g = 5) (hA : ρ A = 10 + k) (hos : w'.os = w.os ∧ w'.tape = w.tape ∧ w'.output = w.output) : KX (fun d => d = 5 ∨ d = 10 + k) ρ (ext ρ w.heap.size 9) w w' :=
  ⟨hos.1, hos.2.1, hos.2.2, hF.1, fun d hd q hq e => ⟨by rw [ro.ext_lt ρ 9 hq]; exact e, hF.2 q hq (fun e2 => hd (by subst e2; omega)) (fun e2 => hd (by subst e2; omega))⟩⟩
end
/-- a walk of the play: none, or one that lies in a block of its own and stands at a step. -/
def Stands (w : World) (ρ : Ro) (P D k : Nat) (a : Ag) (p : Option Nat) : Prop :=
  (p = none ∧ a.pc = .idle) ∨ (∃ A o, p = some A ∧ a.pc ≠ .idle ∧ WAt w A o ∧ ρ A = 10 + k ∧ AgR A P D a o)
structure OS (w0 w : World) (ρ : Ro) (Pl S g Wv Ou P D n : Nat) (ag : Nat → Ag) (ps : Nat → Option Nat) (E : Nat → Prop) (vs : Nat → Value) (ls : Nat → List Int) (xs : List Int) : Prop where
  z : ∀ k, k < w0.heap.size → ρ k = 0
  b : Below w0.heap.size w0 w
  st : StoreAt w S g xs
  g0 : w0.heap.size ≤ g
  rS : ρ S = 6
  rg : ρ g = 5
  pl : w.heap[Pl]? = some (.cells #[.int .i64 2, .int .i64 1, .int .i64 1, .int .i64 (D : Int)] 25 (0, 0))
  rp : ρ Pl = 1
  wv : w.heap[Wv]? = some (.cells #[ptrV (ps 0), ptrV (ps 1), ptrV (ps 2), ptrV (ps 3)] 35 (0, 0))
  rw' : ρ Wv = 2
  ou : w.heap[Ou]? = some (.cells #[vs 0, vs 1, vs 2, vs 3, .bool true] 52 (0, 0))
  ro : ρ Ou = 3
  row : ∀ j, j < 4 → OI w (Ou + 1) (vs j) (ls j) ∧ ∀ q, (vs j).ownBlock = some q → ρ q = 20 + j
  on : ∀ k, k < 4 → E k → Stands w ρ P D k (ag k) (ps k)
  ln : xs.length = n
section
variable {Q : Nat → Prop} {w0 w w' : World} {ρ ρ' : Ro} {Pl S g Wv Ou P D n : Nat} {ag : Nat → Ag} {ps : Nat → Option Nat} {E : Nat → Prop} {vs : Nat → Value} {ls : Nat → List Int} {xs : List Int}
theorem Stands.keep {k : Nat} {a : Ag} {p : Option Nat} (h : Stands w ρ P D k a p) (hk : KX Q ρ ρ' w w') (hq : ¬ Q (10 + k)) : Stands w' ρ' P D k a p := by
  rcases h with h | ⟨A, o, h1, h2, h3, h4, h5⟩
  · exact Or.inl h
  · have := hk.blk h3 h4 hq
    exact Or.inr ⟨A, o, h1, h2, this.1, this.2, h5⟩
theorem OS.keep (h : OS w0 w ρ Pl S g Wv Ou P D n ag ps E vs ls xs) (hk : KX Q ρ ρ' w w') (hq : ∀ d, d ≤ 6 ∨ (10 ≤ d ∧ d ≤ 13) ∨ (20 ≤ d ∧ d ≤ 23) → ¬ Q d) : OS w0 w' ρ' Pl S g Wv Ou P D n ag ps E vs ls xs := by
  have hz := hk.bel (hq 0 (by omega)) h.z h.b.size
  have e1 := hk.blk h.st.1 h.rS (hq 6 (by omega))
  have e2 := hk.blk h.st.2.1 h.rg (hq 5 (by omega))
  have e3 := hk.blk h.pl h.rp (hq 1 (by omega))
  have e4 := hk.blk h.wv h.rw' (hq 2 (by omega))
  have e5 := hk.blk h.ou h.ro (hq 3 (by omega))
  have hm : ∀ j, j < 4 → ∀ q, (vs j).ownBlock = some q → ρ' q = 20 + j ∧ w'.heap[q]? = w.heap[q]? := fun j hj q hq2 => hk.k (20 + j) (hq _ (by omega)) q (own_ltI (h.row j hj).1 q hq2).2 ((h.row j hj).2 q hq2)
  exact ⟨hz.2, h.b.trans hz.1, ⟨e1.1, e2.1, h.st.2.2⟩, h.g0, e1.2, e2.2, e3.1, e3.2, e4.1, e4.2, e5.1, e5.2, fun j hj => ⟨keepOI (h.row j hj).1 fun q hq2 => (hm j hj q hq2).2, fun q hq2 => (hm j hj q hq2).1⟩, fun k hk4 hE => (h.on k hk4 hE).keep hk (hq _ (by omega)), h.ln⟩
theorem OS.below (h : OS w0 w ρ Pl S g Wv Ou P D n ag ps E vs ls xs) (d : Nat) (hb : Below w.heap.size w w') : OS w0 w' (ext ρ w.heap.size d) Pl S g Wv Ou P D n ag ps E vs ls xs :=
  h.keep (KX.below (fun _ => False) ρ d hb) (fun _ _ h => h)
theorem OS.ptr (h : OS w0 w ρ Pl S g Wv Ou P D n ag ps E vs ls xs) (k : Nat) (hk : k < 4) : w.cell? ⟨Wv, k, none⟩ = some (ptrV (ps k)) := by
  simp only [World.cell?, h.wv]
  have hk4 : k = 0 ∨ k = 1 ∨ k = 2 ∨ k = 3 := by omega
  rcases hk4 with rfl | rfl | rfl | rfl <;> rfl
theorem OS.out (h : OS w0 w ρ Pl S g Wv Ou P D n ag ps E vs ls xs) (j : Nat) (hj : j < 4) : w.cell? ⟨Ou, j, none⟩ = some (vs j) := by
  simp only [World.cell?, h.ou]
  have hj4 : j = 0 ∨ j = 1 ∨ j = 2 ∨ j = 3 := by omega
  rcases hj4 with rfl | rfl | rfl | rfl <;> rfl
theorem OS.right (h : OS w0 w ρ Pl S g Wv Ou P D n ag ps E vs ls xs) : w.cell? ⟨Ou, 4, none⟩ = some (.bool true) := by
  simp only [World.cell?, h.ou]; rfl
/-- 'walks[k] = p'. -/
theorem OS.setPtr (h : OS w0 w ρ Pl S g Wv Ou P D n ag ps E vs ls xs) (k : Nat) (hk : k < 4) (p : Option Nat) (hE : ∀ q, E q → q ≠ k) :
    OS w0 (w.setCell ⟨Wv, k, none⟩ (ptrV p)) ρ Pl S g Wv Ou P D n ag (fun q => if q = k then p else ps q) E vs ls xs := by
  have hx := KX.set (w := w) Wv k (ptrV p) h.rw'
  have hz := hx.bel (by omega) h.z h.b.size
  have e1 := hx.blk h.st.1 h.rS (by omega)
  have e2 := hx.blk h.st.2.1 h.rg (by omega)
  have e3 := hx.blk h.pl h.rp (by omega)
  have e5 := hx.blk h.ou h.ro (by omega)
  have hm : ∀ j, j < 4 → ∀ q, (vs j).ownBlock = some q → ρ q = 20 + j ∧ (w.setCell ⟨Wv, k, none⟩ (ptrV p)).heap[q]? = w.heap[q]? := fun j hj q hq2 => hx.k (20 + j) (by omega) q (own_ltI (h.row j hj).1 q hq2).2 ((h.row j hj).2 q hq2)
  refine ⟨h.z, h.b.trans hz.1, ⟨e1.1, e2.1, h.st.2.2⟩, h.g0, h.rS, h.rg, e3.1, h.rp, ?_, h.rw', e5.1, h.ro, fun j hj => ⟨keepOI (h.row j hj).1 fun q hq2 => (hm j hj q hq2).2, (h.row j hj).2⟩, fun q hq4 hq => ?_, h.ln⟩
  · rw [ro.set_blk w Wv k (ptrV p) h.wv]
    have hk4 : k = 0 ∨ k = 1 ∨ k = 2 ∨ k = 3 := by omega
    rcases hk4 with rfl | rfl | rfl | rfl <;> rfl
  · have hne := hE q hq
    simp only [hne, if_false]
    exact (h.on q hq4 hq).keep hx (by omega)
/-- the program's step. -/
theorem OS.step (h : OS w0 w ρ Pl S g Wv Ou P D n ag ps E vs ls xs) {A k : Nat} {xs' : List Int} {o' : Wk} (hk : k < 4) (hA : ρ A = 10 + k) (hS : WS w0 w' S g A xs' o') (hF : Fr g A w w') (hl : xs'.length = n) (hAl : A < w.heap.size) :
    ∃ ρ', OS w0 w' ρ' Pl S g Wv Ou P D n ag ps (fun q => E q ∧ q ≠ k) vs ls xs' ∧ ρ' A = 10 + k := by
  have hos : w'.os = w.os ∧ w'.tape = w.tape ∧ w'.output = w.output := ⟨hS.j.2.1.os.trans h.b.os.symm, hS.j.2.1.tape.trans h.b.tape.symm, hS.j.2.1.output.trans h.b.output.symm⟩
  have hx := kx_fr hF h.rg hA hos
  have hz := hx.bel (by omega) h.z h.b.size
  have e3 := hx.blk h.pl h.rp (by omega)
  have e1 := hx.blk h.st.1 h.rS (by omega)
  have e4 := hx.blk h.wv h.rw' (by omega)
  have e5 := hx.blk h.ou h.ro (by omega)
  have hm : ∀ j, j < 4 → ∀ q, (vs j).ownBlock = some q → ext ρ w.heap.size 9 q = 20 + j ∧ w'.heap[q]? = w.heap[q]? := fun j hj q hq2 => hx.k (20 + j) (by omega) q (own_ltI (h.row j hj).1 q hq2).2 ((h.row j hj).2 q hq2)
  have hgl := lt_of_heap h.st.2.1
  exact ⟨ext ρ w.heap.size 9, ⟨hz.2, h.b.trans hz.1, hS.j.1, h.g0, e1.2, (by rw [ro.ext_lt ρ 9 hgl]; exact h.rg), e3.1, e3.2, e4.1, e4.2, e5.1, e5.2, fun j hj => ⟨keepOI (h.row j hj).1 fun q hq2 => (hm j hj q hq2).2, fun q hq2 => (hm j hj q hq2).1⟩, fun q hq4 hE => (h.on q hq4 hE.1).keep hx (by have := hE.2; omega), hl⟩, by rw [ro.ext_lt ρ 9 hAl]; exact hA⟩
/-- one of the rows that come out is another one now, the others as they were. -/
theorem OS.other (h : OS w0 w ρ Pl S g Wv Ou P D n ag ps E vs ls xs) (j : Nat) (hj : j < 4) (W : World) (vv : Value) (l : List Int) (hk : KX (· = 20 + j) ρ ρ' w W) (hr : OI W (Ou + 1) vv l) (hrr : ∀ q, vv.ownBlock = some q → ρ' q = 20 + j) :
    OS w0 (W.setCell ⟨Ou, j, none⟩ vv) ρ' Pl S g Wv Ou P D n ag ps E (fun i => if i = j then vv else vs i) (fun i => if i = j then l else ls i) xs := by
  have f5 := hk.blk h.ou h.ro (by omega)
  have hx := hk.to (KX.set (w := W) Ou j vv f5.2)
  have hz := hx.bel (by omega) h.z h.b.size
  have e1 := hx.blk h.st.1 h.rS (by omega)
  have e2 := hx.blk h.st.2.1 h.rg (by omega)
  have e3 := hx.blk h.pl h.rp (by omega)
  have e4 := hx.blk h.wv h.rw' (by omega)
  have hm : ∀ i, i < 4 → i ≠ j → ∀ q, (vs i).ownBlock = some q → ρ' q = 20 + i ∧ (W.setCell ⟨Ou, j, none⟩ vv).heap[q]? = w.heap[q]? := fun i hi hn q hq2 => hx.k (20 + i) (by omega) q (own_ltI (h.row i hi).1 q hq2).2 ((h.row i hi).2 q hq2)
  refine ⟨hz.2, h.b.trans hz.1, ⟨e1.1, e2.1, h.st.2.2⟩, h.g0, e1.2, e2.2, e3.1, e3.2, e4.1, e4.2, ?_, f5.2, fun i hi => ?_, fun q hq4 hq => (h.on q hq4 hq).keep hx (by omega), h.ln⟩
  · rw [ro.set_blk W Ou j vv f5.1]
    have hj4 : j = 0 ∨ j = 1 ∨ j = 2 ∨ j = 3 := by omega
    rcases hj4 with rfl | rfl | rfl | rfl <;> rfl
  · by_cases e : i = j
    · subst e
      simp only [if_true]
      exact ⟨keepOI hr fun q hq2 => ro.set_oth W Ou i q vv (by have := (own_ltI hr q hq2).1; omega), hrr⟩
    · simp only [e, if_false]
      exact ⟨keepOI (h.row i hi).1 fun q hq2 => (hm i hi e q hq2).2, fun q hq2 => (hm i hi e q hq2).1⟩
/-- one more at the row j. -/
theorem OS.app (h : OS w0 w ρ Pl S g Wv Ou P D n ag ps E vs ls xs) (j : Nat) (hj : j < 4) (W : World) (vv : Value) (x : Int) (ha : App (Ou + 1) w W (vs j) vv (ls j ++ [x])) :
    OS w0 (W.setCell ⟨Ou, j, none⟩ vv) (ext ρ w.heap.size (20 + j)) Pl S g Wv Ou P D n ag ps E (fun i => if i = j then vv else vs i) (fun i => if i = j then ls j ++ [x] else ls i) xs := by
  refine h.other j hj W vv _ ⟨ha.b.os, ha.b.tape, ha.b.output, ha.sz, fun d hd k hk e => ⟨by rw [ro.ext_lt ρ _ hk]; exact e, ha.k k hk (fun e2 => hd (by rw [← e]; exact (h.row j hj).2 k e2))⟩⟩ ha.r fun q hq => ?_
  rcases ha.o with e | e
  · rw [e] at hq
    rw [ro.ext_lt ρ _ (own_ltI (h.row j hj).1 q hq).2]
    exact (h.row j hj).2 q hq
  · exact ro.ext_ge ρ _ (e q hq)
/-- the row j is a new one. -/
theorem OS.fresh (h : OS w0 w ρ Pl S g Wv Ou P D n ag ps E vs ls xs) (j : Nat) (hj : j < 4) (W : World) (vv : Value) (l : List Int) (hr : OI W w.heap.size vv l) (hb : Below w.heap.size w W) :
    OS w0 (W.setCell ⟨Ou, j, none⟩ vv) (ext ρ w.heap.size (20 + j)) Pl S g Wv Ou P D n ag ps E (fun i => if i = j then vv else vs i) (fun i => if i = j then l else ls i) xs :=
  h.other j hj W vv l (KX.below _ ρ _ hb) (OI.base hr (by have := lt_of_heap h.ou; omega)) fun q hq => ro.ext_ge ρ _ (own_ltI hr q hq).1
/-- the row j is cut. -/
theorem OS.cut (h : OS w0 w ρ Pl S g Wv Ou P D n ag ps E vs ls xs) (j m : Nat) (hj : j < 4) {sa : Option Addr} {cp : Nat} (hv : vs j = .slice sa (ls j).length cp) (hm : m ≤ (ls j).length) :
    OS w0 (w.setCell ⟨Ou, j, none⟩ (.slice sa m cp)) ρ Pl S g Wv Ou P D n ag ps E (fun i => if i = j then .slice sa m cp else vs i) (fun i => if i = j then (ls j).take m else ls i) xs := by
  have hr := (h.row j hj).1
  have ho := (h.row j hj).2
  rw [hv] at hr ho
  exact h.other j hj w _ _ (KX.refl _ ρ w) (OI.cut hr m hm rfl) fun q hq => ho q (by
    cases sa with
    | none => simp [Value.ownBlock] at hq
    | some a => simpa [Value.ownBlock] using hq)
/-- the row j is empty. -/
theorem OS.clear (h : OS w0 w ρ Pl S g Wv Ou P D n ag ps E vs ls xs) (j : Nat) (hj : j < 4) :
    OS w0 (w.setCell ⟨Ou, j, none⟩ (.slice none 0 0)) ρ Pl S g Wv Ou P D n ag ps E (fun i => if i = j then .slice none 0 0 else vs i) (fun i => if i = j then [] else ls i) xs :=
  h.other j hj w _ _ (KX.refl _ ρ w) ⟨rfl, Or.inl ⟨rfl, rfl⟩⟩ fun q hq => by simp [Value.ownBlock] at hq
end
end Go.Proofs.Ytegbifphekhgkaa.dqo
