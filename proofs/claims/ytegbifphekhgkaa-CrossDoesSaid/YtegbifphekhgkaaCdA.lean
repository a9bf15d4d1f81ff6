/- What lies in memory ahead of each round of the law CrossDoes (layer 19). -/
import Derived.Test.YtegbifphekhgkaaRgP
import Derived.Test.YtegbifphekhgkaaCdZ
namespace Go.Proofs.Ytegbifphekhgkaa.cd
open Go.ChangeShapes Go.WideShapes Go.ChangeAt Go.RowKit
open Go.Proofs.Ytegbifphekhgkaa.ro (Ro KX ext)
open Go.Proofs.Ytegbifphekhgkaa.dqo (ptrV own_ltI keepOI)
open Go.Proofs.Ytegbifphekhgkaa.cg
set_option linter.unusedVariables false
set_option linter.unusedSimpArgs false
def Ok3 (r : Rw) : Prop := (r.at_ = 0 ∨ r.at_ = 1 ∨ r.at_ = 2 ∨ r.at_ = 3) ∧ -1099511627776 ≤ r.it ∧ r.it ≤ 1099511627776
/-- a walk: none, or one that looks, or one that waits, with the document's beside it. -/
def Stands (w : World) (ρ : Ro) (k : Nat) (pr pp : Option Nat) (c : Array Value) : Prop :=
  (pr = none ∧ pp = none) ∨
  (∃ (A : Nat) (r : Rw) (st : Int), pr = some A ∧ pp = none ∧ c = r.cs ∧ ρ A = 10 + k ∧ r.pk = false ∧ cg.RightAt w A 2 r.sr (r.it + 1) r.n r.at_ st r.fr r.gt ∧ Ok3 r ∧ (r.at_ = 1 → st = r.st)) ∨
  (∃ (A : Nat) (r : Rw), pr = none ∧ pp = some A ∧ c = r.cs ∧ ρ A = 10 + k ∧ r.pk = true ∧ ParkAt w A 2 r.sr r.it r.n r.at_ r.gt ∧ Ok3 r)
structure CS (w0 w : World) (ρ : Ro) (Pl Ql S g Rg Pk Rf : Nat) (mv : Value) (pr pp : Nat → Option Nat) (rc : Nat → Array Value) (E : Nat → Prop) (xs ys : List Int) : Prop where
  z : ∀ k, k < w0.heap.size → ρ k = 0
  b : Below w0.heap.size w0 w
  st : StoreAt w S g xs
  g0 : w0.heap.size ≤ g
  rS : ρ S = 6
  rg : ρ g = 5
  pl : w.heap[Pl]? = some (.cells #[.int .i64 1, .int .i64 3, .int .i64 3, .int .i64 3] 25 (0, 0))
  rp : ρ Pl = 1
  ql : w.heap[Ql]? = some (.cells #[.int .i64 1, .int .i64 3, .int .i64 3, .int .i64 3] 61 (0, 0))
  rq : ρ Ql = 7
  ri : w.heap[Rg]? = some (.cells #[ptrV (pr 0), ptrV (pr 1), ptrV (pr 2)] 71 (0, 0))
  rr : ρ Rg = 2
  pa : w.heap[Pk]? = some (.cells #[ptrV (pp 0), ptrV (pp 1), ptrV (pp 2)] 72 (0, 0))
  rk : ρ Pk = 3
  rf : w.heap[Rf]? = some (.cells (rc 0 ++ rc 1 ++ rc 2) 74 (0, 0))
  rF : ρ Rf = 4
  sz : ∀ k, k < 3 → (rc k).size = 9
  mr : OI w w0.heap.size mv ys
  mo : ∀ q, mv.ownBlock = some q → ρ q = 8
  on : ∀ k, k < 3 → E k → Stands w ρ k (pr k) (pp k) (rc k)
  ln : xs.length = 61
  lm : ys.length = 61
section
variable {Q : Nat → Prop} {w0 w w' : World} {ρ ρ' : Ro} {Pl Ql S g Rg Pk Rf : Nat} {mv : Value} {pr pp : Nat → Option Nat} {rc : Nat → Array Value} {E : Nat → Prop} {xs ys : List Int}
theorem Stands.keep {k : Nat} {a b : Option Nat} {c : Array Value} (h : Stands w ρ k a b c) (hk : KX Q ρ ρ' w w') (hq : ¬ Q (10 + k)) : Stands w' ρ' k a b c := by
  rcases h with h | ⟨A, r, st, h1, h2, h3, h4, h5, h6, h7, h8⟩ | ⟨A, r, h1, h2, h3, h4, h5, h6, h7⟩
  · exact .inl h
  · have := hk.blk h6 h4 hq
    exact .inr (.inl ⟨A, r, st, h1, h2, h3, this.2, h5, this.1, h7, h8⟩)
  · have := hk.blk h6 h4 hq
    exact .inr (.inr ⟨A, r, h1, h2, h3, this.2, h5, this.1, h7⟩)
theorem CS.keep (h : CS w0 w ρ Pl Ql S g Rg Pk Rf mv pr pp rc E xs ys) (hk : KX Q ρ ρ' w w') (hq : ∀ d, d ≤ 8 ∨ (10 ≤ d ∧ d ≤ 12) → ¬ Q d) : CS w0 w' ρ' Pl Ql S g Rg Pk Rf mv pr pp rc E xs ys := by
  have hz := hk.bel (hq 0 (by omega)) h.z h.b.size
  have e1 := hk.blk h.st.1 h.rS (hq 6 (by omega))
  have e2 := hk.blk h.st.2.1 h.rg (hq 5 (by omega))
  have e3 := hk.blk h.pl h.rp (hq 1 (by omega))
  have e4 := hk.blk h.ql h.rq (hq 7 (by omega))
  have e5 := hk.blk h.ri h.rr (hq 2 (by omega))
  have e6 := hk.blk h.pa h.rk (hq 3 (by omega))
  have e7 := hk.blk h.rf h.rF (hq 4 (by omega))
  have hm : ∀ q, mv.ownBlock = some q → ρ' q = 8 ∧ w'.heap[q]? = w.heap[q]? := fun q hq2 => hk.k 8 (hq _ (by omega)) q (own_ltI h.mr q hq2).2 (h.mo q hq2)
  exact ⟨hz.2, h.b.trans hz.1, ⟨e1.1, e2.1, h.st.2.2⟩, h.g0, e1.2, e2.2, e3.1, e3.2, e4.1, e4.2, e5.1, e5.2, e6.1, e6.2, e7.1, e7.2, h.sz, keepOI h.mr fun q hq2 => (hm q hq2).2, fun q hq2 => (hm q hq2).1, fun k hk3 hE => (h.on k hk3 hE).keep hk (hq _ (by omega)), h.ln, h.lm⟩
theorem CS.below (h : CS w0 w ρ Pl Ql S g Rg Pk Rf mv pr pp rc E xs ys) (d : Nat) (hb : Below w.heap.size w w') : CS w0 w' (ext ρ w.heap.size d) Pl Ql S g Rg Pk Rf mv pr pp rc E xs ys :=
  h.keep (KX.below (fun _ => False) ρ d hb) (fun _ _ h => h)
theorem CS.weaken {E' : Nat → Prop} (h : CS w0 w ρ Pl Ql S g Rg Pk Rf mv pr pp rc E xs ys) (he : ∀ q, E' q → E q) : CS w0 w ρ Pl Ql S g Rg Pk Rf mv pr pp rc E' xs ys :=
  { h with on := fun q hq hE => h.on q hq (he q hE) }
theorem CS.join {k : Nat} (h : CS w0 w ρ Pl Ql S g Rg Pk Rf mv pr pp rc (fun q => q ≠ k) xs ys) (hs : Stands w ρ k (pr k) (pp k) (rc k)) : CS w0 w ρ Pl Ql S g Rg Pk Rf mv pr pp rc (fun _ => True) xs ys :=
  ⟨h.z, h.b, h.st, h.g0, h.rS, h.rg, h.pl, h.rp, h.ql, h.rq, h.ri, h.rr, h.pa, h.rk, h.rf, h.rF, h.sz, h.mr, h.mo, fun q hq _ => by
    by_cases e : q = k
    · subst e; exact hs
    · exact h.on q hq e, h.ln, h.lm⟩
theorem CS.jj (h : CS w0 w ρ Pl Ql S g Rg Pk Rf mv pr pp rc E xs ys) : J w0 w S g xs := ⟨h.st, h.b, h.g0⟩
theorem CS.plan (h : CS w0 w ρ Pl Ql S g Rg Pk Rf mv pr pp rc E xs ys) : w.cell? ⟨Pl, 0, none⟩ = some (.int .i64 1) ∧ w.cell? ⟨Pl, 1, none⟩ = some (.int .i64 3) ∧ w.cell? ⟨Pl, 2, none⟩ = some (.int .i64 3) ∧ w.cell? ⟨Pl, 3, none⟩ = some (.int .i64 3) :=
  ⟨ro.cel h.pl 0, ro.cel h.pl 1, ro.cel h.pl 2, ro.cel h.pl 3⟩
theorem CS.plan2 (h : CS w0 w ρ Pl Ql S g Rg Pk Rf mv pr pp rc E xs ys) : w.cell? ⟨Ql, 0, none⟩ = some (.int .i64 1) ∧ w.cell? ⟨Ql, 1, none⟩ = some (.int .i64 3) ∧ w.cell? ⟨Ql, 2, none⟩ = some (.int .i64 3) ∧ w.cell? ⟨Ql, 3, none⟩ = some (.int .i64 3) :=
  ⟨ro.cel h.ql 0, ro.cel h.ql 1, ro.cel h.ql 2, ro.cel h.ql 3⟩
theorem CS.right (h : CS w0 w ρ Pl Ql S g Rg Pk Rf mv pr pp rc E xs ys) (k : Nat) (hk : k < 3) : w.cell? ⟨Rg, k, none⟩ = some (ptrV (pr k)) := by
  rw [ro.cel h.ri k]
  have : k = 0 ∨ k = 1 ∨ k = 2 := by omega
  rcases this with rfl | rfl | rfl <;> rfl
theorem CS.park (h : CS w0 w ρ Pl Ql S g Rg Pk Rf mv pr pp rc E xs ys) (k : Nat) (hk : k < 3) : w.cell? ⟨Pk, k, none⟩ = some (ptrV (pp k)) := by
  rw [ro.cel h.pa k]
  have : k = 0 ∨ k = 1 ∨ k = 2 := by omega
  rcases this with rfl | rfl | rfl <;> rfl
theorem CS.ref (h : CS w0 w ρ Pl Ql S g Rg Pk Rf mv pr pp rc E xs ys) (k i : Nat) (hk : k < 3) (hi : i < 9) : w.cell? ⟨Rf, k * 9 + i, none⟩ = (rc k)[i]? := by
  rw [ro.cel h.rf (k * 9 + i)]
  have s0 := h.sz 0 (by omega)
  have s1 := h.sz 1 (by omega)
  have s2 := h.sz 2 (by omega)
  have : k = 0 ∨ k = 1 ∨ k = 2 := by omega
  rcases this with rfl | rfl | rfl
  · rw [Array.getElem?_append_left (by rw [Array.size_append]; omega), Array.getElem?_append_left (by omega)]
    congr 1
    omega
  · rw [Array.getElem?_append_left (by rw [Array.size_append]; omega), Array.getElem?_append_right (by omega)]
    congr 1
    omega
  · rw [Array.getElem?_append_right (by rw [Array.size_append]; omega), Array.size_append]
    congr 1
    omega
theorem CS.frR (h : CS w0 w ρ Pl Ql S g Rg Pk Rf mv pr pp rc E xs ys) (i : Nat) : w.frozen? ⟨Rg, i, none⟩ = false := ro.frz h.ri i
theorem CS.frP (h : CS w0 w ρ Pl Ql S g Rg Pk Rf mv pr pp rc E xs ys) (i : Nat) : w.frozen? ⟨Pk, i, none⟩ = false := ro.frz h.pa i
theorem CS.frF (h : CS w0 w ρ Pl Ql S g Rg Pk Rf mv pr pp rc E xs ys) (i : Nat) : w.frozen? ⟨Rf, i, none⟩ = false := ro.frz h.rf i
/-- one block of a role other than the others' was written: all but the field that tells of it. -/
theorem CS.setR (h : CS w0 w ρ Pl Ql S g Rg Pk Rf mv pr pp rc E xs ys) (k : Nat) (hk : k < 3) (p : Option Nat) (hE : ∀ q, E q → q ≠ k) :
    CS w0 (w.setCell ⟨Rg, k, none⟩ (ptrV p)) ρ Pl Ql S g Rg Pk Rf mv (fun q => if q = k then p else pr q) pp rc E xs ys := by
  have hx := KX.set (w := w) Rg k (ptrV p) h.rr
  have hz := hx.bel (by omega) h.z h.b.size
  have e1 := hx.blk h.st.1 h.rS (by omega)
  have e2 := hx.blk h.st.2.1 h.rg (by omega)
  have e3 := hx.blk h.pl h.rp (by omega)
  have e4 := hx.blk h.ql h.rq (by omega)
  have e6 := hx.blk h.pa h.rk (by omega)
  have e7 := hx.blk h.rf h.rF (by omega)
  have hm : ∀ q, mv.ownBlock = some q → ρ q = 8 ∧ (w.setCell ⟨Rg, k, none⟩ (ptrV p)).heap[q]? = w.heap[q]? := fun q hq2 => hx.k 8 (by omega) q (own_ltI h.mr q hq2).2 (h.mo q hq2)
  refine ⟨h.z, h.b.trans hz.1, ⟨e1.1, e2.1, h.st.2.2⟩, h.g0, h.rS, h.rg, e3.1, h.rp, e4.1, h.rq, ?_, h.rr, e6.1, h.rk, e7.1, h.rF, h.sz, keepOI h.mr fun q hq2 => (hm q hq2).2, h.mo, fun q hq3 hq => ?_, h.ln, h.lm⟩
  · rw [ro.set_blk w Rg k (ptrV p) h.ri]
    have hk3 : k = 0 ∨ k = 1 ∨ k = 2 := by omega
    rcases hk3 with rfl | rfl | rfl <;> rfl
  · have hne := hE q hq
    simp only [hne, if_false]
    exact (h.on q hq3 hq).keep hx (by omega)
theorem CS.setP (h : CS w0 w ρ Pl Ql S g Rg Pk Rf mv pr pp rc E xs ys) (k : Nat) (hk : k < 3) (p : Option Nat) (hE : ∀ q, E q → q ≠ k) :
    CS w0 (w.setCell ⟨Pk, k, none⟩ (ptrV p)) ρ Pl Ql S g Rg Pk Rf mv pr (fun q => if q = k then p else pp q) rc E xs ys := by
  have hx := KX.set (w := w) Pk k (ptrV p) h.rk
  have hz := hx.bel (by omega) h.z h.b.size
  have e1 := hx.blk h.st.1 h.rS (by omega)
  have e2 := hx.blk h.st.2.1 h.rg (by omega)
  have e3 := hx.blk h.pl h.rp (by omega)
  have e4 := hx.blk h.ql h.rq (by omega)
  have e5 := hx.blk h.ri h.rr (by omega)
  have e7 := hx.blk h.rf h.rF (by omega)
  have hm : ∀ q, mv.ownBlock = some q → ρ q = 8 ∧ (w.setCell ⟨Pk, k, none⟩ (ptrV p)).heap[q]? = w.heap[q]? := fun q hq2 => hx.k 8 (by omega) q (own_ltI h.mr q hq2).2 (h.mo q hq2)
  refine ⟨h.z, h.b.trans hz.1, ⟨e1.1, e2.1, h.st.2.2⟩, h.g0, h.rS, h.rg, e3.1, h.rp, e4.1, h.rq, e5.1, h.rr, ?_, h.rk, e7.1, h.rF, h.sz, keepOI h.mr fun q hq2 => (hm q hq2).2, h.mo, fun q hq3 hq => ?_, h.ln, h.lm⟩
  · rw [ro.set_blk w Pk k (ptrV p) h.pa]
    have hk3 : k = 0 ∨ k = 1 ∨ k = 2 := by omega
    rcases hk3 with rfl | rfl | rfl <;> rfl
  · have hne := hE q hq
    simp only [hne, if_false]
    exact (h.on q hq3 hq).keep hx (by omega)
/-- the document's walk k is another one: the block of the three, as a whole. -/
theorem CS.setF (h : CS w0 w ρ Pl Ql S g Rg Pk Rf mv pr pp rc E xs ys) (k : Nat) (hk : k < 3) (c : Array Value) (hc : c.size = 9) (hE : ∀ q, E q → q ≠ k) (hx : KX (· = 4) ρ ρ w w')
    (hb : w'.heap[Rf]? = some (.cells ((if 0 = k then c else rc 0) ++ (if 1 = k then c else rc 1) ++ (if 2 = k then c else rc 2)) 74 (0, 0))) :
    CS w0 w' ρ Pl Ql S g Rg Pk Rf mv pr pp (fun q => if q = k then c else rc q) E xs ys := by
  have hz := hx.bel (by omega) h.z h.b.size
  have e1 := hx.blk h.st.1 h.rS (by omega)
  have e2 := hx.blk h.st.2.1 h.rg (by omega)
  have e3 := hx.blk h.pl h.rp (by omega)
  have e4 := hx.blk h.ql h.rq (by omega)
  have e5 := hx.blk h.ri h.rr (by omega)
  have e6 := hx.blk h.pa h.rk (by omega)
  have hm : ∀ q, mv.ownBlock = some q → ρ q = 8 ∧ w'.heap[q]? = w.heap[q]? := fun q hq2 => hx.k 8 (by omega) q (own_ltI h.mr q hq2).2 (h.mo q hq2)
  refine ⟨h.z, h.b.trans hz.1, ⟨e1.1, e2.1, h.st.2.2⟩, h.g0, h.rS, h.rg, e3.1, h.rp, e4.1, h.rq, e5.1, h.rr, e6.1, h.rk, hb, h.rF, fun q hq => ?_, keepOI h.mr fun q hq2 => (hm q hq2).2, h.mo, fun q hq3 hq => ?_, h.ln, h.lm⟩
  · show (if q = k then c else rc q).size = 9
    split
    · exact hc
    · exact h.sz q hq
  · have hne := hE q hq
    simp only [hne, if_false]
    exact (h.on q hq3 hq).keep hx (by omega)
/-- the document's words are another row. -/
theorem CS.row (h : CS w0 w ρ Pl Ql S g Rg Pk Rf mv pr pp rc E xs ys) {mv' : Value} {ys' : List Int} (hb : Below w.heap.size w w') (ho : OI w' w0.heap.size mv' ys') (hn : ∀ q, mv'.ownBlock = some q → w.heap.size ≤ q ∨ mv.ownBlock = some q) (hl : ys'.length = 61) :
    CS w0 w' (ext ρ w.heap.size 8) Pl Ql S g Rg Pk Rf mv' pr pp rc E xs ys' := by
  have h2 := h.below 8 hb
  refine ⟨h2.z, h2.b, h2.st, h2.g0, h2.rS, h2.rg, h2.pl, h2.rp, h2.ql, h2.rq, h2.ri, h2.rr, h2.pa, h2.rk, h2.rf, h2.rF, h2.sz, ho, fun q hq => ?_, h2.on, h2.ln, hl⟩
  rcases hn q hq with e | e
  · exact ro.ext_ge ρ 8 e
  · exact h2.mo q e
/-- a step of the program's walk k, in its own block. -/
theorem CS.step (h : CS w0 w ρ Pl Ql S g Rg Pk Rf mv pr pp rc E xs ys) {A k : Nat} {xs' : List Int} (hk : k < 3) (hA : ρ A = 10 + k) (hS : J w0 w' S g xs') (hF : Keep2 g A w w') (hl : xs'.length = 61) (hAl : A < w.heap.size) :
    ∃ ρ', CS w0 w' ρ' Pl Ql S g Rg Pk Rf mv pr pp rc (fun q => E q ∧ q ≠ k) xs' ys ∧ ρ' A = 10 + k := by
  have hos : w'.os = w.os ∧ w'.tape = w.tape ∧ w'.output = w.output := ⟨hS.2.1.os.trans h.b.os.symm, hS.2.1.tape.trans h.b.tape.symm, hS.2.1.output.trans h.b.output.symm⟩
  have hx : KX (fun d => d = 5 ∨ d = 10 + k) ρ (ext ρ w.heap.size 9) w w' := ⟨hos.1, hos.2.1, hos.2.2, hF.1, fun d hd q hq e => ⟨by rw [ro.ext_lt ρ 9 hq]; exact e, hF.2 q hq (fun e2 => hd (by subst e2; have := h.rg; omega)) (fun e2 => hd (by subst e2; omega))⟩⟩
  have hz := hx.bel (by omega) h.z h.b.size
  have e1 := hx.blk h.st.1 h.rS (by omega)
  have e3 := hx.blk h.pl h.rp (by omega)
  have e4 := hx.blk h.ql h.rq (by omega)
  have e5 := hx.blk h.ri h.rr (by omega)
  have e6 := hx.blk h.pa h.rk (by omega)
  have e7 := hx.blk h.rf h.rF (by omega)
  have hm : ∀ q, mv.ownBlock = some q → ext ρ w.heap.size 9 q = 8 ∧ w'.heap[q]? = w.heap[q]? := fun q hq2 => hx.k 8 (by omega) q (own_ltI h.mr q hq2).2 (h.mo q hq2)
  have hgl := lt_of_heap h.st.2.1
  exact ⟨ext ρ w.heap.size 9, ⟨hz.2, h.b.trans hz.1, hS.1, h.g0, e1.2, (by rw [ro.ext_lt ρ 9 hgl]; exact h.rg), e3.1, e3.2, e4.1, e4.2, e5.1, e5.2, e6.1, e6.2, e7.1, e7.2, h.sz, keepOI h.mr fun q hq2 => (hm q hq2).2, fun q hq2 => (hm q hq2).1, fun q hq3 hE => (h.on q hq3 hE.1).keep hx (by have := hE.2; omega), hl, h.lm⟩, by rw [ro.ext_lt ρ 9 hAl]; exact hA⟩
/-- a word is stored by the program. -/
theorem CS.word (h : CS w0 w ρ Pl Ql S g Rg Pk Rf mv pr pp rc E xs ys) {xs' : List Int} (hS : J w0 w' S g xs') (hF : Keep g w w') (hl : xs'.length = 61) :
    CS w0 w' (ext ρ w.heap.size 9) Pl Ql S g Rg Pk Rf mv pr pp rc E xs' ys := by
  have hos : w'.os = w.os ∧ w'.tape = w.tape ∧ w'.output = w.output := ⟨hS.2.1.os.trans h.b.os.symm, hS.2.1.tape.trans h.b.tape.symm, hS.2.1.output.trans h.b.output.symm⟩
  have hx : KX (fun d => d = 5) ρ (ext ρ w.heap.size 9) w w' := ⟨hos.1, hos.2.1, hos.2.2, hF.1, fun d hd q hq e => ⟨by rw [ro.ext_lt ρ 9 hq]; exact e, hF.2 q hq (fun e2 => hd (by subst e2; have := h.rg; omega))⟩⟩
  have hz := hx.bel (by omega) h.z h.b.size
  have e1 := hx.blk h.st.1 h.rS (by omega)
  have e3 := hx.blk h.pl h.rp (by omega)
  have e4 := hx.blk h.ql h.rq (by omega)
  have e5 := hx.blk h.ri h.rr (by omega)
  have e6 := hx.blk h.pa h.rk (by omega)
  have e7 := hx.blk h.rf h.rF (by omega)
  have hm : ∀ q, mv.ownBlock = some q → ext ρ w.heap.size 9 q = 8 ∧ w'.heap[q]? = w.heap[q]? := fun q hq2 => hx.k 8 (by omega) q (own_ltI h.mr q hq2).2 (h.mo q hq2)
  have hgl := lt_of_heap h.st.2.1
  exact ⟨hz.2, h.b.trans hz.1, hS.1, h.g0, e1.2, (by rw [ro.ext_lt ρ 9 hgl]; exact h.rg), e3.1, e3.2, e4.1, e4.2, e5.1, e5.2, e6.1, e6.2, e7.1, e7.2, h.sz, keepOI h.mr fun q hq2 => (hm q hq2).2, fun q hq2 => (hm q hq2).1, fun q hq3 hE => (h.on q hq3 hE).keep hx (by omega), hl, h.lm⟩
/-- a word of the document's is stored. -/
theorem CS.mset (h : CS w0 w ρ Pl Ql S g Rg Pk Rf mv pr pp rc E xs ys) {G cp : Nat} (hm : mv = .slice (some ⟨G, 0, none⟩) 61 cp) (a : Nat) (x : Int) :
    CS w0 (w.setCell ⟨G, a, none⟩ (.int .i64 x)) ρ Pl Ql S g Rg Pk Rf mv pr pp rc E xs (ys.set a x) := by
  subst hm
  have hG := h.mo G rfl
  have hx := KX.set (w := w) G a (.int .i64 x) hG
  have hz := hx.bel (by omega) h.z h.b.size
  have e1 := hx.blk h.st.1 h.rS (by omega)
  have e2 := hx.blk h.st.2.1 h.rg (by omega)
  have e3 := hx.blk h.pl h.rp (by omega)
  have e4 := hx.blk h.ql h.rq (by omega)
  have e5 := hx.blk h.ri h.rr (by omega)
  have e6 := hx.blk h.pa h.rk (by omega)
  have e7 := hx.blk h.rf h.rF (by omega)
  exact ⟨h.z, h.b.trans hz.1, ⟨e1.1, e2.1, h.st.2.2⟩, h.g0, h.rS, h.rg, e3.1, h.rp, e4.1, h.rq, e5.1, h.rr, e6.1, h.rk, e7.1, h.rF, h.sz, OI.set h.mr a x, h.mo, fun q hq3 hq => (h.on q hq3 hq).keep hx (by omega), h.ln, by rw [List.length_set]; exact h.lm⟩
end
end Go.Proofs.Ytegbifphekhgkaa.cd
