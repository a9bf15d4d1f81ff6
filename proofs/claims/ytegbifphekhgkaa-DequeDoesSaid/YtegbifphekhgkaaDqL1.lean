/- The law DequeDoes: what lies in memory ahead of each step: the plan, the store, the walks, the reference's walks and words (layer 13). -/
import Derived.Test.YtegbifphekhgkaaDqP1
import Derived.Test.YtegbifphekhgkaaDqK
import Derived.Test.YtegbifphekhgkaaDqS2
import Derived.Test.YtegbifphekhgkaaRo
namespace Go.Proofs.Ytegbifphekhgkaa.dqd
open Go.ChangeShapes Go.WideShapes Go.ChangeAt Go.RowKit
open Go.Proofs.Ytegbifphekhgkaa.ro (Ro KX ext)
set_option linter.unusedVariables false
set_option linter.unusedSimpArgs false
/-- the two sides of one walk: it stands at a step, or it has ended. -/
def Both (A P : Nat) (o : Wk) (r : Rk) : Prop :=
  RelC P o r ∧ ((r.kd = 0 ∧ AtU A P o r) ∨ (r.kd = 1 ∧ AtP A P o r) ∨ (r.kd = 2 ∧ AtS A P o r) ∨ (r.at_ = -1 ∧ o.nx = .nilFunc))
def ptrV (p : Option Nat) : Value := .pointer (p.map fun A => ⟨A, 0, none⟩)
/-- a walk of the law: none yet, or one that lies in a block of its own. -/
def One (w : World) (ρ : Ro) (P D who c k : Nat) (p : Option Nat) (o : Wk) (r : Rk) : Prop :=
  ∀ A, p = some A → WAt w A o ∧ ρ A = 10 + k ∧ o.D = D ∧ o.k = who ∧ Both A P o r ∧ 0 ≤ o.hd ∧ o.hd ≤ (c : Int) ∧ (k = 0 → (r.kd = 0 ∨ r.kd = 1 ∨ r.at_ = -1) ∧ o.tl ≤ (c : Int)) ∧ (k ≠ 0 → (r.kd = 2 ∨ r.at_ = -1) ∧ o.tl = 0)
structure DS (w0 w : World) (ρ : Ro) (Pl S g Wv Rv P D who n c : Nat) (ps : Nat → Option Nat) (os : Nat → Wk) (rs : Nat → Rk) (mv : Value) (E : Nat → Prop) (ys xs : List Int) : Prop where
  z : ∀ k, k < w0.heap.size → ρ k = 0
  b : Below w0.heap.size w0 w
  st : StoreAt w S g xs
  g0 : w0.heap.size ≤ g
  rS : ρ S = 6
  rg : ρ g = 5
  pl : w.heap[Pl]? = some (.cells #[.int .i64 2, .int .i64 1, .int .i64 1, .int .i64 (D : Int)] 25 (0, 0))
  rp : ρ Pl = 1
  wv : w.heap[Wv]? = some (.cells #[ptrV (ps 0), ptrV (ps 1), ptrV (ps 2), ptrV (ps 3)] 35 (0, 0))
  rw' : ρ Wv = 2
  rv : w.heap[Rv]? = some (.cells ((rs 0).cs ++ (rs 1).cs ++ (rs 2).cs ++ (rs 3).cs) 37 (0, 0))
  rr : ρ Rv = 3
  m : OI w (g + 1) mv ys
  rm : ∀ q, mv.ownBlock = some q → ρ q = 4
  on : ∀ k, k < 4 → E k → One w ρ P D who c k (ps k) (os k) (rs k)
  ln : xs.length = n
  lm : ys.length = n
  wd : 0 ≤ xs.getD (P + 0) 0 ∧ xs.getD (P + 0) 0 ≤ (c : Int)
section
variable {Q : Nat → Prop} {w0 w w' : World} {ρ ρ' : Ro} {Pl S g Wv Rv P D who n c : Nat} {ps : Nat → Option Nat} {os : Nat → Wk} {rs : Nat → Rk} {mv : Value} {E : Nat → Prop} {ys xs : List Int}
theorem own_ltI {w : World} {B : Nat} {v : Value} {xs : List Int} (h : OI w B v xs) : ∀ q, v.ownBlock = some q → B ≤ q ∧ q < w.heap.size := by
  intro q hq
  obtain ⟨hl, ⟨rfl, _⟩ | ⟨g', cap, cur, rfl, h2, hh, h3⟩⟩ := h
  · simp [Value.ownBlock] at hq
  · simp only [Value.ownBlock, Option.some.injEq] at hq
    subst hq
    exact ⟨h2, lt_of_heap hh⟩
theorem One.keep {k : Nat} {p : Option Nat} {o : Wk} {r : Rk} (h : One w ρ P D who c k p o r) (hk : KX Q ρ ρ' w w') (hq : ¬ Q (10 + k)) : One w' ρ' P D who c k p o r := by
  intro A hA
  obtain ⟨h1, h2, h3⟩ := h A hA
  have := hk.blk h1 h2 hq
  exact ⟨this.1, this.2, h3⟩
theorem DS.keep (h : DS w0 w ρ Pl S g Wv Rv P D who n c ps os rs mv E ys xs) (hk : KX Q ρ ρ' w w') (hq : ∀ d, d ≤ 6 ∨ (10 ≤ d ∧ d ≤ 13) → ¬ Q d) : DS w0 w' ρ' Pl S g Wv Rv P D who n c ps os rs mv E ys xs := by
  have hz := hk.bel (hq 0 (by omega)) h.z h.b.size
  have e1 := hk.blk h.st.1 h.rS (hq 6 (by omega))
  have e2 := hk.blk h.st.2.1 h.rg (hq 5 (by omega))
  have e3 := hk.blk h.pl h.rp (hq 1 (by omega))
  have e4 := hk.blk h.wv h.rw' (hq 2 (by omega))
  have e5 := hk.blk h.rv h.rr (hq 3 (by omega))
  have hm : ∀ q, mv.ownBlock = some q → ρ' q = 4 ∧ w'.heap[q]? = w.heap[q]? := fun q hq2 => hk.k 4 (hq 4 (by omega)) q (own_ltI h.m q hq2).2 (h.rm q hq2)
  exact ⟨hz.2, h.b.trans hz.1, ⟨e1.1, e2.1, h.st.2.2⟩, h.g0, e1.2, e2.2, e3.1, e3.2, e4.1, e4.2, e5.1, e5.2, OI.keep' h.m fun q hq2 => (hm q hq2).2, fun q hq2 => (hm q hq2).1, fun k hk4 hE => (h.on k hk4 hE).keep hk (hq _ (by omega)), h.ln, h.lm, h.wd⟩
theorem DS.below (h : DS w0 w ρ Pl S g Wv Rv P D who n c ps os rs mv E ys xs) (d : Nat) (hb : Below w.heap.size w w') : DS w0 w' (ext ρ w.heap.size d) Pl S g Wv Rv P D who n c ps os rs mv E ys xs :=
  h.keep (KX.below (fun _ => False) ρ d hb) (fun _ _ h => h)
theorem app4 (a b c d : Array Value) (ha : a.size = 10) (hb : b.size = 10) (hc : c.size = 10) (j : Nat) (hj : j < 10) :
    (a ++ b ++ c ++ d)[10 * 0 + j]? = a[j]? ∧ (a ++ b ++ c ++ d)[10 * 1 + j]? = b[j]? ∧ (a ++ b ++ c ++ d)[10 * 2 + j]? = c[j]? ∧ (a ++ b ++ c ++ d)[10 * 3 + j]? = d[j]? := by
  have h2 : (a ++ b).size = 20 := by rw [Array.size_append, ha, hb]
  have h3 : (a ++ b ++ c).size = 30 := by rw [Array.size_append, h2, hc]
  refine ⟨?_, ?_, ?_, ?_⟩
  · rw [Array.getElem?_append, if_pos (by rw [h3]; omega), Array.getElem?_append, if_pos (by rw [h2]; omega), Array.getElem?_append, if_pos (by rw [ha]; omega), show 10 * 0 + j = j by omega]
  · rw [Array.getElem?_append, if_pos (by rw [h3]; omega), Array.getElem?_append, if_pos (by rw [h2]; omega), Array.getElem?_append, if_neg (by rw [ha]; omega), ha, show 10 * 1 + j - 10 = j by omega]
  · rw [Array.getElem?_append, if_pos (by rw [h3]; omega), Array.getElem?_append, if_neg (by rw [h2]; omega), h2, show 10 * 2 + j - 20 = j by omega]
  · rw [Array.getElem?_append, if_neg (by rw [h3]; omega), h3, show 10 * 3 + j - 30 = j by omega]
/-- 'refs[k]' in memory. -/
theorem DS.ref (h : DS w0 w ρ Pl S g Wv Rv P D who n c ps os rs mv E ys xs) (k j : Nat) (hk : k < 4) (hj : j < 10) : w.cell? ⟨Rv, 10 * k + j, none⟩ = (rs k).cs[j]? := by
  obtain ⟨h0, h1, h2, h3⟩ := app4 (rs 0).cs (rs 1).cs (rs 2).cs (rs 3).cs rfl rfl rfl j hj
  have e : ∀ i, w.cell? ⟨Rv, i, none⟩ = ((rs 0).cs ++ (rs 1).cs ++ (rs 2).cs ++ (rs 3).cs)[i]? := fun i => by simp only [World.cell?, h.rv]; rfl
  have hk4 : k = 0 ∨ k = 1 ∨ k = 2 ∨ k = 3 := by omega
  rcases hk4 with rfl | rfl | rfl | rfl
  · rw [e, h0]
  · rw [e, h1]
  · rw [e, h2]
  · rw [e, h3]
theorem DS.ptr (h : DS w0 w ρ Pl S g Wv Rv P D who n c ps os rs mv E ys xs) (k : Nat) (hk : k < 4) : w.cell? ⟨Wv, k, none⟩ = some (ptrV (ps k)) := by
  simp only [World.cell?, h.wv]
  have hk4 : k = 0 ∨ k = 1 ∨ k = 2 ∨ k = 3 := by omega
  rcases hk4 with rfl | rfl | rfl | rfl <;> rfl
theorem kx_fr {A k : Nat} (hF : Fr g A w w') (hg : ρ g = 5) (hA : ρ A = 10 + k) (hos : w'.os = w.os ∧ w'.tape = w.tape ∧ w'.output = w.output) : KX (fun d => d = 5 ∨ d = 10 + k) ρ (ext ρ w.heap.size 9) w w' :=
  ⟨hos.1, hos.2.1, hos.2.2, hF.1, fun d hd q hq e => ⟨by rw [ro.ext_lt ρ 9 hq]; exact e, hF.2 q hq (fun e2 => hd (by subst e2; omega)) (fun e2 => hd (by subst e2; omega))⟩⟩
/-- the program's step. -/
theorem DS.step (h : DS w0 w ρ Pl S g Wv Rv P D who n c ps os rs mv E ys xs) {A k : Nat} {xs' : List Int} {o' : Wk} (hk : k < 4) (hA : ρ A = 10 + k) (hS : WS w0 w' S g A xs' o') (hF : Fr g A w w') (hl : xs'.length = n) (hw : 0 ≤ xs'.getD (P + 0) 0 ∧ xs'.getD (P + 0) 0 ≤ (c : Int)) (hAl : A < w.heap.size) :
    ∃ ρ', DS w0 w' ρ' Pl S g Wv Rv P D who n c ps os rs mv (fun q => E q ∧ q ≠ k) ys xs' ∧ ρ' A = 10 + k := by
  have hos : w'.os = w.os ∧ w'.tape = w.tape ∧ w'.output = w.output := ⟨hS.j.2.1.os.trans h.b.os.symm, hS.j.2.1.tape.trans h.b.tape.symm, hS.j.2.1.output.trans h.b.output.symm⟩
  have hx := kx_fr hF h.rg hA hos
  have hz := hx.bel (by omega) h.z h.b.size
  have e1 := hx.blk h.st.1 h.rS (by omega)
  have e3 := hx.blk h.pl h.rp (by omega)
  have e4 := hx.blk h.wv h.rw' (by omega)
  have e5 := hx.blk h.rv h.rr (by omega)
  have hm : ∀ q, mv.ownBlock = some q → ext ρ w.heap.size 9 q = 4 ∧ w'.heap[q]? = w.heap[q]? := fun q hq2 => hx.k 4 (by omega) q (own_ltI h.m q hq2).2 (h.rm q hq2)
  have hgl := lt_of_heap h.st.2.1
  exact ⟨ext ρ w.heap.size 9, ⟨hz.2, h.b.trans hz.1, hS.j.1, h.g0, e1.2, (by rw [ro.ext_lt ρ 9 hgl]; exact h.rg), e3.1, e3.2, e4.1, e4.2, e5.1, e5.2, OI.keep' h.m fun q hq2 => (hm q hq2).2, fun q hq2 => (hm q hq2).1, fun q hq4 hE => (h.on q hq4 hE.1).keep hx (by have := hE.2; omega), hl, h.lm, hw⟩, by rw [ro.ext_lt ρ 9 hAl]; exact hA⟩
/-- the words are the row that the reference's step left. -/
theorem DS.row (h : DS w0 w ρ Pl S g Wv Rv P D who n c ps os rs mv E ys xs) {mv' : Value} {zs : List Int} (ho : OI w (g + 1) mv' zs) (hl : zs.length = n) :
    ∃ ρ', DS w0 w ρ' Pl S g Wv Rv P D who n c ps os rs mv' E zs xs ∧ ∀ A o, WAt w A o → ρ' A = ρ A := by
  obtain ⟨hl2, h0 | ⟨q, cap, cur, rfl, hq, hh, h1, h2, h3, h4⟩⟩ := id ho
  · exact ⟨ρ, ⟨h.z, h.b, h.st, h.g0, h.rS, h.rg, h.pl, h.rp, h.wv, h.rw', h.rv, h.rr, ho, fun q hq => by rw [h0.1] at hq; simp [Value.ownBlock] at hq, h.on, h.ln, hl, h.wd⟩, fun _ _ _ => rfl⟩
  · have ne : ∀ (b : Nat) (cs : Array Value) (t : TypeId), w.heap[b]? = some (.cells cs t (0, 0)) → t ≠ 3 → (if b = q then 4 else ρ b) = ρ b := by
      intro b cs t hb ht
      rw [if_neg]
      rintro rfl
      rw [hh] at hb
      injection hb with hb
      injection hb with _ hb _
      exact ht hb.symm
    have hg := h.g0
    refine ⟨fun b => if b = q then 4 else ρ b, ⟨fun k hk => ?_, h.b, h.st, h.g0, (ne S _ _ h.st.1 (by decide)).trans h.rS, (if_neg (by omega)).trans h.rg, h.pl, (ne Pl _ _ h.pl (by decide)).trans h.rp, h.wv, (ne Wv _ _ h.wv (by decide)).trans h.rw', h.rv, (ne Rv _ _ h.rv (by decide)).trans h.rr, ho, fun b hb => ?_, fun k hk4 hE A hA => ?_, h.ln, hl, h.wd⟩, fun A o hA => ne A _ _ hA (by decide)⟩
    · show (if k = q then 4 else ρ k) = 0
      rw [if_neg (by omega)]
      exact h.z k hk
    · simp only [Value.ownBlock, Option.some.injEq] at hb
      exact if_pos hb.symm
    · obtain ⟨a1, a2, a3⟩ := h.on k hk4 hE A hA
      exact ⟨a1, (ne A _ _ a1 (by decide)).trans a2, a3⟩
/-- one more walk whose two sides agree. -/
theorem DS.join {k c' : Nat} (h : DS w0 w ρ Pl S g Wv Rv P D who n c ps os rs mv (fun q => E q ∧ q ≠ k) ys xs) (o : Wk) (hc : c ≤ c') (hw : xs.getD (P + 0) 0 ≤ (c' : Int)) (hk : One w ρ P D who c' k (ps k) o (rs k)) : DS w0 w ρ Pl S g Wv Rv P D who n c' ps (fun q => if q = k then o else os q) rs mv E ys xs := by
  refine ⟨h.z, h.b, h.st, h.g0, h.rS, h.rg, h.pl, h.rp, h.wv, h.rw', h.rv, h.rr, h.m, h.rm, fun q hq hE A hA => ?_, h.ln, h.lm, h.wd.1, hw⟩
  by_cases e : q = k
  · subst e
    rw [if_pos rfl]
    exact hk A hA
  · rw [if_neg e]
    obtain ⟨h1, h2, h3, h4, h5, h6, h7, h8, h9⟩ := h.on q hq ⟨hE, e⟩ A hA
    exact ⟨h1, h2, h3, h4, h5, h6, by omega, fun e0 => ⟨(h8 e0).1, by have := (h8 e0).2; omega⟩, h9⟩
end
end Go.Proofs.Ytegbifphekhgkaa.dqd
