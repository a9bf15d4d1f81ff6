/- What has happened, in memory (layer 34). -/
import Derived.Test.YtgbeghaojkhiaaaTrB
import Derived.Maps.OwnSet
import Derived.Maps.OwnOps
import Derived.Maps.Views
namespace Go.Proofs.Ytgbeghaojkhiaaa.tr
open Go.ChangeShapes Go.WideShapes Go.ChangeAt Go.RowKit Go.Maps
open Go.Proofs.Ytgbeghaojkhiaaa.ro
set_option linter.unusedVariables false
set_option linter.unusedSimpArgs false
theorem law : Keyed Try.prog 3 := int_keyed Try.underlying3
abbrev Dm := DataW Unit
/-- how a pointer in a map reads. -/
def ptE : Value → Option (Dm × List MemPlace)
  | .pointer (some ⟨b, 0, none⟩) => some (.lit (.int .i64 (b : Int)), [])
  | .pointer none => some (.lit (.int .i64 (-1)), [])
  | _ => none
theorem ptE_inv {v : Value} {b : Nat} {ps : List MemPlace} (h : ptE v = some (.lit (.int .i64 (b : Int)), ps)) : v = .pointer (some ⟨b, 0, none⟩) := by
  unfold ptE at h
  split at h
  · rename_i b'
    simp only [Option.some.injEq, Prod.mk.injEq, DataW.lit.injEq, Lit.int.injEq, true_and] at h
    obtain ⟨h, _⟩ := h
    have : b' = b := by omega
    rw [this]
  · simp only [Option.some.injEq, Prod.mk.injEq, DataW.lit.injEq, Lit.int.injEq, true_and] at h
    obtain ⟨h, _⟩ := h
    omega
  · cases h
theorem ptE_inv0 {v : Value} {ps : List MemPlace} (h : ptE v = some (.lit (.int .i64 (-1)), ps)) : v = .pointer none := by
  unfold ptE at h
  split at h
  · rename_i b'
    simp only [Option.some.injEq, Prod.mk.injEq, DataW.lit.injEq, Lit.int.injEq, true_and] at h
    obtain ⟨h, _⟩ := h
    omega
  · rfl
  · cases h
def kz (z : Int) : Lit := .int .i64 z
theorem kz_ne {a b : Int} (h : a ≠ b) : kz a ≠ kz b := fun e => h (by unfold kz at e; injection e)
theorem kz_key (z : Int) : WideAt.IsKeyLit (kz z) := by unfold kz; simp [WideAt.IsKeyLit]
def zd : Dm := .lit (.int .i64 (-1))
/-- which loop stands where. -/
def Lz (D : Dm) (f : Int → Option Nat) : Prop := IsMap D ∧ ∀ z : Int, D.atKey (kz z) zd = (match f z with | some b => .lit (.int .i64 (b : Int)) | none => zd)
theorem Lz.empty : Lz (.map []) (fun _ => none) := ⟨isMap_empty, fun z => rfl⟩
theorem Lz.put {D : Dm} {f : Int → Option Nat} (h : Lz D f) (z : Int) (b : Nat) : Lz (D.put (kz z) (.lit (.int .i64 (b : Int)))) (fun y => if y = z then some b else f y) := by
  refine ⟨h.1.put _ _, fun y => ?_⟩
  by_cases e : y = z
  · subst e
    simp only [if_true]
    exact atKey_put_same h.1 (kz_key y) _ _
  · simp only [e, if_false]
    exact (atKey_put_other (kz_ne e) _ _).trans (h.2 y)
structure LM where
  z : Int
  B : Nat
  rv : Value
  ib : List Nat
  s : Lp
def itc (y : It) : Array Value := #[.int .i64 y.s, .bool y.b, .bool y.w, .bool y.p, .bool y.f]
def enP (b : Nat) : List Value := [.pointer (some ⟨b, 0, none⟩)]
theorem recP : Rec 1 enP := ⟨by omega, fun _ => rfl, fun x u hu => by simp [enP] at hu; rcases hu with rfl; rfl⟩
structure LpAt (w : World) (ρ : Ro) (j : Nat) (x : LM) : Prop where
  o : w.heap[x.B]? = some (.cells #[x.rv, .int .i64 (x.s.fin : Int), .bool x.s.en] 57 (0, 0))
  ro : ρ x.B = 10 + 3 * j
  r : RR 1 enP w ρ (11 + 3 * j) 87 x.rv x.ib
  len : x.ib.length = x.s.its.length
  it : ∀ i b y, x.ib[i]? = some b → x.s.its[i]? = some y → w.heap[b]? = some (.cells (itc y) 86 (0, 0)) ∧ ρ b = 12 + 3 * (2000 * j + i)
def fB (xs : List LM) (z : Int) : Option Nat := (xs.find? (fun x => x.z == z)).map LM.B
structure TM (w0 w : World) (ρ : Ro) (Mb : Nat) (xs : List LM) : Prop where
  z : ∀ k, k < w0.heap.size → ρ k = 0
  b : Below w0.heap.size w0 w
  m : ∃ D, w.ownsMap Try.prog 3 ptE Mb xs.length D ∧ Lz D (fB xs)
  rm : ρ Mb = 2
  fn : ∀ j x, xs[j]? = some x → LpAt w ρ j x
theorem ownsMap_blk {w w' : World} {b n : Nat} {D : Dm} (h : w.ownsMap Try.prog 3 ptE b n D) (hb : w'.heap[b]? = w.heap[b]?) : w'.ownsMap Try.prog 3 ptE b n D := by
  obtain ⟨es, c, h1, h2⟩ := h
  exact ⟨es, c, hb.trans h1, h2⟩
section
variable {Q : Nat → Prop} {w0 w w' : World} {ρ ρ' : Ro} {Mb : Nat} {xs : List LM} {j : Nat} {x : LM}
theorem LpAt.form (h : LpAt w ρ j x) : ∃ a cp, x.rv = .slice a x.s.its.length cp ∧ x.s.its.length ≤ cp ∧ cp ≤ maxLen ∧ ∀ i, i < x.s.its.length → ∃ g b, a = some ⟨g, 0, none⟩ ∧ w.cell? ⟨g, i, none⟩ = some (.pointer (some ⟨b, 0, none⟩)) ∧ w.heap[b]? = some (.cells (itc (x.s.its.getD i it0)) 86 (0, 0)) ∧ x.ib[i]? = some b ∧ ρ b = 12 + 3 * (2000 * j + i) ∧ ρ g = 11 + 3 * j ∧ g < w.heap.size := by
  have hv := OR.rv recP h.r.o
  have hr := h.r.r
  have hl := h.len
  obtain ⟨hl2, ⟨e0, h0⟩ | ⟨g, cap, cur, e0, hg, hh, h1, h2, h3, h4⟩⟩ := h.r.o
  · have h0' : x.s.its.length = 0 := by rw [← hl]; simpa using h0
    exact ⟨none, 0, by rw [e0, h0'], by omega, by unfold maxLen; omega, fun i hi => by omega⟩
  · rw [hl] at e0
    refine ⟨some ⟨g, 0, none⟩, cap, e0, by rw [← hl]; exact h1, h2, fun i hi => ?_⟩
    have hib : x.ib[i]? = some (x.ib[i]'(by omega)) := List.getElem?_eq_getElem (by omega)
    have hy : x.s.its[i]? = some (x.s.its.getD i it0) := by rw [List.getD_eq_getElem?_getD, List.getElem?_eq_getElem hi]; rfl
    rw [e0] at hv
    obtain ⟨b, o, e, _, hc⟩ := RV.at hv i _ hib
    rw [Option.some.injEq, Addr.mk.injEq] at e
    obtain ⟨rfl, rfl, _⟩ := e
    have hcc := hc 0 (.pointer (some ⟨x.ib[i]'(by omega), 0, none⟩)) rfl
    exact ⟨g, _, rfl, by simpa using hcc, (h.it i _ _ hib hy).1, hib, (h.it i _ _ hib hy).2, hr g (by rw [e0]; rfl), lt_of hh⟩
theorem LpAt.keep (h : LpAt w ρ j x) (hk : KX Q ρ ρ' w w') (hq : ∀ d, d = 10 + 3 * j ∨ d = 11 + 3 * j ∨ (∃ i, i < x.s.its.length ∧ d = 12 + 3 * (2000 * j + i)) → ¬ Q d) : LpAt w' ρ' j x := by
  have e1 := hk.blk h.o h.ro (hq _ (.inl rfl))
  exact ⟨e1.1, e1.2, h.r.keep hk (hq _ (.inr (.inl rfl))), h.len, fun i b y hb hy => by
    obtain ⟨a1, a2⟩ := h.it i b y hb hy
    exact hk.blk a1 a2 (hq _ (.inr (.inr ⟨i, (List.getElem?_eq_some_iff.1 hy).1, rfl⟩)))⟩
theorem TM.keep (h : TM w0 w ρ Mb xs) (hk : KX Q ρ ρ' w w') (hq : ∀ d, d ≠ 1 → ¬ Q d) : TM w0 w' ρ' Mb xs := by
  have hz := hk.bel (hq 0 (by omega)) h.z h.b.size
  obtain ⟨D, hm, hl⟩ := h.m
  have e2 := hk.k _ (hq 2 (by omega)) Mb hm.lt h.rm
  exact ⟨hz.2, h.b.trans hz.1, ⟨D, ownsMap_blk hm e2.2, hl⟩, e2.1, fun j x hx => (h.fn j x hx).keep hk fun d hd => hq d (by rcases hd with h | h | ⟨i, _, h⟩ <;> omega)⟩
theorem TM.below (h : TM w0 w ρ Mb xs) (hb : Below w.heap.size w w') : TM w0 w' (ext ρ w.heap.size 1) Mb xs :=
  h.keep (KX.below (fun _ => False) ρ 1 hb) (fun _ _ h => h)
/-- one loop is another one now. -/
theorem TM.upd (h : TM w0 w ρ Mb xs) (hx : xs[j]? = some x) {y : LM} (hz : y.z = x.z) (hB : y.B = x.B) (hj : ∀ (i : Nat) (y : LM), xs[i]? = some y → y.s.its.length < 2000) (hk : KX (fun d => d = 10 + 3 * j ∨ d = 11 + 3 * j ∨ ∃ i, i < 2000 ∧ d = 12 + 3 * (2000 * j + i)) ρ ρ' w w') (hy : LpAt w' ρ' j y) : TM w0 w' ρ' Mb (xs.set j y) := by
  have hz0 := hk.bel (by rintro (h | h | ⟨i, _, h⟩) <;> omega) h.z h.b.size
  obtain ⟨D, hm, hl⟩ := h.m
  have e2 := hk.k _ (by rintro (h | h | ⟨i, _, h⟩) <;> omega) Mb hm.lt h.rm
  have hjl : j < xs.length := (List.getElem?_eq_some_iff.1 hx).1
  have hf : ∀ z, fB (xs.set j y) z = fB xs z := by
    clear hy hk h hj hm hl e2 hz0
    intro z
    unfold fB
    induction xs generalizing j with
    | nil => simp at hjl
    | cons u r ih =>
      cases j with
      | zero =>
        simp only [List.getElem?_cons_zero, Option.some.injEq] at hx
        subst hx
        simp only [List.set_cons_zero, List.find?_cons, hz]
        cases (u.z == z)
        · rfl
        · simp [hB]
      | succ i =>
        simp only [List.set_cons_succ, List.find?_cons]
        cases (u.z == z)
        · exact ih (by simpa using hx) (by simpa using hjl)
        · rfl
  refine ⟨hz0.2, h.b.trans hz0.1, ⟨D, ?_, hl.1, fun z => by rw [hf]; exact hl.2 z⟩, e2.1, fun i u hu => ?_⟩
  · rw [List.length_set]
    exact ownsMap_blk hm e2.2
  · by_cases e : i = j
    · subst e
      rw [List.getElem?_set_self hjl] at hu
      cases hu
      exact hy
    · rw [List.getElem?_set_ne (fun h => e h.symm)] at hu
      refine (h.fn i u hu).keep hk fun d hd => ?_
      have h1 := hj i u hu
      rintro (h2 | h2 | ⟨q, hq, h2⟩) <;> rcases hd with h3 | h3 | ⟨q3, hq3, h3⟩ <;> omega
end
end Go.Proofs.Ytgbeghaojkhiaaa.tr
