/- The state of the law TicketOrder: a store of two words, turns, states, who asked and who had its turn; and the plain rules that it keeps. -/
import Derived.Test.YtfigabjcmpakeabTickC
import Derived.Test.YtfigabjcmpakeabApp1
namespace Go.Proofs.Ytfigabjcmpakeab.ticketOrder
open Go.ChangeShapes Go.WideShapes Go.ChangeAt Go.RowKit
set_option linter.unusedVariables false
set_option linter.unusedSimpArgs false
def tc (q : Nat → Nat) (j : Nat) : Value := .int .i64 (if j % 2 = 1 then (q (j / 2) : Int) else 0)
def sc (st : Nat → Nat) (j : Nat) : Value := .int .i64 (st j)
def upd (f : Nat → Nat) (k x : Nat) : Nat → Nat := fun j => if j = k then x else f j
structure TS (w0 w : World) (S g T U B : Nat) (va vh : Value) (na ns : Nat) (A H : List Int) (q st : Nat → Nat) : Prop where
  j : J w0 w S g [(na : Int), (ns : Int)]
  t : Row w0 w S g T 33 16 (tc q)
  u : Row w0 w S g U 3 8 (sc st)
  a : w.ownsRow B 3 1 va A.length (A.map (Value.int .i64))
  hd : w.ownsRow B 3 1 vh H.length (H.map (Value.int .i64))
  ap : ∀ k, va.ownBlock = some k → vh.ownBlock ≠ some k
  lt : S < B ∧ g < B ∧ T < B ∧ U < B ∧ T ≠ U ∧ w0.heap.size ≤ B ∧ B ≤ w.heap.size
variable {w0 w : World} {S g T U B : Nat} {va vh : Value} {na ns : Nat} {A H : List Int} {q st : Nat → Nat}
theorem TS.call {w' : World} {na' ns' : Nat} (h : TS w0 w S g T U B va vh na ns A H q st) (hj : J w0 w' S g [(na' : Int), (ns' : Int)]) (hk : Keep g w w') : TS w0 w' S g T U B va vh na' ns' A H q st := by
  obtain ⟨h1, h2, h3, h4, h5, h6, h7⟩ := h
  refine ⟨hj, h2.keep hk, h3.keep hk, row_kept h4 (fun k e => ?_), row_kept h5 (fun k e => ?_), h6, h7.1, h7.2.1, h7.2.2.1, h7.2.2.2.1, h7.2.2.2.2.1, h7.2.2.2.2.2.1, Nat.le_trans h7.2.2.2.2.2.2 hk.1⟩
  · have := h4.lt k e; exact hk.2 k this.2 (by omega)
  · have := h5.lt k e; exact hk.2 k this.2 (by omega)
theorem set_block (w : World) (C i k : Nat) (v : Value) (h : k ≠ C) : (w.setCell ⟨C, i, none⟩ v).heap[k]? = w.heap[k]? := by
  show (w.heap.modify C _)[k]? = _
  rw [Array.getElem?_modify, if_neg (fun e => h e.symm)]
theorem set_size (w : World) (a : Addr) (v : Value) : (w.setCell a v).heap.size = w.heap.size := by
  show (w.heap.modify _ _).size = _; rw [Array.size_modify]
theorem TS.setT (h : TS w0 w S g T U B va vh na ns A H q st) (k n : Nat) (hk : k < 8) : TS w0 ((w.setCell ⟨T, k * 2, none⟩ (.int .i64 0)).setCell ⟨T, k * 2 + 1, none⟩ (.int .i64 n)) S g T U B va vh na ns A H (upd q k n) st := by
  obtain ⟨h1, h2, h3, h4, h5, h6, h7⟩ := h
  refine ⟨(h1.row_set h2 rfl).row_set (h2.set _ _ rfl) rfl, ((h2.set _ _ rfl).set _ _ rfl).congr (fun j hj => ?_), (h3.other rfl (fun e => h7.2.2.2.2.1 e.symm)).other rfl (fun e => h7.2.2.2.2.1 e.symm), row_kept h4 (fun p e => ?_), row_kept h5 (fun p e => ?_), h6, h7.1, h7.2.1, h7.2.2.1, h7.2.2.2.1, h7.2.2.2.2.1, h7.2.2.2.2.2.1, by rw [set_size, set_size]; exact h7.2.2.2.2.2.2⟩
  · unfold tc upd
    by_cases e1 : j = k * 2 + 1
    · subst e1; rw [if_pos rfl, if_pos (by omega), if_pos (by omega)]
    · rw [if_neg e1]
      by_cases e2 : j = k * 2
      · subst e2; rw [if_pos rfl, if_neg (by omega)]
      · rw [if_neg e2]
        by_cases e3 : j % 2 = 1
        · rw [if_pos e3, if_pos e3, if_neg (by omega)]
        · rw [if_neg e3, if_neg e3]
  · have := (h4.lt p e).1; rw [set_block _ _ _ _ _ (by omega), set_block _ _ _ _ _ (by omega)]
  · have := (h5.lt p e).1; rw [set_block _ _ _ _ _ (by omega), set_block _ _ _ _ _ (by omega)]
theorem TS.setU (h : TS w0 w S g T U B va vh na ns A H q st) (k n : Nat) (hk : k < 8) : TS w0 (w.setCell ⟨U, k, none⟩ (.int .i64 n)) S g T U B va vh na ns A H q (upd st k n) := by
  obtain ⟨h1, h2, h3, h4, h5, h6, h7⟩ := h
  refine ⟨h1.row_set h3 rfl, h2.other rfl h7.2.2.2.2.1, (h3.set _ _ rfl).congr (fun j hj => ?_), row_kept h4 (fun p e => ?_), row_kept h5 (fun p e => ?_), h6, h7.1, h7.2.1, h7.2.2.1, h7.2.2.2.1, h7.2.2.2.2.1, h7.2.2.2.2.2.1, by rw [set_size]; exact h7.2.2.2.2.2.2⟩
  · unfold sc upd; split <;> simp_all
  · have := (h4.lt p e).1; rw [set_block _ _ _ _ _ (by omega)]
  · have := (h5.lt p e).1; rw [set_block _ _ _ _ _ (by omega)]
theorem TS.alloc (h : TS w0 w S g T U B va vh na ns A H q st) (o : Obj) : TS w0 (w.alloc o) S g T U B va vh na ns A H q st :=
  h.call (h.j.below' ((Below.refl _ _).alloc (Nat.le_refl _) _)) (Keep.of_below ((Below.refl _ _).alloc (Nat.le_refl _) _))
theorem J.grown {w' : World} {xs : List Int} {row : Option Nat} (h : J w0 w S g xs) (hg : w.grownBy w' row) (hB : ∀ k, row = some k → B ≤ k) (hS : S < B) (hgB : g < B) (h0 : w0.heap.size ≤ B) (hs : B ≤ w.heap.size) : J w0 w' S g xs := by
  have e : ∀ k, k < B → w'.heap[k]? = w.heap[k]? := fun k hk => hg.block k (by omega) (fun e => by have := hB k e.symm; omega)
  obtain ⟨⟨s1, s2, s3⟩, hb, hg0⟩ := h
  exact ⟨⟨(e S hS).trans s1, (e g hgB).trans s2, s3⟩, hb.trans ⟨hg.os, hg.tape, hg.output, hg.size, fun k hk => e k (by omega)⟩, hg0⟩
theorem Row.grown {w' : World} {t n X : Nat} {f : Nat → Value} {row : Option Nat} (h : Row w0 w S g X t n f) (hg : w.grownBy w' row) (hB : ∀ k, row = some k → B ≤ k) (hX : X < B) (hs : B ≤ w.heap.size) : Row w0 w' S g X t n f :=
  ⟨h.1.of_block (hg.block X (by omega) (fun e => by have := hB X e.symm; omega)), h.2⟩
theorem TS.appA {w' : World} {va' : Value} {x : Int} (h : TS w0 w S g T U B va vh na ns A H q st) (hr : w'.ownsRow B 3 1 va' (A ++ [x]).length ((A ++ [x]).map (Value.int .i64))) (hg : w.grownBy w' va.ownBlock) (ho : va'.ownBlock = va.ownBlock ∨ va'.ownBlock = some w.heap.size) : TS w0 w' S g T U B va' vh na ns (A ++ [x]) H q st := by
  obtain ⟨h1, h2, h3, h4, h5, h6, l1, l2, l3, l4, l5, l6, l7⟩ := h
  have hB : ∀ k, va.ownBlock = some k → B ≤ k := fun k e => (h4.lt k e).1
  refine ⟨J.grown h1 hg hB l1 l2 l6 l7, Row.grown h2 hg hB l3 l7, Row.grown h3 hg hB l4 l7, hr, row_kept h5 (fun k e => hg.block k (h5.lt k e).2 (fun e2 => h6 k e2.symm e)), fun k e e2 => ?_, l1, l2, l3, l4, l5, l6, Nat.le_trans l7 hg.size⟩
  rcases ho with ho | ho
  · exact h6 k (ho ▸ e) e2
  · rw [ho] at e; cases e; have := (h5.lt _ e2).2; omega
theorem TS.appH {w' : World} {vh' : Value} {x : Int} (h : TS w0 w S g T U B va vh na ns A H q st) (hr : w'.ownsRow B 3 1 vh' (H ++ [x]).length ((H ++ [x]).map (Value.int .i64))) (hg : w.grownBy w' vh.ownBlock) (ho : vh'.ownBlock = vh.ownBlock ∨ vh'.ownBlock = some w.heap.size) : TS w0 w' S g T U B va vh' na ns A (H ++ [x]) q st := by
  obtain ⟨h1, h2, h3, h4, h5, h6, l1, l2, l3, l4, l5, l6, l7⟩ := h
  have hB : ∀ k, vh.ownBlock = some k → B ≤ k := fun k e => (h5.lt k e).1
  refine ⟨J.grown h1 hg hB l1 l2 l6 l7, Row.grown h2 hg hB l3 l7, Row.grown h3 hg hB l4 l7, row_kept h4 (fun k e => hg.block k (h4.lt k e).2 (fun e2 => h6 k e e2.symm)), hr, fun k e e2 => ?_, l1, l2, l3, l4, l5, l6, Nat.le_trans l7 hg.size⟩
  rcases ho with ho | ho
  · exact h6 k e (ho ▸ e2)
  · rw [ho] at e2; cases e2; have := (h4.lt _ e).2; omega
/-- who waits, who is inside, who had its turn. -/
structure TInv (A : List Int) (ns : Nat) (ins : Int) (h : Nat) (q st : Nat → Nat) : Prop where
  le : ns ≤ A.length
  st2 : ∀ w, w < 8 → st w ≤ 2
  wait : ∀ w, w < 8 → 1 ≤ st w → ns ≤ q w ∧ q w < A.length ∧ A[q w]? = some (w : Int)
  insd : (ins = -1 ∧ h = ns ∧ ∀ w, w < 8 → st w ≠ 2) ∨ (∃ v : Nat, v < 8 ∧ ins = (v : Int) ∧ st v = 2 ∧ q v = ns ∧ h = ns + 1 ∧ ∀ w, w < 8 → st w = 2 → w = v)
variable {ins : Int} {h : Nat}
theorem upd_same (f : Nat → Nat) (k x : Nat) : upd f k x k = x := if_pos rfl
theorem upd_other (f : Nat → Nat) (k x j : Nat) (h : j ≠ k) : upd f k x j = f j := if_neg h
theorem TInv.ask (I : TInv A ns ins h q st) (k : Nat) (hk : k < 8) (hs : st k = 0) : TInv (A ++ [(k : Int)]) ns ins h (upd q k A.length) (upd st k 1) := by
  refine ⟨by rw [List.length_append]; have := I.le; omega, fun w hw => ?_, fun w hw h1 => ?_, ?_⟩
  · by_cases e : w = k
    · subst e; rw [upd_same]; omega
    · rw [upd_other _ _ _ _ e]; exact I.st2 w hw
  · by_cases e : w = k
    · subst e; rw [upd_same]; refine ⟨I.le, by simp, by simp⟩
    · rw [upd_other _ _ _ _ e] at h1 ⊢
      obtain ⟨a, b, c⟩ := I.wait w hw h1
      refine ⟨a, by simp; omega, by rw [List.getElem?_append_left b]; exact c⟩
  · rcases I.insd with ⟨a, b, c⟩ | ⟨v, hv, a, b, c, d, e⟩
    · refine .inl ⟨a, b, fun w hw => ?_⟩
      by_cases e : w = k
      · subst e; rw [upd_same]; omega
      · rw [upd_other _ _ _ _ e]; exact c w hw
    · have hvk : v ≠ k := by intro e; subst e; omega
      refine .inr ⟨v, hv, a, by rw [upd_other _ _ _ _ hvk]; exact b, by rw [upd_other _ _ _ _ hvk]; exact c, d, fun w hw h2 => ?_⟩
      by_cases ek : w = k
      · subst ek; rw [upd_same] at h2; omega
      · rw [upd_other _ _ _ _ ek] at h2; exact e w hw h2
/-- whose turn it is finds nobody inside. -/
theorem TInv.free (I : TInv A ns ins h q st) (k : Nat) (hk : k < 8) (hs : st k = 1) (hq : q k = ns) : ins = -1 ∧ h = ns := by
  rcases I.insd with ⟨a, b, c⟩ | ⟨v, hv, a, b, c, d, e⟩
  · exact ⟨a, b⟩
  · exfalso
    have h1 := (I.wait k hk (by omega)).2.2
    have h2 := (I.wait v hv (by omega)).2.2
    rw [hq] at h1; rw [c, h1] at h2
    have : k = v := by have := Option.some.inj h2; omega
    subst this; omega
theorem TInv.mine (I : TInv A ns ins h q st) (k : Nat) (hk : k < 8) (hs : st k = 1) (hq : q k = ns) : TInv A ns (k : Int) (h + 1) q (upd st k 2) ∧ A[h]? = some (k : Int) := by
  obtain ⟨a, b⟩ := I.free k hk hs hq
  have h0 : ∀ w, w < 8 → st w ≠ 2 := by
    rcases I.insd with ⟨_, _, c⟩ | ⟨v, hv, a', _⟩
    · exact c
    · omega
  refine ⟨⟨I.le, fun w hw => ?_, fun w hw h1 => ?_, .inr ⟨k, hk, rfl, upd_same _ _ _, hq, by omega, fun w hw h2 => ?_⟩⟩, by rw [b, ← hq]; exact (I.wait k hk (by omega)).2.2⟩
  · by_cases e : w = k
    · subst e; rw [upd_same]; omega
    · rw [upd_other _ _ _ _ e]; exact I.st2 w hw
  · by_cases e : w = k
    · subst e; exact I.wait w hw (by omega)
    · rw [upd_other _ _ _ _ e] at h1; exact I.wait w hw h1
  · by_cases e : w = k
    · exact e
    · rw [upd_other _ _ _ _ e] at h2; exact absurd h2 (h0 w hw)
theorem TInv.leave (I : TInv A ns ins h q st) (k : Nat) (hk : k < 8) (hs : st k = 2) : q k = ns ∧ TInv A (ns + 1) (-1) h q (upd st k 0) := by
  rcases I.insd with ⟨_, _, c⟩ | ⟨v, hv, a, b, c, d, e⟩
  · exact absurd hs (c k hk)
  · obtain rfl := e k hk hs
    have hA := I.wait k hk (by omega)
    refine ⟨c, by omega, fun w hw => ?_, fun w hw h1 => ?_, .inl ⟨rfl, d, fun w hw => ?_⟩⟩
    · by_cases e : w = k
      · subst e; rw [upd_same]; omega
      · rw [upd_other _ _ _ _ e]; exact I.st2 w hw
    · by_cases ek : w = k
      · subst ek; rw [upd_same] at h1; omega
      · rw [upd_other _ _ _ _ ek] at h1
        obtain ⟨x, y, z⟩ := I.wait w hw h1
        refine ⟨?_, y, z⟩
        rcases Nat.lt_or_ge ns (q w) with hlt | hge
        · exact hlt
        · exfalso
          have : q w = q k := by omega
          rw [this, hA.2.2] at z
          have := Option.some.inj z
          omega
    · by_cases ek : w = k
      · subst ek; rw [upd_same]; omega
      · rw [upd_other _ _ _ _ ek]; exact fun h2 => ek (e w hw h2)
theorem take_more (A : List Int) (h : Nat) (k : Int) (hA : A[h]? = some k) : A.take h ++ [k] = A.take (h + 1) := by
  obtain ⟨h1, h2⟩ := List.getElem?_eq_some_iff.1 hA
  rw [List.take_succ_eq_append_getElem h1, h2]
end Go.Proofs.Ytfigabjcmpakeab.ticketOrder
