/- The state of the law TicketDoes: three rows of the call's own beside a store and its mirror. -/
import Derived.Test.YtfigabjcmpakeabTickO
namespace Go.Proofs.Ytfigabjcmpakeab.ticketDoes
open Go.ChangeShapes Go.WideShapes Go.ChangeAt Go.RowKit
set_option linter.unusedVariables false
set_option linter.unusedSimpArgs false
def tp : List Int → List Int → List Value
  | a :: A, n :: N => .int .i64 a :: .int .i64 n :: tp A N
  | _, _ => []
theorem tp_len (A N : List Int) (h : A.length = N.length) : (tp A N).length = A.length * 2 := by
  induction A generalizing N with
  | nil => rfl
  | cons a A ih =>
    cases N with
    | nil => simp at h
    | cons n N => simp at h; simp [tp, ih N h]; omega
theorem tp_snoc (A N : List Int) (a n : Int) (h : A.length = N.length) : tp (A ++ [a]) (N ++ [n]) = tp A N ++ [.int .i64 a, .int .i64 n] := by
  induction A generalizing N with
  | nil =>
    cases N with
    | nil => rfl
    | cons n N => simp at h
  | cons a' A ih =>
    cases N with
    | nil => simp at h
    | cons n' N => simp at h; simp [tp, ih N h]
theorem tp_at (A N : List Int) (i : Nat) (h : A.length = N.length) (hi : i < A.length) : (tp A N)[i * 2]? = some (.int .i64 (A.getD i 0)) ∧ (tp A N)[i * 2 + 1]? = some (.int .i64 (N.getD i 0)) := by
  induction A generalizing N i with
  | nil => simp at hi
  | cons a A ih =>
    cases N with
    | nil => simp at h
    | cons n N =>
      simp at h
      cases i with
      | zero => simp [tp]
      | succ i =>
        have := ih N i h (by simpa using hi)
        rw [show (i + 1) * 2 = i * 2 + 1 + 1 from by omega]
        simpa [tp] using this
theorem info33 : (Try.prog.info? 33).map (fun i => (i.zero, i.size, i.bytes)) = some (some (.agg #[.int .i64 0, .int .i64 0]), 2, 16) := by kernel_rfl
structure R3 (w : World) (B : Nat) (vt va vn : Value) (A N A2 N2 : List Int) : Prop where
  t : w.ownsRow B 33 2 vt A.length (tp A N)
  a : w.ownsRow B 3 1 va A2.length (A2.map (Value.int .i64))
  n : w.ownsRow B 3 1 vn N2.length (N2.map (Value.int .i64))
  ta : ∀ k, vt.ownBlock = some k → va.ownBlock ≠ some k
  tn : ∀ k, vt.ownBlock = some k → vn.ownBlock ≠ some k
  an : ∀ k, va.ownBlock = some k → vn.ownBlock ≠ some k
variable {w w' : World} {B : Nat} {vt va vn : Value} {A N A2 N2 : List Int}
theorem R3.same (h : R3 w B vt va vn A N A2 N2) (e : ∀ k, B ≤ k → k < w.heap.size → w'.heap[k]? = w.heap[k]?) : R3 w' B vt va vn A N A2 N2 :=
  ⟨row_below2 h.t fun k q => e k (h.t.lt k q).1 (h.t.lt k q).2, row_below2 h.a fun k q => e k (h.a.lt k q).1 (h.a.lt k q).2, row_below2 h.n fun k q => e k (h.n.lt k q).1 (h.n.lt k q).2, h.ta, h.tn, h.an⟩
theorem R3.below (h : R3 w B vt va vn A N A2 N2) (hb : Below w.heap.size w w') : R3 w' B vt va vn A N A2 N2 := h.same fun k _ hk => hb.block k hk
theorem R3.keep {g : Nat} (h : R3 w B vt va vn A N A2 N2) (hk : Keep g w w') (hg : g < B) : R3 w' B vt va vn A N A2 N2 := h.same fun k hB hlt => hk.2 k hlt (by omega)
theorem R3.appT {vt' : Value} {A' N' : List Int} (h : R3 w B vt va vn A N A2 N2) (hr : w'.ownsRow B 33 2 vt' A'.length (tp A' N')) (hg : w.grownBy w' vt.ownBlock) (ho : vt'.ownBlock = vt.ownBlock ∨ vt'.ownBlock = some w.heap.size) : R3 w' B vt' va vn A' N' A2 N2 := by
  refine ⟨hr, row_below2 h.a fun k q => hg.block k (h.a.lt k q).2 (fun e => h.ta k e.symm q), row_below2 h.n fun k q => hg.block k (h.n.lt k q).2 (fun e => h.tn k e.symm q), fun k e q => ?_, fun k e q => ?_, h.an⟩
  · rcases ho with ho | ho
    · exact h.ta k (ho ▸ e) q
    · rw [ho] at e; cases e; have := (h.a.lt _ q).2; omega
  · rcases ho with ho | ho
    · exact h.tn k (ho ▸ e) q
    · rw [ho] at e; cases e; have := (h.n.lt _ q).2; omega
theorem R3.appA {va' : Value} {A' : List Int} (h : R3 w B vt va vn A N A2 N2) (hr : w'.ownsRow B 3 1 va' A'.length (A'.map (Value.int .i64))) (hg : w.grownBy w' va.ownBlock) (ho : va'.ownBlock = va.ownBlock ∨ va'.ownBlock = some w.heap.size) : R3 w' B vt va' vn A N A' N2 := by
  refine ⟨row_below2 h.t fun k q => hg.block k (h.t.lt k q).2 (fun e => h.ta k q e.symm), hr, row_below2 h.n fun k q => hg.block k (h.n.lt k q).2 (fun e => h.an k e.symm q), fun k e q => ?_, h.tn, fun k e q => ?_⟩
  · rcases ho with ho | ho
    · exact h.ta k e (ho ▸ q)
    · rw [ho] at q; cases q; have := (h.t.lt _ e).2; omega
  · rcases ho with ho | ho
    · exact h.an k (ho ▸ e) q
    · rw [ho] at e; cases e; have := (h.n.lt _ q).2; omega
theorem R3.appN {vn' : Value} {N' : List Int} (h : R3 w B vt va vn A N A2 N2) (hr : w'.ownsRow B 3 1 vn' N'.length (N'.map (Value.int .i64))) (hg : w.grownBy w' vn.ownBlock) (ho : vn'.ownBlock = vn.ownBlock ∨ vn'.ownBlock = some w.heap.size) : R3 w' B vt va vn' A N A2 N' := by
  refine ⟨row_below2 h.t fun k q => hg.block k (h.t.lt k q).2 (fun e => h.tn k q e.symm), row_below2 h.a fun k q => hg.block k (h.a.lt k q).2 (fun e => h.an k q e.symm), hr, h.ta, fun k e q => ?_, fun k e q => ?_⟩
  · rcases ho with ho | ho
    · exact h.tn k e (ho ▸ q)
    · rw [ho] at q; cases q; have := (h.t.lt _ e).2; omega
  · rcases ho with ho | ho
    · exact h.an k e (ho ▸ q)
    · rw [ho] at q; cases q; have := (h.a.lt _ e).2; omega
theorem own_form {B e s n : Nat} {v : Value} {xs : List Value} (h : w.ownsRow B e s v n xs) : ∃ o c, v = .slice o n c ∧ n ≤ c ∧ (0 < n → ∃ q, o = some ⟨q, 0, none⟩) := by
  obtain ⟨_, ⟨rfl, rfl⟩ | ⟨q, cap, cur, rfl, _, _, hle, _⟩⟩ := h
  · exact ⟨none, 0, rfl, Nat.le_refl _, fun h => by omega⟩
  · exact ⟨_, cap, rfl, hle, fun _ => ⟨q, rfl⟩⟩
theorem own_cell {B e n i q c : Nat} {xs : List Value} {u : Value} (h : w.ownsRow B e 1 (.slice (some ⟨q, 0, none⟩) n c) n xs) (hi : xs[i]? = some u) : w.cell? ⟨q, i, none⟩ = some u := by
  have := h.cells rfl i u hi
  rw [Go.WideShapes.add_plain, Nat.zero_add] at this
  exact this
theorem own_cell2 {B e n i q c s : Nat} {xs : List Value} {u : Value} (h : w.ownsRow B e s (.slice (some ⟨q, 0, none⟩) n c) n xs) (hi : xs[i]? = some u) : w.cell? ⟨q, i, none⟩ = some u := by
  have := h.cells rfl i u hi
  rw [Go.WideShapes.add_plain, Nat.zero_add] at this
  exact this
/-- the store, its mirror and the base of the rows. -/
structure KB (w0 w : World) (S g M B : Nat) (xs ms : List Int) : Prop where
  k : K w0 w S g M xs ms
  lt : S < B ∧ g < B ∧ M < B ∧ w0.heap.size ≤ B ∧ B ≤ w.heap.size
variable {w0 : World} {S g M : Nat} {xs ms xs' : List Int}
theorem KB.below (h : KB w0 w S g M B xs ms) (hb : Below w.heap.size w w') : KB w0 w' S g M B xs ms :=
  ⟨h.k.below hb, h.lt.1, h.lt.2.1, h.lt.2.2.1, h.lt.2.2.2.1, Nat.le_trans h.lt.2.2.2.2 hb.size⟩
theorem KB.call (h : KB w0 w S g M B xs ms) (hj : J w0 w' S g xs') (hk : Keep g w w') : KB w0 w' S g M B xs' ms := by
  obtain ⟨⟨_, hm, h1, h2, h3, h4⟩, l1, l2, l3, l4, l5⟩ := h
  exact ⟨⟨hj, hk.block hm h1, h1, h2, h3, h4⟩, l1, l2, l3, l4, Nat.le_trans l5 hk.1⟩
theorem KB.setM (h : KB w0 w S g M B xs ms) (i : Nat) (x : Int) : KB w0 (w.setCell ⟨M, i, none⟩ (.int .i64 x)) S g M B xs (ms.set i x) :=
  ⟨h.k.setM i x, h.lt.1, h.lt.2.1, h.lt.2.2.1, h.lt.2.2.2.1, by show B ≤ (w.heap.modify M _).size; rw [Array.size_modify]; exact h.lt.2.2.2.2⟩
theorem KB.grown {row : Option Nat} (h : KB w0 w S g M B xs ms) (hg : w.grownBy w' row) (hB : ∀ k, row = some k → B ≤ k) : KB w0 w' S g M B xs ms := by
  obtain ⟨⟨⟨⟨s1, s2, s3⟩, hb, hg0⟩, hm, h1, h2, h3, h4⟩, l1, l2, l3, l4, l5⟩ := h
  have e : ∀ k, k < B → w'.heap[k]? = w.heap[k]? := fun k hk => hg.block k (by omega) (fun q => by have := hB k q.symm; omega)
  exact ⟨⟨⟨⟨(e S l1).trans s1, (e g l2).trans s2, s3⟩, hb.trans ⟨hg.os, hg.tape, hg.output, hg.size, fun k hk => e k (by omega)⟩, hg0⟩, (e M l3).trans hm, h1, h2, h3, h4⟩, l1, l2, l3, l4, Nat.le_trans l5 hg.size⟩
theorem setM_block {i : Nat} {x : Value} (k : Nat) (h : k ≠ M) : (w.setCell ⟨M, i, none⟩ x).heap[k]? = w.heap[k]? := by
  show (w.heap.modify M _)[k]? = _
  rw [Array.getElem?_modify, if_neg (fun e => h e.symm)]
theorem R3.setM {i : Nat} {x : Value} (h : R3 w B vt va vn A N A2 N2) (hM : M < B) : R3 (w.setCell ⟨M, i, none⟩ x) B vt va vn A N A2 N2 := h.same fun k hB _ => setM_block k (by omega)
theorem wpList_appT {ops : Array Oper} {rest : List Oper} {o : Oper} {a : Act} {Q : Exit → Act → World → Prop} (hgd : o.guard = none) (s x : Operand)
    (ho : o.op = .call { callee := .builtin .append, args := #[s, x], argTypes := #[27, 27] })
    (B : Nat) (v : Value) (A N : List Int) (hl : A.length = N.length) (hs : a.eval s = v) (ad : Addr) (hx : a.eval x = .slice (some ad) 1 1) (p q : Int) (hown : w.ownsRow B 33 2 v A.length (tp A N)) (hu : w.cell? ad = some (.int .i64 p)) (hu2 : w.cell? (ad.add 1) = some (.int .i64 q)) (hpl : ad.add 0 = ad) (hsm : A.length ≤ 100000) (hB : B ≤ w.heap.size)
    (h : ∀ v' w', w'.ownsRow B 33 2 v' (A ++ [p]).length (tp (A ++ [p]) (N ++ [q])) → w.grownBy w' v.ownBlock → (v'.ownBlock = v.ownBlock ∨ v'.ownBlock = some w.heap.size) → wpList Try.prog ops Q rest (a.put o.dst v') w') : wpList Try.prog ops Q (o :: rest) a w := by
  obtain ⟨i0, hi, hz0, hz1, hz2⟩ := info_parts info33
  refine wpList_append_own_at w hgd s x 27 ho B 33 i0 (.agg #[.int .i64 0, .int .i64 0]) 2 16 Try.underlying27 hi hz0 hz1 hz2 rfl (by decide) v A.length (tp A N) hs hown ad 1 1 [.int .i64 p, .int .i64 q] hx rfl (by
    intro j u hj
    match j, hj with
    | 0, hj => simp at hj; subst hj; rw [hpl]; exact hu
    | 1, hj => simp at hj; subst hj; exact hu2) (by intro u hu; simp at hu; rcases hu with rfl | rfl <;> rfl) (by unfold maxLen; omega) (by omega) hB ?_
  intro v' w' h1 h2 _ h4
  refine h v' w' ?_ h2 h4
  rw [tp_snoc A N p q hl]
  simpa using h1
end Go.Proofs.Ytfigabjcmpakeab.ticketDoes
