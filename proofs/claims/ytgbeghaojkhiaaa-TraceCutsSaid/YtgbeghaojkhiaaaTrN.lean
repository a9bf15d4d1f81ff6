/- Follows: whether what began follows (layer 34). -/
import Derived.Test.YtgbeghaojkhiaaaTrL
import Derived.Test.YtgbeghaojkhiaaaGrF
namespace Go.Proofs.Ytgbeghaojkhiaaa.tr
open Go.ChangeShapes Go.WideShapes Go.ChangeAt Go.RowKit Go.Maps
open Go.Proofs.Ytgbeghaojkhiaaa.ro
open Go.Proofs.Ytgbeghaojkhiaaa.gr (C2 enC recC d2 PM rec_new cx hd hd_le iter_v stage_v tr3 kb Q4 eds chkE edges_ok edges_no)
attribute [local go_sem ↓] Go.wp_at_zero Go.wp_at_succ
attribute [local go_sem] Oper.semAt_some
set_option linter.unusedVariables false
set_option linter.unusedSimpArgs false
/-- the nodes that began, as places. -/
def pts (l : List (Int × Int)) : List Pt := l.map fun p => (hd p.1, hd p.2)
/-- which one of those that began a node is, from 1 on. -/
def fp (l : List Pt) (p : Pt) : Option Nat := (l.findIdx? (fun q => decide (q = p))).map (· + 1)
theorem fp_snoc (l : List Pt) (q : Pt) : fp (l ++ [q]) = if fp l q = none then (fun y => if y = q then some (l.length + 1) else fp l y) else fp l := by
  funext y
  unfold fp
  rw [List.findIdx?_append]
  by_cases e : y = q
  · subst e
    cases h : l.findIdx? (fun p => decide (p = y)) with
    | none => simp [List.findIdx?_cons]
    | some m => simp [h]
  · have h1 : [q].findIdx? (fun p => decide (p = y)) = none := by
      simp [List.findIdx?_cons]
      exact fun h => e h.symm
    rw [h1]
    by_cases h2 : Option.map (· + 1) (l.findIdx? (fun p => decide (p = q))) = none
    · rw [if_pos h2]
      simp [e]
    · rw [if_neg h2]
      simp
theorem fp_pos {l : List Pt} {p : Pt} {m : Nat} (h : fp l p = some m) : 1 ≤ m ∧ m ≤ l.length := by
  unfold fp at h
  cases e : l.findIdx? (fun q => decide (q = p)) with
  | none => rw [e] at h; cases h
  | some i =>
    rw [e] at h
    cases h
    obtain ⟨hi, _⟩ := List.findIdx?_eq_some_iff_getElem.1 e
    exact show 1 ≤ i + 1 ∧ i + 1 ≤ l.length from ⟨by omega, hi⟩
def badE (f : Pt → Option Nat) (e : Q4) : Bool :=
  match f (hd e.2.2.1, hd e.2.2.2) with
  | none => false
  | some t => match f (hd e.1, hd e.2.1) with
    | none => true
    | some m => decide (t < m)
/-- does it follow? -/
def flw (lp : Int) (es : List I4) : Bool := decide (chkE (rss lp es).1 = 0) && (eds (rss lp es).1).all fun e => !badE (fp (pts (bgn lp es))) e
theorem OR.zero {α : Type} {k : Nat} {en : α → List Value} {w : World} {B e : Nat} {v : Value} {xs : List α} (h : OR k en w B e v xs) : OR k en w 0 e v xs := by
  obtain ⟨hl, h1 | ⟨g, cap, cur, rfl, h2, h3⟩⟩ := h
  · exact ⟨hl, .inl h1⟩
  · exact ⟨hl, .inr ⟨g, cap, cur, rfl, Nat.zero_le _, h3⟩⟩
theorem OR.node {w : World} {B : Nat} {a : Option Addr} {n c : Nat} {xs : List (Int × Int)} (h : OR 1 enN w B 38 (.slice a n c) xs) (i : Nat) {q : Int × Int} (hq : xs[i]? = some q) : ∃ b, a = some ⟨b, 0, none⟩ ∧ w.cell? ⟨b, i, none⟩ = some (cx q.1 q.2) := by
  obtain ⟨b, o, e, hlt, hc⟩ := (OR.rv recN h).at i q hq
  obtain ⟨hl, ⟨e2, _⟩ | ⟨g, cap, cur, e2, _⟩⟩ := h
  · cases e2; cases e
  · rw [Value.slice.injEq] at e2
    obtain ⟨rfl, _, _⟩ := e2
    simp at e
    obtain ⟨rfl, rfl⟩ := e
    have h0 := hc 0 _ rfl
    simp only [Nat.zero_add, Nat.add_zero, Nat.mul_one] at h0
    exact ⟨g, rfl, h0⟩
theorem OR.edge {w : World} {B : Nat} {a : Option Addr} {n c : Nat} {xs : List Q4} (h : OR 2 Go.Proofs.Ytgbeghaojkhiaaa.gr.enE w B 69 (.slice a n c) xs) (i : Nat) {q : Q4} (hq : xs[i]? = some q) : ∃ b, a = some ⟨b, 0, none⟩ ∧ w.cell? ⟨b, i * 2, none⟩ = some (cx q.1 q.2.1) ∧ w.cell? ⟨b, i * 2 + 1, none⟩ = some (cx q.2.2.1 q.2.2.2) := by
  obtain ⟨b, o, e, hlt, hc⟩ := (OR.rv Go.Proofs.Ytgbeghaojkhiaaa.gr.recE h).at i q hq
  obtain ⟨hl, ⟨e2, _⟩ | ⟨g, cap, cur, e2, _⟩⟩ := h
  · cases e2; cases e
  · rw [Value.slice.injEq] at e2
    obtain ⟨rfl, _, _⟩ := e2
    simp at e
    obtain ⟨rfl, rfl⟩ := e
    have h0 := hc 0 _ rfl
    have h1 := hc 1 _ rfl
    simp only [Nat.zero_add, Nat.add_zero] at h0 h1
    exact ⟨g, rfl, h0, h1⟩
theorem step_look_sp {ops : Array Oper} {o : Oper} {a : Act} {w : World} {K : Act → World → Prop} {Q : Exit → Act → World → Prop} {E : Prop} (hgd : o.guard = none) (m x : Operand)
    (hop : o.op = Op.lookup 65 m x false) (b n : Nat) (D : Dm) (hm : a.eval m = .map (some b)) (z : Pt) (hx : a.eval x = spV z.1 z.2) (hz : z.1 ≤ 1048576 ∧ z.2 ≤ 1048576)
    (f : Pt → Option Nat) (hL : Ls D f) (v : Int) (hv : (match f z with | some B => (B : Int) | none => 0) = v) (hown : w.ownsMap Try.prog 67 inE b n D)
    (h : K (a.put o.dst (.int .i64 v)) w) :
    if Region.wanted o (yielded ops a.tmps) = true then Oper.wp Try.prog o a w K Q else E := by
  have hw : Region.wanted o (yielded ops a.tmps) = true := by simp [Region.wanted, hgd]
  rw [if_pos hw]
  obtain ⟨u, ps, hrun, hu⟩ := hown.lookup spL Try.underlying65 (zeroI w) (show inE (.int .i64 0) = some (zi, []) from rfl) (keyS (nat_wf hz.1) (nat_wf hz.2))
  rw [hL.2 z hz] at hu
  have : u = .int .i64 v := by
    rw [← hv]
    cases e : f z with
    | none => rw [e] at hu; exact inE_inv hu
    | some B => rw [e] at hu; exact inE_inv hu
  subst this
  unfold Oper.wp
  simp [execOp, hop, hm, hx, hrun, Result.andThen]
  exact h
/-- the map and the rows ahead of node k. -/
structure FI (w0 w : World) (Mb : Nat) (nv ev : Value) (nd : List (Int × Int)) (E : List Q4) (k : Nat) : Prop where
  m : ∃ D n, w.ownsMap Try.prog 67 inE Mb n D ∧ Ls D (fp ((pts nd).take k)) ∧ n ≤ k
  n : OR 1 enN w 0 38 nv nd
  e : OR 2 Go.Proofs.Ytgbeghaojkhiaaa.gr.enE w 0 69 ev E
  b : Below w0.heap.size w0 w
  lt : w0.heap.size ≤ Mb
  nn : ∀ g, nv.ownBlock = some g → g ≠ Mb
  en : ∀ g, ev.ownBlock = some g → g ≠ Mb
section
variable {w0 w w' : World} {Mb k : Nat} {nv ev : Value} {nd : List (Int × Int)} {E : List Q4}
theorem FI.below (h : FI w0 w Mb nv ev nd E k) (hb : Below w.heap.size w w') : FI w0 w' Mb nv ev nd E k := by
  obtain ⟨D, n, hm, hL, hn⟩ := h.m
  exact ⟨⟨D, n, ownsMap_blkS hm (hb.block Mb hm.lt), hL, hn⟩, h.n.below hb, h.e.below hb, tr3 h.b hb, h.lt, h.nn, h.en⟩
theorem FI.old (h : FI w0 w Mb nv ev nd E k) {p : Int × Int} (hp : nd[k]? = some p) (hf : fp ((pts nd).take k) (hd p.1, hd p.2) ≠ none) : FI w0 w Mb nv ev nd E (k + 1) := by
  obtain ⟨D, n, hm, hL, hn⟩ := h.m
  refine ⟨⟨D, n, hm, ?_, Nat.le_succ_of_le hn⟩, h.n, h.e, h.b, h.lt, h.nn, h.en⟩
  rw [List.take_add_one, show (pts nd)[k]? = some (hd p.1, hd p.2) by simp [pts, hp]]
  show Ls D (fp (_ ++ [_]))
  rw [fp_snoc, if_neg hf]
  exact hL
theorem FI.new (h : FI w0 w Mb nv ev nd E k) {p : Int × Int} (hp : nd[k]? = some p) (hf : fp ((pts nd).take k) (hd p.1, hd p.2) = none) {D : Dm} {n : Nat} (hL : Ls D (fp ((pts nd).take k))) (hn : n ≤ k)
    (hm : w'.ownsMap Try.prog 67 inE Mb (n + 1) (D.put (kS (hd p.1) (hd p.2)) (.lit (.int .i64 ((k + 1 : Nat) : Int))))) (hg : w.grownBy w' (some Mb)) : FI w0 w' Mb nv ev nd E (k + 1) := by
  have hkl : ((pts nd).take k).length = k := by
    have := (List.getElem?_eq_some_iff.1 hp).1
    rw [List.length_take]
    simp [pts]
    omega
  refine ⟨⟨_, n + 1, hm, ?_, Nat.succ_le_succ hn⟩, OR.blk h.n fun g hg2 => hg.block g (h.n.lt g hg2).2 (fun e => h.nn g hg2 (Option.some.inj e)), OR.blk h.e fun g hg2 => hg.block g (h.e.lt g hg2).2 (fun e => h.en g hg2 (Option.some.inj e)), h.b.trans ⟨hg.os, hg.tape, hg.output, hg.size, fun q hq => hg.block q (Nat.lt_of_lt_of_le hq h.b.size) (fun e => by have := Option.some.inj e; have := h.lt; omega)⟩, h.lt, h.nn, h.en⟩
  rw [List.take_add_one, show (pts nd)[k]? = some (hd p.1, hd p.2) by simp [pts, hp]]
  show Ls _ (fp (_ ++ [_]))
  rw [fp_snoc, if_pos hf, hkl]
  exact hL.put (hd p.1, hd p.2) ⟨hd_le _, hd_le _⟩ (k + 1)
end
end Go.Proofs.Ytgbeghaojkhiaaa.tr
