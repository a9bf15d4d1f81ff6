/- What could happen: loops as they come up (layer 34). -/
import Derived.Test.YtgbeghaojkhiaaaTrF
namespace Go.Proofs.Ytgbeghaojkhiaaa.tr
open Go.ChangeShapes Go.WideShapes Go.ChangeAt Go.RowKit Go.Maps
open Go.Proofs.Ytgbeghaojkhiaaa.ro
set_option linter.unusedVariables false
set_option linter.unusedSimpArgs false
attribute [local go_sem ↓] Go.wp_at_zero Go.wp_at_succ
attribute [local go_sem] Oper.semAt_some
theorem zeroP (w : World) : (zeroValue 54).run Try.prog w = .ok (.pointer none) w := by kernel_rfl
theorem keyZ {z : Int} (hz : (Lit.int .i64 z).wf = true) : keyOf Try.prog 3 (.int .i64 z) = some (kz z) := keyOf_int_mk Try.underlying3 hz
theorem wpList_look_pt (w : World) {ops : Array Oper} {rest : List Oper} {o : Oper} {a : Act} {Q : Exit → Act → World → Prop}
    (hg : o.guard = none) (m x : Operand) (hop : o.op = Op.lookup 53 m x false) (b n : Nat) (D : Dm) (hm : a.eval m = .map (some b)) (hown : w.ownsMap Try.prog 3 ptE b n D) (z : Int) (hx : a.eval x = .int .i64 z) (hz : (Lit.int .i64 z).wf = true)
    (f : Int → Option Nat) (hL : Lz D f) (v : Value) (hv : (match f z with | some B => .pointer (some ⟨B, 0, none⟩) | none => .pointer none) = v)
    (hK : wpList Try.prog ops Q rest (a.put o.dst v) w) :
    wpList Try.prog ops Q (o :: rest) a w := by
  refine wpList_plain hg fun K' hK' => ?_
  obtain ⟨u, ps, hrun, hu⟩ := hown.lookup law Try.underlying53 (zeroP w) (show ptE (.pointer none) = some (zd, []) from rfl) (keyZ hz)
  rw [hL.2 z] at hu
  have : u = v := by
    rw [← hv]
    cases e : f z with
    | none => rw [e] at hu; exact ptE_inv0 hu
    | some B => rw [e] at hu; exact ptE_inv hu
  subst this
  unfold Oper.wp
  simp [execOp, hop, hm, hx, hrun, Result.andThen]
  exact hK' _ _ hK
structure Cor (xs : List LM) (F : Int → Lp) : Prop where
  nd : ∀ (i j : Nat) (x y : LM), xs[i]? = some x → xs[j]? = some y → x.z = y.z → i = j
  s : ∀ (j : Nat) (x : LM), xs[j]? = some x → x.s = F x.z
  o : ∀ z, (∀ (j : Nat) (x : LM), xs[j]? = some x → x.z ≠ z) → F z = lp0
theorem Cor.nil : Cor [] F0 := ⟨fun i j x y h => by simp at h, fun j x h => by simp at h, fun z _ => rfl⟩
theorem find_none {xs : List LM} {z : Int} (h : ∀ (j : Nat) (x : LM), xs[j]? = some x → x.z ≠ z) : fB xs z = none := by
  unfold fB
  rw [List.find?_eq_none.2 (fun x hx => by obtain ⟨j, hj⟩ := List.getElem?_of_mem hx; simpa using h j x hj)]
  rfl
theorem find_some {xs : List LM} {F : Int → Lp} (h : Cor xs F) {j : Nat} {x : LM} (hx : xs[j]? = some x) : fB xs x.z = some x.B := by
  unfold fB
  cases e : xs.find? (fun y => y.z == x.z) with
  | none => have := List.find?_eq_none.1 e x (List.mem_of_getElem? hx); simp at this
  | some y =>
    obtain ⟨i, hi⟩ := List.getElem?_of_mem (List.mem_of_find?_eq_some e)
    have hz : y.z = x.z := by have := List.find?_some e; simpa using this
    obtain rfl := h.nd i j y x hi hx hz
    rw [hi] at hx
    cases hx
    rfl
theorem find_add {xs : List LM} {z : Int} {y : LM} (hy : y.z = z) (h : fB xs z = none) : fB (xs ++ [y]) = fun u => if u = z then some y.B else fB xs u := by
  funext u
  unfold fB at h ⊢
  rw [List.find?_append]
  by_cases e : u = z
  · subst e
    rw [if_pos rfl, Option.map_eq_none_iff.1 h]
    simp [hy]
  · rw [if_neg e]
    have : (List.find? (fun x => x.z == u) [y]) = none := by simp [hy]; exact fun h => e h.symm
    rw [this]
    simp
theorem Cor.add {xs : List LM} {F : Int → Lp} (h : Cor xs F) {z : Int} (hz : ∀ (j : Nat) (x : LM), xs[j]? = some x → x.z ≠ z) (B : Nat) (rv : Value) : Cor (xs ++ [⟨z, B, rv, [], lp0⟩]) F := by
  have key : ∀ (j : Nat) (x : LM), (xs ++ [⟨z, B, rv, [], lp0⟩])[j]? = some x → (j < xs.length ∧ xs[j]? = some x) ∨ (j = xs.length ∧ x = ⟨z, B, rv, [], lp0⟩) := fun j x hx => by
    by_cases e : j < xs.length
    · rw [List.getElem?_append_left e] at hx; exact .inl ⟨e, hx⟩
    · rw [List.getElem?_append_right (by omega)] at hx
      rcases Nat.eq_zero_or_pos (j - xs.length) with h0 | h0
      · rw [h0] at hx; cases hx; exact .inr ⟨by omega, rfl⟩
      · rw [List.getElem?_eq_none (by simp; omega)] at hx; cases hx
  refine ⟨fun i j x y hx hy e => ?_, fun j x hx => ?_, fun u hu => ?_⟩
  · rcases key i x hx with ⟨h1, h2⟩ | ⟨h1, h2⟩ <;> rcases key j y hy with ⟨h3, h4⟩ | ⟨h3, h4⟩
    · exact h.nd i j x y h2 h4 e
    · subst h4; exact absurd e (hz i x h2)
    · subst h2; exact absurd e.symm (hz j y h4)
    · omega
  · rcases key j x hx with ⟨h1, h2⟩ | ⟨h1, h2⟩
    · exact h.s j x h2
    · subst h2; exact (h.o z hz).symm
  · refine h.o u fun j x hx => hu j x ?_
    rw [List.getElem?_append_left (List.getElem?_eq_some_iff.1 hx).1]
    exact hx
theorem Cor.set {xs : List LM} {F : Int → Lp} (h : Cor xs F) {j : Nat} {x y : LM} (hx : xs[j]? = some x) (hz : y.z = x.z) (e : I4) (he : e.2.1 = x.z) (hy : y.s = tk x.s e) : Cor (xs.set j y) (upd F e) := by
  have hjl := (List.getElem?_eq_some_iff.1 hx).1
  have key : ∀ (i : Nat) (u : LM), (xs.set j y)[i]? = some u → (i = j ∧ u = y) ∨ (i ≠ j ∧ xs[i]? = some u) := fun i u hu => by
    by_cases e : i = j
    · subst e; rw [List.getElem?_set_self hjl] at hu; cases hu; exact .inl ⟨rfl, rfl⟩
    · rw [List.getElem?_set_ne (fun h => e h.symm)] at hu; exact .inr ⟨e, hu⟩
  refine ⟨fun a b u v hu hv e => ?_, fun i u hu => ?_, fun z hz' => ?_⟩
  · rcases key a u hu with ⟨h1, h2⟩ | ⟨h1, h2⟩ <;> rcases key b v hv with ⟨h3, h4⟩ | ⟨h3, h4⟩
    · omega
    · subst h2 h1; exact h.nd _ _ x v hx h4 (hz.symm.trans e)
    · subst h4 h3; exact h.nd _ _ u x h2 hx (e.trans hz)
    · exact h.nd a b u v h2 h4 e
  · unfold upd
    rcases key i u hu with ⟨h1, h2⟩ | ⟨h1, h2⟩
    · subst h2
      rw [if_pos (hz.trans he.symm), hy, h.s j x hx, he]
    · rw [if_neg (fun e2 => h1 (h.nd i j u x h2 hx (e2.trans he)))]
      exact h.s i u h2
  · unfold upd
    have hne : z ≠ e.2.1 := fun e2 => hz' j y (List.getElem?_set_self hjl) (by rw [hz, ← he, e2])
    rw [if_neg hne]
    refine h.o z fun i u hu => ?_
    by_cases e2 : i = j
    · subst e2; rw [hx] at hu; cases hu; exact fun e3 => hne (e3.symm.trans he.symm)
    · exact hz' i u (by rw [List.getElem?_set_ne (fun h => e2 h.symm)]; exact hu)
theorem TM.add {w0 w w' : World} {ρ : Ro} {Mb : Nat} {xs : List LM} (h : TM w0 w ρ Mb xs) {z : Int} (hz : fB xs z = none) {W : World} {B : Nat} (hb : Below w.heap.size w W) (hB : w.heap.size ≤ B) (ho : W.heap[B]? = some (.cells #[.slice none 0 0, .int .i64 0, .bool false] 57 (0, 0)))
    {D : Dm} (hL : Lz D (fB xs)) (hm : w'.ownsMap Try.prog 3 ptE Mb (xs.length + 1) (D.put (kz z) (.lit (.int .i64 (B : Int))))) (hg : W.grownBy w' (some Mb)) : ∃ ρ', TM w0 w' ρ' Mb (xs ++ [⟨z, B, .slice none 0 0, [], lp0⟩]) := by
  have hk1 : KX (fun _ => False) ρ (fun b => if b < w.heap.size then ρ b else if b = B then 10 + 3 * xs.length else 1) w W := ⟨hb.os, hb.tape, hb.output, hb.size, fun d _ k hk e => ⟨by show (if _ then _ else _) = _; rw [if_pos hk]; exact e, hb.block k hk⟩⟩
  have h1 := h.keep hk1 (fun _ _ h => h)
  have hBr : (fun b => if b < w.heap.size then ρ b else if b = B then 10 + 3 * xs.length else 1) B = 10 + 3 * xs.length := by
    show (if _ then _ else _) = _
    rw [if_neg (by omega), if_pos rfl]
  obtain ⟨ρ1, hρ⟩ : ∃ ρ1 : Ro, (fun b => if b < w.heap.size then ρ b else if b = B then 10 + 3 * xs.length else 1) = ρ1 := ⟨_, rfl⟩
  rw [hρ] at h1 hBr
  obtain ⟨D0, hm0, _⟩ := h1.m
  have hk2 : KX (· = 2) ρ1 (ext ρ1 W.heap.size 1) W w' := ⟨hg.os, hg.tape, hg.output, hg.size, fun d hd q hq e => ⟨by rw [ro.ext_lt ρ1 1 hq]; exact e, hg.block q hq (fun e2 => hd (by cases e2; rw [← e]; exact h1.rm))⟩⟩
  have hz2 := hk2.bel (by omega) h1.z h1.b.size
  have hB2 := hk2.blk ho hBr (by omega)
  refine ⟨ext ρ1 W.heap.size 1, hz2.2, h1.b.trans hz2.1, ⟨_, by rw [List.length_append]; exact hm, ?_⟩, by rw [ro.ext_lt ρ1 1 hm0.lt]; exact h1.rm, fun j x hx => ?_⟩
  · rw [find_add rfl hz]
    exact hL.put z B
  · by_cases e : j < xs.length
    · rw [List.getElem?_append_left e] at hx
      exact (h1.fn j x hx).keep hk2 (fun d hd => by rcases hd with h | h | ⟨i, _, h⟩ <;> omega)
    · rw [List.getElem?_append_right (by omega)] at hx
      rcases Nat.eq_zero_or_pos (j - xs.length) with h0 | h0
      · rw [h0] at hx
        cases hx
        obtain rfl : j = xs.length := by omega
        exact ⟨hB2.1, hB2.2, RR.nil _ _ _ _, rfl, fun i b y hb => by simp at hb⟩
      · rw [List.getElem?_eq_none (by simp; omega)] at hx; cases hx
/-- an event has happened. -/
theorem tk_v {w0 w : World} {ρ : Ro} {Mb : Nat} {xs : List LM} {j : Nat} {x : LM} (h : TM w0 w ρ Mb xs) (hx : xs[j]? = some x) (hL : ∀ (i : Nat) (y : LM), xs[i]? = some y → y.s.its.length < 1999) (hF : x.s.fin ≤ 100000) (e : I4) (he : ch x.s e = 0) :
    Calls Try.prog 23 #[.pointer (some ⟨x.B, 0, none⟩), .agg #[.int .i64 e.1, .int .i64 e.2.1, .int .i64 e.2.2.1, .int .i64 e.2.2.2]] w (TPost w0 Mb xs j x e) := by
  obtain ⟨k, z, i, s⟩ := e
  by_cases k1 : k = 1
  · subst k1
    exact tk1_v h hx hL z i s
  by_cases k5 : k = 5
  · subst k5
    exact tk5_v h hx (fun i y hy => by have := hL i y hy; omega) z i s
  · have hi := chN_in (ch_node he k1 k5)
    simp only at hi
    obtain ⟨q, rfl⟩ : ∃ q : Nat, i = (q : Int) := ⟨i.toNat, by omega⟩
    exact tki_v h hx (fun i y hy => by have := hL i y hy; omega) hF k z q s (by omega) k1 k5
theorem tk_len (x : Lp) (e : I4) : (tk x e).its.length ≤ x.its.length + 1 ∧ (tk x e).fin ≤ x.fin + 1 := by
  unfold tk
  split
  · simp
  · split
    · simp
    · constructor
      · simp
      · by_cases h : e.1 = 4 <;> simp [h]
end Go.Proofs.Ytgbeghaojkhiaaa.tr
