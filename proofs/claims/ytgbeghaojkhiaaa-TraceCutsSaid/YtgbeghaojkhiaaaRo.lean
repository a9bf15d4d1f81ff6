/- Blocks by their roles: what a step may write is told by roles; a row of records of one role; records that are only read. -/
import Derived.Test.YtgbeghaojkhiaaaRecs
namespace Go.Proofs.Ytgbeghaojkhiaaa.ro
open Go.ChangeShapes Go.WideShapes Go.ChangeAt Go.RowKit
set_option linter.unusedVariables false
set_option linter.unusedSimpArgs false
theorem set_blk (w : World) (b i : Nat) (v : Value) {cs : Array Value} {e : TypeId} (h : w.heap[b]? = some (.cells cs e (0, 0))) : (w.setCell ⟨b, i, none⟩ v).heap[b]? = some (.cells (cs.set! i v) e (0, 0)) := by
  obtain ⟨hlt, hk⟩ := Array.getElem?_eq_some_iff.1 h
  show (w.heap.modify b _)[b]? = _
  rw [Array.getElem?_eq_getElem (by rw [Array.size_modify]; exact hlt), Array.getElem_modify_self, hk]
  simp
theorem set_oth (w : World) (b i j : Nat) (v : Value) (h : j ≠ b) : (w.setCell ⟨b, i, none⟩ v).heap[j]? = w.heap[j]? := by
  show (w.heap.modify b _)[j]? = _
  rw [Array.getElem?_modify, if_neg (fun e => h e.symm)]
theorem set_size (w : World) (b i : Nat) (v : Value) : (w.setCell ⟨b, i, none⟩ v).heap.size = w.heap.size := by
  show (w.heap.modify b _).size = _
  rw [Array.size_modify]
theorem lt_of {w : World} {b : Nat} {o : Obj} (h : w.heap[b]? = some o) : b < w.heap.size := (Array.getElem?_eq_some_iff.1 h).1
theorem frz {w : World} {g : Nat} {cs : Array Value} {e : TypeId} (h : w.heap[g]? = some (.cells cs e (0, 0))) (i : Nat) : w.frozen? ⟨g, i, none⟩ = false := by simp [World.frozen?, h]
theorem cel {w : World} {g : Nat} {cs : Array Value} {e : TypeId} (h : w.heap[g]? = some (.cells cs e (0, 0))) (i : Nat) : w.cell? ⟨g, i, none⟩ = cs[i]? := by simp [World.cell?, h]
theorem heap_new (w : World) (o : Obj) : (w.alloc o).heap[w.heap.size]? = some o := by
  show (w.heap.push _)[w.heap.size]? = _
  simp
abbrev Ro := Nat → Nat
/-- Each block of the role c keeps it, and is as it was. -/
def K1 (c : Nat) (r r' : Ro) (w w' : World) : Prop := ∀ k, k < w.heap.size → r k = c → r' k = c ∧ w'.heap[k]? = w.heap[k]?
/-- Only blocks of roles in P may be otherwise. -/
structure KX (P : Nat → Prop) (r r' : Ro) (w w' : World) : Prop where
  os : w'.os = w.os
  tape : w'.tape = w.tape
  output : w'.output = w.output
  size : w.heap.size ≤ w'.heap.size
  k : ∀ c, ¬ P c → K1 c r r' w w'
def ext (r : Ro) (n c : Nat) : Ro := fun k => if k < n then r k else c
theorem ext_lt (r : Ro) {n k : Nat} (c : Nat) (h : k < n) : ext r n c k = r k := if_pos h
theorem ext_ge (r : Ro) {n k : Nat} (c : Nat) (h : n ≤ k) : ext r n c k = c := if_neg (by omega)
section
variable {P P' : Nat → Prop} {r r' r'' : Ro} {w w' w'' : World} {c : Nat}
theorem K1.trans (h : K1 c r r' w w') (h' : K1 c r' r'' w' w'') (hs : w.heap.size ≤ w'.heap.size) : K1 c r r'' w w'' := fun k hk e =>
  ⟨(h' k (Nat.lt_of_lt_of_le hk hs) (h k hk e).1).1, ((h' k (Nat.lt_of_lt_of_le hk hs) (h k hk e).1).2).trans (h k hk e).2⟩
theorem KX.refl (P : Nat → Prop) (r : Ro) (w : World) : KX P r r w w := ⟨rfl, rfl, rfl, Nat.le_refl _, fun _ _ _ _ e => ⟨e, rfl⟩⟩
theorem KX.trans (h : KX P r r' w w') (h' : KX P r' r'' w' w'') : KX P r r'' w w'' :=
  ⟨h'.os.trans h.os, h'.tape.trans h.tape, h'.output.trans h.output, Nat.le_trans h.size h'.size, fun c hc => (h.k c hc).trans (h'.k c hc) h.size⟩
theorem KX.mono (h : KX P r r' w w') (hp : ∀ c, P c → P' c) : KX P' r r' w w' :=
  ⟨h.os, h.tape, h.output, h.size, fun c hc => h.k c (fun e => hc (hp c e))⟩
theorem KX.to (h : KX P r r' w w') (h' : KX P' r' r'' w' w'') : KX (fun c => P c ∨ P' c) r r'' w w'' :=
  (h.mono fun _ => Or.inl).trans (h'.mono fun _ => Or.inr)
theorem KX.below (P : Nat → Prop) (r : Ro) (c : Nat) (h : Below w.heap.size w w') : KX P r (ext r w.heap.size c) w w' :=
  ⟨h.os, h.tape, h.output, h.size, fun d _ k hk e => ⟨by rw [ext_lt r c hk]; exact e, h.block k hk⟩⟩
theorem KX.grown {row : Option Nat} (h : w.grownBy w' row) (hr : ∀ k, row = some k → r k = c) : KX (· = c) r (ext r w.heap.size c) w w' :=
  ⟨h.os, h.tape, h.output, h.size, fun d hd k hk e => ⟨by rw [ext_lt r c hk]; exact e, h.block k hk (fun e2 => hd (by rw [← e, hr k e2.symm]))⟩⟩
theorem KX.set (b i : Nat) (v : Value) (hr : r b = c) : KX (· = c) r r w (w.setCell ⟨b, i, none⟩ v) :=
  ⟨rfl, rfl, rfl, by rw [set_size]; exact Nat.le_refl _, fun d hd k hk e => ⟨e, set_oth w b i k v (fun e2 => hd (by rw [← e, e2, hr]))⟩⟩
/-- All blocks of one role get another one. -/
theorem KX.turn (r : Ro) (c d : Nat) (w : World) : KX (· = c) r (fun k => if r k = c then d else r k) w w :=
  ⟨rfl, rfl, rfl, Nat.le_refl _, fun e he k _ h => ⟨by rw [if_neg (fun e2 => he (by rw [← h, e2])), h], rfl⟩⟩
theorem KX.bel {B : Nat} (h : KX P r r' w w') (h0 : ¬ P 0) (hz : ∀ k, k < B → r k = 0) (hB : B ≤ w.heap.size) : Below B w w' ∧ ∀ k, k < B → r' k = 0 :=
  ⟨⟨h.os, h.tape, h.output, h.size, fun k hk => (h.k 0 h0 k (Nat.lt_of_lt_of_le hk hB) (hz k hk)).2⟩, fun k hk => (h.k 0 h0 k (Nat.lt_of_lt_of_le hk hB) (hz k hk)).1⟩
theorem KX.blk (h : KX P r r' w w') {b : Nat} {o : Obj} (hb : w.heap[b]? = some o) (hr : r b = c) (hc : ¬ P c) : w'.heap[b]? = some o ∧ r' b = c :=
  ⟨((h.k c hc b (lt_of hb) hr).2).trans hb, (h.k c hc b (lt_of hb) hr).1⟩
end
section
variable {α : Type} {k : Nat} {en : α → List Value}
theorem OR.blk {w w' : World} {B e : Nat} {v : Value} {xs : List α} (h : OR k en w B e v xs) (hb : ∀ g, v.ownBlock = some g → w'.heap[g]? = w.heap[g]?) : OR k en w' B e v xs := by
  obtain ⟨hl, h1 | ⟨g, cap, cur, rfl, h2, hh, h3⟩⟩ := h
  · exact ⟨hl, .inl h1⟩
  · exact ⟨hl, .inr ⟨g, cap, cur, rfl, h2, (hb g rfl).trans hh, h3⟩⟩
theorem OR.cut {w : World} {B e : Nat} {a : Option Addr} {n c : Nat} {xs ys : List α} (hr : Rec k en) (h : OR k en w B e (.slice a n c) (xs ++ ys)) : OR k en w B e (.slice a xs.length c) xs := by
  have hfl : (flat en xs).length = xs.length * k := flat_len hr xs
  obtain ⟨hl, h1 | ⟨g, cap, cur, e1, h2, hh, h3, h4, h5, h6⟩⟩ := h
  · rw [Value.slice.injEq] at h1
    obtain ⟨⟨rfl, _, rfl⟩, h0⟩ := h1
    have : xs = [] := List.eq_nil_of_length_eq_zero (by simp at h0; rw [h0.1]; rfl)
    subst this
    exact ⟨by simp [flat], .inl ⟨rfl, rfl⟩⟩
  · rw [Value.slice.injEq] at e1
    obtain ⟨rfl, _, rfl⟩ := e1
    rw [List.length_append] at h3 h6
    refine ⟨hfl, .inr ⟨g, c, cur, rfl, h2, hh, by omega, h4, h5, ?_⟩⟩
    have h7 := congrArg (fun l => l.take (xs.length * k)) h6
    rw [List.take_take, Nat.min_eq_left (by rw [Nat.add_mul]; omega)] at h7
    rw [h7]
    unfold flat
    rw [List.flatMap_append]
    have := hfl
    unfold flat at this
    rw [← this]
    exact List.take_left
theorem RV.blk {w w' : World} {v : Value} {xs : List α} (h : RV k en w v xs) (hs : w.heap.size ≤ w'.heap.size) (hb : ∀ g, v.ownBlock = some g → w'.heap[g]? = w.heap[g]?) : RV k en w' v xs := by
  obtain ⟨a, cap, rfl, h1, h2, h3, h4⟩ := h
  refine ⟨a, cap, rfl, h1, h2, h3, fun i x hx => ?_⟩
  obtain ⟨b, o, rfl, hl, hc⟩ := h4 i x hx
  have e := hb b rfl
  refine ⟨b, o, rfl, Nat.lt_of_lt_of_le hl hs, fun j u hu => ?_⟩
  have := hc j u hu
  simp only [World.cell?] at this ⊢
  rw [e]
  exact this
theorem RV.nil (w : World) : RV k en w (.slice none 0 0) ([] : List α) := ⟨none, 0, rfl, Nat.le_refl _, Nat.zero_le _, fun _ => rfl, fun i x hx => by simp at hx⟩
theorem RV.own_lt {w : World} {v : Value} {xs : List α} (h : RV k en w v xs) (hne : xs ≠ []) : ∀ g, v.ownBlock = some g → g < w.heap.size := by
  obtain ⟨a, cap, rfl, h1, h2, h3, h4⟩ := h
  intro g hg
  cases xs with
  | nil => exact absurd rfl hne
  | cons x l =>
    obtain ⟨b, o, rfl, hl, _⟩ := h4 0 x rfl
    simp [Value.ownBlock] at hg
    omega
variable (k en)
/-- A row of records of one's own, of a role. -/
structure RR (w : World) (r : Ro) (c e : Nat) (v : Value) (xs : List α) : Prop where
  o : OR k en w 0 e v xs
  r : ∀ g, v.ownBlock = some g → r g = c
/-- Records that are only read, of a role. -/
structure RD (w : World) (r : Ro) (c : Nat) (v : Value) (xs : List α) : Prop where
  o : RV k en w v xs
  r : ∀ g, v.ownBlock = some g → g < w.heap.size ∧ r g = c
variable {k en}
section
variable {P : Nat → Prop} {w w' : World} {r r' : Ro} {c e : Nat} {v v' : Value} {xs ys : List α}
theorem RR.keep (h : RR k en w r c e v xs) (hk : KX P r r' w w') (hc : ¬ P c) : RR k en w' r' c e v xs :=
  ⟨OR.blk h.o fun g hg => (hk.k c hc g (h.o.lt g hg).2 (h.r g hg)).2, fun g hg => (hk.k c hc g (h.o.lt g hg).2 (h.r g hg)).1⟩
theorem RD.keep (h : RD k en w r c v xs) (hk : KX P r r' w w') (hc : ¬ P c) : RD k en w' r' c v xs :=
  ⟨RV.blk h.o hk.size fun g hg => (hk.k c hc g (h.r g hg).1 (h.r g hg).2).2, fun g hg => ⟨Nat.lt_of_lt_of_le (h.r g hg).1 hk.size, (hk.k c hc g (h.r g hg).1 (h.r g hg).2).1⟩⟩
theorem RR.nil (w : World) (r : Ro) (c e : Nat) : RR k en w r c e (.slice none 0 0) ([] : List α) := ⟨OR.nil w 0 e, fun g hg => by simp [Value.ownBlock] at hg⟩
theorem RD.nil (w : World) (r : Ro) (c : Nat) : RD k en w r c (.slice none 0 0) ([] : List α) := ⟨RV.nil w, fun g hg => by simp [Value.ownBlock] at hg⟩
theorem RR.rd (hr : Rec k en) (h : RR k en w r c e v xs) : RD k en w r c v xs := ⟨OR.rv hr h.o, fun g hg => ⟨(h.o.lt g hg).2, h.r g hg⟩⟩
theorem RR.grown (h : RR k en w r c e v xs) (hg : w.grownBy w' v.ownBlock) (ho : OR k en w' 0 e v' ys) (hor : v'.ownBlock = v.ownBlock ∨ v'.ownBlock = some w.heap.size) : RR k en w' (ext r w.heap.size c) c e v' ys ∧ KX (· = c) r (ext r w.heap.size c) w w' :=
  ⟨⟨ho, fun g hg => by
    rcases hor with h1 | h1
    · rw [h1] at hg
      rw [ext_lt r c (h.o.lt g hg).2]
      exact h.r g hg
    · rw [h1] at hg
      cases hg
      exact ext_ge r c (Nat.le_refl _)⟩, KX.grown hg h.r⟩
/-- Roles turned: of c now d. -/
theorem RR.turn (hr : Rec k en) (h : RR k en w r c e v xs) (d : Nat) : RD k en w (fun k => if r k = c then d else r k) d v xs :=
  ⟨OR.rv hr h.o, fun g hg => ⟨(h.o.lt g hg).2, if_pos (h.r g hg)⟩⟩
/-- A row made just now. -/
theorem RD.new {w0 : World} (h : OR k en w w0.heap.size e v xs) (hr : Rec k en) : RD k en w (ext r w0.heap.size c) c v xs :=
  ⟨OR.rv hr h, fun g hg => ⟨(h.lt g hg).2, ext_ge r c (h.lt g hg).1⟩⟩
end
end
end Go.Proofs.Ytgbeghaojkhiaaa.ro
