/- Whether a way leads from node to node (layer 33): the program. -/
import Derived.Test.YtagcgffofddcnaaGrI
namespace Go.Proofs.Ytagcgffofddcnaa.gr
open Go.ChangeShapes Go.WideShapes Go.ChangeAt Go.RowKit
open Go.Proofs.Ytagcgffofddcnaa.ro
open Go.Proofs.Ytagcgffofddcnaa
set_option linter.unusedVariables false
set_option linter.unusedSimpArgs false
theorem pl_eq (a b c d : Int) (v : Bool) (h : (a == c && b == d) = v) (w : World) : Sem.run Try.prog (binOp .eql 71 (.agg #[.int .i64 a, .int .i64 b]) (.agg #[.int .i64 c, .int .i64 d])) w = .ok (.bool v) w := by
  have e : (Op.equalIn 10000 71 (.agg #[.int .i64 a, .int .i64 b]) (.agg #[.int .i64 c, .int .i64 d])).run Try.prog w = .ok v w := by
    rw [show (10000 : Nat) = 9999 + 1 from rfl, run_equalIn_struct w 9999 71 _ _ (by kernel_rfl) (by kernel_rfl)]
    rw [← h]
    by_cases h1 : a = c <;> by_cases h2 : b = d <;> simp [go_sem, Try.underlying71, h1, h2]
  simp only [binOp]
  simp [Op.equal, Op.maxDepth, e]
def BefP (L : List (List C2)) (a1 b1 a2 b2 : Int) : Prop :=
  chkE L = 0 ∧ ¬ (hd a1 = hd a2 ∧ hd b1 = hd b2) ∧ ∃ f z, fndP L (hd a1) (hd b1) = some f ∧ fndP L (hd a2) (hd b2) = some z ∧ Way L f z
theorem run_make_cells (P : Program) (t e : TypeId) (z : Value) (size bytes : Nat) (ht : P.underlying t = some (.slice e)) (hinfo : (P.info? e).map (fun i => (i.zero, i.size, i.bytes)) = some (some z, size, bytes))
    (kl kc : IntKind) (n : Nat) (hbytes : bytes * n ≤ 281474976710656) (h63 : n ≤ 9223372036854775807) (w : World) :
    (Instr.makeSlice t (.int kl (n : Int)) (.int kc (n : Int))).run P w = .ok (.slice (some ⟨w.heap.size, 0, none⟩) n n) (w.alloc (.cells (madeCells z.cells (n * size)) e)) := by
  obtain ⟨i, hi, hzz⟩ := Option.map_eq_some_iff.1 hinfo
  simp only [Prod.mk.injEq] at hzz
  obtain ⟨hz, hs, hb⟩ := hzz
  have hb' : (i.bytes : Int) * (n : Int) ≤ 281474976710656 := by
    have h : ((i.bytes * n : Nat) : Int) ≤ 281474976710656 := by rw [hb]; omega
    rwa [Int.natCast_mul] at h
  have hr := run_make (P := P) w t e i z ht hi hz kl kc n n (by omega) (Int.le_refl _) hb' (by omega)
  simp only [Int.toNat_natCast, hs] at hr
  exact hr
theorem infoB1 : (Try.prog.info? 4).map (fun i => (i.zero, i.size, i.bytes)) = some (some (.bool false), 1, 1) := by kernel_rfl
theorem infoB2 : (Try.prog.info? 79).map (fun i => (i.zero, i.size, i.bytes)) = some (some (.slice none 0 0), 1, 24) := by kernel_rfl
theorem made1 (z : Value) (n : Nat) : madeCells #[z] n = (List.replicate n z).toArray := by
  apply Array.ext
  · simp [size_madeCells]
  · intro i h1 h2
    simp [madeCells, Nat.mod_one]
theorem made_row (i m : Nat) : madeCells #[Value.bool false] m = rowC (fun _ _ => false) i m := by
  rw [made1]
  unfold rowC
  congr 1
  apply List.ext_getElem
  · simp
  · intro k h1 h2
    simp
theorem SE.zero {w : World} {L : List (List C2)} {O : Nat} {g : Nat → Nat} {s : Sn} (h : w.heap[O]? = some (.cells (madeCells #[.slice none 0 0] L.length) 79 (0, 0))) : SE w L O g 0 s :=
  ⟨⟨_, h, by simp [size_madeCells], fun i hi => by omega⟩, fun i hi => by omega, fun i j hi => by omega⟩
/-- one row more is made. -/
theorem SE.more {w : World} {L : List (List C2)} {O n : Nat} {g : Nat → Nat} (h : SE w L O g n (fun _ _ => false)) (hn : n < L.length) (m : Nat) (hm : m = (L.getD n []).length) :
    SE ((w.setCell ⟨O, n, none⟩ (.slice (some ⟨w.heap.size, 0, none⟩) m m)).alloc (.cells (madeCells #[.bool false] m) 4)) L O (fun i => if i = n then w.heap.size else g i) (n + 1) (fun _ _ => false) := by
  subst hm
  obtain ⟨cs, h1, h2, h3⟩ := h.o
  have hO := lt_of h1
  obtain ⟨W, hW⟩ : ∃ W, w.setCell ⟨O, n, none⟩ (.slice (some ⟨w.heap.size, 0, none⟩) (L.getD n []).length (L.getD n []).length) = W := ⟨_, rfl⟩
  have hz : W.heap.size = w.heap.size := by rw [← hW]; exact set_size _ _ _ _
  have h1' : W.heap[O]? = some (.cells (cs.set! n (.slice (some ⟨w.heap.size, 0, none⟩) (L.getD n []).length (L.getD n []).length)) 79 (0, 0)) := by rw [← hW]; exact set_blk _ O n _ h1
  have hoth : ∀ j, j ≠ O → W.heap[j]? = w.heap[j]? := fun j hj => by rw [← hW]; exact set_oth _ O n j _ hj
  rw [hW]
  have hb : Below W.heap.size W (W.alloc (.cells (madeCells #[.bool false] (L.getD n []).length) 4)) := by go_grown
  refine ⟨⟨_, kb h1' hb, by simp [h2], fun i hi => ?_⟩, fun i hi => ?_, fun i j hi hj => ?_⟩
  · by_cases e : i = n
    · subst e
      simp [h2, hn]
    · rw [if_neg e]
      have := h3 i (by omega)
      show (cs.setIfInBounds n _)[i]? = _
      rw [Array.getElem?_setIfInBounds_ne (fun h => e h.symm)]
      exact this
  · by_cases e : i = n
    · subst e
      rw [if_pos rfl, ← hz, heap_new, ← made_row i]
    · rw [if_neg e]
      have hi' : i < n := by omega
      have hne : g i ≠ O := by
        intro e2
        have := h.r i hi'
        rw [e2, h1] at this
        simp at this
      exact kb ((hoth _ hne).trans (h.r i hi')) hb
  · by_cases e1 : i = n <;> by_cases e2 : j = n
    · intro _; omega
    · subst e1
      rw [if_pos rfl, if_neg e2]
      intro e
      have := lt_of (h.r j (by omega))
      omega
    · subst e2
      rw [if_pos rfl, if_neg e1]
      intro e
      have := lt_of (h.r i (by omega))
      omega
    · rw [if_neg e1, if_neg e2]
      exact h.ne i j (by omega) (by omega)
/-- another block stays when a row more is made. -/
theorem more_oth {w : World} {O n j m : Nat} {v : Value} {o ob : Obj} (h : w.heap[j]? = some o) (hj : j ≠ O) : ((w.setCell ⟨O, n, none⟩ v).alloc ob).heap[j]? = some o := by
  have h1 : (w.setCell ⟨O, n, none⟩ v).heap[j]? = some o := (set_oth _ O n j _ hj).trans h
  exact kb h1 (by go_grown)
def slen : Value → Nat
  | .slice _ m _ => m
  | _ => 0
theorem unsN_le {L : List (List C2)} (hL : Rts L) (s : Sn) : ∀ n, n ≤ L.length → unsN L s n ≤ 100 * n
  | 0, _ => by simp [unsN]
  | n + 1, h => by
    have := unsN_le hL s n (by omega)
    have h2 := (hL.r n (by omega)).m
    have h3 : rowU s n (L.getD n []).length ≤ (L.getD n []).length := by
      unfold rowU
      refine Nat.le_trans (List.countP_le_length) ?_
      simp
    rw [unsN]
    omega
/-- the places that are left, in memory; no block of theirs is one of the others. -/
structure LE (w0 w : World) (a : Option Addr) (m c : Nat) (lf : List Pl) (A : Nat → Prop) : Prop where
  o : OR 2 enP w w0.heap.size 71 (.slice a m c) lf
  b : Below w0.heap.size w0 w
  d : ∀ k, (Value.slice a m c).ownBlock = some k → ¬ A k
theorem LE.below {w0 w w' : World} {a : Option Addr} {m c : Nat} {lf : List Pl} {A : Nat → Prop} (h : LE w0 w a m c lf A) (hb : Below w.heap.size w w') : LE w0 w' a m c lf A :=
  ⟨OR.below h.o hb, tr3 h.b hb, h.d⟩
theorem LE.more {w0 w w' : World} {a a' : Option Addr} {m c m' c' : Nat} {lf lf' : List Pl} {A : Nat → Prop} (h : LE w0 w a m c lf A) (hA : ∀ k, A k → k < w.heap.size) (ho : OR 2 enP w' w0.heap.size 71 (.slice a' m' c') lf') (hg : w.grownBy w' (Value.slice a m c).ownBlock) (hor : (Value.slice a' m' c').ownBlock = (Value.slice a m c).ownBlock ∨ (Value.slice a' m' c').ownBlock = some w.heap.size) : LE w0 w' a' m' c' lf' A := by
  refine ⟨ho, h.b.trans ⟨hg.os, hg.tape, hg.output, hg.size, fun p hp => hg.block p (Nat.lt_of_lt_of_le hp h.b.size) (fun e => by have := (h.o.lt p e.symm).1; omega)⟩, fun k hk => ?_⟩
  rcases hor with e | e
  · rw [e] at hk; exact h.d k hk
  · rw [e] at hk
    cases hk
    intro hk
    have := hA _ hk
    omega
theorem LE.oth {w0 w w' : World} {a : Option Addr} {m c : Nat} {lf : List Pl} {A : Nat → Prop} (h : LE w0 w a m c lf A) (hg : w.grownBy w' (Value.slice a m c).ownBlock) {j : Nat} {o : Obj} (hj : w.heap[j]? = some o) (hA : A j) : w'.heap[j]? = some o := by
  rw [hg.block j (lt_of hj) (fun e => h.d j e.symm hA)]
  exact hj
theorem LE.pop {w0 w : World} {a : Option Addr} {m c : Nat} {lf : List Pl} {p : Pl} {A : Nat → Prop} (h : LE w0 w a m c (lf ++ [p]) A) : LE w0 w a lf.length c lf A :=
  ⟨OR.cut recP h.o, h.b, fun k hk => h.d k (by
    cases a with
    | none => simp [Value.ownBlock] at hk
    | some _ => simpa [Value.ownBlock] using hk)⟩
theorem LE.mono {w0 w : World} {a : Option Addr} {m c : Nat} {lf : List Pl} {A A' : Nat → Prop} (h : LE w0 w a m c lf A) (hA : ∀ k, (Value.slice a m c).ownBlock = some k → A' k → A k) : LE w0 w a m c lf A' :=
  ⟨h.o, h.b, fun k hk hk' => h.d k hk (hA k hk hk')⟩
theorem LE.set {w0 w : World} {a : Option Addr} {m c : Nat} {lf : List Pl} {A : Nat → Prop} (h : LE w0 w a m c lf A) {b i : Nat} {v : Value} (hb : w0.heap.size ≤ b) {cs : Array Value} {e : Nat} (hc : w.heap[b]? = some (.cells cs e (0, 0))) (he : e ≠ 71) : LE w0 (w.setCell ⟨b, i, none⟩ v) a m c lf A := by
  refine ⟨OR.blk h.o (fun k hk => set_oth w b i k v ?_), Below.setCell h.b hb _, h.d⟩
  rintro rfl
  obtain ⟨_, ⟨e1, _⟩ | ⟨g2, cap2, cur2, e1, _, hh2, _⟩⟩ := h.o
  · cases e1; simp [Value.ownBlock] at hk
  · rw [e1] at hk
    simp [Value.ownBlock] at hk
    subst hk
    rw [hc] at hh2
    simp at hh2
    exact he hh2.2
end Go.Proofs.Ytagcgffofddcnaa.gr
