/- A sink whose row is told, and Emit's contract that tells where the new row lies. -/
import Derived.Test.YtpcpohbbmeonbabSinkAll
import Derived.Maps.AppendAt
namespace Go.Proofs.Ytpcpohbbmeonbab
open Go.ChangeShapes Go.WideShapes Go.ChangeAt Go.RowKit
set_option linter.unusedVariables false
def SinkV (w : World) (B : Nat) (m : Int) (v : Value) (xs : List Int) : Prop :=
  w.heap[B]? = some (.cells #[.int .i64 m, v] 68 (0, 0)) ∧ w.ownsRow (B + 1) 3 1 v xs.length (xs.map (Value.int .i64))
theorem SinkV.at {w : World} {B : Nat} {m : Int} {v : Value} {xs : List Int} (h : SinkV w B m v xs) : SinkAt w B m xs := ⟨v, h⟩
theorem row_kept {w w' : World} {base : Nat} {v : Value} {n : Nat} {xs : List Value} (h : w.ownsRow base 3 1 v n xs) (hk : ∀ k, v.ownBlock = some k → w'.heap[k]? = w.heap[k]?) : w'.ownsRow base 3 1 v n xs := by
  obtain ⟨hl, h⟩ := h
  refine ⟨hl, ?_⟩
  rcases h with h | ⟨g, cap, cur, rfl, hg, hh, h1, h2, h3, h4⟩
  · exact .inl h
  · exact .inr ⟨g, cap, cur, rfl, hg, (hk g rfl).trans hh, h1, h2, h3, h4⟩
theorem SinkV.kept {w w' : World} {B : Nat} {m : Int} {v : Value} {xs : List Int} (h : SinkV w B m v xs) (hb : w'.heap[B]? = w.heap[B]?) (hk : ∀ k, v.ownBlock = some k → w'.heap[k]? = w.heap[k]?) : SinkV w' B m v xs :=
  ⟨hb.trans h.1, row_kept h.2 hk⟩
theorem SinkV.below {w w' : World} {B : Nat} {m : Int} {v : Value} {xs : List Int} (h : SinkV w B m v xs) (hb : Below w.heap.size w w') : SinkV w' B m v xs :=
  h.kept (hb.block B (cells_two h.1).2.2.2) (fun k hk => hb.block k (h.2.lt k hk).2)
theorem row_below2 {w w' : World} {base : Nat} {v : Value} {n : Nat} {xs : List Value} (h : w.ownsRow base 3 1 v n xs) (hb : Below w.heap.size w w') : w'.ownsRow base 3 1 v n xs :=
  row_kept h (fun k hk => hb.block k (h.lt k hk).2)
theorem grownBy_keeps {a b : World} {row : Option Nat} (h : a.grownBy b row) (k : Nat) (hk : k < a.heap.size) (hr : row ≠ some k) : b.heap[k]? = a.heap[k]? := h.block k hk (fun e => hr e.symm)
/-- what Emit leaves: the sink's new row is the old one or lies in a new block; no other old block was written. -/
def EmitPost (B : Nat) (m n : Int) (v : Value) (xs : List Int) (w : World) (e : Ending) (w' : World) : Prop :=
  e = .returned (.bool true) ∧ ∃ v', SinkV w' B m v' (xs ++ [n]) ∧ Below B w w' ∧ (v'.ownBlock = v.ownBlock ∨ ∃ k, v'.ownBlock = some k ∧ w.heap.size ≤ k) ∧ ∀ k, k < w.heap.size → k ≠ B → v.ownBlock ≠ some k → w'.heap[k]? = w.heap[k]?
set_option maxHeartbeats 400000 in
theorem emit_v (B : Nat) (m n : Int) (v : Value) (xs : List Int) (w : World) (h : SinkV w B m v xs) (hm : (xs.length : Int) < m) (hm2 : m ≤ 1000) : Calls Try.prog 20 #[.pointer (some ⟨B, 0, none⟩), .int .i64 n] w (EmitPost B m n v xs w) := by
  obtain ⟨hB, hr⟩ := h
  obtain ⟨h0, h1, h2, hlt⟩ := cells_two hB
  obtain ⟨a, c, hv⟩ := row_slice hr
  rw [hv] at h1
  have d1 : decide (m ≤ (xs.length : Int)) = false := decide_eq_false (by omega)
  obtain ⟨i0, hi, hz0, hz1, hz2⟩ := info_parts info3
  have HB := Lib.hid hB
  have HR := Lib.hid hr
  have HV := Lib.hid hv
  clear hB hr hv
  go_enter Try.func20, Try.ntmps20
  go_wp2_with fail
  go_quiet (fail)
  have hr2 : (w.drewN nq).ownsRow (B + 1) 3 1 (.slice a xs.length c) xs.length (xs.map (Value.int .i64)) := by have := HR.out; rw [HV.out] at this; exact this
  have hown := hr2.alloc (.cells #[.int .i64 n] 3)
  have HO := Lib.hid hown
  clear hr2 hown
  go_wp2_with (at_builtin; refine wpList_append_own_at _ rfl _ _ 26 rfl (B + 1) 3 i0 (.int .i64 0) 1 8 Try.underlying26 hi hz0 hz1 hz2 rfl (by decide) _ _ _ rfl HO.out ⟨w.heap.size, 0, none⟩ 1 1 [.int .i64 n] rfl rfl ?c1 ?c2 ?c3 ?c4 ?c5 ?_)
  case c1 => intro j u hj; match j, hj with | 0, hj => (simp at hj; subst hj; exact (World.cell?_alloc_at (w := w.drewN nq) _ _ w.heap.size 0 rfl).trans rfl)
  case c2 => intro u hu; simp at hu; subst hu; rfl
  case c3 => unfold maxLen; omega
  case c4 => omega
  case c5 => simp; omega
  intro v' w1 h3 h4 _ hat
  obtain ⟨a', c', rfl⟩ := row_slice h3
  have hlt2 := HO.out.lt
  have hbl : Below (B + 1) ((w.drewN nq).alloc (.cells #[.int .i64 n] 3)) w1 := (Below.refl _ _).grown h4 (by simp; omega) (fun k hk => (hlt2 k hk).1)
  have hB1 : w1.heap[B]? = some (.cells #[.int .i64 m, v] 68 (0, 0)) := (hbl.block B (Nat.lt_succ_self B)).trans (((Below.refl w.heap.size (w.drewN nq)).alloc (by simp) _).block B hlt |>.trans HB.out)
  obtain ⟨c0, c1', c2', c3'⟩ := cells_two hB1
  have H1 := Lib.hid hB1
  have H3 := Lib.hid h3
  have H4 := Lib.hid hbl
  have HG := Lib.hid h4
  have HA := Lib.hid hat
  clear hB1 h3 hbl hlt2 h4 hat
  go_wp2_with fail
  go_ret
  refine ⟨rfl, _, ⟨heap_setCell_two _ H1.out, ?_⟩, ?_, ?_, ?_⟩
  · have e : xs.map (Value.int .i64) ++ [Value.int .i64 n] = (xs ++ [n]).map (Value.int .i64) := by simp
    have e2 : xs.length + 1 = (xs ++ [n]).length := by simp
    rw [← e, ← e2]
    exact H3.out.kept (grown_setCell w1 B 1 _) (by
      cases hk : (Value.slice a' (xs.length + 1) c').ownBlock with
      | none => exact .inl rfl
      | some k => exact .inr (by have := (H3.out.lt k hk).1; intro e; cases e; omega))
  · exact ((below_drewN (Below.refl B w) nq).alloc (by simp; omega) _).trans (H4.out.mono (by omega)) |>.setCell (Nat.le_refl B) _
  · rcases HA.out with h | h
    · rw [HV.out]; exact .inl h
    · exact .inr ⟨_, h, by simp⟩
  · intro k hk hkB hkv
    rw [HV.out] at hkv
    have h1 : (w1.setCell ⟨B, 1, none⟩ (Value.slice a' (xs.length + 1) c')).heap[k]? = w1.heap[k]? := Below.heap_setCell w1 ⟨B, 1, none⟩ _ k (by intro e; exact hkB e)
    rw [h1, grownBy_keeps HG.out k (by simp; omega) hkv]
    exact heap_alloc_old (w.drewN nq) _ hk
end Go.Proofs.Ytpcpohbbmeonbab
