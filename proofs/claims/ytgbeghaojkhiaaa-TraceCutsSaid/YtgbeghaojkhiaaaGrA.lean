/- Rows of cells (layers 21, 33). -/
import Derived.Test.YtgbeghaojkhiaaaRecs
namespace Go.Proofs.Ytgbeghaojkhiaaa.gr
open Go.ChangeShapes Go.WideShapes Go.ChangeAt Go.RowKit
set_option linter.unusedVariables false
set_option linter.unusedSimpArgs false
abbrev C2 := Int × Bool
def enC (p : C2) : List Value := [.int .i64 p.1, .bool p.2]
def d2 : C2 := (0, false)
theorem recC : Rec 2 enC := ⟨by omega, fun _ => rfl, fun x u hu => by simp [enC] at hu; rcases hu with rfl | rfl <;> rfl⟩
theorem infoI : (Try.prog.info? 37).map (fun i => (i.zero, i.size, i.bytes)) = some (some (.agg #[.int .i64 0, .bool false]), 2, 16) := by kernel_rfl
theorem infoC : (Try.prog.info? 35).map (fun i => (i.zero, i.size, i.bytes)) = some (some (.slice none 0 0), 1, 24) := by kernel_rfl
/-- In world w the slice of slices v reads as the functions L. -/
def PM (w : World) (v : Value) (L : List (List C2)) : Prop :=
  ∃ a cap, v = .slice a L.length cap ∧ L.length ≤ cap ∧ cap ≤ maxLen ∧ ∀ i, i < L.length → ∃ b o u, a = some ⟨b, o, none⟩ ∧ b < w.heap.size ∧ w.cell? ⟨b, o + i, none⟩ = some u ∧ RV 2 enC w u (L.getD i [])
theorem PM.below {w w' : World} {v : Value} {L : List (List C2)} (h : PM w v L) (hb : Below w.heap.size w w') : PM w' v L := by
  obtain ⟨a, cap, hv, h1, h2, h3⟩ := h
  refine ⟨a, cap, hv, h1, h2, fun i hi => ?_⟩
  obtain ⟨b, o, u, e, hlt, hc, hu⟩ := h3 i hi
  exact ⟨b, o, u, e, Nat.lt_of_lt_of_le hlt hb.size, (hb.cell (p := ⟨b, o + i, none⟩) hlt).trans hc, hu.below hb⟩
theorem PM.form {w : World} {v : Value} {L : List (List C2)} (h : PM w v L) : ∃ a cap, v = .slice a L.length cap ∧ L.length ≤ cap ∧ cap ≤ maxLen := by
  obtain ⟨a, cap, hv, h1, h2, _⟩ := h
  exact ⟨a, cap, hv, h1, h2⟩
theorem PM.len {w : World} {a : Option Addr} {n cap : Nat} {L : List (List C2)} (h : PM w (.slice a n cap) L) : n = L.length ∧ n ≤ cap ∧ cap ≤ maxLen := by
  obtain ⟨a', cap', hv, h1, h2, _⟩ := h
  rw [Value.slice.injEq] at hv
  obtain ⟨rfl, rfl, rfl⟩ := hv
  exact ⟨rfl, h1, h2⟩
theorem PM.row {w : World} {a : Option Addr} {n cap : Nat} {L : List (List C2)} (h : PM w (.slice a n cap) L) (i : Nat) (hi : i < n) :
    ∃ b o ai ci, a = some ⟨b, o, none⟩ ∧ b < w.heap.size ∧ w.cell? ⟨b, o + i, none⟩ = some (.slice ai (L.getD i []).length ci) ∧ RV 2 enC w (.slice ai (L.getD i []).length ci) (L.getD i []) := by
  obtain ⟨a', cap', hv, h1, h2, h3⟩ := h
  rw [Value.slice.injEq] at hv
  obtain ⟨rfl, rfl, rfl⟩ := hv
  obtain ⟨b, o, u, e, hlt, hc, hu⟩ := h3 i hi
  obtain ⟨ai, ci, rfl, _⟩ := hu.form
  exact ⟨b, o, ai, ci, e, hlt, hc, hu⟩
theorem PM.nil (w : World) : PM w (.slice none 0 0) [] := ⟨none, 0, rfl, Nat.le_refl _, by simp [maxLen], fun i hi => by simp at hi⟩
theorem getD_L {l : List C2} {i : Nat} (h : i < l.length) : l[i]? = some (l.getD i d2) := by
  rw [List.getD_eq_getElem?_getD, List.getElem?_eq_getElem h]; rfl
/-- the two cells of a cell of a row -/
theorem RV.two {w : World} {a : Option Addr} {n c : Nat} {l : List C2} (h : RV 2 enC w (.slice a n c) l) (i : Nat) (hi : i < n) :
    ∃ b o, a = some ⟨b, o, none⟩ ∧ b < w.heap.size ∧ w.cell? ⟨b, o + i * 2, none⟩ = some (.int .i64 (l.getD i d2).1) ∧ w.cell? ⟨b, o + i * 2 + 1, none⟩ = some (.bool (l.getD i d2).2) := by
  have hl := h.len.1
  obtain ⟨b, o, e, hlt, hc⟩ := h.at i _ (getD_L (by omega))
  exact ⟨b, o, e, hlt, hc 0 _ rfl, hc 1 _ rfl⟩
/-- A row of rows that the call itself made: its slices, each a row of one's own. -/
def OP (w : World) (B : Nat) (v : Value) (rows : List Value) (L : List (List C2)) : Prop :=
  w.ownsRow B 35 1 v L.length rows ∧ ∀ i, i < L.length → ∃ u, rows[i]? = some u ∧ OR 2 enC w B 37 u (L.getD i [])
theorem OP.nil (w : World) (B : Nat) : OP w B (.slice none 0 0) [] [] := ⟨World.ownsRow_nil _ _ _ _, fun i hi => by simp at hi⟩
theorem own_ltP {w : World} {B n : Nat} {v : Value} {rows : List Value} (ho : w.ownsRow B 35 1 v n rows) : ∀ k, v.ownBlock = some k → B ≤ k ∧ k < w.heap.size := by
  intro k hk
  obtain ⟨_, ⟨rfl, _⟩ | ⟨g2, cap2, cur2, rfl, h1, hh2, _⟩⟩ := ho
  · simp [Value.ownBlock] at hk
  · simp [Value.ownBlock] at hk
    subst hk
    exact ⟨h1, (Array.getElem?_eq_some_iff.1 hh2).1⟩
theorem OP.below {w w' : World} {B : Nat} {v : Value} {rows : List Value} {L : List (List C2)} (h : OP w B v rows L) (hb : Below w.heap.size w w') : OP w' B v rows L := by
  refine ⟨?_, fun i hi => ?_⟩
  · obtain ⟨hl, h1 | ⟨g2, cap2, cur2, rfl, h1, hh2, h3⟩⟩ := h.1
    · exact ⟨hl, .inl h1⟩
    · exact ⟨hl, .inr ⟨g2, cap2, cur2, rfl, h1, (hb.block g2 (Array.getElem?_eq_some_iff.1 hh2).1).trans hh2, h3⟩⟩
  · obtain ⟨u, hu, ho⟩ := h.2 i hi
    exact ⟨u, hu, ho.below hb⟩
theorem OP.pm {w : World} {B : Nat} {v : Value} {rows : List Value} {L : List (List C2)} (h : OP w B v rows L) : PM w v L := by
  obtain ⟨⟨hl, ⟨rfl, h0⟩ | ⟨g, cap, cur, rfl, hg, hh, h1, h2, h3, h4⟩⟩, hr⟩ := h
  · obtain rfl : L = [] := List.eq_nil_of_length_eq_zero h0
    exact PM.nil w
  · refine ⟨_, cap, rfl, h1, h2, fun i hi => ?_⟩
    obtain ⟨u, hu, ho⟩ := hr i hi
    refine ⟨g, 0, u, rfl, (Array.getElem?_eq_some_iff.1 hh).1, ?_, OR.rv recC ho⟩
    have h5 : cur.toList[i]? = some u := by
      have h6 := congrArg (fun l => l[i]?) h4
      simp only [Nat.mul_one] at h6
      rw [List.getElem?_take_of_lt hi] at h6
      rw [h6, hu]
    have h7 : cur[i]? = some u := by simpa using h5
    rw [Nat.zero_add]
    simp [World.cell?, hh, h7]
theorem OR.grownP {w w' : World} {B : Nat} {u v : Value} {xs : List C2} {n : Nat} {rows : List Value} (h : OR 2 enC w B 37 u xs) (ho : w.ownsRow B 35 1 v n rows) (hg : w.grownBy w' v.ownBlock) : OR 2 enC w' B 37 u xs := by
  obtain ⟨hl, h | ⟨g, cap, cur, rfl, h1, hh, h2, h3, h4, h5⟩⟩ := h
  · exact ⟨hl, .inl h⟩
  · refine ⟨hl, .inr ⟨g, cap, cur, rfl, h1, ?_, h2, h3, h4, h5⟩⟩
    have hlt := (Array.getElem?_eq_some_iff.1 hh).1
    rw [hg.block g hlt ?_]
    · exact hh
    · intro e
      obtain ⟨_, ⟨rfl, _⟩ | ⟨g2, cap2, cur2, rfl, _, hh2, _⟩⟩ := ho
      · simp [Value.ownBlock] at e
      · simp [Value.ownBlock] at e
        subst e
        rw [hh] at hh2
        simp at hh2
theorem run_appP {w : World} (ty B : Nat) (v : Value) (rows : List Value) (L : List (List C2)) (ad : Addr) (c : Nat) (u : Value) (xs : List C2) (hown : OP w B v rows L) (hu : w.cell? ad = some u) (hux : OR 2 enC w B 37 u xs) (hpl : ad.add 0 = ad) (hsm : L.length ≤ 100000) (hB : B ≤ w.heap.size) :
    ∃ v' w', (Builtin.append_ #[28, 28] ty #[v, .slice (some ad) 1 c]).run Try.prog w = .ok v' w' ∧ OP w' B v' (rows ++ [u]) (L ++ [xs]) ∧ w.grownBy w' v.ownBlock ∧ (v'.ownBlock = v.ownBlock ∨ v'.ownBlock = some w.heap.size) := by
  obtain ⟨i0, hi, hz0, hz1, hz2⟩ := info_parts infoC
  obtain ⟨v', w', h1, h2, h3, _, h5⟩ := run_append_own_at (P := Try.prog) w B 28 ty 35 i0 (.slice none 0 0) 1 24 Try.underlying28 hi hz0 hz1 hz2 rfl (by decide) v L.length _ hown.1 ad 1 c [u] rfl (by
    intro j x hj
    match j, hj with
    | 0, hj => simp at hj; subst hj; rw [hpl]; exact hu) (by obtain ⟨a, cp, rfl⟩ := OR.form hux; simp; rfl) (by unfold maxLen; omega) (by omega) hB
  refine ⟨v', w', h1, ⟨by simpa using h2, fun i hi => ?_⟩, h3, h5⟩
  have hrl : rows.length = L.length := by have := hown.1.1; omega
  by_cases e : i = L.length
  · subst e
    refine ⟨u, by rw [List.getElem?_append_right (by omega)]; simp [hrl], ?_⟩
    rw [List.getD_eq_getElem?_getD, List.getElem?_append_right (Nat.le_refl _)]
    simpa using OR.grownP hux hown.1 h3
  · have hi' : i < L.length := by rw [List.length_append, List.length_singleton] at hi; omega
    obtain ⟨u', hu', ho⟩ := hown.2 i hi'
    refine ⟨u', by rw [List.getElem?_append_left (by omega)]; exact hu', ?_⟩
    rw [List.getD_eq_getElem?_getD, List.getElem?_append_left hi', ← List.getD_eq_getElem?_getD]
    exact OR.grownP ho hown.1 h3
theorem wpList_appP {ops : Array Oper} {rest : List Oper} {o : Oper} {a : Act} {w : World} {Q : Exit → Act → World → Prop} (hgd : o.guard = none) (s x : Operand)
    (ho : o.op = .call { callee := .builtin .append, args := #[s, x], argTypes := #[28, 28] })
    (B : Nat) (v : Value) (rows : List Value) (L : List (List C2)) (hs : a.eval s = v) (ad : Addr) (c : Nat) (hx : a.eval x = .slice (some ad) 1 c) (u : Value) (xs : List C2) (hown : OP w B v rows L) (hu : w.cell? ad = some u) (hux : OR 2 enC w B 37 u xs) (hpl : ad.add 0 = ad) (hsm : L.length ≤ 100000) (hB : B ≤ w.heap.size)
    (h : ∀ v' w', OP w' B v' (rows ++ [u]) (L ++ [xs]) → w.grownBy w' v.ownBlock → (v'.ownBlock = v.ownBlock ∨ v'.ownBlock = some w.heap.size) → wpList Try.prog ops Q rest (a.put o.dst v') w') : wpList Try.prog ops Q (o :: rest) a w :=
  wpList_plain hgd fun _ hK => by
    obtain ⟨v', w', hr, h2, h3, h4⟩ := run_appP o.type B v rows L ad c u xs hown hu hux hpl hsm hB
    unfold Oper.wp execOp
    simp only [ho, resolve, invoke, builtin, Sem.run_bind, Sem.run_pure, Result.andThen_ok, List.map_toArray, List.map_cons, List.map_nil, hs, hx, hr]
    exact hK _ _ (h v' w' h2 h3 h4)
end Go.Proofs.Ytgbeghaojkhiaaa.gr
