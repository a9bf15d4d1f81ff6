/- What is read of a program so far (layer 6). -/
import Derived.Test.YtgkfnplgldigbaaDoorAsR
import Derived.Test.YtgkfnplgldigbaaDoorAsA
import Derived.Test.YtgkfnplgldigbaaDoorInE
import Derived.Deep.RegionHeld3
namespace Go.Proofs.YtgkfnplgldigbaaDoor.pr
open Go.ChangeShapes Go.WideShapes Go.ChangeAt Go.RowKit
open Go.Proofs.YtgkfnplgldigbaaDoor.bin Go.Proofs.YtgkfnplgldigbaaDoor.bits Go.Proofs.YtgkfnplgldigbaaDoor.ins
set_option linter.unusedVariables false
set_option linter.unusedSimpArgs false
section
variable {α β : Type} {k k' : Nat} {en : α → List Value} {en' : β → List Value}
theorem rec_new {w : World} {cs : Array Value} {e g : Nat} (hg : w.heap.size = g) {p : α} (hp : cs.toList = en p) : ∀ j u, (en p)[j]? = some u → (w.alloc (.cells cs e)).cell? ((⟨g, 0, none⟩ : Addr).add j) = some u := by
  intro j u hu
  subst hg
  rw [← hp] at hu
  have h2 : cs[j]? = some u := by simpa using hu
  have := heap_new w cs e
  rw [Go.WideShapes.add_plain, Nat.zero_add]
  simp only [World.cell?]
  rw [this]
  exact h2
theorem step_appR {ops : Array Oper} {o : Oper} {a : Act} {w : World} {K : Act → World → Prop} {Q : Exit → Act → World → Prop} {E : Prop} (hgd : o.guard = none) (s x : Operand) (t e : TypeId) (z : Value) (bytes : Nat)
    (ho : o.op = .call { callee := .builtin .append, args := #[s, x], argTypes := #[t, t] }) (ht : Tryd.prog.underlying t = some (.slice e)) (hinfo : (Tryd.prog.info? e).map (fun i => (i.zero, i.size, i.bytes)) = some (some z, k, bytes)) (hzs : z.cells.size = k) (hby : bytes ≤ 1000) (hr : Rec k en)
    (B : Nat) (v : Value) (xs : List α) (p : α) (hs : a.eval s = v) (g c : Nat) (hx : a.eval x = .slice (some ⟨g, 0, none⟩) 1 c) (hown : Hid (OR k en w B e v xs)) (hu : ∀ j u, (en p)[j]? = some u → w.cell? ((⟨g, 0, none⟩ : Addr).add j) = some u) (hsm : xs.length ≤ 1000000) (hB : B ≤ w.heap.size)
    (h : ∀ v' w', Hid (OR k en w' B e v' (xs ++ [p])) → w.grownBy w' v.ownBlock → (v'.ownBlock = v.ownBlock ∨ v'.ownBlock = some w.heap.size) → K (a.put o.dst v') w') :
    if Region.wanted o (yielded ops a.tmps) = true then Oper.wp Tryd.prog o a w K Q else E := by
  have hw : Region.wanted o (yielded ops a.tmps) = true := by simp [Region.wanted, hgd]
  rw [if_pos hw]
  obtain ⟨i0, hi, hz0, hz1, hz2⟩ := info_parts hinfo
  have hb1 : (xs.length + 1) * bytes ≤ 140737488355328 := by
    have := Nat.mul_le_mul (show xs.length + 1 ≤ 1000001 by omega) hby
    omega
  obtain ⟨v', w', r1, r2, r3, _, r5⟩ := run_append_own_at (P := Tryd.prog) w B t o.type e i0 z k bytes ht hi hz0 hz1 hz2 hzs hr.1 v xs.length _ hown.out ⟨g, 0, none⟩ 1 c (en p) (by rw [hr.2.1]; omega) hu (hr.2.2 p) (by unfold maxLen; omega) hb1 hB
  unfold Oper.wp execOp
  simp only [ho, resolve, invoke, builtin, Sem.run_bind, Sem.run_pure, Result.andThen_ok, List.map_toArray, List.map_cons, List.map_nil, hs, hx, r1]
  exact h v' w' (Lib.hid (by unfold OR; rw [flat_snoc, List.length_append]; exact r2)) r3 r5
end
def NB (rows : List Value) (u : Value) : Prop := ∀ (i : Nat) (x : Value), rows[i]? = some x → ∀ g, x.ownBlock = some g → u.ownBlock ≠ some g
theorem OP.keep {w w' : World} {B : Nat} {v : Value} {rows : List Value} {L : List (List I4)} (h : OP w B v rows L) (hk : ∀ k, B ≤ k → w'.heap[k]? = w.heap[k]?) : OP w' B v rows L := by
  refine ⟨?_, fun i hi => ?_⟩
  · obtain ⟨hl, h1 | ⟨g2, cap2, cur2, rfl, h1, hh2, h3⟩⟩ := h.1
    · exact ⟨hl, .inl h1⟩
    · exact ⟨hl, .inr ⟨g2, cap2, cur2, rfl, h1, (hk g2 h1).trans hh2, h3⟩⟩
  · obtain ⟨u, hu, hl, h1 | ⟨g, cap, cur, h1, h2, hh, h3⟩⟩ := h.2 i hi
    · exact ⟨u, hu, hl, .inl h1⟩
    · exact ⟨u, hu, hl, .inr ⟨g, cap, cur, h1, h2, (hk g h2).trans hh, h3⟩⟩
theorem row_block {w : World} {B i : Nat} {v u : Value} {rows : List Value} {L : List (List I4)} (h : OP w B v rows L) (hi : rows[i]? = some u) : OR 4 enI w B 23 u (L.getD i []) := by
  have hl : i < L.length := by
    have h1 := (List.getElem?_eq_some_iff.1 hi).1
    have h2 := h.1.1
    omega
  obtain ⟨u', hu', ho⟩ := h.2 i hl
  rw [hi] at hu'
  obtain rfl : u = u' := by simpa using hu'
  exact ho
theorem OP.grownU {w w' : World} {B : Nat} {v u : Value} {rows : List Value} {L : List (List I4)} {c : List I4} (h : OP w B v (rows ++ [u]) (L ++ [c])) (hn : NB rows u) (hg : w.grownBy w' u.ownBlock) : w'.ownsRow B 44 1 v (L ++ [c]).length (rows ++ [u]) ∧ ∀ i, i < L.length → ∃ x, rows[i]? = some x ∧ OR 4 enI w' B 23 x (L.getD i []) := by
  have hrl : rows.length = L.length := by have := h.1.1; simp at this; omega
  have hu : OR 4 enI w B 23 u c := by
    have := row_block h (i := rows.length) (u := u) (by simp)
    rw [hrl, List.getD_eq_getElem?_getD, List.getElem?_append_right (Nat.le_refl _)] at this
    simpa using this
  refine ⟨?_, fun i hi => ?_⟩
  · obtain ⟨hl, h1 | ⟨g2, cap2, cur2, rfl, h1, hh2, h3⟩⟩ := h.1
    · exact ⟨hl, .inl h1⟩
    · refine ⟨hl, .inr ⟨g2, cap2, cur2, rfl, h1, (hg.block g2 (Array.getElem?_eq_some_iff.1 hh2).1 ?_).trans hh2, h3⟩⟩
      intro e
      obtain ⟨_, ⟨rfl, _⟩ | ⟨g, cap, cur, rfl, _, hh, _⟩⟩ := hu
      · simp [Value.ownBlock] at e
      · simp [Value.ownBlock] at e
        subst e
        rw [hh] at hh2
        simp at hh2
  · obtain ⟨x, hx, ho⟩ := h.2 i (by simp; omega)
    rw [List.getElem?_append_left (by omega)] at hx
    rw [List.getD_eq_getElem?_getD, List.getElem?_append_left hi, ← List.getD_eq_getElem?_getD] at ho
    refine ⟨x, hx, ?_⟩
    obtain ⟨hl, h1 | ⟨g, cap, cur, rfl, h2, hh, h3⟩⟩ := ho
    · exact ⟨hl, .inl h1⟩
    · exact ⟨hl, .inr ⟨g, cap, cur, rfl, h2, (hg.block g (Array.getElem?_eq_some_iff.1 hh).1 (Ne.symm (hn i _ hx g (by simp [Value.ownBlock])))).trans hh, h3⟩⟩
/-- the last row: where it stands. -/
theorem OP.last {w : World} {B : Nat} {v : Value} {rows : List Value} {L : List (List I4)} (h : OP w B v rows L) (hL : 0 < L.length) : ∃ g cap rows' u, v = .slice (some ⟨g, 0, none⟩) L.length cap ∧ L.length ≤ cap ∧ rows = rows' ++ [u] ∧ rows'.length + 1 = L.length ∧ B ≤ g ∧ g < w.heap.size ∧ w.cell? ⟨g, L.length - 1, none⟩ = some u ∧ w.frozen? ⟨g, L.length - 1, none⟩ = false ∧ OR 4 enI w B 23 u (L.getLastD []) := by
  have h00 := h
  obtain ⟨⟨hl, ⟨rfl, h0⟩ | ⟨g, cap, cur, rfl, hg, hh, h1, h2, h3, h4⟩⟩, hr⟩ := h
  · omega
  · have hrl : rows.length = L.length := by omega
    have hne : rows ≠ [] := by intro e; rw [e] at hrl; simp at hrl; omega
    have hlast : rows[L.length - 1]? = some (rows.getLast hne) := by rw [← hrl, List.getLast_eq_getElem hne, List.getElem?_eq_getElem]
    refine ⟨g, cap, rows.dropLast, rows.getLast hne, rfl, h1, (List.dropLast_concat_getLast hne).symm, by rw [List.length_dropLast]; omega, hg, (Array.getElem?_eq_some_iff.1 hh).1, ?_, frz hh _, ?_⟩
    · have h5 : cur.toList[L.length - 1]? = some (rows.getLast hne) := by
        have h6 := congrArg (fun l => l[L.length - 1]?) h4
        simp only [Nat.mul_one] at h6
        rw [List.getElem?_take_of_lt (by omega)] at h6
        rw [h6, hlast]
      have h7 : cur[L.length - 1]? = some (rows.getLast hne) := by simpa using h5
      simp [World.cell?, hh, h7]
    · have := row_block h00 hlast
      rwa [List.getD_eq_getElem?_getD, ← List.getLast?_eq_getElem?, ← List.getLastD_eq_getLast?] at this
theorem OP.setLast {w w1 : World} {B g cap : Nat} {rows : List Value} {u u' : Value} {L : List (List I4)} {c c' : List I4} (h1 : w1.ownsRow B 44 1 (.slice (some ⟨g, 0, none⟩) (L ++ [c]).length cap) (L ++ [c]).length (rows ++ [u])) (h2 : ∀ i, i < L.length → ∃ x, rows[i]? = some x ∧ OR 4 enI w1 B 23 x (L.getD i [])) (hu : OR 4 enI w1 B 23 u' c') :
    OP (w1.setCell ⟨g, L.length, none⟩ u') B (.slice (some ⟨g, 0, none⟩) (L ++ [c]).length cap) (rows ++ [u']) (L ++ [c']) := by
  obtain ⟨hl, ⟨h0, _⟩ | ⟨g', cap', cur, e, hg, hh, q1, q2, q3, q4⟩⟩ := h1
  · cases h0
  · simp only [Value.slice.injEq, Option.some.injEq, Addr.mk.injEq] at e
    obtain ⟨⟨rfl, _⟩, _, rfl⟩ := e
    have hrl : rows.length = L.length := by simp at hl; omega
    have hoth : ∀ {x : Value} {d : List I4}, OR 4 enI w1 B 23 x d → OR 4 enI (w1.setCell ⟨g, L.length, none⟩ u') B 23 x d := by
      rintro x d ⟨hl', h1 | ⟨g3, cap3, cur3, rfl, h2', hh3, h3⟩⟩
      · exact ⟨hl', .inl h1⟩
      · refine ⟨hl', .inr ⟨g3, cap3, cur3, rfl, h2', (set_oth _ _ _ _ _ ?_).trans hh3, h3⟩⟩
        rintro rfl
        rw [hh3] at hh
        simp at hh
    refine ⟨⟨by simp; omega, .inr ⟨g, cap, cur.set! L.length u', by simp, hg, set_blk _ _ _ _ hh, by simpa using q1, q2, by simpa using q3, ?_⟩⟩, fun i hi => ?_⟩
    · have hlen : (L ++ [c']).length * 1 = rows.length + 1 := by simp [hrl]
      have hlen2 : (L ++ [c]).length * 1 = rows.length + 1 := by simp [hrl]
      rw [hlen2] at q4
      rw [hlen]
      have hsz : rows.length < cur.size := by
        have := congrArg List.length q4
        simp at this
        omega
      apply List.ext_getElem?
      intro i
      rw [List.getElem?_take]
      have q5 := congrArg (fun l => l[i]?) q4
      simp only [List.getElem?_take] at q5
      by_cases hi : i < rows.length + 1
      · rw [if_pos hi] at q5 ⊢
        by_cases hi2 : i = rows.length
        · subst hi2
          rw [← hrl]
          simp [hsz]
        · rw [List.getElem?_append_left (by omega)] at q5 ⊢
          rw [← q5]
          have : L.length ≠ i := by omega
          simp [Array.getElem?_setIfInBounds, this]
      · rw [if_neg hi, List.getElem?_eq_none (by simp; omega)]
    · by_cases e : i = L.length
      · subst e
        refine ⟨u', by rw [List.getElem?_append_right (by omega)]; simp [hrl], ?_⟩
        rw [List.getD_eq_getElem?_getD, List.getElem?_append_right (Nat.le_refl _)]
        simpa using hoth hu
      · have hi' : i < L.length := by simp at hi; omega
        obtain ⟨x, hx, ho⟩ := h2 i hi'
        refine ⟨x, by rw [List.getElem?_append_left (by omega)]; exact hx, ?_⟩
        rw [List.getD_eq_getElem?_getD, List.getElem?_append_left hi', ← List.getD_eq_getElem?_getD]
        exact hoth ho
end Go.Proofs.YtgkfnplgldigbaaDoor.pr
namespace Go.Proofs.YtgkfnplgldigbaaDoor.asm
open Go.ChangeShapes Go.WideShapes Go.ChangeAt Go.RowKit
open Go.Proofs.YtgkfnplgldigbaaDoor.st Go.Proofs.YtgkfnplgldigbaaDoor.wd
open Go.Proofs.YtgkfnplgldigbaaDoor.pr (enI recI infoI infoC PM OP own_ltP NB)
set_option linter.unusedVariables false
set_option linter.unusedSimpArgs false
structure RS (w0 wB w : World) (b : Bool) (m : Int) (fs : List (List I4)) (v : Value) (rows : List Value) : Prop where
  r0 : w.heap[w0.heap.size]? = some (.cells #[.int .i64 0, .slice none 0 0] 32 (0, 0))
  r1 : w.heap[w0.heap.size + 1]? = some (.cells #[.int .i64 m, v] 32 (0, 0))
  r2 : w.heap[w0.heap.size + 2]? = some (.cells #[.bool b] 4 (0, 0))
  own : OP w wB.heap.size v rows fs
  nb : ∀ rows' u, rows = rows' ++ [u] → NB rows' u
  bel : Below w0.heap.size w0 w
  kp : wB.heap.size ≤ w.heap.size ∧ ∀ k, k < wB.heap.size → k ≠ w0.heap.size + 1 → k ≠ w0.heap.size + 2 → w.heap[k]? = wB.heap[k]?
  lo : w0.heap.size + 3 ≤ wB.heap.size
section
variable {w0 wB w w' : World} {b : Bool} {m : Int} {fs : List (List I4)} {v : Value} {rows : List Value}
theorem RS.lt (h : RS w0 wB w b m fs v rows) : w0.heap.size + 3 ≤ w.heap.size := Nat.le_trans h.lo h.kp.1
theorem RS.below (h : RS w0 wB w b m fs v rows) (hb : Below w.heap.size w w') : RS w0 wB w' b m fs v rows :=
  ⟨kb h.r0 hb, kb h.r1 hb, kb h.r2 hb, h.own.below hb, h.nb, tr3 h.bel hb, ⟨Nat.le_trans h.kp.1 hb.size, fun k hk h1 h2 => (hb.block k (Nat.lt_of_lt_of_le hk h.kp.1)).trans (h.kp.2 k hk h1 h2)⟩, h.lo⟩
theorem RS.mem (h : RS w0 wB w b m fs v rows) (n : Int) : RS w0 wB (w.setCell ⟨w0.heap.size + 1, 0, none⟩ (.int .i64 n)) b n fs v rows := by
  have hlo := h.lo
  exact ⟨(set_oth _ _ _ _ _ (by omega)).trans h.r0, set_blk _ _ _ _ h.r1, (set_oth _ _ _ _ _ (by omega)).trans h.r2, h.own.keep (fun k hk => set_oth _ _ _ _ _ (by omega)), h.nb, h.bel.setCell (p := ⟨w0.heap.size + 1, 0, none⟩) (by show w0.heap.size ≤ w0.heap.size + 1; omega) _, ⟨by rw [set_size]; exact h.kp.1, fun k hk h1 h2 => (set_oth _ _ _ _ _ h1).trans (h.kp.2 k hk h1 h2)⟩, hlo⟩
theorem RS.begun (h : RS w0 wB w b m fs v rows) : RS w0 wB (w.setCell ⟨w0.heap.size + 2, 0, none⟩ (.bool true)) true m fs v rows := by
  have hlo := h.lo
  exact ⟨(set_oth _ _ _ _ _ (by omega)).trans h.r0, (set_oth _ _ _ _ _ (by omega)).trans h.r1, set_blk _ _ _ _ h.r2, h.own.keep (fun k hk => set_oth _ _ _ _ _ (by omega)), h.nb, h.bel.setCell (p := ⟨w0.heap.size + 2, 0, none⟩) (by show w0.heap.size ≤ w0.heap.size + 2; omega) _, ⟨by rw [set_size]; exact h.kp.1, fun k hk h1 h2 => (set_oth _ _ _ _ _ h2).trans (h.kp.2 k hk h1 h2)⟩, hlo⟩
/-- rows of strings that were there at the base are there still. -/
theorem RS.sv (h : RS w0 wB w b m fs v rows) {x : Value} {L : List (List UInt8)} {b0 : Bool} {m0 : Int} {v0 : Value} {rows0 : List Value} {fs0 : List (List I4)} (h0 : RS w0 wB wB b0 m0 fs0 v0 rows0) (hx : SV wB x L) (hv0 : ∃ a n c, v0 = .slice a n c) : SV w x L := by
  obtain ⟨a, cap, e, h1, h2, h3, h4⟩ := hx
  refine ⟨a, cap, e, h1, h2, h3, fun i y hy => ?_⟩
  obtain ⟨g, o, e', hb, hc⟩ := h4 i y hy
  refine ⟨g, o, e', Nat.lt_of_lt_of_le hb h.kp.1, fun j u hu => ?_⟩
  have hcc := hc j u hu
  have hu2 : u = .string ⟨y.toArray⟩ := by
    match j, hu with
    | 0, hu => simp [enS] at hu; exact hu.symm
  subst hu2
  have hg1 : g ≠ w0.heap.size + 1 := by
    rintro rfl
    obtain ⟨a', n', c', rfl⟩ := hv0
    rw [cel h0.r1] at hcc
    match (o + (i * 1 + j)), hcc with
    | 0, hcc => simp at hcc
    | 1, hcc => simp at hcc
    | k + 2, hcc => simp at hcc
  have hg2 : g ≠ w0.heap.size + 2 := by
    rintro rfl
    rw [cel h0.r2] at hcc
    match (o + (i * 1 + j)), hcc with
    | 0, hcc => simp at hcc
    | k + 1, hcc => simp at hcc
  have := h.kp.2 g hb hg1 hg2
  rw [← hcc]
  simp only [World.cell?, this]
end
theorem memP_len {P : List (List UInt8)} (h : P.length ≠ 2) : memP P = none := by
  match P, h with
  | [], _ => rfl
  | [_], _ => rfl
  | [_, _], h => simp at h
  | _ :: _ :: _ :: _, _ => rfl
set_option maxRecDepth 20000 in
theorem mem_v (w0 wB w : World) (b : Bool) (m : Int) (fs : List (List I4)) (v : Value) (rows : List Value) (a : Option Addr) (n c : Nat) (P : List (List UInt8)) (hR : RS w0 wB w b m fs v rows) (hS : SV w (.slice a n c) P) (hM : wd.NM w) (hl : ∀ x ∈ P, x.length ≤ 1000000) :
    Calls Tryd.prog 36 #[.pointer (some ⟨w0.heap.size + 1, 0, none⟩), .slice a n c] w fun e w' => e = .returned (.int .i64 (if (memP P).isSome then 0 else 4)) ∧ RS w0 wB w' b ((memP P).getD m) fs v rows := by
  have hn := hS.len.1
  by_cases h2 : n = 2
  · subst h2
    obtain ⟨b0, o0, rfl, hb0, hc0⟩ := SV.at hS 0 (by omega)
    obtain ⟨b1, o1, e1, hb1, hc1⟩ := SV.at hS 1 (by omega)
    simp only [Option.some.injEq, Addr.mk.injEq] at e1
    obtain ⟨rfl, rfl, _⟩ := e1
    match P, hn with
    | [x, y], _ =>
      have hly := hl y (by simp)
      replace hc0 : w.cell? ⟨b0, o0 + 0, none⟩ = some (.string ⟨x.toArray⟩) := hc0
      replace hc1 : w.cell? ⟨b0, o0 + 1, none⟩ = some (.string ⟨y.toArray⟩) := hc1
      rw [Nat.add_zero] at hc0
      have HR := Lib.hid hR
      have CN := Lib.hid (wd.num_v y w hly hM)
      obtain ⟨nv, hnv⟩ : ∃ nv, (numV y).1 = nv := ⟨_, rfl⟩
      obtain ⟨okv, hokv⟩ : ∃ okv, (numV y).2 = okv := ⟨_, rfl⟩
      rw [hnv, hokv] at CN
      by_cases hx : x = wMem
      · cases okv with
        | true =>
          rw [show memP [x, y] = some nv by simp only [memP]; rw [if_pos ⟨hx, hokv⟩, hnv]]
          subst hx
          clear hnv hokv hl hM hS hR hn
          rw [show wMem = [109, 101, 109, 111, 114, 121] from rfl] at hc0
          go_enter Tryd.func36, Tryd.ntmps36
          go_wp2_with fail
          refine CN.out.mono ?_
          rintro e w6 ⟨rfl, hb6⟩
          have hR6 := HR.out.below hb6
          have hp : w6.cell? ⟨w0.heap.size + 1, 0, none⟩ = some (.int .i64 m) := cel hR6.r1 0
          have hpf : w6.frozen? ⟨w0.heap.size + 1, 0, none⟩ = false := frz hR6.r1 0
          have HR7 := Lib.hid (hR6.mem nv)
          clear hR6 hb6 CN HR
          go_wp2_with fail
          go_ret
          exact ⟨rfl, HR7.out⟩
        | false =>
          rw [show memP [x, y] = none by simp only [memP]; rw [if_neg (by rw [hokv]; simp)]]
          subst hx
          clear hnv hokv hl hM hS hR hn
          rw [show wMem = [109, 101, 109, 111, 114, 121] from rfl] at hc0
          go_enter Tryd.func36, Tryd.ntmps36
          go_wp2_with fail
          refine CN.out.mono ?_
          rintro e w6 ⟨rfl, hb6⟩
          have hR6 := Lib.hid (HR.out.below hb6)
          clear hb6 CN HR
          go_wp2_with fail
          go_ret
          exact ⟨rfl, hR6.out⟩
      · rw [show memP [x, y] = none by simp only [memP]; rw [if_neg (fun h => hx h.1)]]
        have hxb : (x == [109, 101, 109, 111, 114, 121]) = false := by rw [beq_eq_false_iff_ne]; exact hx
        have hxs : ¬ (⟨x.toArray⟩ : ByteArray) = ⟨#[109, 101, 109, 111, 114, 121]⟩ := by
          intro e
          have := congrArg (fun s : ByteArray => s.data.toList) e
          exact hx (by unfold wMem; simpa using this)
        clear hnv hokv hl hM hS hR hn hx
        go_enter Tryd.func36, Tryd.ntmps36
        go_wp2_with fail
        go_ret
        exact ⟨rfl, HR.out⟩
  · rw [memP_len (by omega)]
    have h2i : ¬ (n : Int) = 2 := by omega
    have h2b : ((n : Int) != 2) = true := by simp; omega
    have HR := Lib.hid hR
    clear hl hM hS hR hn
    go_enter Tryd.func36, Tryd.ntmps36
    go_wp2_with fail
    go_ret
    exact ⟨rfl, HR.out⟩
end Go.Proofs.YtgkfnplgldigbaaDoor.asm
