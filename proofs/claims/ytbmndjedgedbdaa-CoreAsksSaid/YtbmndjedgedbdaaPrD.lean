/- Programs: rows of rows of instructions (layer 4). -/
import Derived.Test.YtbmndjedgedbdaaInP
import Derived.Test.YtbmndjedgedbdaaRecs
namespace Go.Proofs.Ytbmndjedgedbdaa.pr
open Go.ChangeShapes Go.WideShapes Go.ChangeAt Go.RowKit
open Go.Proofs.Ytbmndjedgedbdaa.bin Go.Proofs.Ytbmndjedgedbdaa.bits Go.Proofs.Ytbmndjedgedbdaa.ins
set_option linter.unusedVariables false
set_option linter.unusedSimpArgs false
abbrev I4 := Int × Int × Int × Int
def enI (p : I4) : List Value := [.int .i64 p.1, .int .i64 p.2.1, .int .i64 p.2.2.1, .int .i64 p.2.2.2]
def d4 : I4 := (0, 0, 0, 0)
theorem recI : Rec 4 enI := ⟨by omega, fun _ => rfl, fun x u hu => by simp [enI] at hu; rcases hu with rfl | rfl | rfl | rfl <;> rfl⟩
theorem infoI : (Try.prog.info? 68).map (fun i => (i.zero, i.size, i.bytes)) = some (some (.agg #[.int .i64 0, .int .i64 0, .int .i64 0, .int .i64 0]), 4, 32) := by kernel_rfl
theorem infoC : (Try.prog.info? 69).map (fun i => (i.zero, i.size, i.bytes)) = some (some (.slice none 0 0), 1, 24) := by kernel_rfl
/-- In world w the slice of slices v reads as the functions L. -/
def PM (w : World) (v : Value) (L : List (List I4)) : Prop :=
  ∃ a cap, v = .slice a L.length cap ∧ L.length ≤ cap ∧ cap ≤ maxLen ∧ ∀ i, i < L.length → ∃ b o u, a = some ⟨b, o, none⟩ ∧ b < w.heap.size ∧ w.cell? ⟨b, o + i, none⟩ = some u ∧ RV 4 enI w u (L.getD i [])
theorem PM.below {w w' : World} {v : Value} {L : List (List I4)} (h : PM w v L) (hb : Below w.heap.size w w') : PM w' v L := by
  obtain ⟨a, cap, hv, h1, h2, h3⟩ := h
  refine ⟨a, cap, hv, h1, h2, fun i hi => ?_⟩
  obtain ⟨b, o, u, e, hlt, hc, hu⟩ := h3 i hi
  exact ⟨b, o, u, e, Nat.lt_of_lt_of_le hlt hb.size, (hb.cell (p := ⟨b, o + i, none⟩) hlt).trans hc, hu.below hb⟩
theorem PM.form {w : World} {v : Value} {L : List (List I4)} (h : PM w v L) : ∃ a cap, v = .slice a L.length cap ∧ L.length ≤ cap ∧ cap ≤ maxLen := by
  obtain ⟨a, cap, hv, h1, h2, _⟩ := h
  exact ⟨a, cap, hv, h1, h2⟩
theorem PM.len {w : World} {a : Option Addr} {n cap : Nat} {L : List (List I4)} (h : PM w (.slice a n cap) L) : n = L.length ∧ n ≤ cap ∧ cap ≤ maxLen := by
  obtain ⟨a', cap', hv, h1, h2, _⟩ := h
  rw [Value.slice.injEq] at hv
  obtain ⟨rfl, rfl, rfl⟩ := hv
  exact ⟨rfl, h1, h2⟩
theorem PM.row {w : World} {a : Option Addr} {n cap : Nat} {L : List (List I4)} (h : PM w (.slice a n cap) L) (i : Nat) (hi : i < n) :
    ∃ b o ai ci, a = some ⟨b, o, none⟩ ∧ b < w.heap.size ∧ w.cell? ⟨b, o + i, none⟩ = some (.slice ai (L.getD i []).length ci) ∧ RV 4 enI w (.slice ai (L.getD i []).length ci) (L.getD i []) := by
  obtain ⟨a', cap', hv, h1, h2, h3⟩ := h
  rw [Value.slice.injEq] at hv
  obtain ⟨rfl, rfl, rfl⟩ := hv
  obtain ⟨b, o, u, e, hlt, hc, hu⟩ := h3 i hi
  obtain ⟨ai, ci, rfl, _⟩ := hu.form
  exact ⟨b, o, ai, ci, e, hlt, hc, hu⟩
theorem PM.nil (w : World) : PM w (.slice none 0 0) [] := ⟨none, 0, rfl, Nat.le_refl _, by simp [maxLen], fun i hi => by simp at hi⟩
theorem getD_L {l : List I4} {i : Nat} (h : i < l.length) : l[i]? = some (l.getD i d4) := by
  rw [List.getD_eq_getElem?_getD, List.getElem?_eq_getElem h]; rfl
/-- the four cells of an instruction of a row -/
theorem RV.four {w : World} {a : Option Addr} {n c : Nat} {l : List I4} (h : RV 4 enI w (.slice a n c) l) (i : Nat) (hi : i < n) :
    ∃ b o, a = some ⟨b, o, none⟩ ∧ b < w.heap.size ∧ w.cell? ⟨b, o + i * 4, none⟩ = some (.int .i64 (l.getD i d4).1) ∧ w.cell? ⟨b, o + i * 4 + 1, none⟩ = some (.int .i64 (l.getD i d4).2.1) ∧ w.cell? ⟨b, o + i * 4 + 2, none⟩ = some (.int .i64 (l.getD i d4).2.2.1) ∧ w.cell? ⟨b, o + i * 4 + 3, none⟩ = some (.int .i64 (l.getD i d4).2.2.2) := by
  have hl := h.len.1
  obtain ⟨b, o, e, hlt, hc⟩ := h.at i _ (getD_L (by omega))
  exact ⟨b, o, e, hlt, hc 0 _ rfl, hc 1 _ rfl, hc 2 _ rfl, hc 3 _ rfl⟩
/-- A row of rows that the call itself made: its slices, each a row of one's own. -/
def OP (w : World) (B : Nat) (v : Value) (rows : List Value) (L : List (List I4)) : Prop :=
  w.ownsRow B 69 1 v L.length rows ∧ ∀ i, i < L.length → ∃ u, rows[i]? = some u ∧ OR 4 enI w B 68 u (L.getD i [])
theorem OP.nil (w : World) (B : Nat) : OP w B (.slice none 0 0) [] [] := ⟨World.ownsRow_nil _ _ _ _, fun i hi => by simp at hi⟩
theorem own_ltP {w : World} {B n : Nat} {v : Value} {rows : List Value} (ho : w.ownsRow B 69 1 v n rows) : ∀ k, v.ownBlock = some k → B ≤ k ∧ k < w.heap.size := by
  intro k hk
  obtain ⟨_, ⟨rfl, _⟩ | ⟨g2, cap2, cur2, rfl, h1, hh2, _⟩⟩ := ho
  · simp [Value.ownBlock] at hk
  · simp [Value.ownBlock] at hk
    subst hk
    exact ⟨h1, (Array.getElem?_eq_some_iff.1 hh2).1⟩
theorem OP.below {w w' : World} {B : Nat} {v : Value} {rows : List Value} {L : List (List I4)} (h : OP w B v rows L) (hb : Below w.heap.size w w') : OP w' B v rows L := by
  refine ⟨?_, fun i hi => ?_⟩
  · obtain ⟨hl, h1 | ⟨g2, cap2, cur2, rfl, h1, hh2, h3⟩⟩ := h.1
    · exact ⟨hl, .inl h1⟩
    · exact ⟨hl, .inr ⟨g2, cap2, cur2, rfl, h1, (hb.block g2 (Array.getElem?_eq_some_iff.1 hh2).1).trans hh2, h3⟩⟩
  · obtain ⟨u, hu, ho⟩ := h.2 i hi
    exact ⟨u, hu, ho.below hb⟩
theorem OP.pm {w : World} {B : Nat} {v : Value} {rows : List Value} {L : List (List I4)} (h : OP w B v rows L) : PM w v L := by
  obtain ⟨⟨hl, ⟨rfl, h0⟩ | ⟨g, cap, cur, rfl, hg, hh, h1, h2, h3, h4⟩⟩, hr⟩ := h
  · obtain rfl : L = [] := List.eq_nil_of_length_eq_zero h0
    exact PM.nil w
  · refine ⟨_, cap, rfl, h1, h2, fun i hi => ?_⟩
    obtain ⟨u, hu, ho⟩ := hr i hi
    refine ⟨g, 0, u, rfl, (Array.getElem?_eq_some_iff.1 hh).1, ?_, OR.rv recI ho⟩
    have h5 : cur.toList[i]? = some u := by
      have h6 := congrArg (fun l => l[i]?) h4
      simp only [Nat.mul_one] at h6
      rw [List.getElem?_take_of_lt hi] at h6
      rw [h6, hu]
    have h7 : cur[i]? = some u := by simpa using h5
    rw [Nat.zero_add]
    simp [World.cell?, hh, h7]
theorem OR.grownP {w w' : World} {B : Nat} {u v : Value} {xs : List I4} {n : Nat} {rows : List Value} (h : OR 4 enI w B 68 u xs) (ho : w.ownsRow B 69 1 v n rows) (hg : w.grownBy w' v.ownBlock) : OR 4 enI w' B 68 u xs := by
  obtain ⟨hl, h | ⟨g, cap, cur, rfl, h1, hh, h2, h3, h4, h5⟩⟩ := h
  · exact ⟨hl, .inl h⟩
  · refine ⟨hl, .inr ⟨g, cap, cur, rfl, h1, ?_, h2, h3, h4, h5⟩⟩
    have hlt := (Array.getElem?_eq_some_iff.1 hh).1
    rw [hg.block g hlt ?_]
    · exact hh
    · intro e
      obtain ⟨_, ⟨rfl, _⟩ | ⟨g2, cap2, cur2, rfl, _, hh2, _⟩⟩ := ho
      · simp [Value.ownBlock] at e
      · simp [Value.ownBlock] at e
        subst e
        rw [hh] at hh2
        simp at hh2
theorem run_appP {w : World} (ty B : Nat) (v : Value) (rows : List Value) (L : List (List I4)) (ad : Addr) (c : Nat) (u : Value) (xs : List I4) (hown : OP w B v rows L) (hu : w.cell? ad = some u) (hux : OR 4 enI w B 68 u xs) (hpl : ad.add 0 = ad) (hsm : L.length ≤ 100000) (hB : B ≤ w.heap.size) :
    ∃ v' w', (Builtin.append_ #[22, 22] ty #[v, .slice (some ad) 1 c]).run Try.prog w = .ok v' w' ∧ OP w' B v' (rows ++ [u]) (L ++ [xs]) ∧ w.grownBy w' v.ownBlock ∧ (v'.ownBlock = v.ownBlock ∨ v'.ownBlock = some w.heap.size) := by
  obtain ⟨i0, hi, hz0, hz1, hz2⟩ := info_parts infoC
  obtain ⟨v', w', h1, h2, h3, _, h5⟩ := run_append_own_at (P := Try.prog) w B 22 ty 69 i0 (.slice none 0 0) 1 24 Try.underlying22 hi hz0 hz1 hz2 rfl (by decide) v L.length _ hown.1 ad 1 c [u] rfl (by
    intro j x hj
    match j, hj with
    | 0, hj => simp at hj; subst hj; rw [hpl]; exact hu) (by obtain ⟨a, cp, rfl⟩ := OR.form hux; simp; rfl) (by unfold maxLen; omega) (by omega) hB
  refine ⟨v', w', h1, ⟨by simpa using h2, fun i hi => ?_⟩, h3, h5⟩
  have hrl : rows.length = L.length := by have := hown.1.1; omega
  by_cases e : i = L.length
  · subst e
    refine ⟨u, by rw [List.getElem?_append_right (by omega)]; simp [hrl], ?_⟩
    rw [List.getD_eq_getElem?_getD, List.getElem?_append_right (Nat.le_refl _)]
    simpa using OR.grownP hux hown.1 h3
  · have hi' : i < L.length := by rw [List.length_append, List.length_singleton] at hi; omega
    obtain ⟨u', hu', ho⟩ := hown.2 i hi'
    refine ⟨u', by rw [List.getElem?_append_left (by omega)]; exact hu', ?_⟩
    rw [List.getD_eq_getElem?_getD, List.getElem?_append_left hi', ← List.getD_eq_getElem?_getD]
    exact OR.grownP ho hown.1 h3
theorem wpList_appP {ops : Array Oper} {rest : List Oper} {o : Oper} {a : Act} {w : World} {Q : Exit → Act → World → Prop} (hgd : o.guard = none) (s x : Operand)
    (ho : o.op = .call { callee := .builtin .append, args := #[s, x], argTypes := #[22, 22] })
    (B : Nat) (v : Value) (rows : List Value) (L : List (List I4)) (hs : a.eval s = v) (ad : Addr) (c : Nat) (hx : a.eval x = .slice (some ad) 1 c) (u : Value) (xs : List I4) (hown : OP w B v rows L) (hu : w.cell? ad = some u) (hux : OR 4 enI w B 68 u xs) (hpl : ad.add 0 = ad) (hsm : L.length ≤ 100000) (hB : B ≤ w.heap.size)
    (h : ∀ v' w', OP w' B v' (rows ++ [u]) (L ++ [xs]) → w.grownBy w' v.ownBlock → (v'.ownBlock = v.ownBlock ∨ v'.ownBlock = some w.heap.size) → wpList Try.prog ops Q rest (a.put o.dst v') w') : wpList Try.prog ops Q (o :: rest) a w :=
  wpList_plain hgd fun _ hK => by
    obtain ⟨v', w', hr, h2, h3, h4⟩ := run_appP o.type B v rows L ad c u xs hown hu hux hpl hsm hB
    unfold Oper.wp execOp
    simp only [ho, resolve, invoke, builtin, Sem.run_bind, Sem.run_pure, Result.andThen_ok, List.map_toArray, List.map_cons, List.map_nil, hs, hx, hr]
    exact hK _ _ (h v' w' h2 h3 h4)
end Go.Proofs.Ytbmndjedgedbdaa.pr
namespace Go.Proofs.Ytbmndjedgedbdaa.pr
open Go.ChangeShapes Go.WideShapes Go.ChangeAt Go.RowKit
open Go.Proofs.Ytbmndjedgedbdaa.bin Go.Proofs.Ytbmndjedgedbdaa.bits Go.Proofs.Ytbmndjedgedbdaa.ins
set_option linter.unusedVariables false
set_option linter.unusedSimpArgs false
def cntE (m : Int) (n : Nat) : Int := if m < 0 ∨ 256 < m then 3 else if n = 0 then 7 else if 16 < n then 9 else 0
def lenE (n : Nat) : Int := if n = 0 then 7 else if 200 < n then 9 else 0
theorem counts_v (m : Int) (n : Nat) (c : Int) (w : World) (h : cntE m n = c) : Calls Try.prog 62 #[.int .i64 m, .int .i64 (n : Int)] w fun e w' => e = .returned (.int .i64 c) ∧ w = w' := by
  unfold cntE at h
  by_cases h1 : m < 0
  · rw [if_pos (.inl h1)] at h
    subst h
    go_enter Try.func62, Try.ntmps62
    go_wp2_with fail
    go_ret
    exact ⟨rfl, rfl⟩
  · by_cases h2 : 256 < m
    · rw [if_pos (.inr h2)] at h
      subst h
      go_enter Try.func62, Try.ntmps62
      go_wp2_with fail
      go_ret
      exact ⟨rfl, rfl⟩
    · rw [if_neg (by omega)] at h
      by_cases h3 : n = 0
      · rw [if_pos h3] at h
        subst h
        subst h3
        go_enter Try.func62, Try.ntmps62
        go_wp2_with fail
        go_ret
        exact ⟨rfl, rfl⟩
      · rw [if_neg h3] at h
        have h3b : ((n : Int) == 0) = false := by simp; omega
        by_cases h4 : 16 < n
        · rw [if_pos h4] at h
          subst h
          have h4I : (16 : Int) < (n : Int) := by omega
          go_enter Try.func62, Try.ntmps62
          go_wp2_with fail
          go_ret
          exact ⟨rfl, rfl⟩
        · rw [if_neg h4] at h
          subst h
          have h4I : ¬ (16 : Int) < (n : Int) := by omega
          go_enter Try.func62, Try.ntmps62
          go_wp2_with fail
          go_ret
          exact ⟨rfl, rfl⟩
theorem len_v (n : Nat) (c : Int) (w : World) (h : lenE n = c) : Calls Try.prog 73 #[.int .i64 (n : Int)] w fun e w' => e = .returned (.int .i64 c) ∧ w = w' := by
  unfold lenE at h
  by_cases h3 : n = 0
  · rw [if_pos h3] at h
    subst h
    subst h3
    go_enter Try.func73, Try.ntmps73
    go_wp2_with fail
    go_ret
    exact ⟨rfl, rfl⟩
  · rw [if_neg h3] at h
    have h3b : ((n : Int) == 0) = false := by simp; omega
    by_cases h4 : 200 < n
    · rw [if_pos h4] at h
      subst h
      have h4I : (200 : Int) < (n : Int) := by omega
      go_enter Try.func73, Try.ntmps73
      go_wp2_with fail
      go_ret
      exact ⟨rfl, rfl⟩
    · rw [if_neg h4] at h
      subst h
      have h4I : ¬ (200 : Int) < (n : Int) := by omega
      go_enter Try.func73, Try.ntmps73
      go_wp2_with fail
      go_ret
      exact ⟨rfl, rfl⟩
def ldL : List UInt8 → List Int → Nat → Nat → Bool
  | [], _, _, _ => true
  | c :: f, n :: fs, p, q => if (c = 116 ∧ (p : Int) ≤ n) ∨ (c = 102 ∧ (q : Int) ≤ n) then false else ldL f fs p q
  | _ :: _, [], _, _ => true
def leadsI (op A B C : Int) (p q : Nat) : Bool := ldL (frmI op) (three A B C) p q
set_option maxRecDepth 20000 in
set_option maxHeartbeats 4000000 in
theorem leads_v (op A B C : Int) (p q : Nat) (r : Bool) (w : World) (hr : leadsI op A B C p q = r) :
    Calls Try.prog 75 #[.agg #[.int .i64 op, .int .i64 A, .int .i64 B, .int .i64 C], .int .i64 (p : Int), .int .i64 (q : Int)] w fun e w' => e = .returned (.bool r) ∧ Below w.heap.size w w' := by
  obtain ⟨hl, hL0⟩ := frmI_ok op
  have hf := pf_of op
  unfold leadsI at hr
  obtain ⟨f, hfe⟩ : ∃ f, frmI op = f := ⟨_, rfl⟩
  rw [hfe] at hl hL0 hf hr
  have hL := Lib.hid hL0
  replace hf := Lib.hid hf
  obtain ⟨W, hW⟩ : ∃ W, (w.alloc (.cells #[.int .i64 op, .int .i64 A, .int .i64 B, .int .i64 C] 68)).alloc (.cells #[.int .i64 A, .int .i64 B, .int .i64 C] 134) = W := ⟨_, rfl⟩
  have hb0 : Below w.heap.size w W := by rw [← hW]; go_grown
  have hs0 : W.heap.size = w.heap.size + 1 + 1 := by rw [← hW]; simp
  have hcell : W.heap[w.heap.size + 1]? = some (.cells #[.int .i64 A, .int .i64 B, .int .i64 C] 134 (0, 0)) := by
    rw [← hW]
    have := heap_new (w.alloc (.cells #[.int .i64 op, .int .i64 A, .int .i64 B, .int .i64 C] 68)) #[.int .i64 A, .int .i64 B, .int .i64 C] 134
    simpa using this
  have HCL : Hid (∀ (pos i : Nat), i < 3 → (W.iter ⟨f.toArray⟩ pos).cell? ⟨w.heap.size + 1, i, none⟩ = some (.int .i64 ((three A B C).getD i 0))) := Lib.hid fun pos i hi => by
    refine kc (W := W) (three_cell (w := W) hcell i hi) ?_
    unfold World.iter; go_grown
  have HB0 := Lib.hid hb0
  have HW := Lib.hid hW
  have hc0 : Hid (ldL (f.drop 0) ((three A B C).drop 0) p q = r) := Lib.hid (by simpa using hr)
  have hfs := str_size f
  have HBI : Hid (∀ pos, Below w.heap.size w (W.iter ⟨f.toArray⟩ pos)) := Lib.hid fun pos => tr3 hb0 (iter_below W ⟨f.toArray⟩ 0 pos)
  clear hr hW hcell hb0 hL0 hfe
  go_enter Try.func75, Try.ntmps75
  go_wp2_with (first | (go_at_call 80; (refine (hf.out _).mono ?_); rintro e w' ⟨rfl, rfl⟩))
  rw [HW.out]
  go_loopw [22] (fun _ wr => ∃ pos, wr = W.iter ⟨f.toArray⟩ pos ∧ pos ≤ f.length ∧ Hid (ldL (f.drop pos) ((three A B C).drop pos) p q = r)) (fun _ wr => f.length - wr.iterPos (w.heap.size + 1 + 1))
  case atStart => exact ⟨0, rfl, by omega, hc0⟩
  case round =>
    clear hc0
    obtain ⟨pos, rfl, hpl, HC⟩ := hrel
    by_cases hlt : pos < f.length
    · have hps : pos < (⟨f.toArray⟩ : ByteArray).size := by rw [hfs]; exact hlt
      have hxL : Lt (f.getD pos 0) := getD_Lt hL.out hlt
      have hat := str_at f pos hps
      have hd : f.drop pos = f.getD pos 0 :: f.drop (pos + 1) := drop_at f 0 pos hlt
      have hd3 : (three A B C).drop pos = (three A B C).getD pos 0 :: (three A B C).drop (pos + 1) := drop_at _ 0 pos (by simp [three]; omega)
      have hcl := fun pos' => HCL.out pos' pos (by omega)
      obtain ⟨x, hx⟩ : ∃ x, f.getD pos 0 = x := ⟨_, rfl⟩
      obtain ⟨n, hn⟩ : ∃ n, (three A B C).getD pos 0 = n := ⟨_, rfl⟩
      rw [hx] at hxL hat hd
      rw [hn] at hd3 hcl
      have hc1 := HC.out
      rw [hd, hd3, ldL] at hc1
      have hnx : ∀ ty, (Instr.next (.pointer (some ⟨w.heap.size + 1 + 1, 0, none⟩)) true ty).run Try.prog (W.iter ⟨f.toArray⟩ pos) = .ok (.tuple #[.bool true, .int .i64 pos, .int .i32 (x.toNat : Int)]) (W.iter ⟨f.toArray⟩ (pos + 1)) := fun ty => by
        rw [← hs0, ← hat]
        exact run_next_ascii (P := Try.prog) W ⟨f.toArray⟩ pos ty hps (by rw [hat]; exact lt_128 x hxL)
      have hplI : (pos : Int) < (f.length : Int) := by omega
      have hp3 : (pos : Int) < 3 := by omega
      have him : (W.iter ⟨f.toArray⟩ pos).iterPos (w.heap.size + 1 + 1) = pos := iter_pos W ⟨f.toArray⟩ 0 pos _ hs0
      have him2 : (W.iter ⟨f.toArray⟩ (pos + 1)).iterPos (w.heap.size + 1 + 1) = pos + 1 := iter_pos W ⟨f.toArray⟩ 0 (pos + 1) _ hs0
      have HM := Lib.hid (And.intro him him2)
      clear hx hn hd hd3 HC him him2
      by_cases h1 : x = 116
      · have e1 : ((x.toNat : Int) == 116) = true := by rw [h1]; rfl
        have e2 : ((x.toNat : Int) == 102) = false := by rw [h1]; rfl
        by_cases h2 : (p : Int) ≤ n
        · rw [if_pos (.inl ⟨h1, h2⟩)] at hc1
          subst hc1
          clear hxL h1
          go_wp2_with fail
          go_ret
          exact ⟨rfl, HBI.out _⟩
        · rw [if_neg (by rintro (⟨_, h⟩ | ⟨h, _⟩); exact h2 h; rw [h1] at h; exact absurd h (by decide))] at hc1
          have HC1 := Lib.hid hc1
          have hge : decide ((p : Int) ≤ n) = false := by simp; omega
          clear hxL h1 hc1
          go_wp2_with fail
          go_roundw
          case rel => exact ⟨pos + 1, rfl, by omega, HC1⟩
          case measure => rw [HM.out.1, HM.out.2]; omega
      · have hxb : ∀ y : UInt8, x ≠ y → ((x.toNat : Int) == (y.toNat : Int)) = false := fun y hy => by
          have : ¬ x.toNat = y.toNat := fun h => hy (UInt8.toNat_inj.1 h)
          simp; omega
        have e1 : ((x.toNat : Int) == 116) = false := hxb 116 h1
        by_cases h3 : x = 102
        · have e2 : ((x.toNat : Int) == 102) = true := by rw [h3]; rfl
          by_cases h2 : (q : Int) ≤ n
          · rw [if_pos (.inr ⟨h3, h2⟩)] at hc1
            subst hc1
            clear hxL h1 h3 hxb
            go_wp2_with fail
            go_ret
            exact ⟨rfl, HBI.out _⟩
          · rw [if_neg (by rintro (⟨h, _⟩ | ⟨_, h⟩); exact h1 h; exact h2 h)] at hc1
            have HC1 := Lib.hid hc1
            have hge : decide ((q : Int) ≤ n) = false := by simp; omega
            clear hxL h1 h3 hc1 hxb
            go_wp2_with fail
            go_roundw
            case rel => exact ⟨pos + 1, rfl, by omega, HC1⟩
            case measure => rw [HM.out.1, HM.out.2]; omega
        · have e2 : ((x.toNat : Int) == 102) = false := hxb 102 h3
          rw [if_neg (by rintro (⟨h, _⟩ | ⟨h, _⟩); exact h1 h; exact h3 h)] at hc1
          have HC1 := Lib.hid hc1
          clear hxL h1 h3 hc1 hxb
          go_wp2_with fail
          go_roundw
          case rel => exact ⟨pos + 1, rfl, by omega, HC1⟩
          case measure => rw [HM.out.1, HM.out.2]; omega
    · obtain rfl : pos = f.length := by omega
      have hnx : ∀ ty, (Instr.next (.pointer (some ⟨w.heap.size + 1 + 1, 0, none⟩)) true ty).run Try.prog (W.iter ⟨f.toArray⟩ f.length) = .ok (.tuple #[.bool false]) (W.iter ⟨f.toArray⟩ f.length) := fun ty => by
        rw [← hs0]
        exact run_next_end (P := Try.prog) W ⟨f.toArray⟩ f.length ty (by rw [hfs]; omega)
      have hrt : r = true := by have := HC.out; rw [List.drop_length] at this; exact this.symm
      subst hrt
      clear HC
      go_wp2_with fail
      go_ret
      exact ⟨rfl, HBI.out _⟩
end Go.Proofs.Ytbmndjedgedbdaa.pr
namespace Go.Proofs.Ytbmndjedgedbdaa.pr
open Go.ChangeShapes Go.WideShapes Go.ChangeAt Go.RowKit
open Go.Proofs.Ytbmndjedgedbdaa.bin Go.Proofs.Ytbmndjedgedbdaa.bits Go.Proofs.Ytbmndjedgedbdaa.ins
set_option linter.unusedVariables false
set_option linter.unusedSimpArgs false
theorem cel4 {w : World} {g : Nat} {a b c d : Value} {e : TypeId} (h : w.heap[g]? = some (.cells #[a, b, c, d] e (0, 0))) : w.cell? ⟨g, 0, none⟩ = some a ∧ w.cell? ⟨g, 1, none⟩ = some b ∧ w.cell? ⟨g, 2, none⟩ = some c ∧ w.cell? ⟨g, 3, none⟩ = some d := ⟨cel h 0, cel h 1, cel h 2, cel h 3⟩
def ck4 (x : I4) : Int := chkI x.1 x.2.1 x.2.2.1 x.2.2.2
def ld4 (x : I4) (p q : Nat) : Bool := leadsI x.1 x.2.1 x.2.2.1 x.2.2.2 p q
def insR (l : List I4) (q : Nat) : Nat → Int
  | 0 => 0
  | k + 1 => if insR l q k ≠ 0 then insR l q k else if ck4 (l.getD k d4) ≠ 0 then ck4 (l.getD k d4) else if ld4 (l.getD k d4) l.length q then 0 else 11
def okEnd (op : Int) : Bool := op == 0 || op == 18 || op == 25
def fnE (l : List I4) (q : Nat) : Int := if lenE l.length ≠ 0 then lenE l.length else if insR l q l.length ≠ 0 then insR l q l.length else if okEnd (l.getD (l.length - 1) d4).1 then 0 else 12
def fnR (L : List (List I4)) : Nat → Int
  | 0 => 0
  | k + 1 => if fnR L k ≠ 0 then fnR L k else fnE (L.getD k []) L.length
def prE (m : Int) (L : List (List I4)) : Int := if cntE m L.length ≠ 0 then cntE m L.length else fnR L L.length
theorem insR_stay (l : List I4) (q k m : Nat) (h : k ≤ m) (hk : insR l q k ≠ 0) : insR l q m = insR l q k := by
  induction m with
  | zero => rw [show k = 0 by omega]
  | succ m ih =>
    by_cases e : k = m + 1
    · rw [e]
    · have := ih (by omega)
      rw [show insR l q (m + 1) = if insR l q m ≠ 0 then insR l q m else if ck4 (l.getD m d4) ≠ 0 then ck4 (l.getD m d4) else if ld4 (l.getD m d4) l.length q then 0 else 11 from rfl, this, if_pos hk]
theorem fnR_stay (L : List (List I4)) (k m : Nat) (h : k ≤ m) (hk : fnR L k ≠ 0) : fnR L m = fnR L k := by
  induction m with
  | zero => rw [show k = 0 by omega]
  | succ m ih =>
    by_cases e : k = m + 1
    · rw [e]
    · have := ih (by omega)
      rw [show fnR L (m + 1) = if fnR L m ≠ 0 then fnR L m else fnE (L.getD m []) L.length from rfl, this, if_pos hk]
set_option maxRecDepth 20000 in
set_option maxHeartbeats 4000000 in
theorem fn_v (a : Option Addr) (n c q : Nat) (l : List I4) (r : Int) (w : World) (h : RV 4 enI w (.slice a n c) l) (hq : q ≤ 100000) (hr : fnE l q = r) :
    Calls Try.prog 63 #[.slice a n c, .int .i64 (q : Int)] w fun e w' => e = .returned (.int .i64 r) ∧ Below w.heap.size w w' := by
  obtain ⟨hnl, hnc, hcm⟩ := h.len
  unfold maxLen at hcm
  have HR0 := Lib.hid h
  have HNL := Lib.hid hnl
  unfold fnE at hr
  rw [← hnl] at hr
  obtain ⟨e1, he1⟩ : ∃ e, lenE n = e := ⟨_, rfl⟩
  rw [he1] at hr
  have CL := Lib.hid (len_v n e1 w he1)
  by_cases h1 : e1 = 0
  · subst h1
    rw [if_neg (by decide)] at hr
    have hn1 : 1 ≤ n ∧ n ≤ 200 := by
      unfold lenE at he1
      by_cases h0 : n = 0
      · rw [if_pos h0] at he1; omega
      · rw [if_neg h0] at he1
        by_cases h2 : 200 < n
        · rw [if_pos h2] at he1; omega
        · omega
    obtain ⟨hn0, hn200⟩ := hn1
    have HRR := Lib.hid hr
    have h0 : Hid (Below w.heap.size w w) := Lib.hid (Below.refl _ _)
    clear h hnl hr he1
    go_enter Try.func63, Try.ntmps63
    go_wp2_with (go_at_call 73; (refine CL.out.mono ?_); rintro e w' ⟨rfl, rfl⟩)
    go_loopw [17] (fun i wr => ∃ k : Nat, i = .int .i64 (k : Int) ∧ k ≤ n ∧ Hid (insR l q k = 0) ∧ Hid (Below w.heap.size w wr)) (fun i _ => n - (intOf i).toNat)
    case atStart => exact ⟨0, rfl, by omega, Lib.hid rfl, h0⟩
    case round =>
      clear h0
      obtain ⟨k, rfl, hk, HI, HB⟩ := hrel
      by_cases hlt : k < n
      · obtain ⟨b, o, rfl, hbl, c0, c1, c2, c3⟩ := RV.four (HR0.out.below HB.out) k hlt
        have hst := insR_stay l q (k + 1) n (by omega)
        have hsx : insR l q (k + 1) = if ck4 (l.getD k d4) ≠ 0 then ck4 (l.getD k d4) else if ld4 (l.getD k d4) l.length q then 0 else 11 := by rw [insR, if_neg (by rw [HI.out]; decide)]
        rw [← HNL.out] at hsx
        obtain ⟨⟨op, A, B, C⟩, hx⟩ : ∃ x, l.getD k d4 = x := ⟨_, rfl⟩
        rw [hx] at c0 c1 c2 c3 hsx
        obtain ⟨cc, hcc⟩ : ∃ cc, ck4 (op, A, B, C) = cc := ⟨_, rfl⟩
        obtain ⟨ll, hll⟩ : ∃ ll, ld4 (op, A, B, C) n q = ll := ⟨_, rfl⟩
        rw [hcc, hll] at hsx
        have CC := Lib.hid (fun w => pchk_of op A B C cc w hcc)
        have CD := Lib.hid (fun w => leads_v op A B C n q ll w hll)
        have HST := Lib.hid hst
        have HSX := Lib.hid hsx
        have hplI : (k : Int) < (n : Int) := by omega
        obtain ⟨W2, hW2⟩ : ∃ W2, wr.alloc (.cells #[.int .i64 op, .int .i64 A, .int .i64 B, .int .i64 C] 68) = W2 := ⟨_, rfl⟩
        have hb2 : Below wr.heap.size wr W2 := by rw [← hW2]; go_grown
        have HX2 := Lib.hid (show W2.heap[wr.heap.size]? = some (.cells #[.int .i64 op, .int .i64 A, .int .i64 B, .int .i64 C] 68 (0, 0)) by rw [← hW2]; exact heap_new _ _ _)
        have HB2 := Lib.hid (tr3 HB.out hb2)
        have HW2 := Lib.hid hW2
        clear hst hsx hx hcc hll hW2 hb2 HB
        go_wp2_with fail
        rw [HW2.out]
        refine (CC.out _).mono ?_
        rintro e w5 ⟨rfl, hb5⟩
        obtain ⟨p0, p1, p2, p3⟩ := cel4 (kb HX2.out hb5)
        have HB5 := Lib.hid (tr3 HB2.out hb5)
        clear hb5 c0 c1 c2 c3 HW2
        by_cases hc0 : cc = 0
        · subst hc0
          cases ll with
          | true =>
            have HI1 : Hid (insR l q (k + 1) = 0) := Lib.hid (by rw [HSX.out]; simp)
            go_wp2_with fail
            refine (CD.out _).mono ?_
            rintro e w6 ⟨rfl, hb6⟩
            have HB6 := Lib.hid (tr3 HB5.out hb6)
            clear hb6
            go_wp2_with fail
            go_roundw
            case rel => exact ⟨k + 1, by go_num, by omega, HI1, HB6⟩
            case measure => simp [intOf]; omega
          | false =>
            have hi1 : insR l q (k + 1) = 11 := by rw [HSX.out]; simp
            have hrv : r = 11 := by
              have h2 := HST.out (by rw [hi1]; decide)
              rw [hi1] at h2
              rw [← HRR.out, h2, if_pos (by decide)]
            subst hrv
            go_wp2_with fail
            refine (CD.out _).mono ?_
            rintro e w6 ⟨rfl, hb6⟩
            have HB6 := Lib.hid (tr3 HB5.out hb6)
            clear hb6
            go_wp2_with fail
            go_ret
            exact ⟨rfl, HB6.out⟩
        · have hcb : (cc == 0) = false := by simpa using hc0
          have hcn : (cc != 0) = true := by simpa using hc0
          have hi1 : insR l q (k + 1) = cc := by rw [HSX.out, if_pos hc0]
          have hrv : r = cc := by
            have h2 := HST.out (by rw [hi1]; exact hc0)
            rw [hi1] at h2
            rw [← HRR.out, h2, if_pos hc0]
          subst hrv
          go_wp2_with fail
          go_ret
          exact ⟨rfl, HB5.out⟩
      · obtain rfl : k = n := by omega
        obtain ⟨b, o, rfl, hbl, c0, c1, c2, c3⟩ := RV.four (HR0.out.below HB.out) (k - 1) (by omega)
        obtain ⟨⟨op, A, B, C⟩, hx⟩ : ∃ x, l.getD (k - 1) d4 = x := ⟨_, rfl⟩
        have hrr := HRR.out
        rw [hx] at c0 hrr
        rw [if_neg (by rw [HI.out]; decide)] at hrr
        have hk1 : ((k - 1 : Nat) : Int) = (k : Int) - 1 := by omega
        obtain ⟨j, hj⟩ : ∃ j, k - 1 = j := ⟨_, rfl⟩
        rw [hj] at c0 hk1
        have hwr : IntKind.i64.wrap ((k : Int) - 1) = (j : Int) := by rw [IntKind.wrap_i64]; omega
        have hwr2 : wrap64 ((k : Int) - 1) = (j : Int) := by unfold wrap64; omega
        have hkj : (k : Int) - 1 = (j : Int) := by omega
        have hjk : (j : Int) < (k : Int) := by omega
        clear c1 c2 c3 hx HI hk1
        unfold okEnd at hrr
        by_cases o0 : op = 0
        · subst o0
          have : r = 0 := by rw [← hrr]; rfl
          subst this
          clear hrr
          go_wp2_with fail
          go_ret
          exact ⟨rfl, HB.out⟩
        · have o0b : (op == 0) = false := by simpa using o0
          by_cases o1 : op = 18
          · subst o1
            have : r = 0 := by rw [← hrr]; rfl
            subst this
            clear hrr
            go_wp2_with fail
            go_ret
            exact ⟨rfl, HB.out⟩
          · have o1b : (op == 18) = false := by simpa using o1
            by_cases o2 : op = 25
            · subst o2
              have : r = 0 := by rw [← hrr]; rfl
              subst this
              clear hrr
              go_wp2_with fail
              go_ret
              exact ⟨rfl, HB.out⟩
            · have o2b : (op == 25) = false := by simpa using o2
              have : r = 12 := by rw [← hrr, o0b, o1b, o2b]; rfl
              subst this
              clear hrr
              go_wp2_with fail
              go_ret
              exact ⟨rfl, HB.out⟩
  · have h1b : (e1 == 0) = false := by simpa using h1
    have h1n : (e1 != 0) = true := by simpa using h1
    rw [if_pos h1] at hr
    subst hr
    clear h hnl he1
    go_enter Try.func63, Try.ntmps63
    go_wp2_with (go_at_call 73; (refine CL.out.mono ?_); rintro e w' ⟨rfl, rfl⟩)
    go_ret
    exact ⟨rfl, Below.refl _ _⟩
end Go.Proofs.Ytbmndjedgedbdaa.pr
namespace Go.Proofs.Ytbmndjedgedbdaa.pr
open Go.ChangeShapes Go.WideShapes Go.ChangeAt Go.RowKit
open Go.Proofs.Ytbmndjedgedbdaa.bin Go.Proofs.Ytbmndjedgedbdaa.bits Go.Proofs.Ytbmndjedgedbdaa.ins
set_option linter.unusedVariables false
set_option linter.unusedSimpArgs false
set_option maxRecDepth 20000 in
set_option maxHeartbeats 4000000 in
theorem check_v (m : Int) (a : Option Addr) (n c : Nat) (L : List (List I4)) (r : Int) (w : World) (h : PM w (.slice a n c) L) (hr : prE m L = r) :
    Calls Try.prog 46 #[.agg #[.int .i64 m, .slice a n c]] w fun e w' => e = .returned (.int .i64 r) ∧ Below w.heap.size w w' := by
  obtain ⟨hnl, hnc, hcm⟩ := h.len
  unfold maxLen at hcm
  have HR0 := Lib.hid h
  have HNL := Lib.hid hnl
  unfold prE at hr
  rw [← hnl] at hr
  obtain ⟨e1, he1⟩ : ∃ e, cntE m n = e := ⟨_, rfl⟩
  rw [he1] at hr
  have CL := Lib.hid (fun w => counts_v m n e1 w he1)
  obtain ⟨W, hW⟩ : ∃ W, w.alloc (.cells #[.int .i64 m, .slice a n c] 24) = W := ⟨_, rfl⟩
  have hb0 : Below w.heap.size w W := by rw [← hW]; go_grown
  have HP := Lib.hid (show W.heap[w.heap.size]? = some (.cells #[.int .i64 m, .slice a n c] 24 (0, 0)) by rw [← hW]; exact heap_new _ _ _)
  have hp0 : W.cell? ⟨w.heap.size, 0, none⟩ = some (.int .i64 m) := cel HP.out 0
  have hp1 : W.cell? ⟨w.heap.size, 1, none⟩ = some (.slice a n c) := cel HP.out 1
  have hs1 : w.heap.size < W.heap.size := by rw [← hW]; simp
  have HW := Lib.hid hW
  by_cases h1 : e1 = 0
  · subst h1
    rw [if_neg (by decide)] at hr
    have hn1 : n ≤ 16 := by
      unfold cntE at he1
      by_cases h0 : m < 0 ∨ 256 < m
      · rw [if_pos h0] at he1; omega
      · rw [if_neg h0] at he1
        by_cases h2 : n = 0
        · omega
        · rw [if_neg h2] at he1
          by_cases h3 : 16 < n
          · rw [if_pos h3] at he1; omega
          · omega
    have HRR := Lib.hid hr
    have h0 : Hid (Below w.heap.size w W) := Lib.hid hb0
    have h00 : Hid (Below W.heap.size W W) := Lib.hid (Below.refl _ _)
    clear h hnl hr he1 hW hb0
    go_enter Try.func46, Try.ntmps46
    go_wp2_with fail
    rw [HW.out]
    refine (CL.out _).mono ?_
    rintro e w' ⟨rfl, rfl⟩
    go_wp2_with fail
    clear hp0 hp1
    go_loopw [19] (fun i wr => ∃ k : Nat, i = .int .i64 (k : Int) ∧ k ≤ n ∧ Hid (fnR L k = 0) ∧ Hid (Below W.heap.size W wr)) (fun i _ => n - (intOf i).toNat)
    case atStart => exact ⟨0, rfl, by omega, Lib.hid rfl, h00⟩
    case round =>
      clear h00
      obtain ⟨k, rfl, hk, HI, HB⟩ := hrel
      by_cases hlt : k < n
      · obtain ⟨b, o, ai, ci, rfl, hbl, c0, hrow⟩ := (HR0.out.below (tr3 h0.out HB.out)).row k hlt
        obtain ⟨hp0, hp1⟩ : wr.cell? ⟨w.heap.size, 0, none⟩ = some (.int .i64 m) ∧ wr.cell? ⟨w.heap.size, 1, none⟩ = some (.slice (some ⟨b, o, none⟩) n c) := ⟨cel (kb HP.out HB.out) 0, cel (kb HP.out HB.out) 1⟩
        have hst := fnR_stay L (k + 1) n (by omega)
        have hsx : fnR L (k + 1) = fnE (L.getD k []) L.length := by rw [fnR, if_neg (by rw [HI.out]; decide)]
        rw [← HNL.out] at hsx
        obtain ⟨l, hx⟩ : ∃ x, L.getD k [] = x := ⟨_, rfl⟩
        rw [hx] at c0 hsx hrow
        obtain ⟨cc, hcc⟩ : ∃ cc, fnE l n = cc := ⟨_, rfl⟩
        rw [hcc] at hsx
        have CC := Lib.hid (fn_v ai l.length ci n l cc wr hrow (by omega) hcc)
        have HST := Lib.hid hst
        have HSX := Lib.hid hsx
        have hplI : (k : Int) < (n : Int) := by omega
        clear hst hsx hx hcc hrow
        go_wp2_with fail
        refine CC.out.mono ?_
        rintro e w5 ⟨rfl, hb5⟩
        have HB5 := Lib.hid (tr3 HB.out hb5)
        clear hb5 c0 hp0 hp1
        by_cases hc0 : cc = 0
        · subst hc0
          have HI1 : Hid (fnR L (k + 1) = 0) := Lib.hid (by rw [HSX.out])
          go_wp2_with fail
          go_roundw
          case rel => exact ⟨k + 1, by go_num, by omega, HI1, HB5⟩
          case measure => simp [intOf]; omega
        · have hcb : (cc == 0) = false := by simpa using hc0
          have hcn : (cc != 0) = true := by simpa using hc0
          have hi1 : fnR L (k + 1) = cc := HSX.out
          have hrv : r = cc := by
            have h2 := HST.out (by rw [hi1]; exact hc0)
            rw [hi1] at h2
            rw [← HRR.out, h2]
          subst hrv
          go_wp2_with fail
          go_ret
          exact ⟨rfl, tr3 h0.out HB5.out⟩
      · obtain rfl : k = n := by omega
        have : r = 0 := by rw [← HRR.out, HI.out]
        subst this
        go_wp2_with fail
        go_ret
        exact ⟨rfl, tr3 h0.out HB.out⟩
  · have h1b : (e1 == 0) = false := by simpa using h1
    have h1n : (e1 != 0) = true := by simpa using h1
    rw [if_pos h1] at hr
    subst hr
    clear h hnl he1 hW
    go_enter Try.func46, Try.ntmps46
    go_wp2_with fail
    rw [HW.out]
    refine (CL.out _).mono ?_
    rintro e w' ⟨rfl, rfl⟩
    go_wp2_with fail
    go_ret
    exact ⟨rfl, hb0⟩
end Go.Proofs.Ytbmndjedgedbdaa.pr
