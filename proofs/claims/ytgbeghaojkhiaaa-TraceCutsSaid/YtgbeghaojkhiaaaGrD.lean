/- Rows as a whole, the last cell up to a stage, a place's node (layer 33): the program. -/
import Derived.Test.YtgbeghaojkhiaaaGrC
namespace Go.Proofs.Ytgbeghaojkhiaaa.gr
open Go.ChangeShapes Go.WideShapes Go.ChangeAt Go.RowKit
open Go.Proofs.Ytgbeghaojkhiaaa.ro
set_option linter.unusedVariables false
set_option linter.unusedSimpArgs false
theorem step_appB {α : Type} {k : Nat} {en : α → List Value} {ops : Array Oper} {o : Oper} {a : Act} {w : World} {K : Act → World → Prop} {Q : Exit → Act → World → Prop} {E : Prop} (B : Nat) (hgd : o.guard = none) (s x : Operand) (t e : TypeId) (z : Value) (bytes : Nat)
    (ho : o.op = .call { callee := .builtin .append, args := #[s, x], argTypes := #[t, t] }) (ht : Try.prog.underlying t = some (.slice e)) (hinfo : (Try.prog.info? e).map (fun i => (i.zero, i.size, i.bytes)) = some (some z, k, bytes)) (hzs : z.cells.size = k) (hby : bytes ≤ 1000) (hr : Rec k en)
    (v : Value) (xs : List α) (p : α) (hs : a.eval s = v) (g c : Nat) (hx : a.eval x = .slice (some ⟨g, 0, none⟩) 1 c) (hown : OR k en w B e v xs) (hB : B ≤ w.heap.size) (hu : ∀ j u, (en p)[j]? = some u → w.cell? ((⟨g, 0, none⟩ : Addr).add j) = some u) (hsm : xs.length ≤ 1000000)
    (h : ∀ va vn vc w', Hid (OR k en w' B e (.slice va vn vc) (xs ++ [p])) → w.grownBy w' v.ownBlock → Hid ((Value.slice va vn vc).ownBlock = v.ownBlock ∨ (Value.slice va vn vc).ownBlock = some w.heap.size) → K (a.put o.dst (.slice va vn vc)) w') :
    if Region.wanted o (yielded ops a.tmps) = true then Oper.wp Try.prog o a w K Q else E := by
  have hw : Region.wanted o (yielded ops a.tmps) = true := by simp [Region.wanted, hgd]
  rw [if_pos hw]
  obtain ⟨i0, hi, hz0, hz1, hz2⟩ := info_parts hinfo
  have hb1 : (xs.length + 1) * bytes ≤ 140737488355328 := by
    have := Nat.mul_le_mul (show xs.length + 1 ≤ 1000001 by omega) hby
    omega
  obtain ⟨v', w', r1, r2, r3, _, r5⟩ := run_append_own_at (P := Try.prog) w B t o.type e i0 z k bytes ht hi hz0 hz1 hz2 hzs hr.1 v xs.length _ hown ⟨g, 0, none⟩ 1 c (en p) (by rw [hr.2.1]; omega) hu (hr.2.2 p) (by unfold maxLen; omega) hb1 hB
  have r2' : OR k en w' B e v' (xs ++ [p]) := by unfold OR; rw [flat_snoc, List.length_append]; exact r2
  obtain ⟨va, vc, hvv⟩ := OR.form r2'
  obtain ⟨vn, hvn⟩ : ∃ vn, (xs ++ [p]).length = vn := ⟨_, rfl⟩
  rw [hvn] at hvv
  subst hvv
  unfold Oper.wp execOp
  simp only [ho, resolve, invoke, builtin, Sem.run_bind, Sem.run_pure, Result.andThen_ok, List.map_toArray, List.map_cons, List.map_nil, hs, hx, r1]
  exact h va vn vc w' (Lib.hid r2') r3 (Lib.hid r5)
theorem rec_new {α : Type} {en : α → List Value} {w : World} {cs : Array Value} {e g : Nat} (hg : w.heap.size = g) {p : α} (hp : cs.toList = en p) : ∀ j u, (en p)[j]? = some u → (w.alloc (.cells cs e)).cell? ((⟨g, 0, none⟩ : Addr).add j) = some u := by
  intro j u hu
  subst hg
  rw [← hp] at hu
  have h2 : cs[j]? = some u := by simpa using hu
  have := heap_new w (.cells cs e)
  rw [Go.WideShapes.add_plain, Nat.zero_add]
  simp only [World.cell?]
  rw [this]
  exact h2
set_option maxHeartbeats 4000000 in
theorem check_v (a : Option Addr) (n c : Nat) (L : List (List C2)) (r : Int) (w : World) (h : PM w (.slice a n c) L) (hr : chkE L = r) :
    Calls Try.prog 37 #[.slice a n c] w fun e w' => e = .returned (.int .i64 r) ∧ Below w.heap.size w w' := by
  obtain ⟨hnl, hnc, hcm⟩ := h.len
  unfold maxLen at hcm
  have HR0 := Lib.hid h
  have HNL := Lib.hid hnl
  unfold chkE at hr
  rw [← hnl] at hr
  by_cases h1 : 100 < n
  · rw [if_pos h1] at hr
    subst hr
    have h1' : (100 : Int) < n := by omega
    clear h hnl
    go_enter Try.func37, Try.ntmps37
    go_wp2_with fail
    all_goals first | (go_ret; exact ⟨rfl, Below.refl _ _⟩) | skip
  rw [if_neg h1] at hr
  have h1' : ¬ (100 : Int) < n := by omega
  have h1'' : decide ((100 : Int) < n) = false := by simpa using h1'
  have HRR := Lib.hid hr
  have h0 : Hid (Below w.heap.size w w) := Lib.hid (Below.refl _ _)
  clear h hnl hr
  go_enter Try.func37, Try.ntmps37
  go_wp2_with fail
  go_loopw [11] (fun i wr => ∃ k : Nat, i = .int .i64 (k : Int) ∧ k ≤ n ∧ Hid (rowsN L k = 0) ∧ Hid (Below w.heap.size w wr)) (fun i _ => n - (intOf i).toNat)
  case atStart => exact ⟨0, rfl, by omega, Lib.hid rfl, h0⟩
  case round =>
    clear h0
    obtain ⟨k, rfl, hk, HI, HB⟩ := hrel
    by_cases hlt : k < n
    · obtain ⟨b, o, ai, ci, rfl, hbl, c0, hrow⟩ := (HR0.out.below HB.out).row k hlt
      have hst := rowsN_stay L (k + 1) n (by omega)
      have hsx : rowsN L (k + 1) = rowE (L.getD k []) := by rw [rowsN, if_neg (by rw [HI.out]; decide)]
      obtain ⟨l, hx⟩ : ∃ x, L.getD k [] = x := ⟨_, rfl⟩
      rw [hx] at c0 hsx hrow
      obtain ⟨cc, hcc⟩ : ∃ cc, rowE l = cc := ⟨_, rfl⟩
      rw [hcc] at hsx
      have CC := Lib.hid (row_v ai l.length ci l cc wr hrow hcc)
      have HST := Lib.hid hst
      have HSX := Lib.hid hsx
      have hplI : (k : Int) < (n : Int) := by omega
      clear hst hsx hx hcc hrow
      go_wp2_with fail
      refine CC.out.mono ?_
      rintro e w5 ⟨rfl, hb5⟩
      have HB5 := Lib.hid (tr3 HB.out hb5)
      clear hb5 c0
      by_cases hc0 : cc = 0
      · subst hc0
        have HI1 : Hid (rowsN L (k + 1) = 0) := Lib.hid (by rw [HSX.out])
        go_wp2_with fail
        go_roundw
        case rel => exact ⟨k + 1, by go_num, by omega, HI1, HB5⟩
        case measure => simp [intOf]; omega
      · have hcb : (cc == 0) = false := by simpa using hc0
        have hcn : (cc != 0) = true := by simpa using hc0
        have hi1 : rowsN L (k + 1) = cc := HSX.out
        have hrv : r = cc := by
          have h2 := HST.out (by rw [hi1]; exact hc0)
          rw [hi1] at h2
          rw [← HRR.out, h2]
        subst hrv
        go_wp2_with fail
        go_ret
        exact ⟨rfl, HB5.out⟩
    · obtain rfl : k = n := by omega
      have hrr : r = 0 := by rw [← HRR.out, HI.out]
      subst hrr
      go_wp2_with fail
      go_ret
      exact ⟨rfl, HB.out⟩
set_option maxHeartbeats 4000000 in
theorem upto_v (a : Option Addr) (n c : Nat) (l : List C2) (s : Int) (w : World) (h : RV 2 enC w (.slice a n c) l) :
    Calls Try.prog 44 #[.slice a n c, .int .i64 s] w fun e w' => e = .returned (.int .i64 (upTo l s l.length : Nat)) ∧ Below w.heap.size w w' := by
  obtain ⟨hnl, hnc, hcm⟩ := h.len
  unfold maxLen at hcm
  rw [← hnl]
  have HR0 := Lib.hid h
  have h0 : Hid (Below w.heap.size w w) := Lib.hid (Below.refl _ _)
  have HNL := Lib.hid hnl
  obtain ⟨P, hP⟩ : ∃ P : Ending → World → Prop, (fun (e : Ending) (w' : World) => e = .returned (.int .i64 (upTo l s n : Nat)) ∧ Below w.heap.size w w') = P := ⟨_, rfl⟩
  have HF : Hid (∀ j w', j = upTo l s n → Below w.heap.size w w' → P (.returned (.int .i64 (j : Nat))) w') := Lib.hid (by rintro j w' rfl hb; rw [← hP]; exact ⟨rfl, hb⟩)
  rw [hP]
  clear h hnl hP
  go_enter Try.func44, Try.ntmps44
  go_wp2_with fail
  go_loopw [5, 10] (fun q i wr => ∃ k j : Nat, i = .int .i64 (k : Int) ∧ q = .int .i64 (j : Int) ∧ k ≤ n ∧ Hid (j = upTo l s k) ∧ Hid (Below w.heap.size w wr)) (fun q i _ => n - (intOf i).toNat)
  case atStart => exact ⟨0, 0, rfl, rfl, by omega, Lib.hid rfl, h0⟩
  case round =>
    clear h0
    obtain ⟨k, j, rfl, rfl, hk, HI, HB⟩ := hrel
    by_cases hlt : k < n
    · obtain ⟨b, o, rfl, hbl, c0, c1⟩ := RV.two (HR0.out.below HB.out) k hlt
      obtain ⟨⟨s1, x1⟩, hx1⟩ : ∃ x, l.getD k d2 = x := ⟨_, rfl⟩
      have hu : upTo l s (k + 1) = if s1 ≤ s then k else upTo l s k := by rw [upTo, hx1]
      rw [hx1] at c0 c1
      obtain ⟨W2, hW2⟩ : ∃ W2, wr.alloc (.cells #[.int .i64 s1, .bool x1] 37) = W2 := ⟨_, rfl⟩
      have hb2 : Below wr.heap.size wr W2 := by rw [← hW2]; go_grown
      have hX2 : W2.heap[wr.heap.size]? = some (.cells #[.int .i64 s1, .bool x1] 37 (0, 0)) := by rw [← hW2]; exact heap_new _ _
      obtain ⟨p0, p1⟩ := cel2 hX2
      have HB2 := Lib.hid (tr3 HB.out hb2)
      have HU := Lib.hid hu
      have hplI : (k : Int) < (n : Int) := by omega
      clear hu hx1 hb2 hX2 HB
      by_cases hs : s1 ≤ s
      · have HI1 : Hid (k = upTo l s (k + 1)) := Lib.hid (by rw [HU.out, if_pos hs])
        go_wp2_with fail
        go_roundw
        case rel => exact ⟨k + 1, k, by go_num, rfl, by omega, HI1, HB2⟩
        case measure => simp [intOf]; omega
      · have HI1 : Hid (j = upTo l s (k + 1)) := Lib.hid (by rw [HU.out, if_neg hs]; exact HI.out)
        go_wp2_with fail
        go_roundw
        case rel => exact ⟨k + 1, j, by go_num, rfl, by omega, HI1, HB2⟩
        case measure => simp [intOf]; omega
    · obtain rfl : k = n := by omega
      have HF1 := HF.out j wr HI.out HB.out
      go_wp2_with fail
      all_goals first | exact HF1 | (go_ret; exact HF1)
set_option maxHeartbeats 4000000 in
theorem node_of (v : Value) (L : List (List C2)) (p : Pl) (w : World) (h : PM w v L) (hp : In L p) :
    Calls Try.prog 39 #[v, .agg #[.int .i64 p.1, .int .i64 p.2]] w fun e w' => e = .returned (cx p.1 (st L p)) ∧ Below w.heap.size w w' := by
  obtain ⟨i, k⟩ := p
  obtain ⟨hi, hk⟩ := hp
  simp only at hi hk
  obtain ⟨a, c, rfl, h1, h2⟩ := h.form
  unfold maxLen at h2
  obtain ⟨W, hW⟩ : ∃ W, w.alloc (.cells #[.int .i64 (i : Int), .int .i64 (k : Int)] 94) = W := ⟨_, rfl⟩
  have hb : Below w.heap.size w W := by rw [← hW]; go_grown
  obtain ⟨b, o, ai, ci, rfl, hbl, c0, hrow⟩ := (h.below hb).row i hi
  have hrl := hrow.len
  unfold maxLen at hrl
  obtain ⟨b', o', rfl, hbl', d0, d1⟩ := RV.two hrow k (by omega)
  have hX : W.heap[w.heap.size]? = some (.cells #[.int .i64 (i : Int), .int .i64 (k : Int)] 94 (0, 0)) := by rw [← hW]; exact heap_new _ _
  obtain ⟨p0, p1⟩ := cel2 hX
  obtain ⟨m, hm⟩ : ∃ m, (L.getD i []).length = m := ⟨_, rfl⟩
  obtain ⟨n, hn⟩ : ∃ n, L.length = n := ⟨_, rfl⟩
  obtain ⟨s1, hs1⟩ : ∃ s1, ((L.getD i []).getD k d2).1 = s1 := ⟨_, rfl⟩
  rw [hs1] at d0
  rw [hm] at hk hrl
  rw [hn] at hi h1
  rw [hm] at c0
  have hE : cx (i : Int) (st L (i, k)) = cx (i : Int) s1 := by rw [← hs1]; rfl
  simp only [hE]
  rw [hn]
  have hbs : w.heap.size < W.heap.size := lt_of hX
  have hiI : (i : Int) < (n : Int) := by omega
  have hkI : (k : Int) < (m : Int) := by omega
  have HB := Lib.hid hb
  have HN := Lib.hid (fun W9 : World => node_v W9 (i : Int) s1)
  clear hE hX h hb hrow hm hn hs1 d1
  go_enter Try.func39, Try.ntmps39
  go_wp2_with fail
  go_quiet ((go_at_call 16; exact quiet_eq (HN.out _)))
  go_wp2_with fail
  go_ret
  exact ⟨rfl, below_drewN HB.out _⟩
end Go.Proofs.Ytgbeghaojkhiaaa.gr
