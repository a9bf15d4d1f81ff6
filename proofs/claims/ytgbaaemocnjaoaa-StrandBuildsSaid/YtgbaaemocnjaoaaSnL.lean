/- Marks, and that the laws of layer 30 begin. -/
import Derived.Test.YtgbaaemocnjaoaaSnK
namespace Go.Proofs.Ytgbaaemocnjaoaa.sn
open Go.ChangeShapes Go.WideShapes Go.ChangeAt Go.RowKit
open Go.Proofs.Ytgbaaemocnjaoaa.ro
attribute [local go_sem ↓] Go.wp_at_zero Go.wp_at_succ
set_option linter.unusedVariables false
set_option linter.unusedSimpArgs false
theorem step_appB {α : Type} {k : Nat} {en : α → List Value} {ops : Array Oper} {o : Oper} {a : Act} {w : World} {K : Act → World → Prop} {Q : Exit → Act → World → Prop} {E : Prop} (hgd : o.guard = none) (s x : Operand) (t e : TypeId) (z : Value) (bytes : Nat)
    (ho : o.op = .call { callee := .builtin .append, args := #[s, x], argTypes := #[t, t] }) (ht : Try.prog.underlying t = some (.slice e)) (hinfo : (Try.prog.info? e).map (fun i => (i.zero, i.size, i.bytes)) = some (some z, k, bytes)) (hzs : z.cells.size = k) (hby : bytes ≤ 1000) (hr : Rec k en)
    (B : Nat) (v : Value) (xs : List α) (p : α) (hs : a.eval s = v) (g c : Nat) (hx : a.eval x = .slice (some ⟨g, 0, none⟩) 1 c) (hown : OR k en w B e v xs) (hu : ∀ j u, (en p)[j]? = some u → w.cell? ((⟨g, 0, none⟩ : Addr).add j) = some u) (hsm : xs.length ≤ 1000000) (hB : B ≤ w.heap.size)
    (h : ∀ va vn vc w', Hid (OR k en w' B e (.slice va vn vc) (xs ++ [p])) → w.grownBy w' v.ownBlock → K (a.put o.dst (.slice va vn vc)) w') :
    if Region.wanted o (yielded ops a.tmps) = true then Oper.wp Try.prog o a w K Q else E := by
  have hw : Region.wanted o (yielded ops a.tmps) = true := by simp [Region.wanted, hgd]
  rw [if_pos hw]
  obtain ⟨i0, hi, hz0, hz1, hz2⟩ := info_parts hinfo
  have hb1 : (xs.length + 1) * bytes ≤ 140737488355328 := by
    have := Nat.mul_le_mul (show xs.length + 1 ≤ 1000001 by omega) hby
    omega
  obtain ⟨v', w', r1, r2, r3, _, r5⟩ := run_append_own_at (P := Try.prog) w B t o.type e i0 z k bytes ht hi hz0 hz1 hz2 hzs hr.1 v xs.length _ hown ⟨g, 0, none⟩ 1 c (en p) (by rw [hr.2.1]; omega) hu (hr.2.2 p) (by unfold maxLen; omega) hb1 hB
  have r2' : OR k en w' B e v' (xs ++ [p]) := by unfold OR; rw [flat_snoc, List.length_append]; exact r2
  obtain ⟨va, vn, vc, rfl⟩ := form3 r2'
  unfold Oper.wp execOp
  simp only [ho, resolve, invoke, builtin, Sem.run_bind, Sem.run_pure, Result.andThen_ok, List.map_toArray, List.map_cons, List.map_nil, hs, hx, r1]
  exact h va vn vc w' (Lib.hid r2') r3
theorem infM : (Try.prog.info? 45).map (fun i => (i.zero, i.size, i.bytes)) = some (some (.agg #[.int .i64 0, .int .i64 0, .int .i64 0]), 3, 24) := by kernel_rfl
def RowP (w : World) (L : List (Int × Int × Int)) (e : Ending) (w' : World) : Prop := ∃ a n c, e = .returned (.slice a n c) ∧ RV 3 enN w' (.slice a n c) L ∧ Below w.heap.size w w'
set_option maxHeartbeats 1000000 in
set_option maxRecDepth 20000 in
theorem marks_of (w : World) (a : Option Addr) (n cap : Nat) (L : List (Int × Int × Int)) (h : RV 3 enN w (.slice a n cap) L) (hn : n ≤ 5000) :
    Calls Try.prog 8 #[.slice a n cap] w (RowP w L) := by
  have hL := (RV.len h).1
  have HL := Lib.hid hL
  have HV := Lib.hid h
  clear hL h
  go_enter Try.func8, Try.ntmps8
  go_wp2_with fail
  go_loopw [3, 4] (fun v i wr => ∃ (k : Nat) (va : Option Addr) (vn vc : Nat), k ≤ n ∧ i = .int .i64 (k : Int) ∧ v = .slice va vn vc ∧ Hid (OR 3 enN wr w.heap.size 45 (.slice va vn vc) (L.take k) ∧ Below w.heap.size w wr)) (fun _ i _ => n - (intOf i).toNat)
  case atStart => exact ⟨0, none, 0, 0, by omega, rfl, rfl, Lib.hid ⟨OR.nil _ _ _, Below.refl _ _⟩⟩
  case round =>
    obtain ⟨k, va, vn, vc, hk, rfl, rfl, HR⟩ := hrel
    by_cases hlt : k < n
    · obtain ⟨y, hy⟩ : ∃ y, L[k]? = some y := ⟨_, List.getElem?_eq_getElem (by have := HL.out; omega)⟩
      obtain ⟨g, o, rfl, hg, hc⟩ := HV.out.at k y hy
      have hb0 := HR.out.2
      have y0 : wr.cell? ⟨g, o + k * 3, none⟩ = some (.int .i64 y.1) := (hb0.cell (p := ⟨g, o + k * 3, none⟩) hg).trans (by simpa using hc 0 _ rfl)
      have y1 : wr.cell? ⟨g, o + k * 3 + 1, none⟩ = some (.int .i64 y.2.1) := (hb0.cell (p := ⟨g, o + k * 3 + 1, none⟩) hg).trans (by simpa [Nat.add_assoc] using hc 1 _ rfl)
      have y2 : wr.cell? ⟨g, o + k * 3 + 2, none⟩ = some (.int .i64 y.2.2) := (hb0.cell (p := ⟨g, o + k * 3 + 2, none⟩) hg).trans (by simpa [Nat.add_assoc] using hc 2 _ rfl)
      have hts : Hid (L.take (k + 1) = L.take k ++ [y]) := Lib.hid (by
        have hkL := (List.getElem?_eq_some_iff.1 hy).1
        rw [List.take_succ_eq_append_getElem hkL]
        rw [List.getElem?_eq_getElem hkL] at hy
        simp at hy
        rw [hy])
      have HGo : Hid (∀ w', Below wr.heap.size wr w' → OR 3 enN w' w.heap.size 45 (.slice va vn vc) (L.take k) ∧ w.heap.size ≤ w'.heap.size ∧ Below w.heap.size w w') := Lib.hid fun w' hb => ⟨HR.out.1.below hb, Nat.le_trans hb0.size hb.size, hb0.trans (hb.mono hb0.size)⟩
      have HRow : Hid (∀ g, (Value.slice va vn vc).ownBlock = some g → w.heap.size ≤ g) := Lib.hid fun g e => (HR.out.1.lt g e).1
      have hlen : (L.take k).length ≤ 1000000 := by have := List.length_take_le k L; omega
      have hgb : g < wr.heap.size := Nat.lt_of_lt_of_le hg hb0.size
      clear hy hc hb0 HR hg
      go_wp2_with fail
      go_region_law ((refine step_appB rfl _ _ 32 45 _ 24 (by rfl) Try.underlying32 infM rfl (by decide) recN w.heap.size (.slice va vn vc) (L.take k) y (by rfl) wr.heap.size 1 (by rfl) (HGo.out _ (by go_grown)).1 (rec_new (by go_simp) rfl) hlen (HGo.out _ (by go_grown)).2.1 ?_; intro vb vm vd w4 ho4 hg4; have hb4 : Below w.heap.size w w4 := Below.grown (HGo.out _ (by go_grown)).2.2 hg4 (HGo.out _ (by go_grown)).2.1 HRow.out))
      all_goals
        have HN : Hid (OR 3 enN w4 w.heap.size 45 (.slice vb vm vd) (L.take (k + 1)) ∧ Below w.heap.size w w4) := Lib.hid ⟨by rw [hts.out]; exact ho4.out, hb4⟩
        clear ho4 hg4 hb4 y0 y1 y2 HGo HRow hlen
        go_wp2_with fail
        go_roundw
        case rel => exact ⟨k + 1, vb, vm, vd, by omega, by go_num, rfl, HN⟩
        case measure => simp [intOf]; omega
    · obtain rfl : k = n := by omega
      go_wp2_with fail
      go_ret
      have e : L.take k = L := List.take_of_length_le (by have := HL.out; omega)
      have h := HR.out
      rw [e] at h
      exact ⟨va, vn, vc, rfl, OR.rv recN h.1, h.2⟩
def nextF (k a : Int) (s : PS) : PS :=
  match s.S.reverse with
  | [] => s
  | y :: R =>
    if k = 1 ∨ k = 2 ∨ k = 3 then accP R.reverse y k a s
    else if k = 4 then forkP R.reverse y s
    else if k = 6 then meetP R.reverse y s
    else if k = 7 then loopP R.reverse y a s
    else if k = 11 ∨ k = 12 then goP R.reverse y k a s
    else match R with
      | [] => s
      | z :: Q => if k = 5 then retP Q.reverse z y s else if k = 8 then leaveP Q.reverse z y s else if k = 9 then iterP Q.reverse z y s else doneP Q.reverse z y s
theorem Tk.next {k a : Int} {s s' : PS} (h : Tk k a s s') : s' = nextF k a s := by
  cases h with
  | acc T y hs hk => have e : s.S.reverse = y :: T.reverse := by simp [hs]
                     unfold nextF; rw [e]; simp only; rw [if_pos hk, List.reverse_reverse]
  | fork T y hs hk => have e : s.S.reverse = y :: T.reverse := by simp [hs]
                      unfold nextF; rw [e]; simp only; rw [if_neg (by omega), if_pos hk, List.reverse_reverse]
  | ret T z y hs hk => have e : s.S.reverse = y :: z :: T.reverse := by simp [hs]
                       unfold nextF; rw [e]; simp only; rw [if_neg (by omega), if_neg (by omega), if_neg (by omega), if_neg (by omega), if_neg (by omega), if_pos hk, List.reverse_reverse]
  | meet T y hs hk => have e : s.S.reverse = y :: T.reverse := by simp [hs]
                      unfold nextF; rw [e]; simp only; rw [if_neg (by omega), if_neg (by omega), if_pos hk, List.reverse_reverse]
  | loop T y hs hk => have e : s.S.reverse = y :: T.reverse := by simp [hs]
                      unfold nextF; rw [e]; simp only; rw [if_neg (by omega), if_neg (by omega), if_neg (by omega), if_pos hk, List.reverse_reverse]
  | leave T q l hs hk => have e : s.S.reverse = l :: q :: T.reverse := by simp [hs]
                         unfold nextF; rw [e]; simp only; rw [if_neg (by omega), if_neg (by omega), if_neg (by omega), if_neg (by omega), if_neg (by omega), if_neg (by omega), if_pos hk, List.reverse_reverse]
  | iter T q l hs hk => have e : s.S.reverse = l :: q :: T.reverse := by simp [hs]
                        unfold nextF; rw [e]; simp only; rw [if_neg (by omega), if_neg (by omega), if_neg (by omega), if_neg (by omega), if_neg (by omega), if_neg (by omega), if_neg (by omega), if_pos hk, List.reverse_reverse]
  | done T l y hs hk => have e : s.S.reverse = y :: l :: T.reverse := by simp [hs]
                        unfold nextF; rw [e]; simp only; rw [if_neg (by omega), if_neg (by omega), if_neg (by omega), if_neg (by omega), if_neg (by omega), if_neg (by omega), if_neg (by omega), if_neg (by omega), List.reverse_reverse]
  | go T y hs hk => have e : s.S.reverse = y :: T.reverse := by simp [hs]
                    unfold nextF; rw [e]; simp only; rw [if_neg (by omega), if_neg (by omega), if_neg (by omega), if_neg (by omega), if_pos hk, List.reverse_reverse]
def runF (s : PS) : List (Int × Int × Int) → PS
  | [] => s
  | m :: l => runF (nextF m.1 m.2.1 s) l
theorem Steps.run : ∀ {l : List (Int × Int × Int)} {s s' : PS}, Steps s l s' → s' = runF s l
  | [], s, s', h => h.symm
  | m :: l, s, s', h => by
    obtain ⟨f, s1, _, _, h3, h4⟩ := h
    rw [h4.run, h3.next]; rfl
def topF (s : PS) : Fm := s.S.reverse.headD rootF
theorem topF_of {s : PS} {f : Fm} (h : ∃ T, s.S = T ++ [f]) : f = topF s := by
  obtain ⟨T, e⟩ := h
  unfold topF; rw [e]; simp
theorem Fails.run {L : List (Int × Int × Int)} {c : Int} (h : Fails L c) : ∃ k, k < L.length ∧ errC (L.getD k (0, 0, 0)).1 (L.getD k (0, 0, 0)).2.1 (topF (runF s0 (L.take k))) (runF s0 (L.take k)).P.length = c := by
  obtain ⟨k, f, s, hk, h1, h2, h3⟩ := h
  rw [topF_of h2, h1.run] at h3
  exact ⟨k, hk, h3⟩
def wkL : List (Int × Int × Int) := [(4, 0, 0), (3, 5, 0), (5, 0, 0), (6, 0, 0)]
theorem wk_ok : ¬ ∃ c, c ≠ 0 ∧ Fails wkL c := by
  rintro ⟨c, hc, h⟩
  obtain ⟨k, hk, e⟩ := h.run
  have hk : k < 4 := hk
  have h4 : k = 0 ∨ k = 1 ∨ k = 2 ∨ k = 3 := by omega
  rcases h4 with rfl | rfl | rfl | rfl <;> exact hc (e.symm.trans (by decide))
theorem wk_run : (runF s0 wkL).P = [[], [0], [0], [2, 1]] ∧ (runF s0 wkL).N.length = 4 ∧ (runF s0 wkL).A = [(1, -1, true)] := by decide
end Go.Proofs.Ytgbaaemocnjaoaa.sn
