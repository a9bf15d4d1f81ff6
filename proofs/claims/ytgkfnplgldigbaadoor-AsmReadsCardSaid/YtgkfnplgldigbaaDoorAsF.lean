/- The program that is written: the document's Read (layer 6). -/
import Derived.Test.YtgkfnplgldigbaaDoorAsE
import Derived.Test.YtgkfnplgldigbaaDoorAsD
import Derived.Test.YtgkfnplgldigbaaDoorPuA
namespace Go.Proofs.YtgkfnplgldigbaaDoor.pr
open Go.ChangeShapes Go.WideShapes Go.ChangeAt Go.RowKit
open Go.Proofs.YtgkfnplgldigbaaDoor.bin Go.Proofs.YtgkfnplgldigbaaDoor.bits Go.Proofs.YtgkfnplgldigbaaDoor.ins
set_option linter.unusedVariables false
set_option linter.unusedSimpArgs false
set_option maxRecDepth 20000 in
set_option maxHeartbeats 800000 in
theorem rcheck_v (m : Int) (a : Option Addr) (n c : Nat) (L : List (List I4)) (w : World) (h : PM w (.slice a n c) L) :
    Calls Tryd.prog 39 #[.agg #[.int .i64 m, .slice a n c]] w fun e w' => e = .returned (.int .i64 (prE m L)) ∧ Below w.heap.size w w' := by
  obtain ⟨hnl, hnc, hcm⟩ := h.len
  by_cases hc : cntE m n = 0
  · have hp : prE m L = fnR L n := by unfold prE; rw [← hnl, if_neg (by rw [hc]; simp)]
    rw [hp]
    exact rcheck_ok m a n c L _ w h hc rfl
  · have hp : prE m L = cntE m n := by unfold prE; rw [← hnl, if_pos hc]
    obtain ⟨r, hr⟩ : ∃ r, cntE m n = r := ⟨_, rfl⟩
    rw [hp, hr]
    rw [hr] at hc
    obtain ⟨W, hW⟩ : ∃ W, w.alloc (.cells #[.int .i64 m, .slice a n c] 32) = W := ⟨_, rfl⟩
    have hb0 : Below w.heap.size w W := by rw [← hW]; go_grown
    have HP := Lib.hid (show W.heap[w.heap.size]? = some (.cells #[.int .i64 m, .slice a n c] 32 (0, 0)) by rw [← hW]; exact heap_new _ _ _)
    have hp0 : W.cell? ⟨w.heap.size, 0, none⟩ = some (.int .i64 m) := cel HP.out 0
    have hp1 : W.cell? ⟨w.heap.size, 1, none⟩ = some (.slice a n c) := cel HP.out 1
    have HW := Lib.hid hW
    have HB := Lib.hid hb0
    rw [← mn_cnt] at hr
    clear h hp hW hb0
    by_cases h1 : m < 0
    · rw [if_pos (.inl h1)] at hr
      subst hr
      clear hp0 hp1 hcm hnl
      go_enter Tryd.func39, Tryd.ntmps39
      go_wp2_with fail
      rw [HW.out]
      have hp0 : W.cell? ⟨w.heap.size, 0, none⟩ = some (.int .i64 m) := cel HP.out 0
      go_wp2_with fail
      go_ret
      exact ⟨rfl, tr3 HB.out (by go_grown)⟩
    · by_cases h2 : 256 < m
      · rw [if_pos (.inr h2)] at hr
        subst hr
        clear hp0 hp1 hcm hnl
        go_enter Tryd.func39, Tryd.ntmps39
        go_wp2_with fail
        rw [HW.out]
        have hp0 : W.cell? ⟨w.heap.size, 0, none⟩ = some (.int .i64 m) := cel HP.out 0
        go_wp2_with fail
        go_ret
        exact ⟨rfl, tr3 HB.out (by go_grown)⟩
      · rw [if_neg (by omega)] at hr
        have CM := Lib.hid (fun w => many_v n 16 r w hr)
        have hrb : (r == 0) = false := by simpa using hc
        have hrn : (r != 0) = true := by simpa using hc
        clear hp0 hp1 hcm hnl hr
        go_enter Tryd.func39, Tryd.ntmps39
        go_wp2_with fail
        rw [HW.out]
        have hp0 : W.cell? ⟨w.heap.size, 0, none⟩ = some (.int .i64 m) := cel HP.out 0
        have hp1 : W.cell? ⟨w.heap.size, 1, none⟩ = some (.slice a n c) := cel HP.out 1
        go_wp2_with fail
        refine (CM.out _).mono ?_
        rintro e w' ⟨rfl, rfl⟩
        clear hp0 hp1
        go_wp2_with fail
        go_ret
        exact ⟨rfl, tr3 HB.out (by go_grown)⟩
end Go.Proofs.YtgkfnplgldigbaaDoor.pr
namespace Go.Proofs.YtgkfnplgldigbaaDoor.asm
open Go.ChangeShapes Go.WideShapes Go.ChangeAt Go.RowKit
open Go.Proofs.YtgkfnplgldigbaaDoor.st Go.Proofs.YtgkfnplgldigbaaDoor.wd
open Go.Proofs.YtgkfnplgldigbaaDoor.pr (enI recI infoI infoC PM OP own_ltP NB rec_new step_appR wpList_appP)
set_option linter.unusedVariables false
set_option linter.unusedSimpArgs false
section
variable {α : Type} {k : Nat} {en : α → List Value}
theorem OR.mono {w : World} {B B' e : Nat} {v : Value} {xs : List α} (h : OR k en w B e v xs) (hb : B' ≤ B) : OR k en w B' e v xs := by
  obtain ⟨hl, h1 | ⟨g, cap, cur, h1, h2, h3⟩⟩ := h
  · exact ⟨hl, .inl h1⟩
  · exact ⟨hl, .inr ⟨g, cap, cur, h1, Nat.le_trans hb h2, h3⟩⟩
/-- 'append([]T{}, x...)': all other blocks stay. -/
theorem step_copyG {ops : Array Oper} {o : Oper} {a : Act} {w : World} {K : Act → World → Prop} {Q : Exit → Act → World → Prop} {E : Prop} (hgd : o.guard = none) (s x : Operand) (t e : TypeId) (z : Value) (bytes : Nat)
    (ho : o.op = .call { callee := .builtin .append, args := #[s, x], argTypes := #[t, t] }) (ht : Tryd.prog.underlying t = some (.slice e)) (hinfo : (Tryd.prog.info? e).map (fun i => (i.zero, i.size, i.bytes)) = some (some z, k, bytes)) (hzs : z.cells.size = k) (hby : bytes ≤ 1000) (hr : Rec k en)
    (g : Nat) (xs : List α) (v : Value) (hs : a.eval s = .slice (some ⟨g, 0, none⟩) 0 0) (hown : w.heap[g]? = some (.cells #[] e (0, 0))) (hx : a.eval x = v) (hv : RV k en w v xs) (hsm : xs.length ≤ 1000000)
    (h : ∀ v' w', Hid (OR k en w' g e v' xs) → w.grownBy w' (some g) → K (a.put o.dst v') w') :
    if Region.wanted o (yielded ops a.tmps) = true then Oper.wp Tryd.prog o a w K Q else E := by
  have hw : Region.wanted o (yielded ops a.tmps) = true := by simp [Region.wanted, hgd]
  rw [if_pos hw]
  have key : ∃ v' w', (Builtin.append_ #[t, t] o.type #[.slice (some ⟨g, 0, none⟩) 0 0, v]).run Tryd.prog w = .ok v' w' ∧ OR k en w' g e v' xs ∧ w.grownBy w' (some g) := by
    obtain ⟨i0, hi, hz0, hz1, hz2⟩ := info_parts hinfo
    have hrow : w.ownsRow g e k (.slice (some ⟨g, 0, none⟩) 0 0) 0 [] := ⟨by simp, .inr ⟨g, 0, #[], rfl, Nat.le_refl _, hown, Nat.le_refl _, by simp, by simp, by simp⟩⟩
    have hgl : g < w.heap.size := (Array.getElem?_eq_some_iff.1 hown).1
    have hb1 : (0 + xs.length) * bytes ≤ 140737488355328 := by
      have := Nat.mul_le_mul (show 0 + xs.length ≤ 1000000 by omega) hby
      omega
    obtain ⟨ad, cap, hv', hle, hm, hnil, hc⟩ := hv
    subst hv'
    by_cases h0 : ad = none
    · subst h0
      obtain rfl : cap = 0 := hnil rfl
      obtain rfl : xs = [] := List.eq_nil_of_length_eq_zero (by omega)
      refine ⟨_, w, run_append_owned_none (P := Tryd.prog) (w := w) g t o.type e i0 k ht hi _ 0 [] hrow, by simpa [flat, OR] using hrow, World.grownBy.refl _ _⟩
    · obtain ⟨ad, rfl⟩ := Option.ne_none_iff_exists'.1 h0
      have hnews : ∀ j u, (flat en xs)[j]? = some u → w.cell? (ad.add j) = some u := by
        intro j u hj
        obtain ⟨i, p, j', hip, rfl, hu⟩ := flat_inv hr xs j u hj
        obtain ⟨b', o', e', _, c0⟩ := hc i p hip
        simp only [Option.some.injEq] at e'
        subst e'
        rw [Go.WideShapes.add_plain]
        exact c0 j' u hu
      obtain ⟨v', w', r1, r2, r3, r4⟩ := run_append_own (P := Tryd.prog) w g t o.type e i0 z k bytes ht hi hz0 hz1 hz2 hzs hr.1 _ 0 [] hrow ad xs.length cap (flat en xs) (flat_len hr xs) hnews (flat_one hr xs) (by unfold maxLen; omega) hb1 (by omega)
      have r2' : w'.ownsRow g e k v' xs.length (flat en xs) := by simpa using r2
      refine ⟨v', w', r1, r2', by simpa [Value.ownBlock] using r3⟩
  obtain ⟨v', w', r1, r2, r3⟩ := key
  unfold Oper.wp execOp
  simp only [ho, resolve, invoke, builtin, Sem.run_bind, Sem.run_pure, Result.andThen_ok, List.map_toArray, List.map_cons, List.map_nil, hs, hx, r1]
  exact h v' w' (Lib.hid r2) r3
end
/-- what the document's Read has read so far; its program lies in the block behind wL. -/
structure RT (wL w : World) (m : Int) (fs : List (List I4)) (v : Value) (rows : List Value) : Prop where
  rp : w.heap[wL.heap.size]? = some (.cells #[.int .i64 m, v] 32 (0, 0))
  own : OP w (wL.heap.size + 1) v rows fs
  bl : Below wL.heap.size wL w
section
variable {wL w w' : World} {m : Int} {fs fs' : List (List I4)} {v v' : Value} {rows rows' : List Value}
theorem RT.lt (h : RT wL w m fs v rows) : wL.heap.size < w.heap.size := (Array.getElem?_eq_some_iff.1 h.rp).1
theorem RT.below (h : RT wL w m fs v rows) (hb : Below w.heap.size w w') : RT wL w' m fs v rows := ⟨kb h.rp hb, h.own.below hb, tr3 h.bl hb⟩
theorem RT.mem (h : RT wL w m fs v rows) (n : Int) : RT wL (w.setCell ⟨wL.heap.size, 0, none⟩ (.int .i64 n)) n fs v rows :=
  ⟨st.set_blk _ _ _ _ h.rp, h.own.keep (fun k hk => st.set_oth _ _ _ _ _ (by omega)), h.bl.setCell (p := ⟨wL.heap.size, 0, none⟩) (Nat.le_refl _) _⟩
theorem RT.app (h : RT wL w m fs v rows) (hg : w.grownBy w' v.ownBlock) (ho : OP w' (wL.heap.size + 1) v' rows' fs') : RT wL (w'.setCell ⟨wL.heap.size, 1, none⟩ v') m fs' v' rows' ∧ w'.heap[wL.heap.size]? = some (.cells #[.int .i64 m, v] 32 (0, 0)) := by
  have hlt := h.lt
  have hu := own_ltP h.own.1
  have hne : some wL.heap.size ≠ v.ownBlock := fun e => by have := hu _ e.symm; omega
  have r1 := (hg.block _ hlt hne).trans h.rp
  exact ⟨⟨st.set_blk _ _ _ _ r1, ho.keep (fun k hk => st.set_oth _ _ _ _ _ (by omega)), (h.bl.grown hg (by omega) (fun k e => by have := hu k e; omega)).setCell (p := ⟨wL.heap.size, 1, none⟩) (Nat.le_refl _) _⟩, r1⟩
end
theorem RT.last {wL W w2 : World} {m : Int} {acc : List (List I4)} {c : List I4} {v u v2 : Value} {rows : List Value} {g cap : Nat} {x : I4} (h : RT wL W m (acc ++ [c]) v (rows ++ [u])) (hv : v = .slice (some ⟨g, 0, none⟩) (acc.length + 1) cap) (hg : wL.heap.size < g) (hb : Below W.heap.size W w2) (ho : OR 4 enI w2 W.heap.size 23 v2 (c ++ [x])) : RT wL (w2.setCell ⟨g, acc.length, none⟩ v2) m (acc ++ [c ++ [x]]) v (rows ++ [v2]) := by
  have hlt := h.lt
  have h2 := h.below hb
  have hrl : rows.length = acc.length := by have := h.own.1.1; simp at this; omega
  have q2 : ∀ i, i < acc.length → ∃ y, rows[i]? = some y ∧ OR 4 enI w2 (wL.heap.size + 1) 23 y (acc.getD i []) := fun i hi => by
    obtain ⟨y, hy, hoy⟩ := h2.own.2 i (by simp; omega)
    rw [List.getElem?_append_left (by omega)] at hy
    rw [List.getD_eq_getElem?_getD, List.getElem?_append_left hi, ← List.getD_eq_getElem?_getD] at hoy
    exact ⟨y, hy, hoy⟩
  have e : acc.length + 1 = (acc ++ [c]).length := by simp
  refine ⟨(st.set_oth _ _ _ _ _ (by omega)).trans h2.rp, ?_, h2.bl.setCell (p := ⟨g, acc.length, none⟩) (by show wL.heap.size ≤ g; omega) _⟩
  have q1 := h2.own.1
  rw [hv, e] at q1
  rw [hv, e]
  exact pr.OP.setLast (w := W) q1 q2 (OR.mono ho (by omega))
def fin (R : RdS × Int) : PG × Int := if R.2 ≠ 0 then ((0, []), R.2) else if R.1.1 = false then ((0, []), 4) else if pr.prE R.1.2.1 R.1.2.2 ≠ 0 then ((0, []), pr.prE R.1.2.1 R.1.2.2) else (R.1.2, 0)
theorem fin_err {R : RdS × Int} (h : R.2 ≠ 0) : fin R = ((0, []), R.2) := if_pos h
theorem read_fin (t : List UInt8) (h : ¬ 60000 < t.length) : readV t = fin (rdT t) := if_neg h
theorem len_two {α : Type} {l : List α} (h : l.length = 2) : ∃ a b, l = [a, b] := by
  match l, h with
  | [a, b], _ => exact ⟨a, b, rfl⟩
theorem rec_at {α : Type} {en : α → List Value} {w : World} {cs : Array Value} {e g : Nat} {p : α} (h : w.heap[g]? = some (.cells cs e (0, 0))) (hp : cs.toList = en p) : ∀ j u, (en p)[j]? = some u → w.cell? ((⟨g, 0, none⟩ : Addr).add j) = some u := by
  intro j u hu
  rw [← hp] at hu
  have h2 : cs[j]? = some u := by simpa using hu
  rw [Go.WideShapes.add_plain, Nat.zero_add]
  simp only [World.cell?, h]
  exact h2
/-- the bodies of a code's loops, from left to right. -/
def loopsIn : Code → List Code
  | .loop c => [c]
  | .seq a b => loopsIn a ++ loopsIn b
  | .cond _ a b => loopsIn a ++ loopsIn b
  | .block _ c => loopsIn c
  | .scope c => loopsIn c
  | _ => []
noncomputable def rbody : Code := ((Tryd.f13.body.bind fun c => (loopsIn c).head?).getD .skip)
set_option maxRecDepth 20000 in
/-- what comes behind a round that goes on. -/
def NX (w wL : World) (t : List UInt8) (bb oo n lc : Nat) (L : List (List UInt8)) (R : RdS × Int) (k : Nat) (Qn : Act → World → Prop) : Prop :=
  ∀ (u3 u9 u10 u11 u12 u13 u14 u24 u25 u26 u27 u28 u29 u30 u31 u32 u33 u34 u35 u36 u37 u38 u39 u40 u41 u42 u43 u44 u45 u46 u47 u48 u49 u50 u51 u52 u53 u54 u55 u56 u57 u58 u59 u60 u61 u62 u63 u64 u65 u66 u67 u68 u69 u70 u71 u72 u73 u74 u75 u76 u77 u78 u79 u80 u81 u82 u83 u84 u85 u86 u87 u88 u89 u90 u91 u92 u93 u94 u95 u96 u97 u98 u99 u100 u101 u102 u103 u104 u105 u106 u107 u108 u109 u110 : Value) (bv iv : Value) (s : RdS) (v : Value) (rows : List Value) (w' : World), bv = .bool s.1 → iv = .int .i64 ((k + 1 : Nat) : Int) → s.2.2.length ≤ k + 1 → (s.2.2.getLastD []).length ≤ k + 1 → Hid (rdL s (L.drop (k + 1)) = R) → Hid (RT wL w' s.2.1 s.2.2 v rows) → Qn ⟨#[Value.string ⟨t.toArray⟩, undef, .pointer (some ⟨w.heap.size, 0, none⟩), u3, .pointer (some ⟨w.heap.size + 1, 0, none⟩), Value.slice (some ⟨bb, oo, none⟩) n lc, .pointer (some ⟨wL.heap.size, 0, none⟩), bv, iv, u9, u10, u11, u12, u13, u14, undef, Value.agg #[.int .i64 0, .slice none 0 0], Value.string ⟨t.toArray⟩, .int .i64 (t.length : Int), .bool false, undef, Value.string ⟨t.toArray⟩, Value.slice (some ⟨bb, oo, none⟩) n lc, Value.agg #[.int .i64 0, .slice none 0 0], u24, u25, u26, u27, u28, u29, u30, u31, u32, u33, u34, u35, u36, u37, u38, u39, u40, u41, u42, u43, u44, u45, u46, u47, u48, u49, u50, u51, u52, u53, u54, u55, u56, u57, u58, u59, u60, u61, u62, u63, u64, u65, u66, u67, u68, u69, u70, u71, u72, u73, u74, u75, u76, u77, u78, u79, u80, u81, u82, u83, u84, u85, u86, u87, u88, u89, u90, u91, u92, u93, u94, u95, u96, u97, u98, u99, u100, u101, u102, u103, u104, u105, u106, u107, u108, u109, u110, undef, undef, undef, undef, undef, undef, undef, undef, undef, undef], []⟩ w'
end Go.Proofs.YtgkfnplgldigbaaDoor.asm
namespace Go.Proofs.YtgkfnplgldigbaaDoor.asm
open Go.ChangeShapes Go.WideShapes Go.ChangeAt Go.RowKit
open Go.Proofs.YtgkfnplgldigbaaDoor.st Go.Proofs.YtgkfnplgldigbaaDoor.wd
open Go.Proofs.YtgkfnplgldigbaaDoor.pr (enI recI infoI infoC PM OP own_ltP NB rec_new step_appR wpList_appP)
set_option linter.unusedVariables false
set_option linter.unusedSimpArgs false
set_option maxRecDepth 20000 in
set_option maxHeartbeats 16000000 in
theorem rr_mem {w wL wr : World} {t : List UInt8} {L : List (List UInt8)} {R : RdS × Int} {n lc k : Nat} {u3 u9 u10 u11 u12 u13 u14 u24 u25 u26 u27 u28 u29 u30 u31 u32 u33 u34 u35 u36 u37 u38 u39 u40 u41 u42 u43 u44 u45 u46 u47 u48 u49 u50 u51 u52 u53 u54 u55 u56 u57 u58 u59 u60 u61 u62 u63 u64 u65 u66 u67 u68 u69 u70 u71 u72 u73 u74 u75 u76 u77 u78 u79 u80 u81 u82 u83 u84 u85 u86 u87 u88 u89 u90 u91 u92 u93 u94 u95 u96 u97 u98 u99 u100 u101 u102 u103 u104 u105 u106 u107 u108 u109 u110 : Value} {sm : Int} {sf : List (List I4)} {v : Value} {rows : List Value} {bb oo : Nat} {l : List UInt8} {nf : Nat} {Qn K : Act → World → Prop}
    (K0 : Hid (wL.heap[w.heap.size]? = some (.cells #[.int .i64 0, .slice none 0 0] 32 (0, 0)))) (K1 : Hid (wL.heap[w.heap.size + 1]? = some (.cells #[.int .i64 0, .slice none 0 0] 32 (0, 0)))) (HBL : Hid (Below w.heap.size w wL)) (hnL : w.heap.size + 1 < wL.heap.size)
    (hkn : k ≤ 60001) (hk1 : sf.length ≤ k) (hk2 : (sf.getLastD []).length ≤ k) (HRT : Hid (RT wL wr sm sf v rows)) (hlt : k < n) (hbl : bb < wr.heap.size) (HCL : Hid (wL.cell? ⟨bb, oo + k, none⟩ = some (.string ⟨l.toArray⟩))) (hcl : wr.cell? ⟨bb, oo + k, none⟩ = some (.string ⟨l.toArray⟩)) (hpl : l.length ≤ 60000)
    (hfl : 0 < (fldV l).length) (hnf : (fldV l).length = nf) (hst : (if (rd1 (false, sm, sf) l).2 ≠ 0 then rd1 (false, sm, sf) l else rdL (rd1 (false, sm, sf) l).1 (L.drop (k + 1))) = R) (hN : NX w wL t bb oo n lc L R k Qn) :
    Code.wp Tryd.prog rbody (Exit.then Qn (Exit.inBlock 0 (Exit.then K (bodyPost Tryd.prog Tryd.f13 fun e w' => ∃ x, e = .returned x ∧ PGV w' (fin R) x ∧ Below w.heap.size w w')))) ⟨#[Value.string ⟨t.toArray⟩, undef, .pointer (some ⟨w.heap.size, 0, none⟩), u3, .pointer (some ⟨w.heap.size + 1, 0, none⟩), Value.slice (some ⟨bb, oo, none⟩) n lc, .pointer (some ⟨wL.heap.size, 0, none⟩), .bool false, .int .i64 (k : Int), u9, u10, u11, u12, u13, u14, undef, Value.agg #[.int .i64 0, .slice none 0 0], Value.string ⟨t.toArray⟩, .int .i64 (t.length : Int), .bool false, undef, Value.string ⟨t.toArray⟩, Value.slice (some ⟨bb, oo, none⟩) n lc, Value.agg #[.int .i64 0, .slice none 0 0], u24, u25, u26, u27, u28, u29, u30, u31, u32, u33, u34, u35, u36, u37, u38, u39, u40, u41, u42, u43, u44, u45, u46, u47, u48, u49, u50, u51, u52, u53, u54, u55, u56, u57, u58, u59, u60, u61, u62, u63, u64, u65, u66, u67, u68, u69, u70, u71, u72, u73, u74, u75, u76, u77, u78, u79, u80, u81, u82, u83, u84, u85, u86, u87, u88, u89, u90, u91, u92, u93, u94, u95, u96, u97, u98, u99, u100, u101, u102, u103, u104, u105, u106, u107, u108, u109, u110, undef, undef, undef, undef, undef, undef, undef, undef, undef, undef], []⟩ wr := by
  have hki : (k : Int) < (n : Int) := by omega
  have hkd : decide ((k : Int) < (n : Int)) = true := decide_eq_true hki
  have hclb := hbl
  have hln := rd1_len (false, sm, sf) l k hk1 hk2
  have CF := Lib.hid (rfields_v l wr (by omega))
  have hnf0 : ¬ (nf : Int) = 0 := by omega
  have hnfb : ((nf : Int) == 0) = false := by rw [beq_eq_false_iff_ne]; omega
  have hfp := fld_part l
  have HNF := Lib.hid hnf
  conv => arg 2; whnf
  rw [rd1_mem] at hst hln
  dsimp only at hst hln
  by_cases hn2 : nf = 2
  · obtain ⟨x, y, hP⟩ := len_two (show (fldV l).length = 2 by rw [hnf, hn2])
    rw [hP] at hst CF hfp
    have hly : y.length ≤ 1000000 := Nat.le_trans (hfp y (by simp)) (by omega)
    obtain ⟨nv, hnv⟩ : ∃ nv, (numV y).1 = nv := ⟨_, rfl⟩
    obtain ⟨okv, hokv⟩ : ∃ okv, (numV y).2 = okv := ⟨_, rfl⟩
    have CN := Lib.hid (fun w => rnum_v y w hly)
    rw [hnv, hokv] at CN
    subst hn2
    have HNF2 : Hid (([x, y] : List (List UInt8)).length = 2) := Lib.hid rfl
    clear hnf HNF hfl hP
    by_cases hx : x = wMem
    · cases okv with
      | true =>
        rw [show memP [x, y] = some nv by simp only [memP]; rw [if_pos ⟨hx, hokv⟩, hnv]] at hst
        rw [if_neg (by simp)] at hst
        have HSN := Lib.hid hst
        obtain ⟨hl1, hl2⟩ := hln
        subst hx
        clear hst hnv hokv hfp
        go_wp2_with fail
        refine CF.out.mono ?_
        rintro e w6 ⟨fv, rfl, hfv, hb6⟩
        obtain ⟨fa, fc, rfl, _⟩ := RV.form hfv
        rw [HNF2.out] at hfv ⊢
        have h6 := HRT.out.below hb6
        have hbl6 := h6.bl
        have HT6 := Lib.hid h6
        obtain ⟨b0, o0, rfl, hb0, hc0⟩ := SV.at hfv 0 (by omega)
        obtain ⟨b1, o1, e1, hb1, hc1⟩ := SV.at hfv 1 (by omega)
        simp only [Option.some.injEq, Addr.mk.injEq] at e1
        obtain ⟨rfl, rfl, _⟩ := e1
        replace hc0 : w6.cell? ⟨b0, o0 + 0, none⟩ = some (.string ⟨(wMem).toArray⟩) := hc0
        replace hc1 : w6.cell? ⟨b0, o0 + 1, none⟩ = some (.string ⟨y.toArray⟩) := hc1
        rw [Nat.add_zero] at hc0
        rw [show wMem = [109, 101, 109, 111, 114, 121] from rfl] at hc0
        have hpc : (fun W : World => W) w6 = w6 := rfl
        clear hfv hb6 CF HRT hcl HCL h6 hbl6 hpc
        go_wp2_with fail
        refine (CN.out _).mono ?_
        rintro e w7 ⟨rfl, hb7⟩
        have h7 := HT6.out.below hb7
        have p0 : w7.cell? ⟨wL.heap.size, 0, none⟩ = some (.int .i64 sm) := cel h7.rp 0
        have pf0 : w7.frozen? ⟨wL.heap.size, 0, none⟩ = false := frz h7.rp 0
        have H8 := Lib.hid (h7.mem nv)
        clear h7 hb7 CN HT6 hc0 hc1
        go_wp2_with fail
        exact hN _ _ _ _ _ _ _ _ _ _ _ _ _ _ _ _ _ _ _ _ _ _ _ _ _ _ _ _ _ _ _ _ _ _ _ _ _ _ _ _ _ _ _ _ _ _ _ _ _ _ _ _ _ _ _ _ _ _ _ _ _ _ _ _ _ _ _ _ _ _ _ _ _ _ _ _ _ _ _ _ _ _ _ _ _ _ _ _ _ _ _ _ _ _ _ _ (true, nv, sf) _ _ _ rfl (by go_num) hl1 hl2 HSN H8
      | false =>
        have HF : Hid (fin R = ((0, []), 4)) := Lib.hid (by
          have hst' := hst
          rw [show memP [x, y] = none by simp only [memP]; rw [if_neg (by rw [hokv]; simp)]] at hst'
          rw [← hst']
          rfl)
        clear hst hln
        subst hx
        clear hnv hokv hfp
        go_wp2_with fail
        refine CF.out.mono ?_
        rintro e w6 ⟨fv, rfl, hfv, hb6⟩
        obtain ⟨fa, fc, rfl, _⟩ := RV.form hfv
        rw [HNF2.out] at hfv ⊢
        have h6 := HRT.out.below hb6
        have hbl6 := h6.bl
        have HT6 := Lib.hid h6
        obtain ⟨b0, o0, rfl, hb0, hc0⟩ := SV.at hfv 0 (by omega)
        obtain ⟨b1, o1, e1, hb1, hc1⟩ := SV.at hfv 1 (by omega)
        simp only [Option.some.injEq, Addr.mk.injEq] at e1
        obtain ⟨rfl, rfl, _⟩ := e1
        replace hc0 : w6.cell? ⟨b0, o0 + 0, none⟩ = some (.string ⟨(wMem).toArray⟩) := hc0
        replace hc1 : w6.cell? ⟨b0, o0 + 1, none⟩ = some (.string ⟨y.toArray⟩) := hc1
        rw [Nat.add_zero] at hc0
        rw [show wMem = [109, 101, 109, 111, 114, 121] from rfl] at hc0
        clear hfv hb6 CF HRT hcl HCL h6 hbl6
        go_wp2_with fail
        refine (CN.out _).mono ?_
        rintro e w7 ⟨rfl, hb7⟩
        have hbl7 := (HT6.out.below hb7).bl
        have er0 := kb K0.out hbl7
        have er1 := kb K1.out hbl7
        have ebl := tr3 HBL.out hbl7
        have rc0 : w7.cell? ⟨w.heap.size, 0, none⟩ = some (.int .i64 0) := cel er0 0
        have rf0 : w7.frozen? ⟨w.heap.size, 0, none⟩ = false := frz er0 0
        have zc0 : w7.cell? ⟨w.heap.size + 1, 0, none⟩ = some (.int .i64 0) := cel er1 0
        have rc1 : w7.cell? ⟨w.heap.size, 1, none⟩ = some (.slice none 0 0) := cel er0 1
        have rf1 : w7.frozen? ⟨w.heap.size, 1, none⟩ = false := frz er0 1
        have zc1 : w7.cell? ⟨w.heap.size + 1, 1, none⟩ = some (.slice none 0 0) := cel er1 1
        have ER0 := Lib.hid er0
        have EBL := Lib.hid ebl
        clear er0 er1 ebl
        clear hb7 hbl7 CN HT6 hc0 hc1
        go_wp2_with fail
        exact bodyPost_ret (res_pg Tryd.results13 rfl rfl (st2_blk (a' := .int .i64 0) (b' := .slice none 0 0) ER0.out)) rfl ⟨_, rfl, (by rw [HF.out]; exact zero_pg _ _), st2_below EBL.out (Nat.le_refl _) _ _⟩
    · have HF : Hid (fin R = ((0, []), 4)) := Lib.hid (by
        have hst' := hst
        rw [show memP [x, y] = none by simp only [memP]; rw [if_neg (fun h => hx h.1)]] at hst'
        rw [← hst']
        rfl)
      clear hst hln
      have hxb : (x == [109, 101, 109, 111, 114, 121]) = false := by rw [beq_eq_false_iff_ne]; exact hx
      clear hnv hokv hfp hx CN
      go_wp2_with fail
      refine CF.out.mono ?_
      rintro e w6 ⟨fv, rfl, hfv, hb6⟩
      obtain ⟨fa, fc, rfl, _⟩ := RV.form hfv
      rw [HNF2.out] at hfv ⊢
      have h6 := HRT.out.below hb6
      have hbl6 := h6.bl
      have HT6 := Lib.hid h6
      obtain ⟨b0, o0, rfl, hb0, hc0⟩ := SV.at hfv 0 (by omega)
      obtain ⟨b1, o1, e1, hb1, hc1⟩ := SV.at hfv 1 (by omega)
      simp only [Option.some.injEq, Addr.mk.injEq] at e1
      obtain ⟨rfl, rfl, _⟩ := e1
      replace hc0 : w6.cell? ⟨b0, o0 + 0, none⟩ = some (.string ⟨(x).toArray⟩) := hc0
      replace hc1 : w6.cell? ⟨b0, o0 + 1, none⟩ = some (.string ⟨y.toArray⟩) := hc1
      rw [Nat.add_zero] at hc0
      clear hfv hb6 CF HRT hcl HCL h6
      have er0 := kb K0.out hbl6
      have er1 := kb K1.out hbl6
      have ebl := tr3 HBL.out hbl6
      have rc0 : w6.cell? ⟨w.heap.size, 0, none⟩ = some (.int .i64 0) := cel er0 0
      have rf0 : w6.frozen? ⟨w.heap.size, 0, none⟩ = false := frz er0 0
      have zc0 : w6.cell? ⟨w.heap.size + 1, 0, none⟩ = some (.int .i64 0) := cel er1 0
      have rc1 : w6.cell? ⟨w.heap.size, 1, none⟩ = some (.slice none 0 0) := cel er0 1
      have rf1 : w6.frozen? ⟨w.heap.size, 1, none⟩ = false := frz er0 1
      have zc1 : w6.cell? ⟨w.heap.size + 1, 1, none⟩ = some (.slice none 0 0) := cel er1 1
      have ER0 := Lib.hid er0
      have EBL := Lib.hid ebl
      clear er0 er1 ebl
      clear hbl6 HT6
      go_wp2_with fail
      exact bodyPost_ret (res_pg Tryd.results13 rfl rfl (st2_blk (a' := .int .i64 0) (b' := .slice none 0 0) ER0.out)) rfl ⟨_, rfl, (by rw [HF.out]; exact zero_pg _ _), st2_below EBL.out (Nat.le_refl _) _ _⟩
  · have HF : Hid (fin R = ((0, []), 4)) := Lib.hid (by
      have hst' := hst
      rw [memP_len (by rw [hnf]; exact hn2)] at hst'
      rw [← hst']
      rfl)
    clear hst hln
    have hn2i : ¬ (nf : Int) = 2 := by omega
    have hn2b : ((nf : Int) != 2) = true := by simp; omega
    clear hnf hfl hfp
    go_wp2_with fail
    refine CF.out.mono ?_
    rintro e w6 ⟨fv, rfl, hfv, hb6⟩
    obtain ⟨fa, fc, rfl, _⟩ := RV.form hfv
    rw [HNF.out] at hfv ⊢
    have h6 := HRT.out.below hb6
    have hbl6 := h6.bl
    have HT6 := Lib.hid h6
    clear hfv hb6 CF HRT hcl HCL h6
    have er0 := kb K0.out hbl6
    have er1 := kb K1.out hbl6
    have ebl := tr3 HBL.out hbl6
    have rc0 : w6.cell? ⟨w.heap.size, 0, none⟩ = some (.int .i64 0) := cel er0 0
    have rf0 : w6.frozen? ⟨w.heap.size, 0, none⟩ = false := frz er0 0
    have zc0 : w6.cell? ⟨w.heap.size + 1, 0, none⟩ = some (.int .i64 0) := cel er1 0
    have rc1 : w6.cell? ⟨w.heap.size, 1, none⟩ = some (.slice none 0 0) := cel er0 1
    have rf1 : w6.frozen? ⟨w.heap.size, 1, none⟩ = false := frz er0 1
    have zc1 : w6.cell? ⟨w.heap.size + 1, 1, none⟩ = some (.slice none 0 0) := cel er1 1
    have ER0 := Lib.hid er0
    have EBL := Lib.hid ebl
    clear er0 er1 ebl
    clear hbl6 HT6
    go_wp2_with fail
    exact bodyPost_ret (res_pg Tryd.results13 rfl rfl (st2_blk (a' := .int .i64 0) (b' := .slice none 0 0) ER0.out)) rfl ⟨_, rfl, (by rw [HF.out]; exact zero_pg _ _), st2_below EBL.out (Nat.le_refl _) _ _⟩
end Go.Proofs.YtgkfnplgldigbaaDoor.asm
namespace Go.Proofs.YtgkfnplgldigbaaDoor.asm
open Go.ChangeShapes Go.WideShapes Go.ChangeAt Go.RowKit
open Go.Proofs.YtgkfnplgldigbaaDoor.st Go.Proofs.YtgkfnplgldigbaaDoor.wd
open Go.Proofs.YtgkfnplgldigbaaDoor.pr (enI recI infoI infoC PM OP own_ltP NB rec_new step_appR wpList_appP)
set_option linter.unusedVariables false
set_option linter.unusedSimpArgs false
set_option maxRecDepth 20000 in
set_option maxHeartbeats 16000000 in
theorem rr_fun {w wL wr : World} {t : List UInt8} {L : List (List UInt8)} {R : RdS × Int} {n lc k : Nat} {u3 u9 u10 u11 u12 u13 u14 u24 u25 u26 u27 u28 u29 u30 u31 u32 u33 u34 u35 u36 u37 u38 u39 u40 u41 u42 u43 u44 u45 u46 u47 u48 u49 u50 u51 u52 u53 u54 u55 u56 u57 u58 u59 u60 u61 u62 u63 u64 u65 u66 u67 u68 u69 u70 u71 u72 u73 u74 u75 u76 u77 u78 u79 u80 u81 u82 u83 u84 u85 u86 u87 u88 u89 u90 u91 u92 u93 u94 u95 u96 u97 u98 u99 u100 u101 u102 u103 u104 u105 u106 u107 u108 u109 u110 : Value} {sm : Int} {sf : List (List I4)} {v : Value} {rows : List Value} {bb oo : Nat} {l : List UInt8} {nf : Nat} {Qn K : Act → World → Prop}
    (K0 : Hid (wL.heap[w.heap.size]? = some (.cells #[.int .i64 0, .slice none 0 0] 32 (0, 0)))) (K1 : Hid (wL.heap[w.heap.size + 1]? = some (.cells #[.int .i64 0, .slice none 0 0] 32 (0, 0)))) (HBL : Hid (Below w.heap.size w wL)) (hnL : w.heap.size + 1 < wL.heap.size)
    (hkn : k ≤ 60001) (hk1 : sf.length ≤ k) (hk2 : (sf.getLastD []).length ≤ k) (HRT : Hid (RT wL wr sm sf v rows)) (hlt : k < n) (hbl : bb < wr.heap.size) (HCL : Hid (wL.cell? ⟨bb, oo + k, none⟩ = some (.string ⟨l.toArray⟩))) (hcl : wr.cell? ⟨bb, oo + k, none⟩ = some (.string ⟨l.toArray⟩)) (hpl : l.length ≤ 60000)
    (hfl : 0 < (fldV l).length) (hnf : (fldV l).length = nf) (hst : (if (rd1 (true, sm, sf) l).2 ≠ 0 then rd1 (true, sm, sf) l else rdL (rd1 (true, sm, sf) l).1 (L.drop (k + 1))) = R) (hff : fldV l = [wFun]) (hN : NX w wL t bb oo n lc L R k Qn) :
    Code.wp Tryd.prog rbody (Exit.then Qn (Exit.inBlock 0 (Exit.then K (bodyPost Tryd.prog Tryd.f13 fun e w' => ∃ x, e = .returned x ∧ PGV w' (fin R) x ∧ Below w.heap.size w w')))) ⟨#[Value.string ⟨t.toArray⟩, undef, .pointer (some ⟨w.heap.size, 0, none⟩), u3, .pointer (some ⟨w.heap.size + 1, 0, none⟩), Value.slice (some ⟨bb, oo, none⟩) n lc, .pointer (some ⟨wL.heap.size, 0, none⟩), .bool true, .int .i64 (k : Int), u9, u10, u11, u12, u13, u14, undef, Value.agg #[.int .i64 0, .slice none 0 0], Value.string ⟨t.toArray⟩, .int .i64 (t.length : Int), .bool false, undef, Value.string ⟨t.toArray⟩, Value.slice (some ⟨bb, oo, none⟩) n lc, Value.agg #[.int .i64 0, .slice none 0 0], u24, u25, u26, u27, u28, u29, u30, u31, u32, u33, u34, u35, u36, u37, u38, u39, u40, u41, u42, u43, u44, u45, u46, u47, u48, u49, u50, u51, u52, u53, u54, u55, u56, u57, u58, u59, u60, u61, u62, u63, u64, u65, u66, u67, u68, u69, u70, u71, u72, u73, u74, u75, u76, u77, u78, u79, u80, u81, u82, u83, u84, u85, u86, u87, u88, u89, u90, u91, u92, u93, u94, u95, u96, u97, u98, u99, u100, u101, u102, u103, u104, u105, u106, u107, u108, u109, u110, undef, undef, undef, undef, undef, undef, undef, undef, undef, undef], []⟩ wr := by
  have hki : (k : Int) < (n : Int) := by omega
  have hkd : decide ((k : Int) < (n : Int)) = true := decide_eq_true hki
  have hclb := hbl
  have hln := rd1_len (true, sm, sf) l k hk1 hk2
  have CF := Lib.hid (rfields_v l wr (by omega))
  have hnf0 : ¬ (nf : Int) = 0 := by omega
  have hnfb : ((nf : Int) == 0) = false := by rw [beq_eq_false_iff_ne]; omega
  have hfp := fld_part l
  have HNF := Lib.hid hnf
  conv => arg 2; whnf
  have hlr := rd1_len (true, sm, sf) l k hk1 hk2
  have hr1 : rd1 (true, sm, sf) l = ((true, sm, sf ++ [[]]), 0) := by
    unfold rd1
    rw [if_neg (by simp), if_pos hff]
  rw [hr1] at hst hln
  rw [if_neg (by simp)] at hst
  have HSN := Lib.hid hst
  obtain ⟨hl1, hl2⟩ := hln
  have hab : sf.length ≤ 100000 := by omega
  rw [hff] at CF
  obtain rfl : nf = 1 := by rw [← hnf, hff]; rfl
  have HNF1 : Hid (([wFun] : List (List UInt8)).length = 1) := Lib.hid rfl
  clear hst hr1 hlr hnf HNF hfl hfp hff
  dsimp only at hl1 hl2
  go_wp2_with fail
  refine CF.out.mono ?_
  rintro e w6 ⟨fv, rfl, hfv, hb6⟩
  obtain ⟨fa, fc, rfl, _⟩ := RV.form hfv
  rw [HNF1.out] at hfv ⊢
  have h6 := HRT.out.below hb6
  have hbl6 := h6.bl
  have HT6 := Lib.hid h6
  obtain ⟨b0, o0, rfl, hb0, hc0⟩ := SV.at hfv 0 (by omega)
  replace hc0 : w6.cell? ⟨b0, o0 + 0, none⟩ = some (.string ⟨#[102, 117, 110, 99, 116, 105, 111, 110]⟩) := hc0
  rw [Nat.add_zero] at hc0
  have hp1 : w6.cell? ⟨wL.heap.size, 1, none⟩ = some v := cel h6.rp 1
  have hpf1 : w6.frozen? ⟨wL.heap.size, 1, none⟩ = false := frz h6.rp 1
  have hb1 : Below w6.heap.size w6 (w6.alloc (.cells #[.slice none 0 0] 44)) := by go_grown
  have HGW := Lib.hid (h6.below hb1)
  have hlt6 := h6.lt
  have hsz : wL.heap.size + 1 ≤ (w6.alloc (.cells #[.slice none 0 0] 44)).heap.size := by simp; omega
  have huw : OR 4 enI (w6.alloc (.cells #[.slice none 0 0] 44)) (wL.heap.size + 1) 23 (.slice none 0 0) [] := OR.nil _ _ _
  clear hfv hb6 CF HRT hcl HCL h6 hbl6 HT6 hb1
  go_wp2_with ((at_builtin; refine wpList_appP rfl _ _ rfl (wL.heap.size + 1) v rows sf rfl ⟨w6.heap.size, 0, none⟩ 1 rfl (.slice none 0 0) [] HGW.out.own (by go_simp) huw rfl hab hsz ?_))
  intro v' w2 ho2 hg2 hb2
  obtain ⟨h2, hr1⟩ := HGW.out.app hg2 ho2
  have d1 : w2.cell? ⟨wL.heap.size, 1, none⟩ = some v := cel hr1 1
  have e1 : w2.frozen? ⟨wL.heap.size, 1, none⟩ = false := frz hr1 1
  obtain ⟨va', vc', rfl, _⟩ := ho2.pm.form
  have hlen : (sf ++ [([] : List I4)]).length = sf.length + 1 := by simp
  rw [hlen] at h2 ⊢
  have HX2 := Lib.hid h2
  clear hp1 hpf1 h2 hb2 hg2 ho2 hr1 huw hsz HGW hlen
  go_wp2_with fail
  exact hN _ _ _ _ _ _ _ _ _ _ _ _ _ _ _ _ _ _ _ _ _ _ _ _ _ _ _ _ _ _ _ _ _ _ _ _ _ _ _ _ _ _ _ _ _ _ _ _ _ _ _ _ _ _ _ _ _ _ _ _ _ _ _ _ _ _ _ _ _ _ _ _ _ _ _ _ _ _ _ _ _ _ _ _ _ _ _ _ _ _ _ _ _ _ _ _ (true, sm, sf ++ [[]]) _ _ _ rfl (by go_num) hl1 hl2 HSN HX2
end Go.Proofs.YtgkfnplgldigbaaDoor.asm
namespace Go.Proofs.YtgkfnplgldigbaaDoor.asm
open Go.ChangeShapes Go.WideShapes Go.ChangeAt Go.RowKit
open Go.Proofs.YtgkfnplgldigbaaDoor.st Go.Proofs.YtgkfnplgldigbaaDoor.wd
open Go.Proofs.YtgkfnplgldigbaaDoor.pr (enI recI infoI infoC PM OP own_ltP NB rec_new step_appR wpList_appP)
set_option linter.unusedVariables false
set_option linter.unusedSimpArgs false
set_option maxRecDepth 20000 in
set_option maxHeartbeats 16000000 in
theorem rr_t1 {w wL wr : World} {t : List UInt8} {L : List (List UInt8)} {R : RdS × Int} {n lc k : Nat} {u3 u9 u10 u11 u12 u13 u14 u24 u25 u26 u27 u28 u29 u30 u31 u32 u33 u34 u35 u36 u37 u38 u39 u40 u41 u42 u43 u44 u45 u46 u47 u48 u49 u50 u51 u52 u53 u54 u55 u56 u57 u58 u59 u60 u61 u62 u63 u64 u65 u66 u67 u68 u69 u70 u71 u72 u73 u74 u75 u76 u77 u78 u79 u80 u81 u82 u83 u84 u85 u86 u87 u88 u89 u90 u91 u92 u93 u94 u95 u96 u97 u98 u99 u100 u101 u102 u103 u104 u105 u106 u107 u108 u109 u110 : Value} {sm : Int} {sf : List (List I4)} {v : Value} {rows : List Value} {bb oo : Nat} {l : List UInt8} {nf : Nat} {Qn K : Act → World → Prop}
    (K0 : Hid (wL.heap[w.heap.size]? = some (.cells #[.int .i64 0, .slice none 0 0] 32 (0, 0)))) (K1 : Hid (wL.heap[w.heap.size + 1]? = some (.cells #[.int .i64 0, .slice none 0 0] 32 (0, 0)))) (HBL : Hid (Below w.heap.size w wL)) (hnL : w.heap.size + 1 < wL.heap.size)
    (hkn : k ≤ 60001) (hk1 : sf.length ≤ k) (hk2 : (sf.getLastD []).length ≤ k) (HRT : Hid (RT wL wr sm sf v rows)) (hlt : k < n) (hbl : bb < wr.heap.size) (HCL : Hid (wL.cell? ⟨bb, oo + k, none⟩ = some (.string ⟨l.toArray⟩))) (hcl : wr.cell? ⟨bb, oo + k, none⟩ = some (.string ⟨l.toArray⟩)) (hpl : l.length ≤ 60000)
    (hfl : 0 < (fldV l).length) (hnf : (fldV l).length = nf) (hst : (if (rd1 (true, sm, sf) l).2 ≠ 0 then rd1 (true, sm, sf) l else rdL (rd1 (true, sm, sf) l).1 (L.drop (k + 1))) = R) (hff : ¬ fldV l = [wFun]) (hn1 : nf = 1) (hN : NX w wL t bb oo n lc L R k Qn) :
    Code.wp Tryd.prog rbody (Exit.then Qn (Exit.inBlock 0 (Exit.then K (bodyPost Tryd.prog Tryd.f13 fun e w' => ∃ x, e = .returned x ∧ PGV w' (fin R) x ∧ Below w.heap.size w w')))) ⟨#[Value.string ⟨t.toArray⟩, undef, .pointer (some ⟨w.heap.size, 0, none⟩), u3, .pointer (some ⟨w.heap.size + 1, 0, none⟩), Value.slice (some ⟨bb, oo, none⟩) n lc, .pointer (some ⟨wL.heap.size, 0, none⟩), .bool true, .int .i64 (k : Int), u9, u10, u11, u12, u13, u14, undef, Value.agg #[.int .i64 0, .slice none 0 0], Value.string ⟨t.toArray⟩, .int .i64 (t.length : Int), .bool false, undef, Value.string ⟨t.toArray⟩, Value.slice (some ⟨bb, oo, none⟩) n lc, Value.agg #[.int .i64 0, .slice none 0 0], u24, u25, u26, u27, u28, u29, u30, u31, u32, u33, u34, u35, u36, u37, u38, u39, u40, u41, u42, u43, u44, u45, u46, u47, u48, u49, u50, u51, u52, u53, u54, u55, u56, u57, u58, u59, u60, u61, u62, u63, u64, u65, u66, u67, u68, u69, u70, u71, u72, u73, u74, u75, u76, u77, u78, u79, u80, u81, u82, u83, u84, u85, u86, u87, u88, u89, u90, u91, u92, u93, u94, u95, u96, u97, u98, u99, u100, u101, u102, u103, u104, u105, u106, u107, u108, u109, u110, undef, undef, undef, undef, undef, undef, undef, undef, undef, undef], []⟩ wr := by
  have hki : (k : Int) < (n : Int) := by omega
  have hkd : decide ((k : Int) < (n : Int)) = true := decide_eq_true hki
  have hclb := hbl
  have hln := rd1_len (true, sm, sf) l k hk1 hk2
  have CF := Lib.hid (rfields_v l wr (by omega))
  have hnf0 : ¬ (nf : Int) = 0 := by omega
  have hnfb : ((nf : Int) == 0) = false := by rw [beq_eq_false_iff_ne]; omega
  have hfp := fld_part l
  have HNF := Lib.hid hnf
  conv => arg 2; whnf
  have hlr := hln
  have hr1 : rd1 (true, sm, sf) l = if (parV l).2 ≠ 0 then ((true, sm, sf), (parV l).2) else if sf = [] then ((true, sm, sf), 8) else ((true, sm, addI sf (parV l).1), 0) := by
    unfold rd1
    rw [if_neg (by simp), if_neg hff]
  have CP := Lib.hid (fun w => rparse_v l w (by omega))
  obtain ⟨pr0, hpr⟩ : ∃ p, parV l = p := ⟨_, rfl⟩
  rw [hpr] at CP hr1
  obtain ⟨⟨y0, y1, y2, y3⟩, e0⟩ := pr0
  unfold PV IV at CP
  dsimp only at CP hr1
  clear hpr hlr
  obtain ⟨va, vn, vc, rfl⟩ : ∃ va vn vc, v = .slice va vn vc := by
    obtain ⟨va, vc, e, _⟩ := HRT.out.own.pm.form
    exact ⟨_, _, _, e⟩
  have HVN := Lib.hid (show vn = sf.length from HRT.out.own.pm.len.1)
  subst hn1
  obtain ⟨x, hx⟩ : ∃ x, (fldV l).getD 0 [] = x := ⟨_, rfl⟩
  have hxf : x ≠ wFun := by
    rintro rfl
    apply hff
    match h : fldV l, hnf with
    | [y], _ =>
      rw [h] at hx
      simp at hx
      rw [hx]
  have hxb : (x == [102, 117, 110, 99, 116, 105, 111, 110]) = false := by rw [beq_eq_false_iff_ne]; exact hxf
  have HXE := Lib.hid hx
  clear hxf hff hnf hfl hfp hx
  by_cases he : e0 = 0
  · subst he
    rw [if_neg (by simp)] at hr1
    by_cases hfn : sf = []
    · rw [if_pos hfn] at hr1
      rw [hr1, if_pos (by simp)] at hst
      have HF : Hid (fin R = ((0, []), 8)) := Lib.hid (by
        rw [← hst]
        rfl)
      have hvn0 : vn = 0 := by rw [HVN.out, hfn]; rfl
      subst hvn0
      clear hst hln hr1
      go_wp2_with fail
      refine CF.out.mono ?_
      rintro e w6 ⟨fv, rfl, hfv, hb6⟩
      obtain ⟨fa, fc, rfl, _⟩ := RV.form hfv
      rw [HNF.out] at hfv ⊢
      have h6 := HRT.out.below hb6
      have hbl6 := h6.bl
      have HT6 := Lib.hid h6
      obtain ⟨b0, o0, rfl, hb0, hc0⟩ := SV.at hfv 0 (by omega)
      rw [Nat.add_zero, HXE.out] at hc0
      have hcl6 := kc HCL.out hbl6
      clear hfv hb6 CF HRT hcl HCL h6 hbl6
      go_wp2_with fail
      refine (CP.out _).mono ?_
      rintro e w7 ⟨rfl, hb7⟩
      have h7 := HT6.out.below hb7
      obtain ⟨W8, hW8⟩ : ∃ W8, w7.alloc (.cells #[.int .i64 y0, .int .i64 y1, .int .i64 y2, .int .i64 y3] 23) = W8 := ⟨_, rfl⟩
      have b8 : Below w7.heap.size w7 W8 := by rw [← hW8]; exact (Below.refl _ _).alloc (Nat.le_refl _) _
      have hx8 : W8.heap[w7.heap.size]? = some (.cells #[.int .i64 y0, .int .i64 y1, .int .i64 y2, .int .i64 y3] 23 (0, 0)) := by rw [← hW8]; exact heap_new w7 _ _
      have h8 := h7.below b8
      have hbl8 := h8.bl
      have HW8 := Lib.hid hW8
      have q1 : W8.cell? ⟨wL.heap.size, 1, none⟩ = some (.slice va 0 vc) := cel h8.rp 1
      rw [← hW8] at q1
      have er0 := kb K0.out hbl8
      have er1 := kb K1.out hbl8
      have ebl := tr3 HBL.out hbl8
      have rc0 : W8.cell? ⟨w.heap.size, 0, none⟩ = some (.int .i64 0) := cel er0 0
      have rf0 : W8.frozen? ⟨w.heap.size, 0, none⟩ = false := frz er0 0
      have zc0 : W8.cell? ⟨w.heap.size + 1, 0, none⟩ = some (.int .i64 0) := cel er1 0
      have rc1 : W8.cell? ⟨w.heap.size, 1, none⟩ = some (.slice none 0 0) := cel er0 1
      have rf1 : W8.frozen? ⟨w.heap.size, 1, none⟩ = false := frz er0 1
      have zc1 : W8.cell? ⟨w.heap.size + 1, 1, none⟩ = some (.slice none 0 0) := cel er1 1
      have ER0 := Lib.hid er0
      have EBL := Lib.hid ebl
      rw [← hW8] at rc0 rc1 rf0 rf1 zc0 zc1
      clear er0 er1 ebl
      clear hb7 h7 b8 hx8 h8 hbl8 hW8 CP HT6 hcl6
      go_wp2_with fail
      rw [HW8.out]
      exact bodyPost_ret (res_pg Tryd.results13 rfl rfl (st2_blk (a' := .int .i64 0) (b' := .slice none 0 0) ER0.out)) rfl ⟨_, rfl, (by rw [HF.out]; exact zero_pg _ _), st2_below EBL.out (Nat.le_refl _) _ _⟩
    · rw [if_neg hfn] at hr1
      obtain ⟨acc, cl, rfl⟩ : ∃ acc cl, sf = acc ++ [cl] := by
        rcases List.eq_nil_or_concat sf with h | ⟨acc, cl, h⟩
        · exact absurd h hfn
        · exact ⟨acc, cl, by simpa using h⟩
      rw [addI_snoc] at hr1
      rw [hr1] at hst hln
      rw [if_neg (by simp)] at hst
      have HSN := Lib.hid hst
      obtain ⟨hl1, hl2⟩ := hln
      dsimp only at hl1 hl2
      have hcl' : cl.length ≤ 1000000 := by
        have := hk2
        simp at this
        omega
      have hvn1 : vn = acc.length + 1 := by rw [HVN.out]; simp
      obtain ⟨Lc, hLc⟩ : ∃ Lc, acc.length = Lc := ⟨_, rfl⟩
      have hLi : (vn : Int) - 1 = (Lc : Int) := by omega
      have hLn2 : (Lc : Int) < (vn : Int) := by omega
      have hvnb : ((vn : Int) == 0) = false := by rw [beq_eq_false_iff_ne]; omega
      have hvni : ¬ (vn : Int) = 0 := by omega
      have hvnp : (vn : Int) ≤ 200000 := by simp at hk1; omega
      have hLL := Lib.hid hLc
      have HVN1 := Lib.hid hvn1
      clear hst HVN hvn1 hfn hLc hr1
      go_wp2_with fail
      refine CF.out.mono ?_
      rintro e w6 ⟨fv, rfl, hfv, hb6⟩
      obtain ⟨fa, fc, rfl, _⟩ := RV.form hfv
      rw [HNF.out] at hfv ⊢
      have h6 := HRT.out.below hb6
      have hbl6 := h6.bl
      have HT6 := Lib.hid h6
      obtain ⟨b0, o0, rfl, hb0, hc0⟩ := SV.at hfv 0 (by omega)
      rw [Nat.add_zero, HXE.out] at hc0
      have hcl6 := kc HCL.out hbl6
      clear hfv hb6 CF HRT hcl HCL h6 hbl6
      go_wp2_with fail
      refine (CP.out _).mono ?_
      rintro e w7 ⟨rfl, hb7⟩
      have h7 := HT6.out.below hb7
      obtain ⟨W8, hW8⟩ : ∃ W8, w7.alloc (.cells #[.int .i64 y0, .int .i64 y1, .int .i64 y2, .int .i64 y3] 23) = W8 := ⟨_, rfl⟩
      have b8 : Below w7.heap.size w7 W8 := by rw [← hW8]; exact (Below.refl _ _).alloc (Nat.le_refl _) _
      have hx8 : W8.heap[w7.heap.size]? = some (.cells #[.int .i64 y0, .int .i64 y1, .int .i64 y2, .int .i64 y3] 23 (0, 0)) := by rw [← hW8]; exact heap_new w7 _ _
      have h8 := h7.below b8
      have hbl8 := h8.bl
      have HW8 := Lib.hid hW8
      obtain ⟨rows', u, rfl⟩ := rows_snoc h8.own
      obtain ⟨g, cap, hv, hcap, hBg, hgl, hcu, hfu, hou⟩ := OP.lastAt h8.own
      rw [hLL.out, ← show vn = Lc + 1 by have := HVN1.out; rw [hLL.out] at this; exact this] at hv
      rw [Value.slice.injEq] at hv
      obtain ⟨rfl, _, rfl⟩ := hv
      rw [hLL.out] at hcu hfu
      obtain ⟨ua, uc, rfl⟩ := OR.form hou
      obtain ⟨X, hX⟩ : ∃ X, w7.heap.size = X := ⟨_, rfl⟩
      rw [hX] at hx8
      have hgX : g ≠ X := by
        rintro rfl
        obtain ⟨_, ⟨h0, _⟩ | ⟨g4, cap4, cur4, e, _, hh4, _⟩⟩ := h8.own.1
        · cases h0
        · simp only [Value.slice.injEq, Option.some.injEq, Addr.mk.injEq] at e
          obtain ⟨⟨rfl, _⟩, _⟩ := e
          rw [hx8] at hh4
          simp at hh4
      have hgP : g ≠ wL.heap.size := by omega
      have q1 : W8.cell? ⟨wL.heap.size, 1, none⟩ = some (.slice (some ⟨g, 0, none⟩) vn vc) := cel h8.rp 1
      rw [← hW8] at q1
      have hlt7 := h7.lt
      have HXX := Lib.hid hX
      have HGo : Hid (∀ w' : World, Below W8.heap.size W8 w' → (w'.cell? ⟨wL.heap.size, 1, none⟩ = some (.slice (some ⟨g, 0, none⟩) vn vc) ∧ w'.cell? ⟨X, 0, none⟩ = some (.int .i64 y0) ∧ w'.cell? ⟨X, 1, none⟩ = some (.int .i64 y1) ∧ w'.cell? ⟨X, 2, none⟩ = some (.int .i64 y2) ∧ w'.cell? ⟨X, 3, none⟩ = some (.int .i64 y3)) ∧ w'.cell? ⟨g, Lc, none⟩ = some (.slice ua cl.length uc) ∧ w'.frozen? ⟨g, Lc, none⟩ = false ∧ RV 4 enI w' (.slice ua cl.length uc) cl) := Lib.hid fun w' hb => by
        have h1 := h8.below hb
        have h2 := kb hx8 hb
        refine ⟨⟨cel h1.rp 1, cel h2 0, cel h2 1, cel h2 2, cel h2 3⟩, kc hcu hb, ?_, OR.rv recI (hou.below hb)⟩
        have h4 := hb.block g hgl
        have h3 := hfu
        simp only [World.frozen?, h4] at h3 ⊢
        exact h3
      have HKS : Hid (∀ (w' : World) (v2 : Value), Below W8.heap.size W8 w' → ((w'.setCell ⟨g, Lc, none⟩ v2).cell? ⟨wL.heap.size, 1, none⟩ = some (.slice (some ⟨g, 0, none⟩) vn vc) ∧ (w'.setCell ⟨g, Lc, none⟩ v2).cell? ⟨X, 0, none⟩ = some (.int .i64 y0) ∧ (w'.setCell ⟨g, Lc, none⟩ v2).cell? ⟨X, 1, none⟩ = some (.int .i64 y1) ∧ (w'.setCell ⟨g, Lc, none⟩ v2).cell? ⟨X, 2, none⟩ = some (.int .i64 y2) ∧ (w'.setCell ⟨g, Lc, none⟩ v2).cell? ⟨X, 3, none⟩ = some (.int .i64 y3))) := Lib.hid fun w' v2 hb => by
        have hp := (st.set_oth w' g Lc wL.heap.size v2 (Ne.symm hgP)).trans (h8.below hb).rp
        have hx := (st.set_oth w' g Lc X v2 (Ne.symm hgX)).trans (kb hx8 hb)
        exact ⟨cel hp 1, cel hx 0, cel hx 1, cel hx 2, cel hx 3⟩
      have HRL : Hid (∀ (w2 : World) (v2 : Value), Below W8.heap.size W8 w2 → OR 4 enI w2 W8.heap.size 23 v2 (cl ++ [(y0, y1, y2, y3)]) → RT wL (w2.setCell ⟨g, Lc, none⟩ v2) sm (acc ++ [cl ++ [(y0, y1, y2, y3)]]) (.slice (some ⟨g, 0, none⟩) vn vc) (rows' ++ [v2])) := Lib.hid fun w2 v2 hb ho => by
        have := RT.last h8 (by rw [HVN1.out]) (by omega) hb ho
        rwa [hLL.out] at this
      clear hb7 h7 b8 hx8 h8 hbl8 hW8 CP HT6 hou hcu hfu hcap hBg hgl hgX hgP hX
      go_wp2_with fail
      rw [HW8.out, HXX.out]
      try rw [hLi]
      clear q1 hlt7 HW8 HXX hcl6
      obtain ⟨WD, hWD⟩ : ∃ WD, W8.drew = WD := ⟨_, rfl⟩
      have hbD : Below W8.heap.size W8 WD := by rw [← hWD]; exact below_drewN (Below.refl _ _) 1
      have hSd := (HGo.out WD hbD).1
      refine wp_region_held_drew (S := fun w' : World => w'.cell? ⟨wL.heap.size, 1, none⟩ = some (.slice (some ⟨g, 0, none⟩) vn vc) ∧ w'.cell? ⟨X, 0, none⟩ = some (.int .i64 y0) ∧ w'.cell? ⟨X, 1, none⟩ = some (.int .i64 y1) ∧ w'.cell? ⟨X, 2, none⟩ = some (.int .i64 y2) ∧ w'.cell? ⟨X, 3, none⟩ = some (.int .i64 y3)) (by kernel_rfl) (by rw [hWD]; exact hSd) (fun hHeld => ?_)
      rw [hWD]
      clear hHeld
      refine wpAnyH_take (i := 0) (v := ?_) rfl (by kernel_rfl) (by kernel_rfl) (by kernel_rfl) (fun _ _ _ h => h) (Or.inl ⟨by rfl, ?_⟩) hSd ?_
      rotate_left
      · (intro w' hSw; (try dsimp only at hSw); go_simp <;> (with_reducible rfl))
      try simp only [Act.put, List.setIfInBounds_toArray, List.set_cons_zero, List.set_cons_succ, List.getElem_toArray, List.getElem_cons_zero, List.getElem_cons_succ]
      refine wpAnyH_take (i := 1) (v := ?_) rfl (by kernel_rfl) (by kernel_rfl) (by kernel_rfl) (fun _ _ _ h => h) (Or.inl ⟨by rfl, ?_⟩) hSd ?_
      rotate_left
      · (intro w' hSw; (try dsimp only at hSw); go_simp <;> (with_reducible rfl))
      try simp only [Act.put, List.setIfInBounds_toArray, List.set_cons_zero, List.set_cons_succ, List.getElem_toArray, List.getElem_cons_zero, List.getElem_cons_succ]
      refine wpAnyH_take (i := 2) (v := ?_) rfl (by kernel_rfl) (by kernel_rfl) (by kernel_rfl) (fun _ _ _ h => h) (Or.inl ⟨by rfl, ?_⟩) hSd ?_
      rotate_left
      · (intro w' hSw; (try dsimp only at hSw); go_simp <;> (with_reducible rfl))
      try simp only [Act.put, List.setIfInBounds_toArray, List.set_cons_zero, List.set_cons_succ, List.getElem_toArray, List.getElem_cons_zero, List.getElem_cons_succ]
      refine wpAnyH_take (i := 4) (v := ?_) rfl (by kernel_rfl) (by kernel_rfl) (by kernel_rfl) (fun _ _ _ h => h) (Or.inl ⟨by rfl, ?_⟩) hSd ?_
      rotate_left
      · (intro w' hSw; (try dsimp only at hSw); go_simp <;> (with_reducible rfl))
      try simp only [Act.put, List.setIfInBounds_toArray, List.set_cons_zero, List.set_cons_succ, List.getElem_toArray, List.getElem_cons_zero, List.getElem_cons_succ]
      refine wpAnyH_take (i := 5) (v := ?_) rfl (by kernel_rfl) (by kernel_rfl) (by kernel_rfl) (fun _ _ _ h => h) (Or.inl ⟨by rfl, ?_⟩) hSd ?_
      rotate_left
      · (intro w' hSw; (try dsimp only at hSw); go_simp <;> (with_reducible rfl))
      try simp only [Act.put, List.setIfInBounds_toArray, List.set_cons_zero, List.set_cons_succ, List.getElem_toArray, List.getElem_cons_zero, List.getElem_cons_succ]
      refine wpAnyH_take (i := 6) (v := ?_) rfl (by kernel_rfl) (by kernel_rfl) (by kernel_rfl) (fun _ _ _ h => h) (Or.inl ⟨by rfl, ?_⟩) hSd ?_
      rotate_left
      · (intro w' hSw; (try dsimp only at hSw); go_simp <;> (with_reducible rfl))
      try simp only [Act.put, List.setIfInBounds_toArray, List.set_cons_zero, List.set_cons_succ, List.getElem_toArray, List.getElem_cons_zero, List.getElem_cons_succ]
      refine wpAnyH_take (i := 7) (v := ?_) rfl (by kernel_rfl) (by kernel_rfl) (by kernel_rfl) (fun _ _ _ h => h) (Or.inl ⟨by rfl, ?_⟩) hSd ?_
      rotate_left
      · (intro w' hSw; (try dsimp only at hSw); go_simp <;> (with_reducible rfl))
      try simp only [Act.put, List.setIfInBounds_toArray, List.set_cons_zero, List.set_cons_succ, List.getElem_toArray, List.getElem_cons_zero, List.getElem_cons_succ]
      refine wpAnyH_take (i := 10) (v := ?_) rfl (by kernel_rfl) (by kernel_rfl) (by kernel_rfl) (fun _ _ _ h => h) (Or.inl ⟨by rfl, ?_⟩) hSd ?_
      rotate_left
      · (intro w' hSw; (try dsimp only at hSw); go_simp <;> (with_reducible rfl))
      try simp only [Act.put, List.setIfInBounds_toArray, List.set_cons_zero, List.set_cons_succ, List.getElem_toArray, List.getElem_cons_zero, List.getElem_cons_succ]
      refine wpAnyH_ready (rs := [3, 8, 11]) (by kernel_rfl) (by simp) ?_
      refine AllReadyH.cons rfl (fun K hK => ?_) ?_
      · go_simp
        obtain ⟨V1, hV1⟩ : ∃ V, WD.alloc (.cells #[] 23) = V := ⟨_, rfl⟩
        have a1 : Below WD.heap.size WD V1 := by rw [← hV1]; exact (Below.refl _ _).alloc (Nat.le_refl _) _
        have hn1 : V1.heap[WD.heap.size]? = some (.cells #[] 23 (0, 0)) := by rw [← hV1]; exact heap_new WD _ _
        obtain ⟨eb, heb⟩ : ∃ x, WD.heap.size = x := ⟨_, rfl⟩
        rw [heb] at hn1
        rw [hV1, heb]
        have hweb : W8.heap.size ≤ eb := by rw [← heb]; exact hbD.size
        have hleb : eb < V1.heap.size := (Array.getElem?_eq_some_iff.1 hn1).1
        have b1 : Below W8.heap.size W8 V1 := hbD.trans (a1.mono hbD.size)
        refine hK.out _ _ (HGo.out _ b1).1 (fun _ => ?_)
        clear hK K
        try simp only [Act.put, List.setIfInBounds_toArray, List.set_cons_zero, List.set_cons_succ, List.getElem_toArray, List.getElem_cons_zero, List.getElem_cons_succ]
        refine wpAnyH_ready (rs := [8, 11]) (by kernel_rfl) (by simp) ?_
        refine AllReadyH.cons rfl (fun K hK => ?_) ?_
        · have hcu2 := (HGo.out _ b1).2.1
          go_simp
          refine hK.out _ _ (HGo.out _ b1).1 (fun _ => ?_)
          clear hK K hcu2
          try simp only [Act.put, List.setIfInBounds_toArray, List.set_cons_zero, List.set_cons_succ, List.getElem_toArray, List.getElem_cons_zero, List.getElem_cons_succ]
          refine wpAnyH_ready (rs := [9, 11]) (by kernel_rfl) (by simp) ?_
          refine AllReadyH.cons rfl (fun K hK => ?_) ?_
          · refine step_copyG rfl _ _ 44 23 _ 32 (by rfl) Tryd.underlying44 infoI rfl (by decide) recI eb cl (.slice ua cl.length uc) ?hs ?hown ?hx ?hv ?hsm ?_
            case hs => rfl
            case hown => exact hn1
            case hx => rfl
            case hv => exact (HGo.out _ b1).2.2.2
            case hsm => omega
            intro v3 V3 ho3 hg3
            obtain ⟨va3, vc3, rfl⟩ := ho3.out.form
            have b3 : Below W8.heap.size W8 V3 := b1.grown hg3 b1.size (fun k e => by
              obtain rfl := Option.some.inj e
              exact hweb)
            have o3 : OR 4 enI V3 W8.heap.size 23 (.slice va3 cl.length vc3) cl := OR.mono ho3.out hweb
            refine hK.out _ _ (HGo.out _ b3).1 (fun _ => ?_)
            clear hK K
            try simp only [Act.put, List.setIfInBounds_toArray, List.set_cons_zero, List.set_cons_succ, List.getElem_toArray, List.getElem_cons_zero, List.getElem_cons_succ]
            refine wpAnyH_ready (rs := [11]) (by kernel_rfl) (by simp) ?_
            refine AllReadyH.cons rfl (fun K hK => ?_) AllReadyH.nil
            go_simp
            obtain ⟨V4, hV4⟩ : ∃ V, V3.alloc (.cells #[.int .i64 y0, .int .i64 y1, .int .i64 y2, .int .i64 y3] 23) = V := ⟨_, rfl⟩
            have a4 : Below V3.heap.size V3 V4 := by rw [← hV4]; exact (Below.refl _ _).alloc (Nat.le_refl _) _
            have hn4 : V4.heap[V3.heap.size]? = some (.cells #[.int .i64 y0, .int .i64 y1, .int .i64 y2, .int .i64 y3] 23 (0, 0)) := by rw [← hV4]; exact heap_new V3 _ _
            obtain ⟨xb, hxb⟩ : ∃ x, V3.heap.size = x := ⟨_, rfl⟩
            rw [hxb] at hn4
            rw [hV4, hxb]
            have hwxb : W8.heap.size ≤ xb := by rw [← hxb]; exact b3.size
            have hlxb : xb < V4.heap.size := (Array.getElem?_eq_some_iff.1 hn4).1
            have b4 : Below W8.heap.size W8 V4 := b3.trans (a4.mono b3.size)
            have o4 := o3.below a4
            refine hK.out _ _ (HGo.out _ b4).1 (fun _ => ?_)
            clear hK K
            try simp only [Act.put, List.setIfInBounds_toArray, List.set_cons_zero, List.set_cons_succ, List.getElem_toArray, List.getElem_cons_zero, List.getElem_cons_succ]
            refine wpAnyH_ready (rs := [12]) (by kernel_rfl) (by simp) ?_
            refine AllReadyH.cons rfl (fun K hK => ?_) AllReadyH.nil
            refine step_appR rfl _ _ 44 23 _ 32 (by rfl) Tryd.underlying44 infoI rfl (by decide) recI W8.heap.size (.slice va3 cl.length vc3) cl (y0, y1, y2, y3) ?hs xb 1 ?hx ?hown ?hu ?hsm ?hB ?_
            case hs => rfl
            case hx => rfl
            case hown => exact Lib.hid o4
            case hu => exact rec_at hn4 rfl
            case hsm => omega
            case hB => exact b4.size
            intro v5 V5 ho5 hg5 hor5
            have b5 : Below W8.heap.size W8 V5 := b4.grown hg5 b4.size (fun k e => (o4.lt k e).1)
            obtain ⟨va5, vc5, rfl⟩ := ho5.out.form
            have HFIN := Lib.hid (HRL.out _ _ b5 ho5.out)
            have hcu2 := (HGo.out _ b5).2.1
            have hfu2 := (HGo.out _ b5).2.2.1
            have hS3 := HKS.out _ (.slice va5 (cl ++ [((y0, y1, y2, y3) : I4)]).length vc5) b5
            have hln : (cl ++ [((y0, y1, y2, y3) : I4)]).length = cl.length + 1 := by simp
            rw [hln] at HFIN hS3 ⊢
            refine hK.out _ _ (HGo.out _ b5).1 (fun _ => ?_)
            clear hK K
            try simp only [Act.put, List.setIfInBounds_toArray, List.set_cons_zero, List.set_cons_succ, List.getElem_toArray, List.getElem_cons_zero, List.getElem_cons_succ]
            refine wpAnyH_take (i := 13) (v := ?_) rfl (by kernel_rfl) (by kernel_rfl) (by kernel_rfl) (fun _ _ _ h => h) (Or.inl ⟨by rfl, ?_⟩) (HGo.out _ b5).1 ?_
            rotate_left
            · (intro w' hSw; (try dsimp only at hSw); go_simp <;> (with_reducible rfl))
            try simp only [Act.put, List.setIfInBounds_toArray, List.set_cons_zero, List.set_cons_succ, List.getElem_toArray, List.getElem_cons_zero, List.getElem_cons_succ]
            refine wpAnyH_ready (rs := [14]) (by kernel_rfl) (by simp) ?_
            refine AllReadyH.cons rfl (fun K hK => ?_) AllReadyH.nil
            go_simp
            refine hK.out _ _ hS3 (fun _ => ?_)
            clear hK K hcu2 hfu2 hS3
            try simp only [Act.put, List.setIfInBounds_toArray, List.set_cons_zero, List.set_cons_succ, List.getElem_toArray, List.getElem_cons_zero, List.getElem_cons_succ]
            refine wpAnyH_done (by kernel_rfl) ?_ _
            clear HGo HKS HRL
            go_wp2_with fail
            exact hN _ _ _ _ _ _ _ _ _ _ _ _ _ _ _ _ _ _ _ _ _ _ _ _ _ _ _ _ _ _ _ _ _ _ _ _ _ _ _ _ _ _ _ _ _ _ _ _ _ _ _ _ _ _ _ _ _ _ _ _ _ _ _ _ _ _ _ _ _ _ _ _ _ _ _ _ _ _ _ _ _ _ _ _ _ _ _ _ _ _ _ _ _ _ _ _ (true, sm, acc ++ [cl ++ [(y0, y1, y2, y3)]]) _ _ _ rfl (by go_num) hl1 hl2 HSN HFIN
          refine AllReadyH.cons rfl (fun K hK => ?_) AllReadyH.nil
          go_simp
          obtain ⟨V3, hV3⟩ : ∃ V, V1.alloc (.cells #[.int .i64 y0, .int .i64 y1, .int .i64 y2, .int .i64 y3] 23) = V := ⟨_, rfl⟩
          have a3 : Below V1.heap.size V1 V3 := by rw [← hV3]; exact (Below.refl _ _).alloc (Nat.le_refl _) _
          have hn3 : V3.heap[V1.heap.size]? = some (.cells #[.int .i64 y0, .int .i64 y1, .int .i64 y2, .int .i64 y3] 23 (0, 0)) := by rw [← hV3]; exact heap_new V1 _ _
          obtain ⟨xb, hxb⟩ : ∃ x, V1.heap.size = x := ⟨_, rfl⟩
          rw [hxb] at hn3
          rw [hV3, hxb]
          have hwxb : W8.heap.size ≤ xb := by rw [← hxb]; exact b1.size
          have hlxb : xb < V3.heap.size := (Array.getElem?_eq_some_iff.1 hn3).1
          have b3 : Below W8.heap.size W8 V3 := b1.trans (a3.mono b1.size)
          have ef3 := kb hn1 a3
          have hex : xb ≠ eb := by have := (Array.getElem?_eq_some_iff.1 hn1).1; omega
          refine hK.out _ _ (HGo.out _ b3).1 (fun _ => ?_)
          clear hK K
          try simp only [Act.put, List.setIfInBounds_toArray, List.set_cons_zero, List.set_cons_succ, List.getElem_toArray, List.getElem_cons_zero, List.getElem_cons_succ]
          refine wpAnyH_ready (rs := [9]) (by kernel_rfl) (by simp) ?_
          refine AllReadyH.cons rfl (fun K hK => ?_) AllReadyH.nil
          refine step_copyG rfl _ _ 44 23 _ 32 (by rfl) Tryd.underlying44 infoI rfl (by decide) recI eb cl (.slice ua cl.length uc) ?hs ?hown ?hx ?hv ?hsm ?_
          case hs => rfl
          case hown => exact ef3
          case hx => rfl
          case hv => exact (HGo.out _ b3).2.2.2
          case hsm => omega
          intro v4 V4 ho4 hg4
          obtain ⟨va4, vc4, rfl⟩ := ho4.out.form
          have b4 : Below W8.heap.size W8 V4 := b3.grown hg4 b3.size (fun k e => by
            obtain rfl := Option.some.inj e
            exact hweb)
          have o4 : OR 4 enI V4 W8.heap.size 23 (.slice va4 cl.length vc4) cl := OR.mono ho4.out hweb
          have rf4 := (hg4.block xb (Array.getElem?_eq_some_iff.1 hn3).1 (fun e => hex (Option.some.inj e))).trans hn3
          refine hK.out _ _ (HGo.out _ b4).1 (fun _ => ?_)
          clear hK K
          try simp only [Act.put, List.setIfInBounds_toArray, List.set_cons_zero, List.set_cons_succ, List.getElem_toArray, List.getElem_cons_zero, List.getElem_cons_succ]
          refine wpAnyH_ready (rs := [12]) (by kernel_rfl) (by simp) ?_
          refine AllReadyH.cons rfl (fun K hK => ?_) AllReadyH.nil
          refine step_appR rfl _ _ 44 23 _ 32 (by rfl) Tryd.underlying44 infoI rfl (by decide) recI W8.heap.size (.slice va4 cl.length vc4) cl (y0, y1, y2, y3) ?hs xb 1 ?hx ?hown ?hu ?hsm ?hB ?_
          case hs => rfl
          case hx => rfl
          case hown => exact Lib.hid o4
          case hu => exact rec_at rf4 rfl
          case hsm => omega
          case hB => exact b4.size
          intro v5 V5 ho5 hg5 hor5
          have b5 : Below W8.heap.size W8 V5 := b4.grown hg5 b4.size (fun k e => (o4.lt k e).1)
          obtain ⟨va5, vc5, rfl⟩ := ho5.out.form
          have HFIN := Lib.hid (HRL.out _ _ b5 ho5.out)
          have hcu2 := (HGo.out _ b5).2.1
          have hfu2 := (HGo.out _ b5).2.2.1
          have hS3 := HKS.out _ (.slice va5 (cl ++ [((y0, y1, y2, y3) : I4)]).length vc5) b5
          have hln : (cl ++ [((y0, y1, y2, y3) : I4)]).length = cl.length + 1 := by simp
          rw [hln] at HFIN hS3 ⊢
          refine hK.out _ _ (HGo.out _ b5).1 (fun _ => ?_)
          clear hK K
          try simp only [Act.put, List.setIfInBounds_toArray, List.set_cons_zero, List.set_cons_succ, List.getElem_toArray, List.getElem_cons_zero, List.getElem_cons_succ]
          refine wpAnyH_take (i := 13) (v := ?_) rfl (by kernel_rfl) (by kernel_rfl) (by kernel_rfl) (fun _ _ _ h => h) (Or.inl ⟨by rfl, ?_⟩) (HGo.out _ b5).1 ?_
          rotate_left
          · (intro w' hSw; (try dsimp only at hSw); go_simp <;> (with_reducible rfl))
          try simp only [Act.put, List.setIfInBounds_toArray, List.set_cons_zero, List.set_cons_succ, List.getElem_toArray, List.getElem_cons_zero, List.getElem_cons_succ]
          refine wpAnyH_ready (rs := [14]) (by kernel_rfl) (by simp) ?_
          refine AllReadyH.cons rfl (fun K hK => ?_) AllReadyH.nil
          go_simp
          refine hK.out _ _ hS3 (fun _ => ?_)
          clear hK K hcu2 hfu2 hS3
          try simp only [Act.put, List.setIfInBounds_toArray, List.set_cons_zero, List.set_cons_succ, List.getElem_toArray, List.getElem_cons_zero, List.getElem_cons_succ]
          refine wpAnyH_done (by kernel_rfl) ?_ _
          clear HGo HKS HRL
          go_wp2_with fail
          exact hN _ _ _ _ _ _ _ _ _ _ _ _ _ _ _ _ _ _ _ _ _ _ _ _ _ _ _ _ _ _ _ _ _ _ _ _ _ _ _ _ _ _ _ _ _ _ _ _ _ _ _ _ _ _ _ _ _ _ _ _ _ _ _ _ _ _ _ _ _ _ _ _ _ _ _ _ _ _ _ _ _ _ _ _ _ _ _ _ _ _ _ _ _ _ _ _ (true, sm, acc ++ [cl ++ [(y0, y1, y2, y3)]]) _ _ _ rfl (by go_num) hl1 hl2 HSN HFIN
        refine AllReadyH.cons rfl (fun K hK => ?_) AllReadyH.nil
        go_simp
        obtain ⟨V2, hV2⟩ : ∃ V, V1.alloc (.cells #[.int .i64 y0, .int .i64 y1, .int .i64 y2, .int .i64 y3] 23) = V := ⟨_, rfl⟩
        have a2 : Below V1.heap.size V1 V2 := by rw [← hV2]; exact (Below.refl _ _).alloc (Nat.le_refl _) _
        have hn2 : V2.heap[V1.heap.size]? = some (.cells #[.int .i64 y0, .int .i64 y1, .int .i64 y2, .int .i64 y3] 23 (0, 0)) := by rw [← hV2]; exact heap_new V1 _ _
        obtain ⟨xb, hxb⟩ : ∃ x, V1.heap.size = x := ⟨_, rfl⟩
        rw [hxb] at hn2
        rw [hV2, hxb]
        have hwxb : W8.heap.size ≤ xb := by rw [← hxb]; exact b1.size
        have hlxb : xb < V2.heap.size := (Array.getElem?_eq_some_iff.1 hn2).1
        have b2 : Below W8.heap.size W8 V2 := b1.trans (a2.mono b1.size)
        have ef2 := kb hn1 a2
        have hex : xb ≠ eb := by have := (Array.getElem?_eq_some_iff.1 hn1).1; omega
        refine hK.out _ _ (HGo.out _ b2).1 (fun _ => ?_)
        clear hK K
        try simp only [Act.put, List.setIfInBounds_toArray, List.set_cons_zero, List.set_cons_succ, List.getElem_toArray, List.getElem_cons_zero, List.getElem_cons_succ]
        refine wpAnyH_ready (rs := [8]) (by kernel_rfl) (by simp) ?_
        refine AllReadyH.cons rfl (fun K hK => ?_) AllReadyH.nil
        have hcu3 := (HGo.out _ b2).2.1
        go_simp
        refine hK.out _ _ (HGo.out _ b2).1 (fun _ => ?_)
        clear hK K hcu3
        try simp only [Act.put, List.setIfInBounds_toArray, List.set_cons_zero, List.set_cons_succ, List.getElem_toArray, List.getElem_cons_zero, List.getElem_cons_succ]
        refine wpAnyH_ready (rs := [9]) (by kernel_rfl) (by simp) ?_
        refine AllReadyH.cons rfl (fun K hK => ?_) AllReadyH.nil
        refine step_copyG rfl _ _ 44 23 _ 32 (by rfl) Tryd.underlying44 infoI rfl (by decide) recI eb cl (.slice ua cl.length uc) ?hs ?hown ?hx ?hv ?hsm ?_
        case hs => rfl
        case hown => exact ef2
        case hx => rfl
        case hv => exact (HGo.out _ b2).2.2.2
        case hsm => omega
        intro v4 V4 ho4 hg4
        obtain ⟨va4, vc4, rfl⟩ := ho4.out.form
        have b4 : Below W8.heap.size W8 V4 := b2.grown hg4 b2.size (fun k e => by
          obtain rfl := Option.some.inj e
          exact hweb)
        have o4 : OR 4 enI V4 W8.heap.size 23 (.slice va4 cl.length vc4) cl := OR.mono ho4.out hweb
        have rf4 := (hg4.block xb (Array.getElem?_eq_some_iff.1 hn2).1 (fun e => hex (Option.some.inj e))).trans hn2
        refine hK.out _ _ (HGo.out _ b4).1 (fun _ => ?_)
        clear hK K
        try simp only [Act.put, List.setIfInBounds_toArray, List.set_cons_zero, List.set_cons_succ, List.getElem_toArray, List.getElem_cons_zero, List.getElem_cons_succ]
        refine wpAnyH_ready (rs := [12]) (by kernel_rfl) (by simp) ?_
        refine AllReadyH.cons rfl (fun K hK => ?_) AllReadyH.nil
        refine step_appR rfl _ _ 44 23 _ 32 (by rfl) Tryd.underlying44 infoI rfl (by decide) recI W8.heap.size (.slice va4 cl.length vc4) cl (y0, y1, y2, y3) ?hs xb 1 ?hx ?hown ?hu ?hsm ?hB ?_
        case hs => rfl
        case hx => rfl
        case hown => exact Lib.hid o4
        case hu => exact rec_at rf4 rfl
        case hsm => omega
        case hB => exact b4.size
        intro v5 V5 ho5 hg5 hor5
        have b5 : Below W8.heap.size W8 V5 := b4.grown hg5 b4.size (fun k e => (o4.lt k e).1)
        obtain ⟨va5, vc5, rfl⟩ := ho5.out.form
        have HFIN := Lib.hid (HRL.out _ _ b5 ho5.out)
        have hcu2 := (HGo.out _ b5).2.1
        have hfu2 := (HGo.out _ b5).2.2.1
        have hS3 := HKS.out _ (.slice va5 (cl ++ [((y0, y1, y2, y3) : I4)]).length vc5) b5
        have hln : (cl ++ [((y0, y1, y2, y3) : I4)]).length = cl.length + 1 := by simp
        rw [hln] at HFIN hS3 ⊢
        refine hK.out _ _ (HGo.out _ b5).1 (fun _ => ?_)
        clear hK K
        try simp only [Act.put, List.setIfInBounds_toArray, List.set_cons_zero, List.set_cons_succ, List.getElem_toArray, List.getElem_cons_zero, List.getElem_cons_succ]
        refine wpAnyH_take (i := 13) (v := ?_) rfl (by kernel_rfl) (by kernel_rfl) (by kernel_rfl) (fun _ _ _ h => h) (Or.inl ⟨by rfl, ?_⟩) (HGo.out _ b5).1 ?_
        rotate_left
        · (intro w' hSw; (try dsimp only at hSw); go_simp <;> (with_reducible rfl))
        try simp only [Act.put, List.setIfInBounds_toArray, List.set_cons_zero, List.set_cons_succ, List.getElem_toArray, List.getElem_cons_zero, List.getElem_cons_succ]
        refine wpAnyH_ready (rs := [14]) (by kernel_rfl) (by simp) ?_
        refine AllReadyH.cons rfl (fun K hK => ?_) AllReadyH.nil
        go_simp
        refine hK.out _ _ hS3 (fun _ => ?_)
        clear hK K hcu2 hfu2 hS3
        try simp only [Act.put, List.setIfInBounds_toArray, List.set_cons_zero, List.set_cons_succ, List.getElem_toArray, List.getElem_cons_zero, List.getElem_cons_succ]
        refine wpAnyH_done (by kernel_rfl) ?_ _
        clear HGo HKS HRL
        go_wp2_with fail
        exact hN _ _ _ _ _ _ _ _ _ _ _ _ _ _ _ _ _ _ _ _ _ _ _ _ _ _ _ _ _ _ _ _ _ _ _ _ _ _ _ _ _ _ _ _ _ _ _ _ _ _ _ _ _ _ _ _ _ _ _ _ _ _ _ _ _ _ _ _ _ _ _ _ _ _ _ _ _ _ _ _ _ _ _ _ _ _ _ _ _ _ _ _ _ _ _ _ (true, sm, acc ++ [cl ++ [(y0, y1, y2, y3)]]) _ _ _ rfl (by go_num) hl1 hl2 HSN HFIN
      refine AllReadyH.cons rfl (fun K hK => ?_) ?_
      · have hcu1 := (HGo.out _ hbD).2.1
        go_simp
        refine hK.out _ _ (HGo.out _ hbD).1 (fun _ => ?_)
        clear hK K hcu1
        try simp only [Act.put, List.setIfInBounds_toArray, List.set_cons_zero, List.set_cons_succ, List.getElem_toArray, List.getElem_cons_zero, List.getElem_cons_succ]
        refine wpAnyH_ready (rs := [3, 11]) (by kernel_rfl) (by simp) ?_
        refine AllReadyH.cons rfl (fun K hK => ?_) ?_
        · go_simp
          obtain ⟨V2, hV2⟩ : ∃ V, WD.alloc (.cells #[] 23) = V := ⟨_, rfl⟩
          have a2 : Below WD.heap.size WD V2 := by rw [← hV2]; exact (Below.refl _ _).alloc (Nat.le_refl _) _
          have hn2 : V2.heap[WD.heap.size]? = some (.cells #[] 23 (0, 0)) := by rw [← hV2]; exact heap_new WD _ _
          obtain ⟨eb, heb⟩ : ∃ x, WD.heap.size = x := ⟨_, rfl⟩
          rw [heb] at hn2
          rw [hV2, heb]
          have hweb : W8.heap.size ≤ eb := by rw [← heb]; exact hbD.size
          have hleb : eb < V2.heap.size := (Array.getElem?_eq_some_iff.1 hn2).1
          have b2 : Below W8.heap.size W8 V2 := hbD.trans (a2.mono hbD.size)
          refine hK.out _ _ (HGo.out _ b2).1 (fun _ => ?_)
          clear hK K
          try simp only [Act.put, List.setIfInBounds_toArray, List.set_cons_zero, List.set_cons_succ, List.getElem_toArray, List.getElem_cons_zero, List.getElem_cons_succ]
          refine wpAnyH_ready (rs := [9, 11]) (by kernel_rfl) (by simp) ?_
          refine AllReadyH.cons rfl (fun K hK => ?_) ?_
          · refine step_copyG rfl _ _ 44 23 _ 32 (by rfl) Tryd.underlying44 infoI rfl (by decide) recI eb cl (.slice ua cl.length uc) ?hs ?hown ?hx ?hv ?hsm ?_
            case hs => rfl
            case hown => exact hn2
            case hx => rfl
            case hv => exact (HGo.out _ b2).2.2.2
            case hsm => omega
            intro v3 V3 ho3 hg3
            obtain ⟨va3, vc3, rfl⟩ := ho3.out.form
            have b3 : Below W8.heap.size W8 V3 := b2.grown hg3 b2.size (fun k e => by
              obtain rfl := Option.some.inj e
              exact hweb)
            have o3 : OR 4 enI V3 W8.heap.size 23 (.slice va3 cl.length vc3) cl := OR.mono ho3.out hweb
            refine hK.out _ _ (HGo.out _ b3).1 (fun _ => ?_)
            clear hK K
            try simp only [Act.put, List.setIfInBounds_toArray, List.set_cons_zero, List.set_cons_succ, List.getElem_toArray, List.getElem_cons_zero, List.getElem_cons_succ]
            refine wpAnyH_ready (rs := [11]) (by kernel_rfl) (by simp) ?_
            refine AllReadyH.cons rfl (fun K hK => ?_) AllReadyH.nil
            go_simp
            obtain ⟨V4, hV4⟩ : ∃ V, V3.alloc (.cells #[.int .i64 y0, .int .i64 y1, .int .i64 y2, .int .i64 y3] 23) = V := ⟨_, rfl⟩
            have a4 : Below V3.heap.size V3 V4 := by rw [← hV4]; exact (Below.refl _ _).alloc (Nat.le_refl _) _
            have hn4 : V4.heap[V3.heap.size]? = some (.cells #[.int .i64 y0, .int .i64 y1, .int .i64 y2, .int .i64 y3] 23 (0, 0)) := by rw [← hV4]; exact heap_new V3 _ _
            obtain ⟨xb, hxb⟩ : ∃ x, V3.heap.size = x := ⟨_, rfl⟩
            rw [hxb] at hn4
            rw [hV4, hxb]
            have hwxb : W8.heap.size ≤ xb := by rw [← hxb]; exact b3.size
            have hlxb : xb < V4.heap.size := (Array.getElem?_eq_some_iff.1 hn4).1
            have b4 : Below W8.heap.size W8 V4 := b3.trans (a4.mono b3.size)
            have o4 := o3.below a4
            refine hK.out _ _ (HGo.out _ b4).1 (fun _ => ?_)
            clear hK K
            try simp only [Act.put, List.setIfInBounds_toArray, List.set_cons_zero, List.set_cons_succ, List.getElem_toArray, List.getElem_cons_zero, List.getElem_cons_succ]
            refine wpAnyH_ready (rs := [12]) (by kernel_rfl) (by simp) ?_
            refine AllReadyH.cons rfl (fun K hK => ?_) AllReadyH.nil
            refine step_appR rfl _ _ 44 23 _ 32 (by rfl) Tryd.underlying44 infoI rfl (by decide) recI W8.heap.size (.slice va3 cl.length vc3) cl (y0, y1, y2, y3) ?hs xb 1 ?hx ?hown ?hu ?hsm ?hB ?_
            case hs => rfl
            case hx => rfl
            case hown => exact Lib.hid o4
            case hu => exact rec_at hn4 rfl
            case hsm => omega
            case hB => exact b4.size
            intro v5 V5 ho5 hg5 hor5
            have b5 : Below W8.heap.size W8 V5 := b4.grown hg5 b4.size (fun k e => (o4.lt k e).1)
            obtain ⟨va5, vc5, rfl⟩ := ho5.out.form
            have HFIN := Lib.hid (HRL.out _ _ b5 ho5.out)
            have hcu2 := (HGo.out _ b5).2.1
            have hfu2 := (HGo.out _ b5).2.2.1
            have hS3 := HKS.out _ (.slice va5 (cl ++ [((y0, y1, y2, y3) : I4)]).length vc5) b5
            have hln : (cl ++ [((y0, y1, y2, y3) : I4)]).length = cl.length + 1 := by simp
            rw [hln] at HFIN hS3 ⊢
            refine hK.out _ _ (HGo.out _ b5).1 (fun _ => ?_)
            clear hK K
            try simp only [Act.put, List.setIfInBounds_toArray, List.set_cons_zero, List.set_cons_succ, List.getElem_toArray, List.getElem_cons_zero, List.getElem_cons_succ]
            refine wpAnyH_take (i := 13) (v := ?_) rfl (by kernel_rfl) (by kernel_rfl) (by kernel_rfl) (fun _ _ _ h => h) (Or.inl ⟨by rfl, ?_⟩) (HGo.out _ b5).1 ?_
            rotate_left
            · (intro w' hSw; (try dsimp only at hSw); go_simp <;> (with_reducible rfl))
            try simp only [Act.put, List.setIfInBounds_toArray, List.set_cons_zero, List.set_cons_succ, List.getElem_toArray, List.getElem_cons_zero, List.getElem_cons_succ]
            refine wpAnyH_ready (rs := [14]) (by kernel_rfl) (by simp) ?_
            refine AllReadyH.cons rfl (fun K hK => ?_) AllReadyH.nil
            go_simp
            refine hK.out _ _ hS3 (fun _ => ?_)
            clear hK K hcu2 hfu2 hS3
            try simp only [Act.put, List.setIfInBounds_toArray, List.set_cons_zero, List.set_cons_succ, List.getElem_toArray, List.getElem_cons_zero, List.getElem_cons_succ]
            refine wpAnyH_done (by kernel_rfl) ?_ _
            clear HGo HKS HRL
            go_wp2_with fail
            exact hN _ _ _ _ _ _ _ _ _ _ _ _ _ _ _ _ _ _ _ _ _ _ _ _ _ _ _ _ _ _ _ _ _ _ _ _ _ _ _ _ _ _ _ _ _ _ _ _ _ _ _ _ _ _ _ _ _ _ _ _ _ _ _ _ _ _ _ _ _ _ _ _ _ _ _ _ _ _ _ _ _ _ _ _ _ _ _ _ _ _ _ _ _ _ _ _ (true, sm, acc ++ [cl ++ [(y0, y1, y2, y3)]]) _ _ _ rfl (by go_num) hl1 hl2 HSN HFIN
          refine AllReadyH.cons rfl (fun K hK => ?_) AllReadyH.nil
          go_simp
          obtain ⟨V3, hV3⟩ : ∃ V, V2.alloc (.cells #[.int .i64 y0, .int .i64 y1, .int .i64 y2, .int .i64 y3] 23) = V := ⟨_, rfl⟩
          have a3 : Below V2.heap.size V2 V3 := by rw [← hV3]; exact (Below.refl _ _).alloc (Nat.le_refl _) _
          have hn3 : V3.heap[V2.heap.size]? = some (.cells #[.int .i64 y0, .int .i64 y1, .int .i64 y2, .int .i64 y3] 23 (0, 0)) := by rw [← hV3]; exact heap_new V2 _ _
          obtain ⟨xb, hxb⟩ : ∃ x, V2.heap.size = x := ⟨_, rfl⟩
          rw [hxb] at hn3
          rw [hV3, hxb]
          have hwxb : W8.heap.size ≤ xb := by rw [← hxb]; exact b2.size
          have hlxb : xb < V3.heap.size := (Array.getElem?_eq_some_iff.1 hn3).1
          have b3 : Below W8.heap.size W8 V3 := b2.trans (a3.mono b2.size)
          have ef3 := kb hn2 a3
          have hex : xb ≠ eb := by have := (Array.getElem?_eq_some_iff.1 hn2).1; omega
          refine hK.out _ _ (HGo.out _ b3).1 (fun _ => ?_)
          clear hK K
          try simp only [Act.put, List.setIfInBounds_toArray, List.set_cons_zero, List.set_cons_succ, List.getElem_toArray, List.getElem_cons_zero, List.getElem_cons_succ]
          refine wpAnyH_ready (rs := [9]) (by kernel_rfl) (by simp) ?_
          refine AllReadyH.cons rfl (fun K hK => ?_) AllReadyH.nil
          refine step_copyG rfl _ _ 44 23 _ 32 (by rfl) Tryd.underlying44 infoI rfl (by decide) recI eb cl (.slice ua cl.length uc) ?hs ?hown ?hx ?hv ?hsm ?_
          case hs => rfl
          case hown => exact ef3
          case hx => rfl
          case hv => exact (HGo.out _ b3).2.2.2
          case hsm => omega
          intro v4 V4 ho4 hg4
          obtain ⟨va4, vc4, rfl⟩ := ho4.out.form
          have b4 : Below W8.heap.size W8 V4 := b3.grown hg4 b3.size (fun k e => by
            obtain rfl := Option.some.inj e
            exact hweb)
          have o4 : OR 4 enI V4 W8.heap.size 23 (.slice va4 cl.length vc4) cl := OR.mono ho4.out hweb
          have rf4 := (hg4.block xb (Array.getElem?_eq_some_iff.1 hn3).1 (fun e => hex (Option.some.inj e))).trans hn3
          refine hK.out _ _ (HGo.out _ b4).1 (fun _ => ?_)
          clear hK K
          try simp only [Act.put, List.setIfInBounds_toArray, List.set_cons_zero, List.set_cons_succ, List.getElem_toArray, List.getElem_cons_zero, List.getElem_cons_succ]
          refine wpAnyH_ready (rs := [12]) (by kernel_rfl) (by simp) ?_
          refine AllReadyH.cons rfl (fun K hK => ?_) AllReadyH.nil
          refine step_appR rfl _ _ 44 23 _ 32 (by rfl) Tryd.underlying44 infoI rfl (by decide) recI W8.heap.size (.slice va4 cl.length vc4) cl (y0, y1, y2, y3) ?hs xb 1 ?hx ?hown ?hu ?hsm ?hB ?_
          case hs => rfl
          case hx => rfl
          case hown => exact Lib.hid o4
          case hu => exact rec_at rf4 rfl
          case hsm => omega
          case hB => exact b4.size
          intro v5 V5 ho5 hg5 hor5
          have b5 : Below W8.heap.size W8 V5 := b4.grown hg5 b4.size (fun k e => (o4.lt k e).1)
          obtain ⟨va5, vc5, rfl⟩ := ho5.out.form
          have HFIN := Lib.hid (HRL.out _ _ b5 ho5.out)
          have hcu2 := (HGo.out _ b5).2.1
          have hfu2 := (HGo.out _ b5).2.2.1
          have hS3 := HKS.out _ (.slice va5 (cl ++ [((y0, y1, y2, y3) : I4)]).length vc5) b5
          have hln : (cl ++ [((y0, y1, y2, y3) : I4)]).length = cl.length + 1 := by simp
          rw [hln] at HFIN hS3 ⊢
          refine hK.out _ _ (HGo.out _ b5).1 (fun _ => ?_)
          clear hK K
          try simp only [Act.put, List.setIfInBounds_toArray, List.set_cons_zero, List.set_cons_succ, List.getElem_toArray, List.getElem_cons_zero, List.getElem_cons_succ]
          refine wpAnyH_take (i := 13) (v := ?_) rfl (by kernel_rfl) (by kernel_rfl) (by kernel_rfl) (fun _ _ _ h => h) (Or.inl ⟨by rfl, ?_⟩) (HGo.out _ b5).1 ?_
          rotate_left
          · (intro w' hSw; (try dsimp only at hSw); go_simp <;> (with_reducible rfl))
          try simp only [Act.put, List.setIfInBounds_toArray, List.set_cons_zero, List.set_cons_succ, List.getElem_toArray, List.getElem_cons_zero, List.getElem_cons_succ]
          refine wpAnyH_ready (rs := [14]) (by kernel_rfl) (by simp) ?_
          refine AllReadyH.cons rfl (fun K hK => ?_) AllReadyH.nil
          go_simp
          refine hK.out _ _ hS3 (fun _ => ?_)
          clear hK K hcu2 hfu2 hS3
          try simp only [Act.put, List.setIfInBounds_toArray, List.set_cons_zero, List.set_cons_succ, List.getElem_toArray, List.getElem_cons_zero, List.getElem_cons_succ]
          refine wpAnyH_done (by kernel_rfl) ?_ _
          clear HGo HKS HRL
          go_wp2_with fail
          exact hN _ _ _ _ _ _ _ _ _ _ _ _ _ _ _ _ _ _ _ _ _ _ _ _ _ _ _ _ _ _ _ _ _ _ _ _ _ _ _ _ _ _ _ _ _ _ _ _ _ _ _ _ _ _ _ _ _ _ _ _ _ _ _ _ _ _ _ _ _ _ _ _ _ _ _ _ _ _ _ _ _ _ _ _ _ _ _ _ _ _ _ _ _ _ _ _ (true, sm, acc ++ [cl ++ [(y0, y1, y2, y3)]]) _ _ _ rfl (by go_num) hl1 hl2 HSN HFIN
        refine AllReadyH.cons rfl (fun K hK => ?_) AllReadyH.nil
        go_simp
        obtain ⟨V2, hV2⟩ : ∃ V, WD.alloc (.cells #[.int .i64 y0, .int .i64 y1, .int .i64 y2, .int .i64 y3] 23) = V := ⟨_, rfl⟩
        have a2 : Below WD.heap.size WD V2 := by rw [← hV2]; exact (Below.refl _ _).alloc (Nat.le_refl _) _
        have hn2 : V2.heap[WD.heap.size]? = some (.cells #[.int .i64 y0, .int .i64 y1, .int .i64 y2, .int .i64 y3] 23 (0, 0)) := by rw [← hV2]; exact heap_new WD _ _
        obtain ⟨xb, hxb⟩ : ∃ x, WD.heap.size = x := ⟨_, rfl⟩
        rw [hxb] at hn2
        rw [hV2, hxb]
        have hwxb : W8.heap.size ≤ xb := by rw [← hxb]; exact hbD.size
        have hlxb : xb < V2.heap.size := (Array.getElem?_eq_some_iff.1 hn2).1
        have b2 : Below W8.heap.size W8 V2 := hbD.trans (a2.mono hbD.size)
        refine hK.out _ _ (HGo.out _ b2).1 (fun _ => ?_)
        clear hK K
        try simp only [Act.put, List.setIfInBounds_toArray, List.set_cons_zero, List.set_cons_succ, List.getElem_toArray, List.getElem_cons_zero, List.getElem_cons_succ]
        refine wpAnyH_ready (rs := [3]) (by kernel_rfl) (by simp) ?_
        refine AllReadyH.cons rfl (fun K hK => ?_) AllReadyH.nil
        go_simp
        obtain ⟨V3, hV3⟩ : ∃ V, V2.alloc (.cells #[] 23) = V := ⟨_, rfl⟩
        have a3 : Below V2.heap.size V2 V3 := by rw [← hV3]; exact (Below.refl _ _).alloc (Nat.le_refl _) _
        have hn3 : V3.heap[V2.heap.size]? = some (.cells #[] 23 (0, 0)) := by rw [← hV3]; exact heap_new V2 _ _
        obtain ⟨eb, heb⟩ : ∃ x, V2.heap.size = x := ⟨_, rfl⟩
        rw [heb] at hn3
        rw [hV3, heb]
        have hweb : W8.heap.size ≤ eb := by rw [← heb]; exact b2.size
        have hleb : eb < V3.heap.size := (Array.getElem?_eq_some_iff.1 hn3).1
        have b3 : Below W8.heap.size W8 V3 := b2.trans (a3.mono b2.size)
        have rf3 := kb hn2 a3
        have hex : xb ≠ eb := by have := (Array.getElem?_eq_some_iff.1 hn2).1; omega
        refine hK.out _ _ (HGo.out _ b3).1 (fun _ => ?_)
        clear hK K
        try simp only [Act.put, List.setIfInBounds_toArray, List.set_cons_zero, List.set_cons_succ, List.getElem_toArray, List.getElem_cons_zero, List.getElem_cons_succ]
        refine wpAnyH_ready (rs := [9]) (by kernel_rfl) (by simp) ?_
        refine AllReadyH.cons rfl (fun K hK => ?_) AllReadyH.nil
        refine step_copyG rfl _ _ 44 23 _ 32 (by rfl) Tryd.underlying44 infoI rfl (by decide) recI eb cl (.slice ua cl.length uc) ?hs ?hown ?hx ?hv ?hsm ?_
        case hs => rfl
        case hown => exact hn3
        case hx => rfl
        case hv => exact (HGo.out _ b3).2.2.2
        case hsm => omega
        intro v4 V4 ho4 hg4
        obtain ⟨va4, vc4, rfl⟩ := ho4.out.form
        have b4 : Below W8.heap.size W8 V4 := b3.grown hg4 b3.size (fun k e => by
          obtain rfl := Option.some.inj e
          exact hweb)
        have o4 : OR 4 enI V4 W8.heap.size 23 (.slice va4 cl.length vc4) cl := OR.mono ho4.out hweb
        have rf4 := (hg4.block xb (Array.getElem?_eq_some_iff.1 rf3).1 (fun e => hex (Option.some.inj e))).trans rf3
        refine hK.out _ _ (HGo.out _ b4).1 (fun _ => ?_)
        clear hK K
        try simp only [Act.put, List.setIfInBounds_toArray, List.set_cons_zero, List.set_cons_succ, List.getElem_toArray, List.getElem_cons_zero, List.getElem_cons_succ]
        refine wpAnyH_ready (rs := [12]) (by kernel_rfl) (by simp) ?_
        refine AllReadyH.cons rfl (fun K hK => ?_) AllReadyH.nil
        refine step_appR rfl _ _ 44 23 _ 32 (by rfl) Tryd.underlying44 infoI rfl (by decide) recI W8.heap.size (.slice va4 cl.length vc4) cl (y0, y1, y2, y3) ?hs xb 1 ?hx ?hown ?hu ?hsm ?hB ?_
        case hs => rfl
        case hx => rfl
        case hown => exact Lib.hid o4
        case hu => exact rec_at rf4 rfl
        case hsm => omega
        case hB => exact b4.size
        intro v5 V5 ho5 hg5 hor5
        have b5 : Below W8.heap.size W8 V5 := b4.grown hg5 b4.size (fun k e => (o4.lt k e).1)
        obtain ⟨va5, vc5, rfl⟩ := ho5.out.form
        have HFIN := Lib.hid (HRL.out _ _ b5 ho5.out)
        have hcu2 := (HGo.out _ b5).2.1
        have hfu2 := (HGo.out _ b5).2.2.1
        have hS3 := HKS.out _ (.slice va5 (cl ++ [((y0, y1, y2, y3) : I4)]).length vc5) b5
        have hln : (cl ++ [((y0, y1, y2, y3) : I4)]).length = cl.length + 1 := by simp
        rw [hln] at HFIN hS3 ⊢
        refine hK.out _ _ (HGo.out _ b5).1 (fun _ => ?_)
        clear hK K
        try simp only [Act.put, List.setIfInBounds_toArray, List.set_cons_zero, List.set_cons_succ, List.getElem_toArray, List.getElem_cons_zero, List.getElem_cons_succ]
        refine wpAnyH_take (i := 13) (v := ?_) rfl (by kernel_rfl) (by kernel_rfl) (by kernel_rfl) (fun _ _ _ h => h) (Or.inl ⟨by rfl, ?_⟩) (HGo.out _ b5).1 ?_
        rotate_left
        · (intro w' hSw; (try dsimp only at hSw); go_simp <;> (with_reducible rfl))
        try simp only [Act.put, List.setIfInBounds_toArray, List.set_cons_zero, List.set_cons_succ, List.getElem_toArray, List.getElem_cons_zero, List.getElem_cons_succ]
        refine wpAnyH_ready (rs := [14]) (by kernel_rfl) (by simp) ?_
        refine AllReadyH.cons rfl (fun K hK => ?_) AllReadyH.nil
        go_simp
        refine hK.out _ _ hS3 (fun _ => ?_)
        clear hK K hcu2 hfu2 hS3
        try simp only [Act.put, List.setIfInBounds_toArray, List.set_cons_zero, List.set_cons_succ, List.getElem_toArray, List.getElem_cons_zero, List.getElem_cons_succ]
        refine wpAnyH_done (by kernel_rfl) ?_ _
        clear HGo HKS HRL
        go_wp2_with fail
        exact hN _ _ _ _ _ _ _ _ _ _ _ _ _ _ _ _ _ _ _ _ _ _ _ _ _ _ _ _ _ _ _ _ _ _ _ _ _ _ _ _ _ _ _ _ _ _ _ _ _ _ _ _ _ _ _ _ _ _ _ _ _ _ _ _ _ _ _ _ _ _ _ _ _ _ _ _ _ _ _ _ _ _ _ _ _ _ _ _ _ _ _ _ _ _ _ _ (true, sm, acc ++ [cl ++ [(y0, y1, y2, y3)]]) _ _ _ rfl (by go_num) hl1 hl2 HSN HFIN
      refine AllReadyH.cons rfl (fun K hK => ?_) AllReadyH.nil
      go_simp
      obtain ⟨V1, hV1⟩ : ∃ V, WD.alloc (.cells #[.int .i64 y0, .int .i64 y1, .int .i64 y2, .int .i64 y3] 23) = V := ⟨_, rfl⟩
      have a1 : Below WD.heap.size WD V1 := by rw [← hV1]; exact (Below.refl _ _).alloc (Nat.le_refl _) _
      have hn1 : V1.heap[WD.heap.size]? = some (.cells #[.int .i64 y0, .int .i64 y1, .int .i64 y2, .int .i64 y3] 23 (0, 0)) := by rw [← hV1]; exact heap_new WD _ _
      obtain ⟨xb, hxb⟩ : ∃ x, WD.heap.size = x := ⟨_, rfl⟩
      rw [hxb] at hn1
      rw [hV1, hxb]
      have hwxb : W8.heap.size ≤ xb := by rw [← hxb]; exact hbD.size
      have hlxb : xb < V1.heap.size := (Array.getElem?_eq_some_iff.1 hn1).1
      have b1 : Below W8.heap.size W8 V1 := hbD.trans (a1.mono hbD.size)
      refine hK.out _ _ (HGo.out _ b1).1 (fun _ => ?_)
      clear hK K
      try simp only [Act.put, List.setIfInBounds_toArray, List.set_cons_zero, List.set_cons_succ, List.getElem_toArray, List.getElem_cons_zero, List.getElem_cons_succ]
      refine wpAnyH_ready (rs := [3, 8]) (by kernel_rfl) (by simp) ?_
      refine AllReadyH.cons rfl (fun K hK => ?_) ?_
      · go_simp
        obtain ⟨V2, hV2⟩ : ∃ V, V1.alloc (.cells #[] 23) = V := ⟨_, rfl⟩
        have a2 : Below V1.heap.size V1 V2 := by rw [← hV2]; exact (Below.refl _ _).alloc (Nat.le_refl _) _
        have hn2 : V2.heap[V1.heap.size]? = some (.cells #[] 23 (0, 0)) := by rw [← hV2]; exact heap_new V1 _ _
        obtain ⟨eb, heb⟩ : ∃ x, V1.heap.size = x := ⟨_, rfl⟩
        rw [heb] at hn2
        rw [hV2, heb]
        have hweb : W8.heap.size ≤ eb := by rw [← heb]; exact b1.size
        have hleb : eb < V2.heap.size := (Array.getElem?_eq_some_iff.1 hn2).1
        have b2 : Below W8.heap.size W8 V2 := b1.trans (a2.mono b1.size)
        have rf2 := kb hn1 a2
        have hex : xb ≠ eb := by have := (Array.getElem?_eq_some_iff.1 hn1).1; omega
        refine hK.out _ _ (HGo.out _ b2).1 (fun _ => ?_)
        clear hK K
        try simp only [Act.put, List.setIfInBounds_toArray, List.set_cons_zero, List.set_cons_succ, List.getElem_toArray, List.getElem_cons_zero, List.getElem_cons_succ]
        refine wpAnyH_ready (rs := [8]) (by kernel_rfl) (by simp) ?_
        refine AllReadyH.cons rfl (fun K hK => ?_) AllReadyH.nil
        have hcu3 := (HGo.out _ b2).2.1
        go_simp
        refine hK.out _ _ (HGo.out _ b2).1 (fun _ => ?_)
        clear hK K hcu3
        try simp only [Act.put, List.setIfInBounds_toArray, List.set_cons_zero, List.set_cons_succ, List.getElem_toArray, List.getElem_cons_zero, List.getElem_cons_succ]
        refine wpAnyH_ready (rs := [9]) (by kernel_rfl) (by simp) ?_
        refine AllReadyH.cons rfl (fun K hK => ?_) AllReadyH.nil
        refine step_copyG rfl _ _ 44 23 _ 32 (by rfl) Tryd.underlying44 infoI rfl (by decide) recI eb cl (.slice ua cl.length uc) ?hs ?hown ?hx ?hv ?hsm ?_
        case hs => rfl
        case hown => exact hn2
        case hx => rfl
        case hv => exact (HGo.out _ b2).2.2.2
        case hsm => omega
        intro v4 V4 ho4 hg4
        obtain ⟨va4, vc4, rfl⟩ := ho4.out.form
        have b4 : Below W8.heap.size W8 V4 := b2.grown hg4 b2.size (fun k e => by
          obtain rfl := Option.some.inj e
          exact hweb)
        have o4 : OR 4 enI V4 W8.heap.size 23 (.slice va4 cl.length vc4) cl := OR.mono ho4.out hweb
        have rf4 := (hg4.block xb (Array.getElem?_eq_some_iff.1 rf2).1 (fun e => hex (Option.some.inj e))).trans rf2
        refine hK.out _ _ (HGo.out _ b4).1 (fun _ => ?_)
        clear hK K
        try simp only [Act.put, List.setIfInBounds_toArray, List.set_cons_zero, List.set_cons_succ, List.getElem_toArray, List.getElem_cons_zero, List.getElem_cons_succ]
        refine wpAnyH_ready (rs := [12]) (by kernel_rfl) (by simp) ?_
        refine AllReadyH.cons rfl (fun K hK => ?_) AllReadyH.nil
        refine step_appR rfl _ _ 44 23 _ 32 (by rfl) Tryd.underlying44 infoI rfl (by decide) recI W8.heap.size (.slice va4 cl.length vc4) cl (y0, y1, y2, y3) ?hs xb 1 ?hx ?hown ?hu ?hsm ?hB ?_
        case hs => rfl
        case hx => rfl
        case hown => exact Lib.hid o4
        case hu => exact rec_at rf4 rfl
        case hsm => omega
        case hB => exact b4.size
        intro v5 V5 ho5 hg5 hor5
        have b5 : Below W8.heap.size W8 V5 := b4.grown hg5 b4.size (fun k e => (o4.lt k e).1)
        obtain ⟨va5, vc5, rfl⟩ := ho5.out.form
        have HFIN := Lib.hid (HRL.out _ _ b5 ho5.out)
        have hcu2 := (HGo.out _ b5).2.1
        have hfu2 := (HGo.out _ b5).2.2.1
        have hS3 := HKS.out _ (.slice va5 (cl ++ [((y0, y1, y2, y3) : I4)]).length vc5) b5
        have hln : (cl ++ [((y0, y1, y2, y3) : I4)]).length = cl.length + 1 := by simp
        rw [hln] at HFIN hS3 ⊢
        refine hK.out _ _ (HGo.out _ b5).1 (fun _ => ?_)
        clear hK K
        try simp only [Act.put, List.setIfInBounds_toArray, List.set_cons_zero, List.set_cons_succ, List.getElem_toArray, List.getElem_cons_zero, List.getElem_cons_succ]
        refine wpAnyH_take (i := 13) (v := ?_) rfl (by kernel_rfl) (by kernel_rfl) (by kernel_rfl) (fun _ _ _ h => h) (Or.inl ⟨by rfl, ?_⟩) (HGo.out _ b5).1 ?_
        rotate_left
        · (intro w' hSw; (try dsimp only at hSw); go_simp <;> (with_reducible rfl))
        try simp only [Act.put, List.setIfInBounds_toArray, List.set_cons_zero, List.set_cons_succ, List.getElem_toArray, List.getElem_cons_zero, List.getElem_cons_succ]
        refine wpAnyH_ready (rs := [14]) (by kernel_rfl) (by simp) ?_
        refine AllReadyH.cons rfl (fun K hK => ?_) AllReadyH.nil
        go_simp
        refine hK.out _ _ hS3 (fun _ => ?_)
        clear hK K hcu2 hfu2 hS3
        try simp only [Act.put, List.setIfInBounds_toArray, List.set_cons_zero, List.set_cons_succ, List.getElem_toArray, List.getElem_cons_zero, List.getElem_cons_succ]
        refine wpAnyH_done (by kernel_rfl) ?_ _
        clear HGo HKS HRL
        go_wp2_with fail
        exact hN _ _ _ _ _ _ _ _ _ _ _ _ _ _ _ _ _ _ _ _ _ _ _ _ _ _ _ _ _ _ _ _ _ _ _ _ _ _ _ _ _ _ _ _ _ _ _ _ _ _ _ _ _ _ _ _ _ _ _ _ _ _ _ _ _ _ _ _ _ _ _ _ _ _ _ _ _ _ _ _ _ _ _ _ _ _ _ _ _ _ _ _ _ _ _ _ (true, sm, acc ++ [cl ++ [(y0, y1, y2, y3)]]) _ _ _ rfl (by go_num) hl1 hl2 HSN HFIN
      refine AllReadyH.cons rfl (fun K hK => ?_) AllReadyH.nil
      have hcu2 := (HGo.out _ b1).2.1
      go_simp
      refine hK.out _ _ (HGo.out _ b1).1 (fun _ => ?_)
      clear hK K hcu2
      try simp only [Act.put, List.setIfInBounds_toArray, List.set_cons_zero, List.set_cons_succ, List.getElem_toArray, List.getElem_cons_zero, List.getElem_cons_succ]
      refine wpAnyH_ready (rs := [3]) (by kernel_rfl) (by simp) ?_
      refine AllReadyH.cons rfl (fun K hK => ?_) AllReadyH.nil
      go_simp
      obtain ⟨V3, hV3⟩ : ∃ V, V1.alloc (.cells #[] 23) = V := ⟨_, rfl⟩
      have a3 : Below V1.heap.size V1 V3 := by rw [← hV3]; exact (Below.refl _ _).alloc (Nat.le_refl _) _
      have hn3 : V3.heap[V1.heap.size]? = some (.cells #[] 23 (0, 0)) := by rw [← hV3]; exact heap_new V1 _ _
      obtain ⟨eb, heb⟩ : ∃ x, V1.heap.size = x := ⟨_, rfl⟩
      rw [heb] at hn3
      rw [hV3, heb]
      have hweb : W8.heap.size ≤ eb := by rw [← heb]; exact b1.size
      have hleb : eb < V3.heap.size := (Array.getElem?_eq_some_iff.1 hn3).1
      have b3 : Below W8.heap.size W8 V3 := b1.trans (a3.mono b1.size)
      have rf3 := kb hn1 a3
      have hex : xb ≠ eb := by have := (Array.getElem?_eq_some_iff.1 hn1).1; omega
      refine hK.out _ _ (HGo.out _ b3).1 (fun _ => ?_)
      clear hK K
      try simp only [Act.put, List.setIfInBounds_toArray, List.set_cons_zero, List.set_cons_succ, List.getElem_toArray, List.getElem_cons_zero, List.getElem_cons_succ]
      refine wpAnyH_ready (rs := [9]) (by kernel_rfl) (by simp) ?_
      refine AllReadyH.cons rfl (fun K hK => ?_) AllReadyH.nil
      refine step_copyG rfl _ _ 44 23 _ 32 (by rfl) Tryd.underlying44 infoI rfl (by decide) recI eb cl (.slice ua cl.length uc) ?hs ?hown ?hx ?hv ?hsm ?_
      case hs => rfl
      case hown => exact hn3
      case hx => rfl
      case hv => exact (HGo.out _ b3).2.2.2
      case hsm => omega
      intro v4 V4 ho4 hg4
      obtain ⟨va4, vc4, rfl⟩ := ho4.out.form
      have b4 : Below W8.heap.size W8 V4 := b3.grown hg4 b3.size (fun k e => by
        obtain rfl := Option.some.inj e
        exact hweb)
      have o4 : OR 4 enI V4 W8.heap.size 23 (.slice va4 cl.length vc4) cl := OR.mono ho4.out hweb
      have rf4 := (hg4.block xb (Array.getElem?_eq_some_iff.1 rf3).1 (fun e => hex (Option.some.inj e))).trans rf3
      refine hK.out _ _ (HGo.out _ b4).1 (fun _ => ?_)
      clear hK K
      try simp only [Act.put, List.setIfInBounds_toArray, List.set_cons_zero, List.set_cons_succ, List.getElem_toArray, List.getElem_cons_zero, List.getElem_cons_succ]
      refine wpAnyH_ready (rs := [12]) (by kernel_rfl) (by simp) ?_
      refine AllReadyH.cons rfl (fun K hK => ?_) AllReadyH.nil
      refine step_appR rfl _ _ 44 23 _ 32 (by rfl) Tryd.underlying44 infoI rfl (by decide) recI W8.heap.size (.slice va4 cl.length vc4) cl (y0, y1, y2, y3) ?hs xb 1 ?hx ?hown ?hu ?hsm ?hB ?_
      case hs => rfl
      case hx => rfl
      case hown => exact Lib.hid o4
      case hu => exact rec_at rf4 rfl
      case hsm => omega
      case hB => exact b4.size
      intro v5 V5 ho5 hg5 hor5
      have b5 : Below W8.heap.size W8 V5 := b4.grown hg5 b4.size (fun k e => (o4.lt k e).1)
      obtain ⟨va5, vc5, rfl⟩ := ho5.out.form
      have HFIN := Lib.hid (HRL.out _ _ b5 ho5.out)
      have hcu2 := (HGo.out _ b5).2.1
      have hfu2 := (HGo.out _ b5).2.2.1
      have hS3 := HKS.out _ (.slice va5 (cl ++ [((y0, y1, y2, y3) : I4)]).length vc5) b5
      have hln : (cl ++ [((y0, y1, y2, y3) : I4)]).length = cl.length + 1 := by simp
      rw [hln] at HFIN hS3 ⊢
      refine hK.out _ _ (HGo.out _ b5).1 (fun _ => ?_)
      clear hK K
      try simp only [Act.put, List.setIfInBounds_toArray, List.set_cons_zero, List.set_cons_succ, List.getElem_toArray, List.getElem_cons_zero, List.getElem_cons_succ]
      refine wpAnyH_take (i := 13) (v := ?_) rfl (by kernel_rfl) (by kernel_rfl) (by kernel_rfl) (fun _ _ _ h => h) (Or.inl ⟨by rfl, ?_⟩) (HGo.out _ b5).1 ?_
      rotate_left
      · (intro w' hSw; (try dsimp only at hSw); go_simp <;> (with_reducible rfl))
      try simp only [Act.put, List.setIfInBounds_toArray, List.set_cons_zero, List.set_cons_succ, List.getElem_toArray, List.getElem_cons_zero, List.getElem_cons_succ]
      refine wpAnyH_ready (rs := [14]) (by kernel_rfl) (by simp) ?_
      refine AllReadyH.cons rfl (fun K hK => ?_) AllReadyH.nil
      go_simp
      refine hK.out _ _ hS3 (fun _ => ?_)
      clear hK K hcu2 hfu2 hS3
      try simp only [Act.put, List.setIfInBounds_toArray, List.set_cons_zero, List.set_cons_succ, List.getElem_toArray, List.getElem_cons_zero, List.getElem_cons_succ]
      refine wpAnyH_done (by kernel_rfl) ?_ _
      clear HGo HKS HRL
      go_wp2_with fail
      exact hN _ _ _ _ _ _ _ _ _ _ _ _ _ _ _ _ _ _ _ _ _ _ _ _ _ _ _ _ _ _ _ _ _ _ _ _ _ _ _ _ _ _ _ _ _ _ _ _ _ _ _ _ _ _ _ _ _ _ _ _ _ _ _ _ _ _ _ _ _ _ _ _ _ _ _ _ _ _ _ _ _ _ _ _ _ _ _ _ _ _ _ _ _ _ _ _ (true, sm, acc ++ [cl ++ [(y0, y1, y2, y3)]]) _ _ _ rfl (by go_num) hl1 hl2 HSN HFIN
  · rw [if_pos he] at hr1
    rw [hr1, if_pos he] at hst
    have HF : Hid (fin R = ((0, []), e0)) := Lib.hid (by
      rw [← hst]
      exact fin_err he)
    have hcb : ((e0 : Int) != 0) = true := by rw [bne, beq_eq_false_iff_ne.2 he]; rfl
    clear hst hln hr1
    go_wp2_with fail
    refine CF.out.mono ?_
    rintro e w6 ⟨fv, rfl, hfv, hb6⟩
    obtain ⟨fa, fc, rfl, _⟩ := RV.form hfv
    rw [HNF.out] at hfv ⊢
    have h6 := HRT.out.below hb6
    have hbl6 := h6.bl
    have HT6 := Lib.hid h6
    obtain ⟨b0, o0, rfl, hb0, hc0⟩ := SV.at hfv 0 (by omega)
    rw [Nat.add_zero, HXE.out] at hc0
    have hcl6 := kc HCL.out hbl6
    clear hfv hb6 CF HRT hcl HCL h6 hbl6
    go_wp2_with fail
    refine (CP.out _).mono ?_
    rintro e w7 ⟨rfl, hb7⟩
    have h7 := HT6.out.below hb7
    obtain ⟨W8, hW8⟩ : ∃ W8, w7.alloc (.cells #[.int .i64 y0, .int .i64 y1, .int .i64 y2, .int .i64 y3] 23) = W8 := ⟨_, rfl⟩
    have b8 : Below w7.heap.size w7 W8 := by rw [← hW8]; exact (Below.refl _ _).alloc (Nat.le_refl _) _
    have hx8 : W8.heap[w7.heap.size]? = some (.cells #[.int .i64 y0, .int .i64 y1, .int .i64 y2, .int .i64 y3] 23 (0, 0)) := by rw [← hW8]; exact heap_new w7 _ _
    have h8 := h7.below b8
    have hbl8 := h8.bl
    have HW8 := Lib.hid hW8
    have er0 := kb K0.out hbl8
    have er1 := kb K1.out hbl8
    have ebl := tr3 HBL.out hbl8
    have rc0 : W8.cell? ⟨w.heap.size, 0, none⟩ = some (.int .i64 0) := cel er0 0
    have rf0 : W8.frozen? ⟨w.heap.size, 0, none⟩ = false := frz er0 0
    have zc0 : W8.cell? ⟨w.heap.size + 1, 0, none⟩ = some (.int .i64 0) := cel er1 0
    have rc1 : W8.cell? ⟨w.heap.size, 1, none⟩ = some (.slice none 0 0) := cel er0 1
    have rf1 : W8.frozen? ⟨w.heap.size, 1, none⟩ = false := frz er0 1
    have zc1 : W8.cell? ⟨w.heap.size + 1, 1, none⟩ = some (.slice none 0 0) := cel er1 1
    have ER0 := Lib.hid er0
    have EBL := Lib.hid ebl
    rw [← hW8] at rc0 rc1 rf0 rf1 zc0 zc1
    clear er0 er1 ebl
    clear hb7 h7 b8 hx8 h8 hbl8 hW8 CP HT6 hcl6
    go_wp2_with fail
    rw [HW8.out]
    exact bodyPost_ret (res_pg Tryd.results13 rfl rfl (st2_blk (a' := .int .i64 0) (b' := .slice none 0 0) ER0.out)) rfl ⟨_, rfl, (by rw [HF.out]; exact zero_pg _ _), st2_below EBL.out (Nat.le_refl _) _ _⟩
end Go.Proofs.YtgkfnplgldigbaaDoor.asm
namespace Go.Proofs.YtgkfnplgldigbaaDoor.asm
open Go.ChangeShapes Go.WideShapes Go.ChangeAt Go.RowKit
open Go.Proofs.YtgkfnplgldigbaaDoor.st Go.Proofs.YtgkfnplgldigbaaDoor.wd
open Go.Proofs.YtgkfnplgldigbaaDoor.pr (enI recI infoI infoC PM OP own_ltP NB rec_new step_appR wpList_appP)
set_option linter.unusedVariables false
set_option linter.unusedSimpArgs false
set_option maxRecDepth 20000 in
set_option maxHeartbeats 16000000 in
theorem rr_t2 {w wL wr : World} {t : List UInt8} {L : List (List UInt8)} {R : RdS × Int} {n lc k : Nat} {u3 u9 u10 u11 u12 u13 u14 u24 u25 u26 u27 u28 u29 u30 u31 u32 u33 u34 u35 u36 u37 u38 u39 u40 u41 u42 u43 u44 u45 u46 u47 u48 u49 u50 u51 u52 u53 u54 u55 u56 u57 u58 u59 u60 u61 u62 u63 u64 u65 u66 u67 u68 u69 u70 u71 u72 u73 u74 u75 u76 u77 u78 u79 u80 u81 u82 u83 u84 u85 u86 u87 u88 u89 u90 u91 u92 u93 u94 u95 u96 u97 u98 u99 u100 u101 u102 u103 u104 u105 u106 u107 u108 u109 u110 : Value} {sm : Int} {sf : List (List I4)} {v : Value} {rows : List Value} {bb oo : Nat} {l : List UInt8} {nf : Nat} {Qn K : Act → World → Prop}
    (K0 : Hid (wL.heap[w.heap.size]? = some (.cells #[.int .i64 0, .slice none 0 0] 32 (0, 0)))) (K1 : Hid (wL.heap[w.heap.size + 1]? = some (.cells #[.int .i64 0, .slice none 0 0] 32 (0, 0)))) (HBL : Hid (Below w.heap.size w wL)) (hnL : w.heap.size + 1 < wL.heap.size)
    (hkn : k ≤ 60001) (hk1 : sf.length ≤ k) (hk2 : (sf.getLastD []).length ≤ k) (HRT : Hid (RT wL wr sm sf v rows)) (hlt : k < n) (hbl : bb < wr.heap.size) (HCL : Hid (wL.cell? ⟨bb, oo + k, none⟩ = some (.string ⟨l.toArray⟩))) (hcl : wr.cell? ⟨bb, oo + k, none⟩ = some (.string ⟨l.toArray⟩)) (hpl : l.length ≤ 60000)
    (hfl : 0 < (fldV l).length) (hnf : (fldV l).length = nf) (hst : (if (rd1 (true, sm, sf) l).2 ≠ 0 then rd1 (true, sm, sf) l else rdL (rd1 (true, sm, sf) l).1 (L.drop (k + 1))) = R) (hff : ¬ fldV l = [wFun]) (hn1 : ¬ nf = 1) (hN : NX w wL t bb oo n lc L R k Qn) :
    Code.wp Tryd.prog rbody (Exit.then Qn (Exit.inBlock 0 (Exit.then K (bodyPost Tryd.prog Tryd.f13 fun e w' => ∃ x, e = .returned x ∧ PGV w' (fin R) x ∧ Below w.heap.size w w')))) ⟨#[Value.string ⟨t.toArray⟩, undef, .pointer (some ⟨w.heap.size, 0, none⟩), u3, .pointer (some ⟨w.heap.size + 1, 0, none⟩), Value.slice (some ⟨bb, oo, none⟩) n lc, .pointer (some ⟨wL.heap.size, 0, none⟩), .bool true, .int .i64 (k : Int), u9, u10, u11, u12, u13, u14, undef, Value.agg #[.int .i64 0, .slice none 0 0], Value.string ⟨t.toArray⟩, .int .i64 (t.length : Int), .bool false, undef, Value.string ⟨t.toArray⟩, Value.slice (some ⟨bb, oo, none⟩) n lc, Value.agg #[.int .i64 0, .slice none 0 0], u24, u25, u26, u27, u28, u29, u30, u31, u32, u33, u34, u35, u36, u37, u38, u39, u40, u41, u42, u43, u44, u45, u46, u47, u48, u49, u50, u51, u52, u53, u54, u55, u56, u57, u58, u59, u60, u61, u62, u63, u64, u65, u66, u67, u68, u69, u70, u71, u72, u73, u74, u75, u76, u77, u78, u79, u80, u81, u82, u83, u84, u85, u86, u87, u88, u89, u90, u91, u92, u93, u94, u95, u96, u97, u98, u99, u100, u101, u102, u103, u104, u105, u106, u107, u108, u109, u110, undef, undef, undef, undef, undef, undef, undef, undef, undef, undef], []⟩ wr := by
  have hki : (k : Int) < (n : Int) := by omega
  have hkd : decide ((k : Int) < (n : Int)) = true := decide_eq_true hki
  have hclb := hbl
  have hln := rd1_len (true, sm, sf) l k hk1 hk2
  have CF := Lib.hid (rfields_v l wr (by omega))
  have hnf0 : ¬ (nf : Int) = 0 := by omega
  have hnfb : ((nf : Int) == 0) = false := by rw [beq_eq_false_iff_ne]; omega
  have hfp := fld_part l
  have HNF := Lib.hid hnf
  conv => arg 2; whnf
  have hlr := hln
  have hr1 : rd1 (true, sm, sf) l = if (parV l).2 ≠ 0 then ((true, sm, sf), (parV l).2) else if sf = [] then ((true, sm, sf), 8) else ((true, sm, addI sf (parV l).1), 0) := by
    unfold rd1
    rw [if_neg (by simp), if_neg hff]
  have CP := Lib.hid (fun w => rparse_v l w (by omega))
  obtain ⟨pr0, hpr⟩ : ∃ p, parV l = p := ⟨_, rfl⟩
  rw [hpr] at CP hr1
  obtain ⟨⟨y0, y1, y2, y3⟩, e0⟩ := pr0
  unfold PV IV at CP
  dsimp only at CP hr1
  clear hpr hlr
  obtain ⟨va, vn, vc, rfl⟩ : ∃ va vn vc, v = .slice va vn vc := by
    obtain ⟨va, vc, e, _⟩ := HRT.out.own.pm.form
    exact ⟨_, _, _, e⟩
  have HVN := Lib.hid (show vn = sf.length from HRT.out.own.pm.len.1)
  have hn1i : ¬ (nf : Int) = 1 := by omega
  have hn1b : ((nf : Int) == 1) = false := by rw [beq_eq_false_iff_ne]; omega
  clear hff hnf hfl hfp
  by_cases he : e0 = 0
  · subst he
    rw [if_neg (by simp)] at hr1
    by_cases hfn : sf = []
    · rw [if_pos hfn] at hr1
      rw [hr1, if_pos (by simp)] at hst
      have HF : Hid (fin R = ((0, []), 8)) := Lib.hid (by
        rw [← hst]
        rfl)
      have hvn0 : vn = 0 := by rw [HVN.out, hfn]; rfl
      subst hvn0
      clear hst hln hr1
      go_wp2_with fail
      refine CF.out.mono ?_
      rintro e w6 ⟨fv, rfl, hfv, hb6⟩
      obtain ⟨fa, fc, rfl, _⟩ := RV.form hfv
      rw [HNF.out] at hfv ⊢
      have h6 := HRT.out.below hb6
      have hbl6 := h6.bl
      have HT6 := Lib.hid h6
      have hcl6 := kc HCL.out hbl6
      clear hfv hb6 CF HRT hcl HCL h6 hbl6
      go_wp2_with fail
      refine (CP.out _).mono ?_
      rintro e w7 ⟨rfl, hb7⟩
      have h7 := HT6.out.below hb7
      obtain ⟨W8, hW8⟩ : ∃ W8, w7.alloc (.cells #[.int .i64 y0, .int .i64 y1, .int .i64 y2, .int .i64 y3] 23) = W8 := ⟨_, rfl⟩
      have b8 : Below w7.heap.size w7 W8 := by rw [← hW8]; exact (Below.refl _ _).alloc (Nat.le_refl _) _
      have hx8 : W8.heap[w7.heap.size]? = some (.cells #[.int .i64 y0, .int .i64 y1, .int .i64 y2, .int .i64 y3] 23 (0, 0)) := by rw [← hW8]; exact heap_new w7 _ _
      have h8 := h7.below b8
      have hbl8 := h8.bl
      have HW8 := Lib.hid hW8
      have q1 : W8.cell? ⟨wL.heap.size, 1, none⟩ = some (.slice va 0 vc) := cel h8.rp 1
      rw [← hW8] at q1
      have er0 := kb K0.out hbl8
      have er1 := kb K1.out hbl8
      have ebl := tr3 HBL.out hbl8
      have rc0 : W8.cell? ⟨w.heap.size, 0, none⟩ = some (.int .i64 0) := cel er0 0
      have rf0 : W8.frozen? ⟨w.heap.size, 0, none⟩ = false := frz er0 0
      have zc0 : W8.cell? ⟨w.heap.size + 1, 0, none⟩ = some (.int .i64 0) := cel er1 0
      have rc1 : W8.cell? ⟨w.heap.size, 1, none⟩ = some (.slice none 0 0) := cel er0 1
      have rf1 : W8.frozen? ⟨w.heap.size, 1, none⟩ = false := frz er0 1
      have zc1 : W8.cell? ⟨w.heap.size + 1, 1, none⟩ = some (.slice none 0 0) := cel er1 1
      have ER0 := Lib.hid er0
      have EBL := Lib.hid ebl
      rw [← hW8] at rc0 rc1 rf0 rf1 zc0 zc1
      clear er0 er1 ebl
      clear hb7 h7 b8 hx8 h8 hbl8 hW8 CP HT6 hcl6
      go_wp2_with fail
      rw [HW8.out]
      exact bodyPost_ret (res_pg Tryd.results13 rfl rfl (st2_blk (a' := .int .i64 0) (b' := .slice none 0 0) ER0.out)) rfl ⟨_, rfl, (by rw [HF.out]; exact zero_pg _ _), st2_below EBL.out (Nat.le_refl _) _ _⟩
    · rw [if_neg hfn] at hr1
      obtain ⟨acc, cl, rfl⟩ : ∃ acc cl, sf = acc ++ [cl] := by
        rcases List.eq_nil_or_concat sf with h | ⟨acc, cl, h⟩
        · exact absurd h hfn
        · exact ⟨acc, cl, by simpa using h⟩
      rw [addI_snoc] at hr1
      rw [hr1] at hst hln
      rw [if_neg (by simp)] at hst
      have HSN := Lib.hid hst
      obtain ⟨hl1, hl2⟩ := hln
      dsimp only at hl1 hl2
      have hcl' : cl.length ≤ 1000000 := by
        have := hk2
        simp at this
        omega
      have hvn1 : vn = acc.length + 1 := by rw [HVN.out]; simp
      obtain ⟨Lc, hLc⟩ : ∃ Lc, acc.length = Lc := ⟨_, rfl⟩
      have hLi : (vn : Int) - 1 = (Lc : Int) := by omega
      have hLn2 : (Lc : Int) < (vn : Int) := by omega
      have hvnb : ((vn : Int) == 0) = false := by rw [beq_eq_false_iff_ne]; omega
      have hvni : ¬ (vn : Int) = 0 := by omega
      have hvnp : (vn : Int) ≤ 200000 := by simp at hk1; omega
      have hLL := Lib.hid hLc
      have HVN1 := Lib.hid hvn1
      clear hst HVN hvn1 hfn hLc hr1
      go_wp2_with fail
      refine CF.out.mono ?_
      rintro e w6 ⟨fv, rfl, hfv, hb6⟩
      obtain ⟨fa, fc, rfl, _⟩ := RV.form hfv
      rw [HNF.out] at hfv ⊢
      have h6 := HRT.out.below hb6
      have hbl6 := h6.bl
      have HT6 := Lib.hid h6
      have hcl6 := kc HCL.out hbl6
      clear hfv hb6 CF HRT hcl HCL h6 hbl6
      go_wp2_with fail
      refine (CP.out _).mono ?_
      rintro e w7 ⟨rfl, hb7⟩
      have h7 := HT6.out.below hb7
      obtain ⟨W8, hW8⟩ : ∃ W8, w7.alloc (.cells #[.int .i64 y0, .int .i64 y1, .int .i64 y2, .int .i64 y3] 23) = W8 := ⟨_, rfl⟩
      have b8 : Below w7.heap.size w7 W8 := by rw [← hW8]; exact (Below.refl _ _).alloc (Nat.le_refl _) _
      have hx8 : W8.heap[w7.heap.size]? = some (.cells #[.int .i64 y0, .int .i64 y1, .int .i64 y2, .int .i64 y3] 23 (0, 0)) := by rw [← hW8]; exact heap_new w7 _ _
      have h8 := h7.below b8
      have hbl8 := h8.bl
      have HW8 := Lib.hid hW8
      obtain ⟨rows', u, rfl⟩ := rows_snoc h8.own
      obtain ⟨g, cap, hv, hcap, hBg, hgl, hcu, hfu, hou⟩ := OP.lastAt h8.own
      rw [hLL.out, ← show vn = Lc + 1 by have := HVN1.out; rw [hLL.out] at this; exact this] at hv
      rw [Value.slice.injEq] at hv
      obtain ⟨rfl, _, rfl⟩ := hv
      rw [hLL.out] at hcu hfu
      obtain ⟨ua, uc, rfl⟩ := OR.form hou
      obtain ⟨X, hX⟩ : ∃ X, w7.heap.size = X := ⟨_, rfl⟩
      rw [hX] at hx8
      have hgX : g ≠ X := by
        rintro rfl
        obtain ⟨_, ⟨h0, _⟩ | ⟨g4, cap4, cur4, e, _, hh4, _⟩⟩ := h8.own.1
        · cases h0
        · simp only [Value.slice.injEq, Option.some.injEq, Addr.mk.injEq] at e
          obtain ⟨⟨rfl, _⟩, _⟩ := e
          rw [hx8] at hh4
          simp at hh4
      have hgP : g ≠ wL.heap.size := by omega
      have q1 : W8.cell? ⟨wL.heap.size, 1, none⟩ = some (.slice (some ⟨g, 0, none⟩) vn vc) := cel h8.rp 1
      rw [← hW8] at q1
      have hlt7 := h7.lt
      have HXX := Lib.hid hX
      have HGo : Hid (∀ w' : World, Below W8.heap.size W8 w' → (w'.cell? ⟨wL.heap.size, 1, none⟩ = some (.slice (some ⟨g, 0, none⟩) vn vc) ∧ w'.cell? ⟨X, 0, none⟩ = some (.int .i64 y0) ∧ w'.cell? ⟨X, 1, none⟩ = some (.int .i64 y1) ∧ w'.cell? ⟨X, 2, none⟩ = some (.int .i64 y2) ∧ w'.cell? ⟨X, 3, none⟩ = some (.int .i64 y3)) ∧ w'.cell? ⟨g, Lc, none⟩ = some (.slice ua cl.length uc) ∧ w'.frozen? ⟨g, Lc, none⟩ = false ∧ RV 4 enI w' (.slice ua cl.length uc) cl) := Lib.hid fun w' hb => by
        have h1 := h8.below hb
        have h2 := kb hx8 hb
        refine ⟨⟨cel h1.rp 1, cel h2 0, cel h2 1, cel h2 2, cel h2 3⟩, kc hcu hb, ?_, OR.rv recI (hou.below hb)⟩
        have h4 := hb.block g hgl
        have h3 := hfu
        simp only [World.frozen?, h4] at h3 ⊢
        exact h3
      have HKS : Hid (∀ (w' : World) (v2 : Value), Below W8.heap.size W8 w' → ((w'.setCell ⟨g, Lc, none⟩ v2).cell? ⟨wL.heap.size, 1, none⟩ = some (.slice (some ⟨g, 0, none⟩) vn vc) ∧ (w'.setCell ⟨g, Lc, none⟩ v2).cell? ⟨X, 0, none⟩ = some (.int .i64 y0) ∧ (w'.setCell ⟨g, Lc, none⟩ v2).cell? ⟨X, 1, none⟩ = some (.int .i64 y1) ∧ (w'.setCell ⟨g, Lc, none⟩ v2).cell? ⟨X, 2, none⟩ = some (.int .i64 y2) ∧ (w'.setCell ⟨g, Lc, none⟩ v2).cell? ⟨X, 3, none⟩ = some (.int .i64 y3))) := Lib.hid fun w' v2 hb => by
        have hp := (st.set_oth w' g Lc wL.heap.size v2 (Ne.symm hgP)).trans (h8.below hb).rp
        have hx := (st.set_oth w' g Lc X v2 (Ne.symm hgX)).trans (kb hx8 hb)
        exact ⟨cel hp 1, cel hx 0, cel hx 1, cel hx 2, cel hx 3⟩
      have HRL : Hid (∀ (w2 : World) (v2 : Value), Below W8.heap.size W8 w2 → OR 4 enI w2 W8.heap.size 23 v2 (cl ++ [(y0, y1, y2, y3)]) → RT wL (w2.setCell ⟨g, Lc, none⟩ v2) sm (acc ++ [cl ++ [(y0, y1, y2, y3)]]) (.slice (some ⟨g, 0, none⟩) vn vc) (rows' ++ [v2])) := Lib.hid fun w2 v2 hb ho => by
        have := RT.last h8 (by rw [HVN1.out]) (by omega) hb ho
        rwa [hLL.out] at this
      clear hb7 h7 b8 hx8 h8 hbl8 hW8 CP HT6 hou hcu hfu hcap hBg hgl hgX hgP hX
      go_wp2_with fail
      rw [HW8.out, HXX.out]
      try rw [hLi]
      clear q1 hlt7 HW8 HXX hcl6
      obtain ⟨WD, hWD⟩ : ∃ WD, W8.drew = WD := ⟨_, rfl⟩
      have hbD : Below W8.heap.size W8 WD := by rw [← hWD]; exact below_drewN (Below.refl _ _) 1
      have hSd := (HGo.out WD hbD).1
      refine wp_region_held_drew (S := fun w' : World => w'.cell? ⟨wL.heap.size, 1, none⟩ = some (.slice (some ⟨g, 0, none⟩) vn vc) ∧ w'.cell? ⟨X, 0, none⟩ = some (.int .i64 y0) ∧ w'.cell? ⟨X, 1, none⟩ = some (.int .i64 y1) ∧ w'.cell? ⟨X, 2, none⟩ = some (.int .i64 y2) ∧ w'.cell? ⟨X, 3, none⟩ = some (.int .i64 y3)) (by kernel_rfl) (by rw [hWD]; exact hSd) (fun hHeld => ?_)
      rw [hWD]
      clear hHeld
      refine wpAnyH_take (i := 0) (v := ?_) rfl (by kernel_rfl) (by kernel_rfl) (by kernel_rfl) (fun _ _ _ h => h) (Or.inl ⟨by rfl, ?_⟩) hSd ?_
      rotate_left
      · (intro w' hSw; (try dsimp only at hSw); go_simp <;> (with_reducible rfl))
      try simp only [Act.put, List.setIfInBounds_toArray, List.set_cons_zero, List.set_cons_succ, List.getElem_toArray, List.getElem_cons_zero, List.getElem_cons_succ]
      refine wpAnyH_take (i := 1) (v := ?_) rfl (by kernel_rfl) (by kernel_rfl) (by kernel_rfl) (fun _ _ _ h => h) (Or.inl ⟨by rfl, ?_⟩) hSd ?_
      rotate_left
      · (intro w' hSw; (try dsimp only at hSw); go_simp <;> (with_reducible rfl))
      try simp only [Act.put, List.setIfInBounds_toArray, List.set_cons_zero, List.set_cons_succ, List.getElem_toArray, List.getElem_cons_zero, List.getElem_cons_succ]
      refine wpAnyH_take (i := 2) (v := ?_) rfl (by kernel_rfl) (by kernel_rfl) (by kernel_rfl) (fun _ _ _ h => h) (Or.inl ⟨by rfl, ?_⟩) hSd ?_
      rotate_left
      · (intro w' hSw; (try dsimp only at hSw); go_simp <;> (with_reducible rfl))
      try simp only [Act.put, List.setIfInBounds_toArray, List.set_cons_zero, List.set_cons_succ, List.getElem_toArray, List.getElem_cons_zero, List.getElem_cons_succ]
      refine wpAnyH_take (i := 4) (v := ?_) rfl (by kernel_rfl) (by kernel_rfl) (by kernel_rfl) (fun _ _ _ h => h) (Or.inl ⟨by rfl, ?_⟩) hSd ?_
      rotate_left
      · (intro w' hSw; (try dsimp only at hSw); go_simp <;> (with_reducible rfl))
      try simp only [Act.put, List.setIfInBounds_toArray, List.set_cons_zero, List.set_cons_succ, List.getElem_toArray, List.getElem_cons_zero, List.getElem_cons_succ]
      refine wpAnyH_take (i := 5) (v := ?_) rfl (by kernel_rfl) (by kernel_rfl) (by kernel_rfl) (fun _ _ _ h => h) (Or.inl ⟨by rfl, ?_⟩) hSd ?_
      rotate_left
      · (intro w' hSw; (try dsimp only at hSw); go_simp <;> (with_reducible rfl))
      try simp only [Act.put, List.setIfInBounds_toArray, List.set_cons_zero, List.set_cons_succ, List.getElem_toArray, List.getElem_cons_zero, List.getElem_cons_succ]
      refine wpAnyH_take (i := 6) (v := ?_) rfl (by kernel_rfl) (by kernel_rfl) (by kernel_rfl) (fun _ _ _ h => h) (Or.inl ⟨by rfl, ?_⟩) hSd ?_
      rotate_left
      · (intro w' hSw; (try dsimp only at hSw); go_simp <;> (with_reducible rfl))
      try simp only [Act.put, List.setIfInBounds_toArray, List.set_cons_zero, List.set_cons_succ, List.getElem_toArray, List.getElem_cons_zero, List.getElem_cons_succ]
      refine wpAnyH_take (i := 7) (v := ?_) rfl (by kernel_rfl) (by kernel_rfl) (by kernel_rfl) (fun _ _ _ h => h) (Or.inl ⟨by rfl, ?_⟩) hSd ?_
      rotate_left
      · (intro w' hSw; (try dsimp only at hSw); go_simp <;> (with_reducible rfl))
      try simp only [Act.put, List.setIfInBounds_toArray, List.set_cons_zero, List.set_cons_succ, List.getElem_toArray, List.getElem_cons_zero, List.getElem_cons_succ]
      refine wpAnyH_take (i := 10) (v := ?_) rfl (by kernel_rfl) (by kernel_rfl) (by kernel_rfl) (fun _ _ _ h => h) (Or.inl ⟨by rfl, ?_⟩) hSd ?_
      rotate_left
      · (intro w' hSw; (try dsimp only at hSw); go_simp <;> (with_reducible rfl))
      try simp only [Act.put, List.setIfInBounds_toArray, List.set_cons_zero, List.set_cons_succ, List.getElem_toArray, List.getElem_cons_zero, List.getElem_cons_succ]
      refine wpAnyH_ready (rs := [3, 8, 11]) (by kernel_rfl) (by simp) ?_
      refine AllReadyH.cons rfl (fun K hK => ?_) ?_
      · go_simp
        obtain ⟨V1, hV1⟩ : ∃ V, WD.alloc (.cells #[] 23) = V := ⟨_, rfl⟩
        have a1 : Below WD.heap.size WD V1 := by rw [← hV1]; exact (Below.refl _ _).alloc (Nat.le_refl _) _
        have hn1 : V1.heap[WD.heap.size]? = some (.cells #[] 23 (0, 0)) := by rw [← hV1]; exact heap_new WD _ _
        obtain ⟨eb, heb⟩ : ∃ x, WD.heap.size = x := ⟨_, rfl⟩
        rw [heb] at hn1
        rw [hV1, heb]
        have hweb : W8.heap.size ≤ eb := by rw [← heb]; exact hbD.size
        have hleb : eb < V1.heap.size := (Array.getElem?_eq_some_iff.1 hn1).1
        have b1 : Below W8.heap.size W8 V1 := hbD.trans (a1.mono hbD.size)
        refine hK.out _ _ (HGo.out _ b1).1 (fun _ => ?_)
        clear hK K
        try simp only [Act.put, List.setIfInBounds_toArray, List.set_cons_zero, List.set_cons_succ, List.getElem_toArray, List.getElem_cons_zero, List.getElem_cons_succ]
        refine wpAnyH_ready (rs := [8, 11]) (by kernel_rfl) (by simp) ?_
        refine AllReadyH.cons rfl (fun K hK => ?_) ?_
        · have hcu2 := (HGo.out _ b1).2.1
          go_simp
          refine hK.out _ _ (HGo.out _ b1).1 (fun _ => ?_)
          clear hK K hcu2
          try simp only [Act.put, List.setIfInBounds_toArray, List.set_cons_zero, List.set_cons_succ, List.getElem_toArray, List.getElem_cons_zero, List.getElem_cons_succ]
          refine wpAnyH_ready (rs := [9, 11]) (by kernel_rfl) (by simp) ?_
          refine AllReadyH.cons rfl (fun K hK => ?_) ?_
          · refine step_copyG rfl _ _ 44 23 _ 32 (by rfl) Tryd.underlying44 infoI rfl (by decide) recI eb cl (.slice ua cl.length uc) ?hs ?hown ?hx ?hv ?hsm ?_
            case hs => rfl
            case hown => exact hn1
            case hx => rfl
            case hv => exact (HGo.out _ b1).2.2.2
            case hsm => omega
            intro v3 V3 ho3 hg3
            obtain ⟨va3, vc3, rfl⟩ := ho3.out.form
            have b3 : Below W8.heap.size W8 V3 := b1.grown hg3 b1.size (fun k e => by
              obtain rfl := Option.some.inj e
              exact hweb)
            have o3 : OR 4 enI V3 W8.heap.size 23 (.slice va3 cl.length vc3) cl := OR.mono ho3.out hweb
            refine hK.out _ _ (HGo.out _ b3).1 (fun _ => ?_)
            clear hK K
            try simp only [Act.put, List.setIfInBounds_toArray, List.set_cons_zero, List.set_cons_succ, List.getElem_toArray, List.getElem_cons_zero, List.getElem_cons_succ]
            refine wpAnyH_ready (rs := [11]) (by kernel_rfl) (by simp) ?_
            refine AllReadyH.cons rfl (fun K hK => ?_) AllReadyH.nil
            go_simp
            obtain ⟨V4, hV4⟩ : ∃ V, V3.alloc (.cells #[.int .i64 y0, .int .i64 y1, .int .i64 y2, .int .i64 y3] 23) = V := ⟨_, rfl⟩
            have a4 : Below V3.heap.size V3 V4 := by rw [← hV4]; exact (Below.refl _ _).alloc (Nat.le_refl _) _
            have hn4 : V4.heap[V3.heap.size]? = some (.cells #[.int .i64 y0, .int .i64 y1, .int .i64 y2, .int .i64 y3] 23 (0, 0)) := by rw [← hV4]; exact heap_new V3 _ _
            obtain ⟨xb, hxb⟩ : ∃ x, V3.heap.size = x := ⟨_, rfl⟩
            rw [hxb] at hn4
            rw [hV4, hxb]
            have hwxb : W8.heap.size ≤ xb := by rw [← hxb]; exact b3.size
            have hlxb : xb < V4.heap.size := (Array.getElem?_eq_some_iff.1 hn4).1
            have b4 : Below W8.heap.size W8 V4 := b3.trans (a4.mono b3.size)
            have o4 := o3.below a4
            refine hK.out _ _ (HGo.out _ b4).1 (fun _ => ?_)
            clear hK K
            try simp only [Act.put, List.setIfInBounds_toArray, List.set_cons_zero, List.set_cons_succ, List.getElem_toArray, List.getElem_cons_zero, List.getElem_cons_succ]
            refine wpAnyH_ready (rs := [12]) (by kernel_rfl) (by simp) ?_
            refine AllReadyH.cons rfl (fun K hK => ?_) AllReadyH.nil
            refine step_appR rfl _ _ 44 23 _ 32 (by rfl) Tryd.underlying44 infoI rfl (by decide) recI W8.heap.size (.slice va3 cl.length vc3) cl (y0, y1, y2, y3) ?hs xb 1 ?hx ?hown ?hu ?hsm ?hB ?_
            case hs => rfl
            case hx => rfl
            case hown => exact Lib.hid o4
            case hu => exact rec_at hn4 rfl
            case hsm => omega
            case hB => exact b4.size
            intro v5 V5 ho5 hg5 hor5
            have b5 : Below W8.heap.size W8 V5 := b4.grown hg5 b4.size (fun k e => (o4.lt k e).1)
            obtain ⟨va5, vc5, rfl⟩ := ho5.out.form
            have HFIN := Lib.hid (HRL.out _ _ b5 ho5.out)
            have hcu2 := (HGo.out _ b5).2.1
            have hfu2 := (HGo.out _ b5).2.2.1
            have hS3 := HKS.out _ (.slice va5 (cl ++ [((y0, y1, y2, y3) : I4)]).length vc5) b5
            have hln : (cl ++ [((y0, y1, y2, y3) : I4)]).length = cl.length + 1 := by simp
            rw [hln] at HFIN hS3 ⊢
            refine hK.out _ _ (HGo.out _ b5).1 (fun _ => ?_)
            clear hK K
            try simp only [Act.put, List.setIfInBounds_toArray, List.set_cons_zero, List.set_cons_succ, List.getElem_toArray, List.getElem_cons_zero, List.getElem_cons_succ]
            refine wpAnyH_take (i := 13) (v := ?_) rfl (by kernel_rfl) (by kernel_rfl) (by kernel_rfl) (fun _ _ _ h => h) (Or.inl ⟨by rfl, ?_⟩) (HGo.out _ b5).1 ?_
            rotate_left
            · (intro w' hSw; (try dsimp only at hSw); go_simp <;> (with_reducible rfl))
            try simp only [Act.put, List.setIfInBounds_toArray, List.set_cons_zero, List.set_cons_succ, List.getElem_toArray, List.getElem_cons_zero, List.getElem_cons_succ]
            refine wpAnyH_ready (rs := [14]) (by kernel_rfl) (by simp) ?_
            refine AllReadyH.cons rfl (fun K hK => ?_) AllReadyH.nil
            go_simp
            refine hK.out _ _ hS3 (fun _ => ?_)
            clear hK K hcu2 hfu2 hS3
            try simp only [Act.put, List.setIfInBounds_toArray, List.set_cons_zero, List.set_cons_succ, List.getElem_toArray, List.getElem_cons_zero, List.getElem_cons_succ]
            refine wpAnyH_done (by kernel_rfl) ?_ _
            clear HGo HKS HRL
            go_wp2_with fail
            exact hN _ _ _ _ _ _ _ _ _ _ _ _ _ _ _ _ _ _ _ _ _ _ _ _ _ _ _ _ _ _ _ _ _ _ _ _ _ _ _ _ _ _ _ _ _ _ _ _ _ _ _ _ _ _ _ _ _ _ _ _ _ _ _ _ _ _ _ _ _ _ _ _ _ _ _ _ _ _ _ _ _ _ _ _ _ _ _ _ _ _ _ _ _ _ _ _ (true, sm, acc ++ [cl ++ [(y0, y1, y2, y3)]]) _ _ _ rfl (by go_num) hl1 hl2 HSN HFIN
          refine AllReadyH.cons rfl (fun K hK => ?_) AllReadyH.nil
          go_simp
          obtain ⟨V3, hV3⟩ : ∃ V, V1.alloc (.cells #[.int .i64 y0, .int .i64 y1, .int .i64 y2, .int .i64 y3] 23) = V := ⟨_, rfl⟩
          have a3 : Below V1.heap.size V1 V3 := by rw [← hV3]; exact (Below.refl _ _).alloc (Nat.le_refl _) _
          have hn3 : V3.heap[V1.heap.size]? = some (.cells #[.int .i64 y0, .int .i64 y1, .int .i64 y2, .int .i64 y3] 23 (0, 0)) := by rw [← hV3]; exact heap_new V1 _ _
          obtain ⟨xb, hxb⟩ : ∃ x, V1.heap.size = x := ⟨_, rfl⟩
          rw [hxb] at hn3
          rw [hV3, hxb]
          have hwxb : W8.heap.size ≤ xb := by rw [← hxb]; exact b1.size
          have hlxb : xb < V3.heap.size := (Array.getElem?_eq_some_iff.1 hn3).1
          have b3 : Below W8.heap.size W8 V3 := b1.trans (a3.mono b1.size)
          have ef3 := kb hn1 a3
          have hex : xb ≠ eb := by have := (Array.getElem?_eq_some_iff.1 hn1).1; omega
          refine hK.out _ _ (HGo.out _ b3).1 (fun _ => ?_)
          clear hK K
          try simp only [Act.put, List.setIfInBounds_toArray, List.set_cons_zero, List.set_cons_succ, List.getElem_toArray, List.getElem_cons_zero, List.getElem_cons_succ]
          refine wpAnyH_ready (rs := [9]) (by kernel_rfl) (by simp) ?_
          refine AllReadyH.cons rfl (fun K hK => ?_) AllReadyH.nil
          refine step_copyG rfl _ _ 44 23 _ 32 (by rfl) Tryd.underlying44 infoI rfl (by decide) recI eb cl (.slice ua cl.length uc) ?hs ?hown ?hx ?hv ?hsm ?_
          case hs => rfl
          case hown => exact ef3
          case hx => rfl
          case hv => exact (HGo.out _ b3).2.2.2
          case hsm => omega
          intro v4 V4 ho4 hg4
          obtain ⟨va4, vc4, rfl⟩ := ho4.out.form
          have b4 : Below W8.heap.size W8 V4 := b3.grown hg4 b3.size (fun k e => by
            obtain rfl := Option.some.inj e
            exact hweb)
          have o4 : OR 4 enI V4 W8.heap.size 23 (.slice va4 cl.length vc4) cl := OR.mono ho4.out hweb
          have rf4 := (hg4.block xb (Array.getElem?_eq_some_iff.1 hn3).1 (fun e => hex (Option.some.inj e))).trans hn3
          refine hK.out _ _ (HGo.out _ b4).1 (fun _ => ?_)
          clear hK K
          try simp only [Act.put, List.setIfInBounds_toArray, List.set_cons_zero, List.set_cons_succ, List.getElem_toArray, List.getElem_cons_zero, List.getElem_cons_succ]
          refine wpAnyH_ready (rs := [12]) (by kernel_rfl) (by simp) ?_
          refine AllReadyH.cons rfl (fun K hK => ?_) AllReadyH.nil
          refine step_appR rfl _ _ 44 23 _ 32 (by rfl) Tryd.underlying44 infoI rfl (by decide) recI W8.heap.size (.slice va4 cl.length vc4) cl (y0, y1, y2, y3) ?hs xb 1 ?hx ?hown ?hu ?hsm ?hB ?_
          case hs => rfl
          case hx => rfl
          case hown => exact Lib.hid o4
          case hu => exact rec_at rf4 rfl
          case hsm => omega
          case hB => exact b4.size
          intro v5 V5 ho5 hg5 hor5
          have b5 : Below W8.heap.size W8 V5 := b4.grown hg5 b4.size (fun k e => (o4.lt k e).1)
          obtain ⟨va5, vc5, rfl⟩ := ho5.out.form
          have HFIN := Lib.hid (HRL.out _ _ b5 ho5.out)
          have hcu2 := (HGo.out _ b5).2.1
          have hfu2 := (HGo.out _ b5).2.2.1
          have hS3 := HKS.out _ (.slice va5 (cl ++ [((y0, y1, y2, y3) : I4)]).length vc5) b5
          have hln : (cl ++ [((y0, y1, y2, y3) : I4)]).length = cl.length + 1 := by simp
          rw [hln] at HFIN hS3 ⊢
          refine hK.out _ _ (HGo.out _ b5).1 (fun _ => ?_)
          clear hK K
          try simp only [Act.put, List.setIfInBounds_toArray, List.set_cons_zero, List.set_cons_succ, List.getElem_toArray, List.getElem_cons_zero, List.getElem_cons_succ]
          refine wpAnyH_take (i := 13) (v := ?_) rfl (by kernel_rfl) (by kernel_rfl) (by kernel_rfl) (fun _ _ _ h => h) (Or.inl ⟨by rfl, ?_⟩) (HGo.out _ b5).1 ?_
          rotate_left
          · (intro w' hSw; (try dsimp only at hSw); go_simp <;> (with_reducible rfl))
          try simp only [Act.put, List.setIfInBounds_toArray, List.set_cons_zero, List.set_cons_succ, List.getElem_toArray, List.getElem_cons_zero, List.getElem_cons_succ]
          refine wpAnyH_ready (rs := [14]) (by kernel_rfl) (by simp) ?_
          refine AllReadyH.cons rfl (fun K hK => ?_) AllReadyH.nil
          go_simp
          refine hK.out _ _ hS3 (fun _ => ?_)
          clear hK K hcu2 hfu2 hS3
          try simp only [Act.put, List.setIfInBounds_toArray, List.set_cons_zero, List.set_cons_succ, List.getElem_toArray, List.getElem_cons_zero, List.getElem_cons_succ]
          refine wpAnyH_done (by kernel_rfl) ?_ _
          clear HGo HKS HRL
          go_wp2_with fail
          exact hN _ _ _ _ _ _ _ _ _ _ _ _ _ _ _ _ _ _ _ _ _ _ _ _ _ _ _ _ _ _ _ _ _ _ _ _ _ _ _ _ _ _ _ _ _ _ _ _ _ _ _ _ _ _ _ _ _ _ _ _ _ _ _ _ _ _ _ _ _ _ _ _ _ _ _ _ _ _ _ _ _ _ _ _ _ _ _ _ _ _ _ _ _ _ _ _ (true, sm, acc ++ [cl ++ [(y0, y1, y2, y3)]]) _ _ _ rfl (by go_num) hl1 hl2 HSN HFIN
        refine AllReadyH.cons rfl (fun K hK => ?_) AllReadyH.nil
        go_simp
        obtain ⟨V2, hV2⟩ : ∃ V, V1.alloc (.cells #[.int .i64 y0, .int .i64 y1, .int .i64 y2, .int .i64 y3] 23) = V := ⟨_, rfl⟩
        have a2 : Below V1.heap.size V1 V2 := by rw [← hV2]; exact (Below.refl _ _).alloc (Nat.le_refl _) _
        have hn2 : V2.heap[V1.heap.size]? = some (.cells #[.int .i64 y0, .int .i64 y1, .int .i64 y2, .int .i64 y3] 23 (0, 0)) := by rw [← hV2]; exact heap_new V1 _ _
        obtain ⟨xb, hxb⟩ : ∃ x, V1.heap.size = x := ⟨_, rfl⟩
        rw [hxb] at hn2
        rw [hV2, hxb]
        have hwxb : W8.heap.size ≤ xb := by rw [← hxb]; exact b1.size
        have hlxb : xb < V2.heap.size := (Array.getElem?_eq_some_iff.1 hn2).1
        have b2 : Below W8.heap.size W8 V2 := b1.trans (a2.mono b1.size)
        have ef2 := kb hn1 a2
        have hex : xb ≠ eb := by have := (Array.getElem?_eq_some_iff.1 hn1).1; omega
        refine hK.out _ _ (HGo.out _ b2).1 (fun _ => ?_)
        clear hK K
        try simp only [Act.put, List.setIfInBounds_toArray, List.set_cons_zero, List.set_cons_succ, List.getElem_toArray, List.getElem_cons_zero, List.getElem_cons_succ]
        refine wpAnyH_ready (rs := [8]) (by kernel_rfl) (by simp) ?_
        refine AllReadyH.cons rfl (fun K hK => ?_) AllReadyH.nil
        have hcu3 := (HGo.out _ b2).2.1
        go_simp
        refine hK.out _ _ (HGo.out _ b2).1 (fun _ => ?_)
        clear hK K hcu3
        try simp only [Act.put, List.setIfInBounds_toArray, List.set_cons_zero, List.set_cons_succ, List.getElem_toArray, List.getElem_cons_zero, List.getElem_cons_succ]
        refine wpAnyH_ready (rs := [9]) (by kernel_rfl) (by simp) ?_
        refine AllReadyH.cons rfl (fun K hK => ?_) AllReadyH.nil
        refine step_copyG rfl _ _ 44 23 _ 32 (by rfl) Tryd.underlying44 infoI rfl (by decide) recI eb cl (.slice ua cl.length uc) ?hs ?hown ?hx ?hv ?hsm ?_
        case hs => rfl
        case hown => exact ef2
        case hx => rfl
        case hv => exact (HGo.out _ b2).2.2.2
        case hsm => omega
        intro v4 V4 ho4 hg4
        obtain ⟨va4, vc4, rfl⟩ := ho4.out.form
        have b4 : Below W8.heap.size W8 V4 := b2.grown hg4 b2.size (fun k e => by
          obtain rfl := Option.some.inj e
          exact hweb)
        have o4 : OR 4 enI V4 W8.heap.size 23 (.slice va4 cl.length vc4) cl := OR.mono ho4.out hweb
        have rf4 := (hg4.block xb (Array.getElem?_eq_some_iff.1 hn2).1 (fun e => hex (Option.some.inj e))).trans hn2
        refine hK.out _ _ (HGo.out _ b4).1 (fun _ => ?_)
        clear hK K
        try simp only [Act.put, List.setIfInBounds_toArray, List.set_cons_zero, List.set_cons_succ, List.getElem_toArray, List.getElem_cons_zero, List.getElem_cons_succ]
        refine wpAnyH_ready (rs := [12]) (by kernel_rfl) (by simp) ?_
        refine AllReadyH.cons rfl (fun K hK => ?_) AllReadyH.nil
        refine step_appR rfl _ _ 44 23 _ 32 (by rfl) Tryd.underlying44 infoI rfl (by decide) recI W8.heap.size (.slice va4 cl.length vc4) cl (y0, y1, y2, y3) ?hs xb 1 ?hx ?hown ?hu ?hsm ?hB ?_
        case hs => rfl
        case hx => rfl
        case hown => exact Lib.hid o4
        case hu => exact rec_at rf4 rfl
        case hsm => omega
        case hB => exact b4.size
        intro v5 V5 ho5 hg5 hor5
        have b5 : Below W8.heap.size W8 V5 := b4.grown hg5 b4.size (fun k e => (o4.lt k e).1)
        obtain ⟨va5, vc5, rfl⟩ := ho5.out.form
        have HFIN := Lib.hid (HRL.out _ _ b5 ho5.out)
        have hcu2 := (HGo.out _ b5).2.1
        have hfu2 := (HGo.out _ b5).2.2.1
        have hS3 := HKS.out _ (.slice va5 (cl ++ [((y0, y1, y2, y3) : I4)]).length vc5) b5
        have hln : (cl ++ [((y0, y1, y2, y3) : I4)]).length = cl.length + 1 := by simp
        rw [hln] at HFIN hS3 ⊢
        refine hK.out _ _ (HGo.out _ b5).1 (fun _ => ?_)
        clear hK K
        try simp only [Act.put, List.setIfInBounds_toArray, List.set_cons_zero, List.set_cons_succ, List.getElem_toArray, List.getElem_cons_zero, List.getElem_cons_succ]
        refine wpAnyH_take (i := 13) (v := ?_) rfl (by kernel_rfl) (by kernel_rfl) (by kernel_rfl) (fun _ _ _ h => h) (Or.inl ⟨by rfl, ?_⟩) (HGo.out _ b5).1 ?_
        rotate_left
        · (intro w' hSw; (try dsimp only at hSw); go_simp <;> (with_reducible rfl))
        try simp only [Act.put, List.setIfInBounds_toArray, List.set_cons_zero, List.set_cons_succ, List.getElem_toArray, List.getElem_cons_zero, List.getElem_cons_succ]
        refine wpAnyH_ready (rs := [14]) (by kernel_rfl) (by simp) ?_
        refine AllReadyH.cons rfl (fun K hK => ?_) AllReadyH.nil
        go_simp
        refine hK.out _ _ hS3 (fun _ => ?_)
        clear hK K hcu2 hfu2 hS3
        try simp only [Act.put, List.setIfInBounds_toArray, List.set_cons_zero, List.set_cons_succ, List.getElem_toArray, List.getElem_cons_zero, List.getElem_cons_succ]
        refine wpAnyH_done (by kernel_rfl) ?_ _
        clear HGo HKS HRL
        go_wp2_with fail
        exact hN _ _ _ _ _ _ _ _ _ _ _ _ _ _ _ _ _ _ _ _ _ _ _ _ _ _ _ _ _ _ _ _ _ _ _ _ _ _ _ _ _ _ _ _ _ _ _ _ _ _ _ _ _ _ _ _ _ _ _ _ _ _ _ _ _ _ _ _ _ _ _ _ _ _ _ _ _ _ _ _ _ _ _ _ _ _ _ _ _ _ _ _ _ _ _ _ (true, sm, acc ++ [cl ++ [(y0, y1, y2, y3)]]) _ _ _ rfl (by go_num) hl1 hl2 HSN HFIN
      refine AllReadyH.cons rfl (fun K hK => ?_) ?_
      · have hcu1 := (HGo.out _ hbD).2.1
        go_simp
        refine hK.out _ _ (HGo.out _ hbD).1 (fun _ => ?_)
        clear hK K hcu1
        try simp only [Act.put, List.setIfInBounds_toArray, List.set_cons_zero, List.set_cons_succ, List.getElem_toArray, List.getElem_cons_zero, List.getElem_cons_succ]
        refine wpAnyH_ready (rs := [3, 11]) (by kernel_rfl) (by simp) ?_
        refine AllReadyH.cons rfl (fun K hK => ?_) ?_
        · go_simp
          obtain ⟨V2, hV2⟩ : ∃ V, WD.alloc (.cells #[] 23) = V := ⟨_, rfl⟩
          have a2 : Below WD.heap.size WD V2 := by rw [← hV2]; exact (Below.refl _ _).alloc (Nat.le_refl _) _
          have hn2 : V2.heap[WD.heap.size]? = some (.cells #[] 23 (0, 0)) := by rw [← hV2]; exact heap_new WD _ _
          obtain ⟨eb, heb⟩ : ∃ x, WD.heap.size = x := ⟨_, rfl⟩
          rw [heb] at hn2
          rw [hV2, heb]
          have hweb : W8.heap.size ≤ eb := by rw [← heb]; exact hbD.size
          have hleb : eb < V2.heap.size := (Array.getElem?_eq_some_iff.1 hn2).1
          have b2 : Below W8.heap.size W8 V2 := hbD.trans (a2.mono hbD.size)
          refine hK.out _ _ (HGo.out _ b2).1 (fun _ => ?_)
          clear hK K
          try simp only [Act.put, List.setIfInBounds_toArray, List.set_cons_zero, List.set_cons_succ, List.getElem_toArray, List.getElem_cons_zero, List.getElem_cons_succ]
          refine wpAnyH_ready (rs := [9, 11]) (by kernel_rfl) (by simp) ?_
          refine AllReadyH.cons rfl (fun K hK => ?_) ?_
          · refine step_copyG rfl _ _ 44 23 _ 32 (by rfl) Tryd.underlying44 infoI rfl (by decide) recI eb cl (.slice ua cl.length uc) ?hs ?hown ?hx ?hv ?hsm ?_
            case hs => rfl
            case hown => exact hn2
            case hx => rfl
            case hv => exact (HGo.out _ b2).2.2.2
            case hsm => omega
            intro v3 V3 ho3 hg3
            obtain ⟨va3, vc3, rfl⟩ := ho3.out.form
            have b3 : Below W8.heap.size W8 V3 := b2.grown hg3 b2.size (fun k e => by
              obtain rfl := Option.some.inj e
              exact hweb)
            have o3 : OR 4 enI V3 W8.heap.size 23 (.slice va3 cl.length vc3) cl := OR.mono ho3.out hweb
            refine hK.out _ _ (HGo.out _ b3).1 (fun _ => ?_)
            clear hK K
            try simp only [Act.put, List.setIfInBounds_toArray, List.set_cons_zero, List.set_cons_succ, List.getElem_toArray, List.getElem_cons_zero, List.getElem_cons_succ]
            refine wpAnyH_ready (rs := [11]) (by kernel_rfl) (by simp) ?_
            refine AllReadyH.cons rfl (fun K hK => ?_) AllReadyH.nil
            go_simp
            obtain ⟨V4, hV4⟩ : ∃ V, V3.alloc (.cells #[.int .i64 y0, .int .i64 y1, .int .i64 y2, .int .i64 y3] 23) = V := ⟨_, rfl⟩
            have a4 : Below V3.heap.size V3 V4 := by rw [← hV4]; exact (Below.refl _ _).alloc (Nat.le_refl _) _
            have hn4 : V4.heap[V3.heap.size]? = some (.cells #[.int .i64 y0, .int .i64 y1, .int .i64 y2, .int .i64 y3] 23 (0, 0)) := by rw [← hV4]; exact heap_new V3 _ _
            obtain ⟨xb, hxb⟩ : ∃ x, V3.heap.size = x := ⟨_, rfl⟩
            rw [hxb] at hn4
            rw [hV4, hxb]
            have hwxb : W8.heap.size ≤ xb := by rw [← hxb]; exact b3.size
            have hlxb : xb < V4.heap.size := (Array.getElem?_eq_some_iff.1 hn4).1
            have b4 : Below W8.heap.size W8 V4 := b3.trans (a4.mono b3.size)
            have o4 := o3.below a4
            refine hK.out _ _ (HGo.out _ b4).1 (fun _ => ?_)
            clear hK K
            try simp only [Act.put, List.setIfInBounds_toArray, List.set_cons_zero, List.set_cons_succ, List.getElem_toArray, List.getElem_cons_zero, List.getElem_cons_succ]
            refine wpAnyH_ready (rs := [12]) (by kernel_rfl) (by simp) ?_
            refine AllReadyH.cons rfl (fun K hK => ?_) AllReadyH.nil
            refine step_appR rfl _ _ 44 23 _ 32 (by rfl) Tryd.underlying44 infoI rfl (by decide) recI W8.heap.size (.slice va3 cl.length vc3) cl (y0, y1, y2, y3) ?hs xb 1 ?hx ?hown ?hu ?hsm ?hB ?_
            case hs => rfl
            case hx => rfl
            case hown => exact Lib.hid o4
            case hu => exact rec_at hn4 rfl
            case hsm => omega
            case hB => exact b4.size
            intro v5 V5 ho5 hg5 hor5
            have b5 : Below W8.heap.size W8 V5 := b4.grown hg5 b4.size (fun k e => (o4.lt k e).1)
            obtain ⟨va5, vc5, rfl⟩ := ho5.out.form
            have HFIN := Lib.hid (HRL.out _ _ b5 ho5.out)
            have hcu2 := (HGo.out _ b5).2.1
            have hfu2 := (HGo.out _ b5).2.2.1
            have hS3 := HKS.out _ (.slice va5 (cl ++ [((y0, y1, y2, y3) : I4)]).length vc5) b5
            have hln : (cl ++ [((y0, y1, y2, y3) : I4)]).length = cl.length + 1 := by simp
            rw [hln] at HFIN hS3 ⊢
            refine hK.out _ _ (HGo.out _ b5).1 (fun _ => ?_)
            clear hK K
            try simp only [Act.put, List.setIfInBounds_toArray, List.set_cons_zero, List.set_cons_succ, List.getElem_toArray, List.getElem_cons_zero, List.getElem_cons_succ]
            refine wpAnyH_take (i := 13) (v := ?_) rfl (by kernel_rfl) (by kernel_rfl) (by kernel_rfl) (fun _ _ _ h => h) (Or.inl ⟨by rfl, ?_⟩) (HGo.out _ b5).1 ?_
            rotate_left
            · (intro w' hSw; (try dsimp only at hSw); go_simp <;> (with_reducible rfl))
            try simp only [Act.put, List.setIfInBounds_toArray, List.set_cons_zero, List.set_cons_succ, List.getElem_toArray, List.getElem_cons_zero, List.getElem_cons_succ]
            refine wpAnyH_ready (rs := [14]) (by kernel_rfl) (by simp) ?_
            refine AllReadyH.cons rfl (fun K hK => ?_) AllReadyH.nil
            go_simp
            refine hK.out _ _ hS3 (fun _ => ?_)
            clear hK K hcu2 hfu2 hS3
            try simp only [Act.put, List.setIfInBounds_toArray, List.set_cons_zero, List.set_cons_succ, List.getElem_toArray, List.getElem_cons_zero, List.getElem_cons_succ]
            refine wpAnyH_done (by kernel_rfl) ?_ _
            clear HGo HKS HRL
            go_wp2_with fail
            exact hN _ _ _ _ _ _ _ _ _ _ _ _ _ _ _ _ _ _ _ _ _ _ _ _ _ _ _ _ _ _ _ _ _ _ _ _ _ _ _ _ _ _ _ _ _ _ _ _ _ _ _ _ _ _ _ _ _ _ _ _ _ _ _ _ _ _ _ _ _ _ _ _ _ _ _ _ _ _ _ _ _ _ _ _ _ _ _ _ _ _ _ _ _ _ _ _ (true, sm, acc ++ [cl ++ [(y0, y1, y2, y3)]]) _ _ _ rfl (by go_num) hl1 hl2 HSN HFIN
          refine AllReadyH.cons rfl (fun K hK => ?_) AllReadyH.nil
          go_simp
          obtain ⟨V3, hV3⟩ : ∃ V, V2.alloc (.cells #[.int .i64 y0, .int .i64 y1, .int .i64 y2, .int .i64 y3] 23) = V := ⟨_, rfl⟩
          have a3 : Below V2.heap.size V2 V3 := by rw [← hV3]; exact (Below.refl _ _).alloc (Nat.le_refl _) _
          have hn3 : V3.heap[V2.heap.size]? = some (.cells #[.int .i64 y0, .int .i64 y1, .int .i64 y2, .int .i64 y3] 23 (0, 0)) := by rw [← hV3]; exact heap_new V2 _ _
          obtain ⟨xb, hxb⟩ : ∃ x, V2.heap.size = x := ⟨_, rfl⟩
          rw [hxb] at hn3
          rw [hV3, hxb]
          have hwxb : W8.heap.size ≤ xb := by rw [← hxb]; exact b2.size
          have hlxb : xb < V3.heap.size := (Array.getElem?_eq_some_iff.1 hn3).1
          have b3 : Below W8.heap.size W8 V3 := b2.trans (a3.mono b2.size)
          have ef3 := kb hn2 a3
          have hex : xb ≠ eb := by have := (Array.getElem?_eq_some_iff.1 hn2).1; omega
          refine hK.out _ _ (HGo.out _ b3).1 (fun _ => ?_)
          clear hK K
          try simp only [Act.put, List.setIfInBounds_toArray, List.set_cons_zero, List.set_cons_succ, List.getElem_toArray, List.getElem_cons_zero, List.getElem_cons_succ]
          refine wpAnyH_ready (rs := [9]) (by kernel_rfl) (by simp) ?_
          refine AllReadyH.cons rfl (fun K hK => ?_) AllReadyH.nil
          refine step_copyG rfl _ _ 44 23 _ 32 (by rfl) Tryd.underlying44 infoI rfl (by decide) recI eb cl (.slice ua cl.length uc) ?hs ?hown ?hx ?hv ?hsm ?_
          case hs => rfl
          case hown => exact ef3
          case hx => rfl
          case hv => exact (HGo.out _ b3).2.2.2
          case hsm => omega
          intro v4 V4 ho4 hg4
          obtain ⟨va4, vc4, rfl⟩ := ho4.out.form
          have b4 : Below W8.heap.size W8 V4 := b3.grown hg4 b3.size (fun k e => by
            obtain rfl := Option.some.inj e
            exact hweb)
          have o4 : OR 4 enI V4 W8.heap.size 23 (.slice va4 cl.length vc4) cl := OR.mono ho4.out hweb
          have rf4 := (hg4.block xb (Array.getElem?_eq_some_iff.1 hn3).1 (fun e => hex (Option.some.inj e))).trans hn3
          refine hK.out _ _ (HGo.out _ b4).1 (fun _ => ?_)
          clear hK K
          try simp only [Act.put, List.setIfInBounds_toArray, List.set_cons_zero, List.set_cons_succ, List.getElem_toArray, List.getElem_cons_zero, List.getElem_cons_succ]
          refine wpAnyH_ready (rs := [12]) (by kernel_rfl) (by simp) ?_
          refine AllReadyH.cons rfl (fun K hK => ?_) AllReadyH.nil
          refine step_appR rfl _ _ 44 23 _ 32 (by rfl) Tryd.underlying44 infoI rfl (by decide) recI W8.heap.size (.slice va4 cl.length vc4) cl (y0, y1, y2, y3) ?hs xb 1 ?hx ?hown ?hu ?hsm ?hB ?_
          case hs => rfl
          case hx => rfl
          case hown => exact Lib.hid o4
          case hu => exact rec_at rf4 rfl
          case hsm => omega
          case hB => exact b4.size
          intro v5 V5 ho5 hg5 hor5
          have b5 : Below W8.heap.size W8 V5 := b4.grown hg5 b4.size (fun k e => (o4.lt k e).1)
          obtain ⟨va5, vc5, rfl⟩ := ho5.out.form
          have HFIN := Lib.hid (HRL.out _ _ b5 ho5.out)
          have hcu2 := (HGo.out _ b5).2.1
          have hfu2 := (HGo.out _ b5).2.2.1
          have hS3 := HKS.out _ (.slice va5 (cl ++ [((y0, y1, y2, y3) : I4)]).length vc5) b5
          have hln : (cl ++ [((y0, y1, y2, y3) : I4)]).length = cl.length + 1 := by simp
          rw [hln] at HFIN hS3 ⊢
          refine hK.out _ _ (HGo.out _ b5).1 (fun _ => ?_)
          clear hK K
          try simp only [Act.put, List.setIfInBounds_toArray, List.set_cons_zero, List.set_cons_succ, List.getElem_toArray, List.getElem_cons_zero, List.getElem_cons_succ]
          refine wpAnyH_take (i := 13) (v := ?_) rfl (by kernel_rfl) (by kernel_rfl) (by kernel_rfl) (fun _ _ _ h => h) (Or.inl ⟨by rfl, ?_⟩) (HGo.out _ b5).1 ?_
          rotate_left
          · (intro w' hSw; (try dsimp only at hSw); go_simp <;> (with_reducible rfl))
          try simp only [Act.put, List.setIfInBounds_toArray, List.set_cons_zero, List.set_cons_succ, List.getElem_toArray, List.getElem_cons_zero, List.getElem_cons_succ]
          refine wpAnyH_ready (rs := [14]) (by kernel_rfl) (by simp) ?_
          refine AllReadyH.cons rfl (fun K hK => ?_) AllReadyH.nil
          go_simp
          refine hK.out _ _ hS3 (fun _ => ?_)
          clear hK K hcu2 hfu2 hS3
          try simp only [Act.put, List.setIfInBounds_toArray, List.set_cons_zero, List.set_cons_succ, List.getElem_toArray, List.getElem_cons_zero, List.getElem_cons_succ]
          refine wpAnyH_done (by kernel_rfl) ?_ _
          clear HGo HKS HRL
          go_wp2_with fail
          exact hN _ _ _ _ _ _ _ _ _ _ _ _ _ _ _ _ _ _ _ _ _ _ _ _ _ _ _ _ _ _ _ _ _ _ _ _ _ _ _ _ _ _ _ _ _ _ _ _ _ _ _ _ _ _ _ _ _ _ _ _ _ _ _ _ _ _ _ _ _ _ _ _ _ _ _ _ _ _ _ _ _ _ _ _ _ _ _ _ _ _ _ _ _ _ _ _ (true, sm, acc ++ [cl ++ [(y0, y1, y2, y3)]]) _ _ _ rfl (by go_num) hl1 hl2 HSN HFIN
        refine AllReadyH.cons rfl (fun K hK => ?_) AllReadyH.nil
        go_simp
        obtain ⟨V2, hV2⟩ : ∃ V, WD.alloc (.cells #[.int .i64 y0, .int .i64 y1, .int .i64 y2, .int .i64 y3] 23) = V := ⟨_, rfl⟩
        have a2 : Below WD.heap.size WD V2 := by rw [← hV2]; exact (Below.refl _ _).alloc (Nat.le_refl _) _
        have hn2 : V2.heap[WD.heap.size]? = some (.cells #[.int .i64 y0, .int .i64 y1, .int .i64 y2, .int .i64 y3] 23 (0, 0)) := by rw [← hV2]; exact heap_new WD _ _
        obtain ⟨xb, hxb⟩ : ∃ x, WD.heap.size = x := ⟨_, rfl⟩
        rw [hxb] at hn2
        rw [hV2, hxb]
        have hwxb : W8.heap.size ≤ xb := by rw [← hxb]; exact hbD.size
        have hlxb : xb < V2.heap.size := (Array.getElem?_eq_some_iff.1 hn2).1
        have b2 : Below W8.heap.size W8 V2 := hbD.trans (a2.mono hbD.size)
        refine hK.out _ _ (HGo.out _ b2).1 (fun _ => ?_)
        clear hK K
        try simp only [Act.put, List.setIfInBounds_toArray, List.set_cons_zero, List.set_cons_succ, List.getElem_toArray, List.getElem_cons_zero, List.getElem_cons_succ]
        refine wpAnyH_ready (rs := [3]) (by kernel_rfl) (by simp) ?_
        refine AllReadyH.cons rfl (fun K hK => ?_) AllReadyH.nil
        go_simp
        obtain ⟨V3, hV3⟩ : ∃ V, V2.alloc (.cells #[] 23) = V := ⟨_, rfl⟩
        have a3 : Below V2.heap.size V2 V3 := by rw [← hV3]; exact (Below.refl _ _).alloc (Nat.le_refl _) _
        have hn3 : V3.heap[V2.heap.size]? = some (.cells #[] 23 (0, 0)) := by rw [← hV3]; exact heap_new V2 _ _
        obtain ⟨eb, heb⟩ : ∃ x, V2.heap.size = x := ⟨_, rfl⟩
        rw [heb] at hn3
        rw [hV3, heb]
        have hweb : W8.heap.size ≤ eb := by rw [← heb]; exact b2.size
        have hleb : eb < V3.heap.size := (Array.getElem?_eq_some_iff.1 hn3).1
        have b3 : Below W8.heap.size W8 V3 := b2.trans (a3.mono b2.size)
        have rf3 := kb hn2 a3
        have hex : xb ≠ eb := by have := (Array.getElem?_eq_some_iff.1 hn2).1; omega
        refine hK.out _ _ (HGo.out _ b3).1 (fun _ => ?_)
        clear hK K
        try simp only [Act.put, List.setIfInBounds_toArray, List.set_cons_zero, List.set_cons_succ, List.getElem_toArray, List.getElem_cons_zero, List.getElem_cons_succ]
        refine wpAnyH_ready (rs := [9]) (by kernel_rfl) (by simp) ?_
        refine AllReadyH.cons rfl (fun K hK => ?_) AllReadyH.nil
        refine step_copyG rfl _ _ 44 23 _ 32 (by rfl) Tryd.underlying44 infoI rfl (by decide) recI eb cl (.slice ua cl.length uc) ?hs ?hown ?hx ?hv ?hsm ?_
        case hs => rfl
        case hown => exact hn3
        case hx => rfl
        case hv => exact (HGo.out _ b3).2.2.2
        case hsm => omega
        intro v4 V4 ho4 hg4
        obtain ⟨va4, vc4, rfl⟩ := ho4.out.form
        have b4 : Below W8.heap.size W8 V4 := b3.grown hg4 b3.size (fun k e => by
          obtain rfl := Option.some.inj e
          exact hweb)
        have o4 : OR 4 enI V4 W8.heap.size 23 (.slice va4 cl.length vc4) cl := OR.mono ho4.out hweb
        have rf4 := (hg4.block xb (Array.getElem?_eq_some_iff.1 rf3).1 (fun e => hex (Option.some.inj e))).trans rf3
        refine hK.out _ _ (HGo.out _ b4).1 (fun _ => ?_)
        clear hK K
        try simp only [Act.put, List.setIfInBounds_toArray, List.set_cons_zero, List.set_cons_succ, List.getElem_toArray, List.getElem_cons_zero, List.getElem_cons_succ]
        refine wpAnyH_ready (rs := [12]) (by kernel_rfl) (by simp) ?_
        refine AllReadyH.cons rfl (fun K hK => ?_) AllReadyH.nil
        refine step_appR rfl _ _ 44 23 _ 32 (by rfl) Tryd.underlying44 infoI rfl (by decide) recI W8.heap.size (.slice va4 cl.length vc4) cl (y0, y1, y2, y3) ?hs xb 1 ?hx ?hown ?hu ?hsm ?hB ?_
        case hs => rfl
        case hx => rfl
        case hown => exact Lib.hid o4
        case hu => exact rec_at rf4 rfl
        case hsm => omega
        case hB => exact b4.size
        intro v5 V5 ho5 hg5 hor5
        have b5 : Below W8.heap.size W8 V5 := b4.grown hg5 b4.size (fun k e => (o4.lt k e).1)
        obtain ⟨va5, vc5, rfl⟩ := ho5.out.form
        have HFIN := Lib.hid (HRL.out _ _ b5 ho5.out)
        have hcu2 := (HGo.out _ b5).2.1
        have hfu2 := (HGo.out _ b5).2.2.1
        have hS3 := HKS.out _ (.slice va5 (cl ++ [((y0, y1, y2, y3) : I4)]).length vc5) b5
        have hln : (cl ++ [((y0, y1, y2, y3) : I4)]).length = cl.length + 1 := by simp
        rw [hln] at HFIN hS3 ⊢
        refine hK.out _ _ (HGo.out _ b5).1 (fun _ => ?_)
        clear hK K
        try simp only [Act.put, List.setIfInBounds_toArray, List.set_cons_zero, List.set_cons_succ, List.getElem_toArray, List.getElem_cons_zero, List.getElem_cons_succ]
        refine wpAnyH_take (i := 13) (v := ?_) rfl (by kernel_rfl) (by kernel_rfl) (by kernel_rfl) (fun _ _ _ h => h) (Or.inl ⟨by rfl, ?_⟩) (HGo.out _ b5).1 ?_
        rotate_left
        · (intro w' hSw; (try dsimp only at hSw); go_simp <;> (with_reducible rfl))
        try simp only [Act.put, List.setIfInBounds_toArray, List.set_cons_zero, List.set_cons_succ, List.getElem_toArray, List.getElem_cons_zero, List.getElem_cons_succ]
        refine wpAnyH_ready (rs := [14]) (by kernel_rfl) (by simp) ?_
        refine AllReadyH.cons rfl (fun K hK => ?_) AllReadyH.nil
        go_simp
        refine hK.out _ _ hS3 (fun _ => ?_)
        clear hK K hcu2 hfu2 hS3
        try simp only [Act.put, List.setIfInBounds_toArray, List.set_cons_zero, List.set_cons_succ, List.getElem_toArray, List.getElem_cons_zero, List.getElem_cons_succ]
        refine wpAnyH_done (by kernel_rfl) ?_ _
        clear HGo HKS HRL
        go_wp2_with fail
        exact hN _ _ _ _ _ _ _ _ _ _ _ _ _ _ _ _ _ _ _ _ _ _ _ _ _ _ _ _ _ _ _ _ _ _ _ _ _ _ _ _ _ _ _ _ _ _ _ _ _ _ _ _ _ _ _ _ _ _ _ _ _ _ _ _ _ _ _ _ _ _ _ _ _ _ _ _ _ _ _ _ _ _ _ _ _ _ _ _ _ _ _ _ _ _ _ _ (true, sm, acc ++ [cl ++ [(y0, y1, y2, y3)]]) _ _ _ rfl (by go_num) hl1 hl2 HSN HFIN
      refine AllReadyH.cons rfl (fun K hK => ?_) AllReadyH.nil
      go_simp
      obtain ⟨V1, hV1⟩ : ∃ V, WD.alloc (.cells #[.int .i64 y0, .int .i64 y1, .int .i64 y2, .int .i64 y3] 23) = V := ⟨_, rfl⟩
      have a1 : Below WD.heap.size WD V1 := by rw [← hV1]; exact (Below.refl _ _).alloc (Nat.le_refl _) _
      have hn1 : V1.heap[WD.heap.size]? = some (.cells #[.int .i64 y0, .int .i64 y1, .int .i64 y2, .int .i64 y3] 23 (0, 0)) := by rw [← hV1]; exact heap_new WD _ _
      obtain ⟨xb, hxb⟩ : ∃ x, WD.heap.size = x := ⟨_, rfl⟩
      rw [hxb] at hn1
      rw [hV1, hxb]
      have hwxb : W8.heap.size ≤ xb := by rw [← hxb]; exact hbD.size
      have hlxb : xb < V1.heap.size := (Array.getElem?_eq_some_iff.1 hn1).1
      have b1 : Below W8.heap.size W8 V1 := hbD.trans (a1.mono hbD.size)
      refine hK.out _ _ (HGo.out _ b1).1 (fun _ => ?_)
      clear hK K
      try simp only [Act.put, List.setIfInBounds_toArray, List.set_cons_zero, List.set_cons_succ, List.getElem_toArray, List.getElem_cons_zero, List.getElem_cons_succ]
      refine wpAnyH_ready (rs := [3, 8]) (by kernel_rfl) (by simp) ?_
      refine AllReadyH.cons rfl (fun K hK => ?_) ?_
      · go_simp
        obtain ⟨V2, hV2⟩ : ∃ V, V1.alloc (.cells #[] 23) = V := ⟨_, rfl⟩
        have a2 : Below V1.heap.size V1 V2 := by rw [← hV2]; exact (Below.refl _ _).alloc (Nat.le_refl _) _
        have hn2 : V2.heap[V1.heap.size]? = some (.cells #[] 23 (0, 0)) := by rw [← hV2]; exact heap_new V1 _ _
        obtain ⟨eb, heb⟩ : ∃ x, V1.heap.size = x := ⟨_, rfl⟩
        rw [heb] at hn2
        rw [hV2, heb]
        have hweb : W8.heap.size ≤ eb := by rw [← heb]; exact b1.size
        have hleb : eb < V2.heap.size := (Array.getElem?_eq_some_iff.1 hn2).1
        have b2 : Below W8.heap.size W8 V2 := b1.trans (a2.mono b1.size)
        have rf2 := kb hn1 a2
        have hex : xb ≠ eb := by have := (Array.getElem?_eq_some_iff.1 hn1).1; omega
        refine hK.out _ _ (HGo.out _ b2).1 (fun _ => ?_)
        clear hK K
        try simp only [Act.put, List.setIfInBounds_toArray, List.set_cons_zero, List.set_cons_succ, List.getElem_toArray, List.getElem_cons_zero, List.getElem_cons_succ]
        refine wpAnyH_ready (rs := [8]) (by kernel_rfl) (by simp) ?_
        refine AllReadyH.cons rfl (fun K hK => ?_) AllReadyH.nil
        have hcu3 := (HGo.out _ b2).2.1
        go_simp
        refine hK.out _ _ (HGo.out _ b2).1 (fun _ => ?_)
        clear hK K hcu3
        try simp only [Act.put, List.setIfInBounds_toArray, List.set_cons_zero, List.set_cons_succ, List.getElem_toArray, List.getElem_cons_zero, List.getElem_cons_succ]
        refine wpAnyH_ready (rs := [9]) (by kernel_rfl) (by simp) ?_
        refine AllReadyH.cons rfl (fun K hK => ?_) AllReadyH.nil
        refine step_copyG rfl _ _ 44 23 _ 32 (by rfl) Tryd.underlying44 infoI rfl (by decide) recI eb cl (.slice ua cl.length uc) ?hs ?hown ?hx ?hv ?hsm ?_
        case hs => rfl
        case hown => exact hn2
        case hx => rfl
        case hv => exact (HGo.out _ b2).2.2.2
        case hsm => omega
        intro v4 V4 ho4 hg4
        obtain ⟨va4, vc4, rfl⟩ := ho4.out.form
        have b4 : Below W8.heap.size W8 V4 := b2.grown hg4 b2.size (fun k e => by
          obtain rfl := Option.some.inj e
          exact hweb)
        have o4 : OR 4 enI V4 W8.heap.size 23 (.slice va4 cl.length vc4) cl := OR.mono ho4.out hweb
        have rf4 := (hg4.block xb (Array.getElem?_eq_some_iff.1 rf2).1 (fun e => hex (Option.some.inj e))).trans rf2
        refine hK.out _ _ (HGo.out _ b4).1 (fun _ => ?_)
        clear hK K
        try simp only [Act.put, List.setIfInBounds_toArray, List.set_cons_zero, List.set_cons_succ, List.getElem_toArray, List.getElem_cons_zero, List.getElem_cons_succ]
        refine wpAnyH_ready (rs := [12]) (by kernel_rfl) (by simp) ?_
        refine AllReadyH.cons rfl (fun K hK => ?_) AllReadyH.nil
        refine step_appR rfl _ _ 44 23 _ 32 (by rfl) Tryd.underlying44 infoI rfl (by decide) recI W8.heap.size (.slice va4 cl.length vc4) cl (y0, y1, y2, y3) ?hs xb 1 ?hx ?hown ?hu ?hsm ?hB ?_
        case hs => rfl
        case hx => rfl
        case hown => exact Lib.hid o4
        case hu => exact rec_at rf4 rfl
        case hsm => omega
        case hB => exact b4.size
        intro v5 V5 ho5 hg5 hor5
        have b5 : Below W8.heap.size W8 V5 := b4.grown hg5 b4.size (fun k e => (o4.lt k e).1)
        obtain ⟨va5, vc5, rfl⟩ := ho5.out.form
        have HFIN := Lib.hid (HRL.out _ _ b5 ho5.out)
        have hcu2 := (HGo.out _ b5).2.1
        have hfu2 := (HGo.out _ b5).2.2.1
        have hS3 := HKS.out _ (.slice va5 (cl ++ [((y0, y1, y2, y3) : I4)]).length vc5) b5
        have hln : (cl ++ [((y0, y1, y2, y3) : I4)]).length = cl.length + 1 := by simp
        rw [hln] at HFIN hS3 ⊢
        refine hK.out _ _ (HGo.out _ b5).1 (fun _ => ?_)
        clear hK K
        try simp only [Act.put, List.setIfInBounds_toArray, List.set_cons_zero, List.set_cons_succ, List.getElem_toArray, List.getElem_cons_zero, List.getElem_cons_succ]
        refine wpAnyH_take (i := 13) (v := ?_) rfl (by kernel_rfl) (by kernel_rfl) (by kernel_rfl) (fun _ _ _ h => h) (Or.inl ⟨by rfl, ?_⟩) (HGo.out _ b5).1 ?_
        rotate_left
        · (intro w' hSw; (try dsimp only at hSw); go_simp <;> (with_reducible rfl))
        try simp only [Act.put, List.setIfInBounds_toArray, List.set_cons_zero, List.set_cons_succ, List.getElem_toArray, List.getElem_cons_zero, List.getElem_cons_succ]
        refine wpAnyH_ready (rs := [14]) (by kernel_rfl) (by simp) ?_
        refine AllReadyH.cons rfl (fun K hK => ?_) AllReadyH.nil
        go_simp
        refine hK.out _ _ hS3 (fun _ => ?_)
        clear hK K hcu2 hfu2 hS3
        try simp only [Act.put, List.setIfInBounds_toArray, List.set_cons_zero, List.set_cons_succ, List.getElem_toArray, List.getElem_cons_zero, List.getElem_cons_succ]
        refine wpAnyH_done (by kernel_rfl) ?_ _
        clear HGo HKS HRL
        go_wp2_with fail
        exact hN _ _ _ _ _ _ _ _ _ _ _ _ _ _ _ _ _ _ _ _ _ _ _ _ _ _ _ _ _ _ _ _ _ _ _ _ _ _ _ _ _ _ _ _ _ _ _ _ _ _ _ _ _ _ _ _ _ _ _ _ _ _ _ _ _ _ _ _ _ _ _ _ _ _ _ _ _ _ _ _ _ _ _ _ _ _ _ _ _ _ _ _ _ _ _ _ (true, sm, acc ++ [cl ++ [(y0, y1, y2, y3)]]) _ _ _ rfl (by go_num) hl1 hl2 HSN HFIN
      refine AllReadyH.cons rfl (fun K hK => ?_) AllReadyH.nil
      have hcu2 := (HGo.out _ b1).2.1
      go_simp
      refine hK.out _ _ (HGo.out _ b1).1 (fun _ => ?_)
      clear hK K hcu2
      try simp only [Act.put, List.setIfInBounds_toArray, List.set_cons_zero, List.set_cons_succ, List.getElem_toArray, List.getElem_cons_zero, List.getElem_cons_succ]
      refine wpAnyH_ready (rs := [3]) (by kernel_rfl) (by simp) ?_
      refine AllReadyH.cons rfl (fun K hK => ?_) AllReadyH.nil
      go_simp
      obtain ⟨V3, hV3⟩ : ∃ V, V1.alloc (.cells #[] 23) = V := ⟨_, rfl⟩
      have a3 : Below V1.heap.size V1 V3 := by rw [← hV3]; exact (Below.refl _ _).alloc (Nat.le_refl _) _
      have hn3 : V3.heap[V1.heap.size]? = some (.cells #[] 23 (0, 0)) := by rw [← hV3]; exact heap_new V1 _ _
      obtain ⟨eb, heb⟩ : ∃ x, V1.heap.size = x := ⟨_, rfl⟩
      rw [heb] at hn3
      rw [hV3, heb]
      have hweb : W8.heap.size ≤ eb := by rw [← heb]; exact b1.size
      have hleb : eb < V3.heap.size := (Array.getElem?_eq_some_iff.1 hn3).1
      have b3 : Below W8.heap.size W8 V3 := b1.trans (a3.mono b1.size)
      have rf3 := kb hn1 a3
      have hex : xb ≠ eb := by have := (Array.getElem?_eq_some_iff.1 hn1).1; omega
      refine hK.out _ _ (HGo.out _ b3).1 (fun _ => ?_)
      clear hK K
      try simp only [Act.put, List.setIfInBounds_toArray, List.set_cons_zero, List.set_cons_succ, List.getElem_toArray, List.getElem_cons_zero, List.getElem_cons_succ]
      refine wpAnyH_ready (rs := [9]) (by kernel_rfl) (by simp) ?_
      refine AllReadyH.cons rfl (fun K hK => ?_) AllReadyH.nil
      refine step_copyG rfl _ _ 44 23 _ 32 (by rfl) Tryd.underlying44 infoI rfl (by decide) recI eb cl (.slice ua cl.length uc) ?hs ?hown ?hx ?hv ?hsm ?_
      case hs => rfl
      case hown => exact hn3
      case hx => rfl
      case hv => exact (HGo.out _ b3).2.2.2
      case hsm => omega
      intro v4 V4 ho4 hg4
      obtain ⟨va4, vc4, rfl⟩ := ho4.out.form
      have b4 : Below W8.heap.size W8 V4 := b3.grown hg4 b3.size (fun k e => by
        obtain rfl := Option.some.inj e
        exact hweb)
      have o4 : OR 4 enI V4 W8.heap.size 23 (.slice va4 cl.length vc4) cl := OR.mono ho4.out hweb
      have rf4 := (hg4.block xb (Array.getElem?_eq_some_iff.1 rf3).1 (fun e => hex (Option.some.inj e))).trans rf3
      refine hK.out _ _ (HGo.out _ b4).1 (fun _ => ?_)
      clear hK K
      try simp only [Act.put, List.setIfInBounds_toArray, List.set_cons_zero, List.set_cons_succ, List.getElem_toArray, List.getElem_cons_zero, List.getElem_cons_succ]
      refine wpAnyH_ready (rs := [12]) (by kernel_rfl) (by simp) ?_
      refine AllReadyH.cons rfl (fun K hK => ?_) AllReadyH.nil
      refine step_appR rfl _ _ 44 23 _ 32 (by rfl) Tryd.underlying44 infoI rfl (by decide) recI W8.heap.size (.slice va4 cl.length vc4) cl (y0, y1, y2, y3) ?hs xb 1 ?hx ?hown ?hu ?hsm ?hB ?_
      case hs => rfl
      case hx => rfl
      case hown => exact Lib.hid o4
      case hu => exact rec_at rf4 rfl
      case hsm => omega
      case hB => exact b4.size
      intro v5 V5 ho5 hg5 hor5
      have b5 : Below W8.heap.size W8 V5 := b4.grown hg5 b4.size (fun k e => (o4.lt k e).1)
      obtain ⟨va5, vc5, rfl⟩ := ho5.out.form
      have HFIN := Lib.hid (HRL.out _ _ b5 ho5.out)
      have hcu2 := (HGo.out _ b5).2.1
      have hfu2 := (HGo.out _ b5).2.2.1
      have hS3 := HKS.out _ (.slice va5 (cl ++ [((y0, y1, y2, y3) : I4)]).length vc5) b5
      have hln : (cl ++ [((y0, y1, y2, y3) : I4)]).length = cl.length + 1 := by simp
      rw [hln] at HFIN hS3 ⊢
      refine hK.out _ _ (HGo.out _ b5).1 (fun _ => ?_)
      clear hK K
      try simp only [Act.put, List.setIfInBounds_toArray, List.set_cons_zero, List.set_cons_succ, List.getElem_toArray, List.getElem_cons_zero, List.getElem_cons_succ]
      refine wpAnyH_take (i := 13) (v := ?_) rfl (by kernel_rfl) (by kernel_rfl) (by kernel_rfl) (fun _ _ _ h => h) (Or.inl ⟨by rfl, ?_⟩) (HGo.out _ b5).1 ?_
      rotate_left
      · (intro w' hSw; (try dsimp only at hSw); go_simp <;> (with_reducible rfl))
      try simp only [Act.put, List.setIfInBounds_toArray, List.set_cons_zero, List.set_cons_succ, List.getElem_toArray, List.getElem_cons_zero, List.getElem_cons_succ]
      refine wpAnyH_ready (rs := [14]) (by kernel_rfl) (by simp) ?_
      refine AllReadyH.cons rfl (fun K hK => ?_) AllReadyH.nil
      go_simp
      refine hK.out _ _ hS3 (fun _ => ?_)
      clear hK K hcu2 hfu2 hS3
      try simp only [Act.put, List.setIfInBounds_toArray, List.set_cons_zero, List.set_cons_succ, List.getElem_toArray, List.getElem_cons_zero, List.getElem_cons_succ]
      refine wpAnyH_done (by kernel_rfl) ?_ _
      clear HGo HKS HRL
      go_wp2_with fail
      exact hN _ _ _ _ _ _ _ _ _ _ _ _ _ _ _ _ _ _ _ _ _ _ _ _ _ _ _ _ _ _ _ _ _ _ _ _ _ _ _ _ _ _ _ _ _ _ _ _ _ _ _ _ _ _ _ _ _ _ _ _ _ _ _ _ _ _ _ _ _ _ _ _ _ _ _ _ _ _ _ _ _ _ _ _ _ _ _ _ _ _ _ _ _ _ _ _ (true, sm, acc ++ [cl ++ [(y0, y1, y2, y3)]]) _ _ _ rfl (by go_num) hl1 hl2 HSN HFIN
  · rw [if_pos he] at hr1
    rw [hr1, if_pos he] at hst
    have HF : Hid (fin R = ((0, []), e0)) := Lib.hid (by
      rw [← hst]
      exact fin_err he)
    have hcb : ((e0 : Int) != 0) = true := by rw [bne, beq_eq_false_iff_ne.2 he]; rfl
    clear hst hln hr1
    go_wp2_with fail
    refine CF.out.mono ?_
    rintro e w6 ⟨fv, rfl, hfv, hb6⟩
    obtain ⟨fa, fc, rfl, _⟩ := RV.form hfv
    rw [HNF.out] at hfv ⊢
    have h6 := HRT.out.below hb6
    have hbl6 := h6.bl
    have HT6 := Lib.hid h6
    have hcl6 := kc HCL.out hbl6
    clear hfv hb6 CF HRT hcl HCL h6 hbl6
    go_wp2_with fail
    refine (CP.out _).mono ?_
    rintro e w7 ⟨rfl, hb7⟩
    have h7 := HT6.out.below hb7
    obtain ⟨W8, hW8⟩ : ∃ W8, w7.alloc (.cells #[.int .i64 y0, .int .i64 y1, .int .i64 y2, .int .i64 y3] 23) = W8 := ⟨_, rfl⟩
    have b8 : Below w7.heap.size w7 W8 := by rw [← hW8]; exact (Below.refl _ _).alloc (Nat.le_refl _) _
    have hx8 : W8.heap[w7.heap.size]? = some (.cells #[.int .i64 y0, .int .i64 y1, .int .i64 y2, .int .i64 y3] 23 (0, 0)) := by rw [← hW8]; exact heap_new w7 _ _
    have h8 := h7.below b8
    have hbl8 := h8.bl
    have HW8 := Lib.hid hW8
    have er0 := kb K0.out hbl8
    have er1 := kb K1.out hbl8
    have ebl := tr3 HBL.out hbl8
    have rc0 : W8.cell? ⟨w.heap.size, 0, none⟩ = some (.int .i64 0) := cel er0 0
    have rf0 : W8.frozen? ⟨w.heap.size, 0, none⟩ = false := frz er0 0
    have zc0 : W8.cell? ⟨w.heap.size + 1, 0, none⟩ = some (.int .i64 0) := cel er1 0
    have rc1 : W8.cell? ⟨w.heap.size, 1, none⟩ = some (.slice none 0 0) := cel er0 1
    have rf1 : W8.frozen? ⟨w.heap.size, 1, none⟩ = false := frz er0 1
    have zc1 : W8.cell? ⟨w.heap.size + 1, 1, none⟩ = some (.slice none 0 0) := cel er1 1
    have ER0 := Lib.hid er0
    have EBL := Lib.hid ebl
    rw [← hW8] at rc0 rc1 rf0 rf1 zc0 zc1
    clear er0 er1 ebl
    clear hb7 h7 b8 hx8 h8 hbl8 hW8 CP HT6 hcl6
    go_wp2_with fail
    rw [HW8.out]
    exact bodyPost_ret (res_pg Tryd.results13 rfl rfl (st2_blk (a' := .int .i64 0) (b' := .slice none 0 0) ER0.out)) rfl ⟨_, rfl, (by rw [HF.out]; exact zero_pg _ _), st2_below EBL.out (Nat.le_refl _) _ _⟩
end Go.Proofs.YtgkfnplgldigbaaDoor.asm
namespace Go.Proofs.YtgkfnplgldigbaaDoor.asm
open Go.ChangeShapes Go.WideShapes Go.ChangeAt Go.RowKit
open Go.Proofs.YtgkfnplgldigbaaDoor.st Go.Proofs.YtgkfnplgldigbaaDoor.wd
open Go.Proofs.YtgkfnplgldigbaaDoor.pr (enI recI infoI infoC PM OP own_ltP NB rec_new step_appR wpList_appP)
set_option linter.unusedVariables false
set_option linter.unusedSimpArgs false
set_option maxRecDepth 20000 in
set_option maxHeartbeats 16000000 in
theorem rread_v (w : World) (t : List UInt8) (hl : t.length ≤ 1000000) :
    Calls Tryd.prog 13 #[.string ⟨t.toArray⟩] w fun e w' => ∃ x, e = .returned x ∧ PGV w' (readV t) x ∧ Below w.heap.size w w' := by
  have hs := str_size t
  obtain ⟨W0, hW0⟩ : ∃ W0, w.alloc (.cells #[.int .i64 0, .slice none 0 0] 32) = W0 := ⟨_, rfl⟩
  obtain ⟨W1, hW1⟩ : ∃ W1, W0.alloc (.cells #[.int .i64 0, .slice none 0 0] 32) = W1 := ⟨_, rfl⟩
  have s0 : W0.heap.size = w.heap.size + 1 := by rw [← hW0]; simp
  have k0 : W0.heap[w.heap.size]? = some (.cells #[.int .i64 0, .slice none 0 0] 32 (0, 0)) := by rw [← hW0]; exact heap_new w _ _
  have k1 : W1.heap[w.heap.size + 1]? = some (.cells #[.int .i64 0, .slice none 0 0] 32 (0, 0)) := by rw [← hW1, ← s0]; exact heap_new W0 _ _
  have b0 : Below w.heap.size w W0 := by rw [← hW0]; exact (Below.refl _ _).alloc (Nat.le_refl _) _
  have b1 : Below W0.heap.size W0 W1 := by rw [← hW1]; exact (Below.refl _ _).alloc (Nat.le_refl _) _
  have L0 := Lib.hid (kb k0 b1)
  have L1 := Lib.hid k1
  have LB := Lib.hid (tr3 b0 b1)
  have HW := Lib.hid (show (w.alloc (.cells #[.int .i64 0, .slice none 0 0] 32)).alloc (.cells #[.int .i64 0, .slice none 0 0] 32) = W1 by rw [hW0, hW1])
  clear hW0 hW1 s0 k0 k1 b0 b1
  by_cases h6 : 60000 < t.length
  · rw [show readV t = ((0, []), 9) from if_pos h6]
    have h6i : (60000 : Int) < (t.length : Int) := by omega
    clear hl L0 L1 LB HW
    go_enter Tryd.func13, Tryd.ntmps13
    go_wp2_with fail
    exact bodyPost_ret (res_pg Tryd.results13 rfl rfl (kb (heap_new w _ _) ((Below.refl _ _).alloc (Nat.le_refl _) _))) rfl ⟨_, rfl, zero_pg _ _, by go_grown⟩
  · have h6i : ¬ (60000 : Int) < (t.length : Int) := by omega
    rw [read_fin t h6]
    have CL := Lib.hid (rlines_v t W1 (by omega))
    have hlen := lin_len t
    have hpart := lin_part t
    unfold rdT
    obtain ⟨L, hL⟩ : ∃ L, linV t = L := ⟨_, rfl⟩
    rw [hL] at CL hlen hpart ⊢
    obtain ⟨R, hR⟩ : ∃ R, rdL (false, 0, []) L = R := ⟨_, rfl⟩
    rw [hR]
    have HR := Lib.hid hR
    have HPT := Lib.hid (fun k (hk : k < L.length) => show (L.getD k []).length ≤ 60000 by
      have := hpart (L.getD k []) (by rw [List.getD_eq_getElem?_getD, List.getElem?_eq_getElem hk]; exact List.getElem_mem hk)
      omega)
    clear hpart hL hR h6
    go_enter Tryd.func13, Tryd.ntmps13
    go_wp2_with fail
    rw [HW.out]
    refine CL.out.mono ?_
    rintro e wL ⟨lv, rfl, hsv, hbL⟩
    have K0 := Lib.hid (kb L0.out hbL)
    have K1 := Lib.hid (kb L1.out hbL)
    have HBL := Lib.hid (tr3 LB.out hbL)
    have hnL : w.heap.size + 1 < wL.heap.size := (Array.getElem?_eq_some_iff.1 K1.out).1
    obtain ⟨la, lc, rfl, hlc, _⟩ := RV.form hsv
    have HSV := Lib.hid hsv
    obtain ⟨n, hn⟩ : ∃ n, L.length = n := ⟨_, rfl⟩
    rw [hn] at hlen HSV hlc ⊢
    have HLn := Lib.hid hn
    obtain ⟨WP, hWP⟩ : ∃ WP, wL.alloc (.cells #[.int .i64 0, .slice none 0 0] 32) = WP := ⟨_, rfl⟩
    have hRT0 : RT wL WP 0 [] (.slice none 0 0) [] := by
      rw [← hWP]
      exact ⟨heap_new wL _ _, OP.nil _ _, (Below.refl _ _).alloc (Nat.le_refl _) _⟩
    have HT0 := Lib.hid hRT0
    have HWP := Lib.hid hWP
    clear hsv hbL CL L0 L1 LB HW hn hWP hRT0
    go_wp2_with fail
    rw [HWP.out]
    clear HWP
    go_loopw [7, 8] (fun bv iv wr => ∃ (k : Nat) (s : RdS) (v : Value) (rows : List Value), bv = .bool s.1 ∧ iv = .int .i64 (k : Int) ∧ k ≤ n ∧ s.2.2.length ≤ k ∧ (s.2.2.getLastD []).length ≤ k ∧ Hid (rdL s (L.drop k) = R) ∧ Hid (RT wL wr s.2.1 s.2.2 v rows)) (fun _ iv _ => n - (RowKit.intOf iv).toNat)
    case atStart => exact ⟨0, (false, 0, []), _, _, rfl, rfl, by omega, by simp, by simp, Lib.hid (by rw [List.drop_zero]; exact HR.out), HT0⟩
    case round =>
      clear HT0 HR
      obtain ⟨k, ⟨sb, sm, sf⟩, v, rows, rfl, rfl, hk, hk1, hk2, HST, HRT⟩ := hrel
      dsimp only at hk1 hk2 HRT ⊢
      by_cases hlt : k < n
      · have hki : (k : Int) < (n : Int) := by omega
        have hkd : decide ((k : Int) < (n : Int)) = true := decide_eq_true hki
        obtain ⟨bb, oo, rfl, hbl, hcl⟩ := SV.at (HSV.out.below HRT.out.bl) k hlt
        have hst := HST.out
        rw [drop_L (by rw [HLn.out]; exact hlt), rdL_cons] at hst
        have hpl := HPT.out k (by rw [HLn.out]; exact hlt)
        have hln := rd1_len (sb, sm, sf) (L.getD k []) k hk1 hk2
        have hclb := hbl
        have HCL : Hid (wL.cell? ⟨bb, oo + k, none⟩ = some (.string ⟨(L.getD k []).toArray⟩)) := Lib.hid (by
          obtain ⟨b2, o2, e2, _, h2⟩ := SV.at HSV.out k hlt
          simp only [Option.some.injEq, Addr.mk.injEq] at e2
          obtain ⟨rfl, rfl, _⟩ := e2
          exact h2)
        obtain ⟨l, hlv⟩ : ∃ l, L.getD k [] = l := ⟨_, rfl⟩
        rw [hlv] at hst hpl hcl hln HCL
        have CF := Lib.hid (rfields_v l wr (by omega))
        clear hlv HST
        by_cases hf : fldV l = []
        · rw [if_pos hf] at hst
          rw [hf] at CF
          have HSN := Lib.hid hst
          have hz : ([] : List (List UInt8)).length = 0 := rfl
          clear hst hf hln
          go_wp2_with fail
          refine CF.out.mono ?_
          rintro e w6 ⟨fv, rfl, hfv, hb6⟩
          obtain ⟨fa, fc, rfl, _⟩ := RV.form hfv
          have H6 := Lib.hid (HRT.out.below hb6)
          rw [hz]
          clear hfv hb6 CF HRT hcl HCL
          go_wp2_with fail
          go_roundw
          case rel => exact ⟨k + 1, (sb, sm, sf), v, rows, rfl, by go_num, by omega, by dsimp only; omega, by dsimp only; omega, HSN, H6⟩
          case measure => first | (simp [RowKit.intOf]; done) | (simp [RowKit.intOf]; omega)
        · rw [if_neg hf] at hst
          have hfl : 0 < (fldV l).length := List.length_pos_iff.2 hf
          obtain ⟨nf, hnf⟩ : ∃ nf, (fldV l).length = nf := ⟨_, rfl⟩
          have hnf0 : ¬ (nf : Int) = 0 := by omega
          have hnfb : ((nf : Int) == 0) = false := by rw [beq_eq_false_iff_ne]; omega
          have hfp := fld_part l
          have HNF := Lib.hid hnf
          clear hf
          cases sb with
          | false =>
            refine rr_mem K0 K1 HBL hnL (by omega) hk1 hk2 HRT hlt hbl HCL hcl hpl hfl hnf hst ?_
            intro u3 u9 u10 u11 u12 u13 u14 u24 u25 u26 u27 u28 u29 u30 u31 u32 u33 u34 u35 u36 u37 u38 u39 u40 u41 u42 u43 u44 u45 u46 u47 u48 u49 u50 u51 u52 u53 u54 u55 u56 u57 u58 u59 u60 u61 u62 u63 u64 u65 u66 u67 u68 u69 u70 u71 u72 u73 u74 u75 u76 u77 u78 u79 u80 u81 u82 u83 u84 u85 u86 u87 u88 u89 u90 u91 u92 u93 u94 u95 u96 u97 u98 u99 u100 u101 u102 u103 u104 u105 u106 u107 u108 u109 u110 bv2 iv2 s2 v2 rows2 w2 hbv hiv hl1 hl2 HSN H2
            subst hbv hiv
            clear K0 K1 HBL hnL HRT hbl HCL hcl hpl hfl hnf hst hnf0 hnfb hfp HNF CF hln
            refine ⟨⟨u3, _, _, u9, u10, u11, u12, u13, u14, u24, u25, u26, u27, u28, u29, u30, u31, u32, u33, u34, u35, u36, u37, u38, u39, u40, u41, u42, u43, u44, u45, u46, u47, u48, u49, u50, u51, u52, u53, u54, u55, u56, u57, u58, u59, u60, u61, u62, u63, u64, u65, u66, u67, u68, u69, u70, u71, u72, u73, u74, u75, u76, u77, u78, u79, u80, u81, u82, u83, u84, u85, u86, u87, u88, u89, u90, u91, u92, u93, u94, u95, u96, u97, u98, u99, u100, u101, u102, u103, u104, u105, u106, u107, u108, u109, u110, ⟨k + 1, s2, v2, rows2, rfl, rfl, by omega, hl1, hl2, HSN, H2⟩, rfl⟩, ?_⟩
            first | (simp [RowKit.intOf]; done) | (simp [RowKit.intOf]; omega)
          | true =>
            by_cases hff : fldV l = [wFun]
            · refine rr_fun K0 K1 HBL hnL (by omega) hk1 hk2 HRT hlt hbl HCL hcl hpl hfl hnf hst hff ?_
              intro u3 u9 u10 u11 u12 u13 u14 u24 u25 u26 u27 u28 u29 u30 u31 u32 u33 u34 u35 u36 u37 u38 u39 u40 u41 u42 u43 u44 u45 u46 u47 u48 u49 u50 u51 u52 u53 u54 u55 u56 u57 u58 u59 u60 u61 u62 u63 u64 u65 u66 u67 u68 u69 u70 u71 u72 u73 u74 u75 u76 u77 u78 u79 u80 u81 u82 u83 u84 u85 u86 u87 u88 u89 u90 u91 u92 u93 u94 u95 u96 u97 u98 u99 u100 u101 u102 u103 u104 u105 u106 u107 u108 u109 u110 bv2 iv2 s2 v2 rows2 w2 hbv hiv hl1 hl2 HSN H2
              subst hbv hiv
              clear K0 K1 HBL hnL HRT hbl HCL hcl hpl hfl hnf hst hnf0 hnfb hfp HNF CF hln
              refine ⟨⟨u3, _, _, u9, u10, u11, u12, u13, u14, u24, u25, u26, u27, u28, u29, u30, u31, u32, u33, u34, u35, u36, u37, u38, u39, u40, u41, u42, u43, u44, u45, u46, u47, u48, u49, u50, u51, u52, u53, u54, u55, u56, u57, u58, u59, u60, u61, u62, u63, u64, u65, u66, u67, u68, u69, u70, u71, u72, u73, u74, u75, u76, u77, u78, u79, u80, u81, u82, u83, u84, u85, u86, u87, u88, u89, u90, u91, u92, u93, u94, u95, u96, u97, u98, u99, u100, u101, u102, u103, u104, u105, u106, u107, u108, u109, u110, ⟨k + 1, s2, v2, rows2, rfl, rfl, by omega, hl1, hl2, HSN, H2⟩, rfl⟩, ?_⟩
              first | (simp [RowKit.intOf]; done) | (simp [RowKit.intOf]; omega)
            · by_cases hn1 : nf = 1
              · refine rr_t1 K0 K1 HBL hnL (by omega) hk1 hk2 HRT hlt hbl HCL hcl hpl hfl hnf hst hff hn1 ?_
                intro u3 u9 u10 u11 u12 u13 u14 u24 u25 u26 u27 u28 u29 u30 u31 u32 u33 u34 u35 u36 u37 u38 u39 u40 u41 u42 u43 u44 u45 u46 u47 u48 u49 u50 u51 u52 u53 u54 u55 u56 u57 u58 u59 u60 u61 u62 u63 u64 u65 u66 u67 u68 u69 u70 u71 u72 u73 u74 u75 u76 u77 u78 u79 u80 u81 u82 u83 u84 u85 u86 u87 u88 u89 u90 u91 u92 u93 u94 u95 u96 u97 u98 u99 u100 u101 u102 u103 u104 u105 u106 u107 u108 u109 u110 bv2 iv2 s2 v2 rows2 w2 hbv hiv hl1 hl2 HSN H2
                subst hbv hiv
                clear K0 K1 HBL hnL HRT hbl HCL hcl hpl hfl hnf hst hnf0 hnfb hfp HNF CF hln
                refine ⟨⟨u3, _, _, u9, u10, u11, u12, u13, u14, u24, u25, u26, u27, u28, u29, u30, u31, u32, u33, u34, u35, u36, u37, u38, u39, u40, u41, u42, u43, u44, u45, u46, u47, u48, u49, u50, u51, u52, u53, u54, u55, u56, u57, u58, u59, u60, u61, u62, u63, u64, u65, u66, u67, u68, u69, u70, u71, u72, u73, u74, u75, u76, u77, u78, u79, u80, u81, u82, u83, u84, u85, u86, u87, u88, u89, u90, u91, u92, u93, u94, u95, u96, u97, u98, u99, u100, u101, u102, u103, u104, u105, u106, u107, u108, u109, u110, ⟨k + 1, s2, v2, rows2, rfl, rfl, by omega, hl1, hl2, HSN, H2⟩, rfl⟩, ?_⟩
                first | (simp [RowKit.intOf]; done) | (simp [RowKit.intOf]; omega)
              · refine rr_t2 K0 K1 HBL hnL (by omega) hk1 hk2 HRT hlt hbl HCL hcl hpl hfl hnf hst hff hn1 ?_
                intro u3 u9 u10 u11 u12 u13 u14 u24 u25 u26 u27 u28 u29 u30 u31 u32 u33 u34 u35 u36 u37 u38 u39 u40 u41 u42 u43 u44 u45 u46 u47 u48 u49 u50 u51 u52 u53 u54 u55 u56 u57 u58 u59 u60 u61 u62 u63 u64 u65 u66 u67 u68 u69 u70 u71 u72 u73 u74 u75 u76 u77 u78 u79 u80 u81 u82 u83 u84 u85 u86 u87 u88 u89 u90 u91 u92 u93 u94 u95 u96 u97 u98 u99 u100 u101 u102 u103 u104 u105 u106 u107 u108 u109 u110 bv2 iv2 s2 v2 rows2 w2 hbv hiv hl1 hl2 HSN H2
                subst hbv hiv
                clear K0 K1 HBL hnL HRT hbl HCL hcl hpl hfl hnf hst hnf0 hnfb hfp HNF CF hln
                refine ⟨⟨u3, _, _, u9, u10, u11, u12, u13, u14, u24, u25, u26, u27, u28, u29, u30, u31, u32, u33, u34, u35, u36, u37, u38, u39, u40, u41, u42, u43, u44, u45, u46, u47, u48, u49, u50, u51, u52, u53, u54, u55, u56, u57, u58, u59, u60, u61, u62, u63, u64, u65, u66, u67, u68, u69, u70, u71, u72, u73, u74, u75, u76, u77, u78, u79, u80, u81, u82, u83, u84, u85, u86, u87, u88, u89, u90, u91, u92, u93, u94, u95, u96, u97, u98, u99, u100, u101, u102, u103, u104, u105, u106, u107, u108, u109, u110, ⟨k + 1, s2, v2, rows2, rfl, rfl, by omega, hl1, hl2, HSN, H2⟩, rfl⟩, ?_⟩
                first | (simp [RowKit.intOf]; done) | (simp [RowKit.intOf]; omega)
      · obtain rfl : k = n := by omega
        have hki : ¬ (k : Int) < (k : Int) := by omega
        have hkd : decide ((k : Int) < (k : Int)) = false := decide_eq_false hki
        have hst := HST.out
        rw [List.drop_of_length_le (by rw [HLn.out]; exact Nat.le_refl _)] at hst
        have hst2 : ((sb, sm, sf), 0) = R := hst
        subst hst2
        clear hst HST HSV
        have hbl := HRT.out.bl
        cases sb with
        | false =>
          have HF : Hid (fin ((false, sm, sf), 0) = ((0, []), 4)) := Lib.hid rfl
          have er0 := kb K0.out hbl
          have er1 := kb K1.out hbl
          have ebl := tr3 HBL.out hbl
          have rc0 : wr.cell? ⟨w.heap.size, 0, none⟩ = some (.int .i64 0) := cel er0 0
          have rf0 : wr.frozen? ⟨w.heap.size, 0, none⟩ = false := frz er0 0
          have zc0 : wr.cell? ⟨w.heap.size + 1, 0, none⟩ = some (.int .i64 0) := cel er1 0
          have rc1 : wr.cell? ⟨w.heap.size, 1, none⟩ = some (.slice none 0 0) := cel er0 1
          have rf1 : wr.frozen? ⟨w.heap.size, 1, none⟩ = false := frz er0 1
          have zc1 : wr.cell? ⟨w.heap.size + 1, 1, none⟩ = some (.slice none 0 0) := cel er1 1
          have ER0 := Lib.hid er0
          have EBL := Lib.hid ebl
          clear er0 er1 ebl
          clear hbl
          go_wp2_with fail
          exact bodyPost_ret (res_pg Tryd.results13 rfl rfl (st2_blk (a' := .int .i64 0) (b' := .slice none 0 0) ER0.out)) rfl ⟨_, rfl, (by rw [HF.out]; exact zero_pg _ _), st2_below EBL.out (Nat.le_refl _) _ _⟩
        | true =>
          obtain ⟨cc, hcc⟩ : ∃ cc, pr.prE sm sf = cc := ⟨_, rfl⟩
          obtain ⟨va, vn, vc, rfl⟩ : ∃ va vn vc, v = .slice va vn vc := by
            obtain ⟨va, vc, e, _⟩ := HRT.out.own.pm.form
            exact ⟨_, _, _, e⟩
          have p0 : wr.cell? ⟨wL.heap.size, 0, none⟩ = some (.int .i64 sm) := cel HRT.out.rp 0
          have p1 : wr.cell? ⟨wL.heap.size, 1, none⟩ = some (.slice va vn vc) := cel HRT.out.rp 1
          have CC := pr.rcheck_v sm va vn vc sf wr HRT.out.own.pm
          rw [hcc] at CC
          replace CC := Lib.hid CC
          by_cases hc : cc = 0
          · subst hc
            have HF : Hid (fin ((true, sm, sf), 0) = ((sm, sf), 0)) := Lib.hid (by
              unfold fin
              rw [if_neg (by simp), if_neg (by simp), if_neg (by rw [hcc]; simp)])
            clear hcc
            go_wp2_with fail
            refine CC.out.mono ?_
            rintro e w7 ⟨rfl, hb7⟩
            have h7 := HRT.out.below hb7
            have hbl7 := h7.bl
            have q0 : w7.cell? ⟨wL.heap.size, 0, none⟩ = some (.int .i64 sm) := cel h7.rp 0
            have q1 : w7.cell? ⟨wL.heap.size, 1, none⟩ = some (.slice va vn vc) := cel h7.rp 1
            have er0 := kb K0.out hbl7
            have er1 := kb K1.out hbl7
            have ebl := tr3 HBL.out hbl7
            have rc0 : w7.cell? ⟨w.heap.size, 0, none⟩ = some (.int .i64 0) := cel er0 0
            have rf0 : w7.frozen? ⟨w.heap.size, 0, none⟩ = false := frz er0 0
            have zc0 : w7.cell? ⟨w.heap.size + 1, 0, none⟩ = some (.int .i64 0) := cel er1 0
            have rc1 : w7.cell? ⟨w.heap.size, 1, none⟩ = some (.slice none 0 0) := cel er0 1
            have rf1 : w7.frozen? ⟨w.heap.size, 1, none⟩ = false := frz er0 1
            have zc1 : w7.cell? ⟨w.heap.size + 1, 1, none⟩ = some (.slice none 0 0) := cel er1 1
            have ER0 := Lib.hid er0
            have EBL := Lib.hid ebl
            have H7 := Lib.hid h7
            clear er0 er1 ebl hb7 h7 hbl7 hbl CC HRT p0 p1
            go_wp2_with fail
            exact bodyPost_ret (res_pg Tryd.results13 rfl rfl (st2_blk (a' := .int .i64 sm) (b' := .slice va vn vc) ER0.out)) rfl ⟨_, rfl, (by rw [HF.out]; exact ⟨_, rfl, OP.pm (H7.out.own.keep fun k hk => st2_oth _ _ _ _ _ (by omega))⟩), st2_below EBL.out (Nat.le_refl _) _ _⟩
          · have HF : Hid (fin ((true, sm, sf), 0) = ((0, []), cc)) := Lib.hid (by
              unfold fin
              rw [if_neg (by simp), if_neg (by simp), if_pos (by rw [hcc]; exact hc), hcc])
            have hcb : ((cc : Int) != 0) = true := by rw [bne, beq_eq_false_iff_ne.2 hc]; rfl
            clear hcc
            go_wp2_with fail
            refine CC.out.mono ?_
            rintro e w7 ⟨rfl, hb7⟩
            have hbl7 := (HRT.out.below hb7).bl
            have er0 := kb K0.out hbl7
            have er1 := kb K1.out hbl7
            have ebl := tr3 HBL.out hbl7
            have rc0 : w7.cell? ⟨w.heap.size, 0, none⟩ = some (.int .i64 0) := cel er0 0
            have rf0 : w7.frozen? ⟨w.heap.size, 0, none⟩ = false := frz er0 0
            have zc0 : w7.cell? ⟨w.heap.size + 1, 0, none⟩ = some (.int .i64 0) := cel er1 0
            have rc1 : w7.cell? ⟨w.heap.size, 1, none⟩ = some (.slice none 0 0) := cel er0 1
            have rf1 : w7.frozen? ⟨w.heap.size, 1, none⟩ = false := frz er0 1
            have zc1 : w7.cell? ⟨w.heap.size + 1, 1, none⟩ = some (.slice none 0 0) := cel er1 1
            have ER0 := Lib.hid er0
            have EBL := Lib.hid ebl
            clear er0 er1 ebl
            clear hb7 hbl7 hbl CC HRT p0 p1
            go_wp2_with fail
            exact bodyPost_ret (res_pg Tryd.results13 rfl rfl (st2_blk (a' := .int .i64 0) (b' := .slice none 0 0) ER0.out)) rfl ⟨_, rfl, (by rw [HF.out]; exact zero_pg _ _), st2_below EBL.out (Nat.le_refl _) _ _⟩
end Go.Proofs.YtgkfnplgldigbaaDoor.asm
