/- The document's end of putting a program together (layer 7). -/
import Derived.Test.YtdneblbaofhehaaBdT
import Derived.Test.YtdneblbaofhehaaBdR
import Derived.Test.YtdneblbaofhehaaBdI
import Derived.Laws.ResultCell
import Derived.Deep.Cut
namespace Go.Proofs.Ytdneblbaofhehaa.bd
open Go.ChangeShapes Go.WideShapes Go.ChangeAt Go.RowKit Go.Maps
open Go.Proofs.Ytdneblbaofhehaa.ro
open Go.Proofs.Ytdneblbaofhehaa.pr
open Go.Proofs.Ytdneblbaofhehaa.ins (kb tr3)
attribute [local go_sem ↓] Go.wp_at_zero Go.wp_at_succ
set_option linter.unusedVariables false
set_option linter.unusedSimpArgs false
structure TI (w wr : World) (mem : Int) (v : Value) (rows : List Value) (L : List (List I4)) : Prop where
  r0 : wr.heap[w.heap.size]? = some (.cells #[.int .i64 0, .slice none 0 0] 38 (0, 0))
  r1 : wr.heap[w.heap.size + 1]? = some (.cells #[.int .i64 0, .slice none 0 0] 38 (0, 0))
  r2 : wr.heap[w.heap.size + 1 + 1]? = some (.cells #[.int .i64 mem, v] 38 (0, 0))
  p : OP wr (w.heap.size + 1 + 1 + 1) v rows L
  b : Below w.heap.size w wr
theorem TI.below {w wr wr' : World} {mem : Int} {v : Value} {rows : List Value} {L : List (List I4)} (h : TI w wr mem v rows L) (hb : Below wr.heap.size wr wr') : TI w wr' mem v rows L :=
  ⟨kb h.r0 hb, kb h.r1 hb, kb h.r2 hb, h.p.below hb, tr3 h.b hb⟩
theorem TI.more {w wr w' : World} {mem : Int} {v v' : Value} {rows rows' : List Value} {L L' : List (List I4)} (h : TI w wr mem v rows L) (hs : w.heap.size + 1 + 1 + 1 ≤ wr.heap.size) (hg : wr.grownBy w' v.ownBlock) (hp : OP w' (w.heap.size + 1 + 1 + 1) v' rows' L') : w'.cell? ⟨w.heap.size + 1 + 1, 1, none⟩ = some v ∧ w'.frozen? ⟨w.heap.size + 1 + 1, 1, none⟩ = false ∧ TI w (w'.setCell ⟨w.heap.size + 1 + 1, 1, none⟩ v') mem v' rows' L' := by
  have hne : ∀ q, q < w.heap.size + 1 + 1 + 1 → some q ≠ v.ownBlock := fun q hq e => by
    have := (own_ltP h.p.1 q e.symm).1
    omega
  have e0 := (hg.block _ (ro.lt_of h.r0) (hne _ (by omega))).trans h.r0
  have e1 := (hg.block _ (ro.lt_of h.r1) (hne _ (by omega))).trans h.r1
  have e2 := (hg.block _ (ro.lt_of h.r2) (hne _ (by omega))).trans h.r2
  have hb : Below w.heap.size w w' := h.b.trans ⟨hg.os, hg.tape, hg.output, hg.size, fun q hq => hg.block q (by have := h.b.size; omega) (hne _ (by omega))⟩
  refine ⟨ro.cel e2 1, ro.frz e2 1, ⟨?_, ?_, ?_, OP.setB hp (by show w.heap.size + 1 + 1 < _; omega) _, Below.setCell hb (by show _ ≤ w.heap.size + 1 + 1; omega) _⟩⟩
  · rw [ro.set_oth _ _ _ _ _ (by omega)]
    exact e0
  · rw [ro.set_oth _ _ _ _ _ (by omega)]
    exact e1
  · rw [ro.set_blk w' _ 1 v' e2]
    rfl
theorem OP.monoB {w : World} {B B' : Nat} {v : Value} {rows : List Value} {L : List (List I4)} (h : OP w B v rows L) (hb : B' ≤ B) : OP w B' v rows L := by
  obtain ⟨h1, h2⟩ := h
  refine ⟨?_, fun i hi => ?_⟩
  · obtain ⟨h1, h2 | ⟨g', cap', cur', h2, h3, h4⟩⟩ := h1
    · exact ⟨h1, .inl h2⟩
    · exact ⟨h1, .inr ⟨g', cap', cur', h2, by omega, h4⟩⟩
  · obtain ⟨u, hu, ho⟩ := h2 i hi
    exact ⟨u, hu, OR.monoI ho hb⟩
theorem three_at (w : World) (o1 o2 o3 : Obj) : (((w.alloc o1).alloc o2).alloc o3).heap[w.heap.size]? = some o1 ∧ (((w.alloc o1).alloc o2).alloc o3).heap[w.heap.size + 1]? = some o2 ∧ (((w.alloc o1).alloc o2).alloc o3).heap[w.heap.size + 1 + 1]? = some o3 := ⟨(three w o1 o2 o3).1, (three w o1 o2 o3).2.1, (three w o1 o2 o3).2.2.1⟩
/-- what is left of one function. -/
def FR (own : List St) (j : Nat) (cs : List I4) : Prop := fills (plc own) own = (fills (plc own) (own.drop j)).map (fun c => cs ++ c)
theorem FR.zero (own : List St) : FR own 0 [] := by
  unfold FR
  rw [List.drop_zero]
  cases fills (plc own) own <;> simp
theorem FR.lab {own : List St} {j : Nat} {cs : List I4} {o : St} (h : FR own j cs) (ho : own[j]? = some o) (h2 : o.k = 2) : FR own (j + 1) cs := by
  unfold FR at h ⊢
  rw [h, drop_at ho, fills, if_pos h2]
theorem FR.add {own : List St} {j : Nat} {cs : List I4} {o : St} (h : FR own j cs) (ho : own[j]? = some o) (h1 : o.k = 1) : FR own (j + 1) (cs ++ [o.x]) := by
  unfold FR at h ⊢
  rw [h, drop_at ho, fills, if_neg (by omega), if_neg (by omega)]
  cases fills (plc own) (own.drop (j + 1)) with
  | none => rfl
  | some c => simp
theorem FR.jmp {own : List St} {j : Nat} {cs : List I4} {o : St} {p : Int} (h : FR own j cs) (ho : own[j]? = some o) (h1 : o.k = 3 ∨ o.k = 4) (hp : plc own o.s = some p) : FR own (j + 1) (cs ++ [if o.k = 3 then (18, p, 0, 0) else (19, o.r, p, 0)]) := by
  unfold FR at h ⊢
  rw [h, drop_at ho, fills, if_neg (by omega), if_pos h1, hp]
  cases fills (plc own) (own.drop (j + 1)) with
  | none => rfl
  | some c => simp
theorem FR.bad {own : List St} {j : Nat} {cs : List I4} {o : St} (h : FR own j cs) (ho : own[j]? = some o) (h1 : o.k = 3 ∨ o.k = 4) (hp : plc own o.s = none) : fills (plc own) own = none := by
  unfold FR at h
  rw [h, drop_at ho, fills, if_neg (by omega), if_pos h1, hp]
  rfl
theorem FR.end {own : List St} {j : Nat} {cs : List I4} (h : FR own j cs) (hj : j = own.length) : fills (plc own) own = some cs := by
  unfold FR at h
  rw [h, hj, List.drop_length]
  simp [fills]
/-- the bodies of a code's loops, from left to right. -/
def loopsIn : Code → List Code
  | .loop c => [c]
  | .seq a b => loopsIn a ++ loopsIn b
  | .cond _ a b => loopsIn a ++ loopsIn b
  | .block _ c => loopsIn c
  | .scope c => loopsIn c
  | _ => []
def lft : Code → Code
  | .seq a _ => a
  | .cond _ a _ => a
  | .block _ c => c
  | _ => .skip
def rgt : Code → Code
  | .seq _ b => b
  | .cond _ _ b => b
  | _ => .skip
noncomputable def rb1 : Code := ((Try.f12.body.bind fun c => (loopsIn c).head?).getD .skip)
/-- the loop over the steps of one function. -/
noncomputable def lp3 : Code := rgt (lft (rgt (rgt (rgt (rgt (rgt (lft (lft (rgt rb1)))))))))
set_option maxRecDepth 20000 in
set_option maxHeartbeats 4000000 in
theorem own_of {mem : Int} {v : Value} {rows : List Value} {L : List (List I4)} {t oc : Nat} {ou : Option Addr} {own : List St} {w0 w : World} {u0 u1 u2 u3 u5 u7 u8 u9 u13 u14 u15 u16 u17 u18 u19 u20 u21 u22 u23 u24 u25 u26 u27 u28 u29 u30 u31 u32 u33 u34 u35 u36 u37 u38 u39 u40 u41 u42 u43 u44 u45 u46 u47 u48 u49 u50 u51 u52 u53 u54 u55 u56 u57 u58 u59 u60 u61 u62 u63 u64 u65 u66 u67 u68 u69 u70 u71 u72 u73 u74 u75 u76 u77 u78 u79 u80 u81 u82 u83 u84 u85 u86 u87 u88 u89 u90 u91 u92 u93 u94 u95 u96 u97 u98 u99 u100 u101 u102 u103 u104 u105 u106 u107 u108 u109 u110 u111 u112 u113 u114 u115 u116 u117 : Value} {Q : Exit → Act → World → Prop}
    (hT : TI w0 w mem v rows L) (hU : RV 7 enO w (.slice ou t oc) own) (ht : t ≤ 300) (hs : ∀ q ∈ own, 1 ≤ q.k ∧ q.k ≤ 4)
    (hR : fills (plc own) own = none → ∀ (a' : Act) (w' : World), a'.defers = [] → a'.tmps.getD 4 undef = .pointer (some ⟨w0.heap.size, 0, none⟩) → a'.tmps.getD 5 undef = .int .i64 7 → w'.cell? ⟨w0.heap.size, 0, none⟩ = some (.int .i64 0) → w'.cell? ⟨w0.heap.size, 1, none⟩ = some (.slice none 0 0) → Below w0.heap.size w0 w' → Q .ret a' w')
    (hN : ∀ (ca : Option Addr) (cc : Nat) (cs : List I4) (v5 v12 v13 v14 v52 v53 v54 v55 v56 v57 v58 v59 v60 v61 v62 v63 v64 v65 v66 v67 v68 v69 v70 v71 v72 v73 v74 v75 v76 v77 v78 v79 v80 v81 v82 v83 v84 v85 v86 v87 v88 v89 v90 v91 v92 v93 v94 v95 v96 v97 v98 v99 v100 v101 v102 v103 v104 : Value) (w' : World), fills (plc own) own = some cs → cs.length ≤ t → OR 4 enI w' w.heap.size 33 (.slice ca cs.length cc) cs → Below w.heap.size w w' → Q .normal ⟨#[u0, u1, u2, u3, .pointer (some ⟨w0.heap.size, 0, none⟩), v5, .pointer (some ⟨w0.heap.size + 1, 0, none⟩), u7, u8, u9, .slice ou t oc, .slice ca cs.length cc, v12, v13, v14, u15, u16, u17, u18, u19, u20, u21, u22, u23, u24, u25, u26, u27, u28, u29, u30, u31, u32, u33, u34, u35, u36, u37, u38, u39, u40, u41, u42, u43, u44, u45, u46, u47, u48, u49, u50, u51, v52, v53, v54, v55, v56, v57, v58, v59, v60, v61, v62, v63, v64, v65, v66, v67, v68, v69, v70, v71, v72, v73, v74, v75, v76, v77, v78, v79, v80, v81, v82, v83, v84, v85, v86, v87, v88, v89, v90, v91, v92, v93, v94, v95, v96, v97, v98, v99, v100, v101, v102, v103, v104, u105, u106, u107, u108, u109, u110, u111, u112, u113, u114, u115, u116, u117], []⟩ w') :
    Code.wp Try.prog lp3 Q ⟨#[u0, u1, u2, u3, .pointer (some ⟨w0.heap.size, 0, none⟩), u5, .pointer (some ⟨w0.heap.size + 1, 0, none⟩), u7, u8, u9, .slice ou t oc, .slice none 0 0, .int .i64 0, u13, u14, u15, u16, u17, u18, u19, u20, u21, u22, u23, u24, u25, u26, u27, u28, u29, u30, u31, u32, u33, u34, u35, u36, u37, u38, u39, u40, u41, u42, u43, u44, u45, u46, u47, u48, u49, u50, u51, u52, u53, u54, u55, u56, u57, u58, u59, u60, u61, u62, u63, u64, u65, u66, u67, u68, u69, u70, u71, u72, u73, u74, u75, u76, u77, u78, u79, u80, u81, u82, u83, u84, u85, u86, u87, u88, u89, u90, u91, u92, u93, u94, u95, u96, u97, u98, u99, u100, u101, u102, u103, u104, u105, u106, u107, u108, u109, u110, u111, u112, u113, u114, u115, u116, u117], []⟩ w := by
  obtain ⟨hnl, hnc, hcm⟩ := hU.len
  unfold maxLen at hcm
  have HT := Lib.hid hT
  have HU := Lib.hid hU
  have HTL := Lib.hid hnl
  have HS := Lib.hid hs
  have HR := Lib.hid hR
  have HN := Lib.hid hN
  clear hT hU hnl hs hR hN
  conv => arg 2; whnf
  go_wp2_with fail
  go_loopw [11, 12] (fun cv jv wr => ∃ (j : Nat) (ca : Option Addr) (cc : Nat) (cs : List I4), j ≤ t ∧ Hid (cs.length ≤ j) ∧ cv = .slice ca cs.length cc ∧ jv = .int .i64 (j : Int) ∧ Hid (FR own j cs) ∧ Hid (OR 4 enI wr w.heap.size 33 (.slice ca cs.length cc) cs) ∧ Hid (Below w.heap.size w wr)) (fun cv jv _ => t - (intOf jv).toNat)
  case atStart => exact ⟨0, none, 0, [], Nat.zero_le _, Lib.hid (Nat.le_refl _), rfl, rfl, Lib.hid (FR.zero own), Lib.hid (OR.nil _ _ _), Lib.hid (Below.refl _ _)⟩
  case round =>
    obtain ⟨j, ca, cc, cs, hj, HC, rfl, rfl, HF, HO, HB⟩ := hrel
    by_cases hlt : j < t
    · have hcl := HC.out
      obtain ⟨q, hq⟩ : ∃ q, own[j]? = some q := ⟨_, List.getElem?_eq_getElem (by rw [← HTL.out]; exact hlt)⟩
      have hqs := HS.out q (List.mem_of_getElem? hq)
      obtain ⟨b, f, rfl, hbl, c0, c1, c2, c3, c4, c5, c6⟩ := RV.seven (HU.out.below HB.out) j q hq
      have hltI : (j : Int) < (t : Int) := by omega
      have HQ := Lib.hid hq
      obtain ⟨⟨kd, rg, sm, ⟨x0, x1, x2, x3⟩⟩, rfl⟩ : ∃ z : St, q = z := ⟨_, rfl⟩
      dsimp only at c0 c1 c2 c3 c4 c5 c6 hqs
      have hcs : kd = 1 ∨ kd = 2 ∨ kd = 3 ∨ kd = 4 := by omega
      have CP := Lib.hid (place_v (some ⟨b, f, none⟩) t oc own sm (wr.alloc (.cells #[.int .i64 x0, .int .i64 x1, .int .i64 x2, .int .i64 x3] 33)) (HU.out.below (tr3 HB.out (by go_grown))) ht)
      clear hq hqs
      rcases hcs with rfl | rfl | rfl | rfl
      · have HF1 := Lib.hid (HF.out.add HQ.out rfl)
        obtain ⟨pl, hpl⟩ : ∃ pl, plI own sm = pl := ⟨_, rfl⟩
        rw [hpl] at CP
        clear hpl
        go_wp2_with fail
        refine CP.out.mono ?_
        rintro e w5 ⟨rfl, rfl⟩
        clear CP
        have HGo : Hid (∀ w', Below wr.heap.size wr w' → OR 4 enI w' w.heap.size 33 (.slice ca cs.length cc) cs ∧ w.heap.size ≤ w'.heap.size ∧ Below w.heap.size w w') := Lib.hid (fun w' hb => ⟨OR.below HO.out hb, Nat.le_trans HB.out.size hb.size, tr3 HB.out hb⟩)
        have HLN : Hid (cs.length ≤ 1000000) := Lib.hid (by omega)
        go_wp2_with ((at_builtin; refine wpList_appR rfl _ _ 50 33 _ 32 rfl Try.underlying50 infoI rfl (by decide) recI w.heap.size (.slice ca cs.length cc) cs rfl ⟨wr.heap.size + 1, 0, none⟩ 1 rfl (x0, x1, x2, x3) (HGo.out _ (by go_grown)).1 (rec_new (by go_simp) rfl) HLN.out (HGo.out _ (by go_grown)).2.1 ?_))
        intro v7 w7 ho7 hg7 hor7
        have hb7 : Below w.heap.size w w7 := (HGo.out _ (by go_grown)).2.2.grown hg7 (HGo.out _ (by go_grown)).2.1 (fun g e => ((HGo.out _ (by go_grown)).1.lt g e).1)
        have HO7 := Lib.hid ho7
        have HB7 := Lib.hid hb7
        obtain ⟨l7, c7, rfl⟩ := ho7.form
        have HC7 : Hid ((cs ++ [(x0, x1, x2, x3)]).length ≤ j + 1) := Lib.hid (by rw [List.length_append, List.length_singleton]; omega)
        clear ho7 hg7 hor7 hb7 HGo HLN
        go_wp2_with fail
        go_roundw
        case rel => exact ⟨j + 1, l7, c7, cs ++ [(x0, x1, x2, x3)], by omega, HC7, by simp, by go_num, HF1, HO7, HB7⟩
        case measure => simp [intOf]; omega
      · have HF1 := Lib.hid (HF.out.lab HQ.out rfl)
        obtain ⟨pl, hpl⟩ : ∃ pl, plI own sm = pl := ⟨_, rfl⟩
        rw [hpl] at CP
        clear hpl
        go_wp2_with fail
        refine CP.out.mono ?_
        rintro e w5 ⟨rfl, rfl⟩
        clear CP
        have HB1 := Lib.hid (tr3 HB.out (show Below wr.heap.size wr (wr.alloc (.cells #[.int .i64 x0, .int .i64 x1, .int .i64 x2, .int .i64 x3] 33)) by go_grown))
        have HO1 := Lib.hid (OR.below HO.out (show Below wr.heap.size wr (wr.alloc (.cells #[.int .i64 x0, .int .i64 x1, .int .i64 x2, .int .i64 x3] 33)) by go_grown))
        go_wp2_with fail
        go_roundw
        case rel => exact ⟨j + 1, ca, cc, cs, by omega, Lib.hid (by omega), rfl, by go_num, HF1, HO1, HB1⟩
        case measure => simp [intOf]; omega
      · have hq3 := HQ.out
        cases hp : plc own sm with
        | none =>
          have hpl : plI own sm = -1 := by unfold plI; rw [hp]
          rw [hpl] at CP
          have HBad := Lib.hid (HF.out.bad hq3 (by simp) hp)
          have t0 : wr.cell? ⟨w0.heap.size, 0, none⟩ = some (.int .i64 0) := ro.cel (HT.out.below HB.out).r0 0
          have t1 : wr.cell? ⟨w0.heap.size, 1, none⟩ = some (.slice none 0 0) := ro.cel (HT.out.below HB.out).r0 1
          have z0 : wr.frozen? ⟨w0.heap.size, 0, none⟩ = false := ro.frz (HT.out.below HB.out).r0 0
          have z1 : wr.frozen? ⟨w0.heap.size, 1, none⟩ = false := ro.frz (HT.out.below HB.out).r0 1
          have s0 : wr.cell? ⟨w0.heap.size + 1, 0, none⟩ = some (.int .i64 0) := ro.cel (HT.out.below HB.out).r1 0
          have s1 : wr.cell? ⟨w0.heap.size + 1, 1, none⟩ = some (.slice none 0 0) := ro.cel (HT.out.below HB.out).r1 1
          have zl : w0.heap.size < wr.heap.size := ro.lt_of (HT.out.below HB.out).r0
          have zl1 : w0.heap.size + 1 < wr.heap.size := ro.lt_of (HT.out.below HB.out).r1
          have HBW := Lib.hid (tr3 HT.out.b HB.out)
          clear hpl hp hq3 HO
          go_wp2_with fail
          refine CP.out.mono ?_
          rintro e w5 ⟨rfl, rfl⟩
          clear CP
          go_wp2_with fail
          refine HR.out HBad.out _ _ rfl rfl rfl ?_ ?_ ?_
          · go_simp
          · go_simp
          · refine Below.trans HBW.out ?_
            go_grown
        | some p =>
          have hpl : plI own sm = p := by unfold plI; rw [hp]
          rw [hpl] at CP
          have hp0 := (plc_ge own sm p hp).1
          have hp1 : ¬ p < 0 := by omega
          have HF1 := Lib.hid (HF.out.jmp hq3 (by simp) hp)
          clear hpl hp hq3
          go_wp2_with fail
          refine CP.out.mono ?_
          rintro e w5 ⟨rfl, rfl⟩
          clear CP
          have HGo : Hid (∀ w', Below wr.heap.size wr w' → OR 4 enI w' w.heap.size 33 (.slice ca cs.length cc) cs ∧ w.heap.size ≤ w'.heap.size ∧ Below w.heap.size w w') := Lib.hid (fun w' hb => ⟨OR.below HO.out hb, Nat.le_trans HB.out.size hb.size, tr3 HB.out hb⟩)
          have HLN : Hid (cs.length ≤ 1000000) := Lib.hid (by omega)
          go_wp2_with ((at_builtin; refine wpList_appR rfl _ _ 50 33 _ 32 rfl Try.underlying50 infoI rfl (by decide) recI w.heap.size (.slice ca cs.length cc) cs rfl ⟨wr.heap.size + 1, 0, none⟩ 1 rfl (18, p, 0, 0) (HGo.out _ (by go_grown)).1 (rec_new (by go_simp) rfl) HLN.out (HGo.out _ (by go_grown)).2.1 ?_))
          intro v7 w7 ho7 hg7 hor7
          have hb7 : Below w.heap.size w w7 := (HGo.out _ (by go_grown)).2.2.grown hg7 (HGo.out _ (by go_grown)).2.1 (fun g e => ((HGo.out _ (by go_grown)).1.lt g e).1)
          have HO7 := Lib.hid ho7
          have HB7 := Lib.hid hb7
          obtain ⟨l7, c7, rfl⟩ := ho7.form
          have HC7 : Hid ((cs ++ [(18, p, 0, 0)]).length ≤ j + 1) := Lib.hid (by rw [List.length_append, List.length_singleton]; omega)
          clear ho7 hg7 hor7 hb7 HGo HLN
          go_wp2_with fail
          go_roundw
          case rel => exact ⟨j + 1, l7, c7, cs ++ [(18, p, 0, 0)], by omega, HC7, by simp, by go_num, HF1, HO7, HB7⟩
          case measure => simp [intOf]; omega
      · have hq3 := HQ.out
        cases hp : plc own sm with
        | none =>
          have hpl : plI own sm = -1 := by unfold plI; rw [hp]
          rw [hpl] at CP
          have HBad := Lib.hid (HF.out.bad hq3 (by simp) hp)
          have t0 : wr.cell? ⟨w0.heap.size, 0, none⟩ = some (.int .i64 0) := ro.cel (HT.out.below HB.out).r0 0
          have t1 : wr.cell? ⟨w0.heap.size, 1, none⟩ = some (.slice none 0 0) := ro.cel (HT.out.below HB.out).r0 1
          have z0 : wr.frozen? ⟨w0.heap.size, 0, none⟩ = false := ro.frz (HT.out.below HB.out).r0 0
          have z1 : wr.frozen? ⟨w0.heap.size, 1, none⟩ = false := ro.frz (HT.out.below HB.out).r0 1
          have s0 : wr.cell? ⟨w0.heap.size + 1, 0, none⟩ = some (.int .i64 0) := ro.cel (HT.out.below HB.out).r1 0
          have s1 : wr.cell? ⟨w0.heap.size + 1, 1, none⟩ = some (.slice none 0 0) := ro.cel (HT.out.below HB.out).r1 1
          have zl : w0.heap.size < wr.heap.size := ro.lt_of (HT.out.below HB.out).r0
          have zl1 : w0.heap.size + 1 < wr.heap.size := ro.lt_of (HT.out.below HB.out).r1
          have HBW := Lib.hid (tr3 HT.out.b HB.out)
          clear hpl hp hq3 HO
          go_wp2_with fail
          refine CP.out.mono ?_
          rintro e w5 ⟨rfl, rfl⟩
          clear CP
          go_wp2_with fail
          refine HR.out HBad.out _ _ rfl rfl rfl ?_ ?_ ?_
          · go_simp
          · go_simp
          · refine Below.trans HBW.out ?_
            go_grown
        | some p =>
          have hpl : plI own sm = p := by unfold plI; rw [hp]
          rw [hpl] at CP
          have hp0 := (plc_ge own sm p hp).1
          have hp1 : ¬ p < 0 := by omega
          have HF1 := Lib.hid (HF.out.jmp hq3 (by simp) hp)
          clear hpl hp hq3
          go_wp2_with fail
          refine CP.out.mono ?_
          rintro e w5 ⟨rfl, rfl⟩
          clear CP
          have HGo : Hid (∀ w', Below wr.heap.size wr w' → OR 4 enI w' w.heap.size 33 (.slice ca cs.length cc) cs ∧ w.heap.size ≤ w'.heap.size ∧ Below w.heap.size w w') := Lib.hid (fun w' hb => ⟨OR.below HO.out hb, Nat.le_trans HB.out.size hb.size, tr3 HB.out hb⟩)
          have HLN : Hid (cs.length ≤ 1000000) := Lib.hid (by omega)
          go_wp2_with ((at_builtin; refine wpList_appR rfl _ _ 50 33 _ 32 rfl Try.underlying50 infoI rfl (by decide) recI w.heap.size (.slice ca cs.length cc) cs rfl ⟨wr.heap.size + 1, 0, none⟩ 1 rfl (19, rg, p, 0) (HGo.out _ (by go_grown)).1 (rec_new (by go_simp) rfl) HLN.out (HGo.out _ (by go_grown)).2.1 ?_))
          intro v7 w7 ho7 hg7 hor7
          have hb7 : Below w.heap.size w w7 := (HGo.out _ (by go_grown)).2.2.grown hg7 (HGo.out _ (by go_grown)).2.1 (fun g e => ((HGo.out _ (by go_grown)).1.lt g e).1)
          have HO7 := Lib.hid ho7
          have HB7 := Lib.hid hb7
          obtain ⟨l7, c7, rfl⟩ := ho7.form
          have HC7 : Hid ((cs ++ [(19, rg, p, 0)]).length ≤ j + 1) := Lib.hid (by rw [List.length_append, List.length_singleton]; omega)
          clear ho7 hg7 hor7 hb7 HGo HLN
          go_wp2_with fail
          go_roundw
          case rel => exact ⟨j + 1, l7, c7, cs ++ [(19, rg, p, 0)], by omega, HC7, by simp, by go_num, HF1, HO7, HB7⟩
          case measure => simp [intOf]; omega
    · obtain rfl : t = j := by omega
      have HE := Lib.hid (HF.out.end HTL.out)
      have HBO := Lib.hid HB.out
      clear HF
      go_wp2_with fail
      exact HN.out _ _ _ _ _ _ _ _ _ _ _ _ _ _ _ _ _ _ _ _ _ _ _ _ _ _ _ _ _ _ _ _ _ _ _ _ _ _ _ _ _ _ _ _ _ _ _ _ _ _ _ _ _ _ _ _ _ _ _ _ _ HE.out HC.out HO.out HBO.out
end Go.Proofs.Ytdneblbaofhehaa.bd
