/- The play of DequeOnce: the state of a round; the walk that is to step begins (layer 13). -/
import Derived.Test.YtegbifphekhgkaaDqP5
import Derived.Test.YtegbifphekhgkaaDqP6
namespace Go.Proofs.Ytegbifphekhgkaa.dqo
open Go.Proofs.Ytegbifphekhgkaa.ro (Ro KX ext)
open Go.Proofs.Ytegbifphekhgkaa.DO
open Go.ChangeShapes Go.WideShapes Go.ChangeAt Go.RowKit

attribute [local go_sem ↓] Go.wp_at_zero Go.wp_at_succ
set_option linter.unusedVariables false
set_option linter.unusedSimpArgs false
theorem inblock_exit {id : Nat} {Q : Exit → Act → World → Prop} {a : Act} {w : World} (h : Q .normal a w) : Exit.inBlock id Q (.exit id) a w := by
  simp only [Exit.inBlock, if_true]
  exact h
section
variable {w0 w w' : World} {ρ : Ro} {Pl S g Wv Ou P D n k : Nat} {ag : Nat → Ag} {ps : Nat → Option Nat} {E E' : Nat → Prop} {vs : Nat → Value} {ls : Nat → List Int} {xs : List Int}
theorem OS.weaken (h : OS w0 w ρ Pl S g Wv Ou P D n ag ps E vs ls xs) (he : ∀ q, E' q → E q) : OS w0 w ρ Pl S g Wv Ou P D n ag ps E' vs ls xs :=
  ⟨h.z, h.b, h.st, h.g0, h.rS, h.rg, h.pl, h.rp, h.wv, h.rw', h.ou, h.ro, h.row, fun q hq hE => h.on q hq (he q hE), h.ln⟩
theorem OS.join (h : OS w0 w ρ Pl S g Wv Ou P D n ag ps (fun q => True ∧ q ≠ k) vs ls xs) (a : Ag) (hs : Stands w ρ P D k a (ps k)) : OS w0 w ρ Pl S g Wv Ou P D n (upd ag k a) ps (fun _ => True) vs ls xs := by
  refine ⟨h.z, h.b, h.st, h.g0, h.rS, h.rg, h.pl, h.rp, h.wv, h.rw', h.ou, h.ro, h.row, fun q hq _ => ?_, h.ln⟩
  by_cases e : q = k
  · subst e; rw [upd_same]; exact hs
  · rw [upd_other _ _ _ _ e]; exact h.on q hq ⟨trivial, e⟩
theorem OS.jj (h : OS w0 w ρ Pl S g Wv Ou P D n ag ps E vs ls xs) : J w0 w S g xs := ⟨h.st, h.b, h.g0⟩
theorem OS.plan (h : OS w0 w ρ Pl S g Wv Ou P D n ag ps E vs ls xs) : w.cell? ⟨Pl, 0, none⟩ = some (.int .i64 2) ∧ w.cell? ⟨Pl, 1, none⟩ = some (.int .i64 1) ∧ w.cell? ⟨Pl, 2, none⟩ = some (.int .i64 1) ∧ w.cell? ⟨Pl, 3, none⟩ = some (.int .i64 (D : Int)) := by
  refine ⟨?_, ?_, ?_, ?_⟩ <;> (simp only [World.cell?, h.pl]; rfl)
theorem OS.frzW (h : OS w0 w ρ Pl S g Wv Ou P D n ag ps E vs ls xs) (i : Nat) : w.frozen? ⟨Wv, i, none⟩ = false := ro.frz h.wv i
theorem OS.frzO (h : OS w0 w ρ Pl S g Wv Ou P D n ag ps E vs ls xs) (i : Nat) : w.frozen? ⟨Ou, i, none⟩ = false := ro.frz h.ou i
end
/-- the state ahead of round i. -/
structure PL (w0 w : World) (ρ : Ro) (Pl S g Wv Ou P D n i len : Nat) (tl : Int) (nx : Nat) (pb : Bool) (ag : Nat → Ag) (ps : Nat → Option Nat) (vs : Nat → Value) (ls : Nat → List Int) (xs : List Int) (m : Mem) (p : Ps) : Prop where
  os : OS w0 w ρ Pl S g Wv Ou P D n ag ps (fun _ => True) vs ls xs
  dq : Dq P D xs m.h m.t m.tk m.sv m.sl
  iv : Inv D m ag p
  s0 : 0 ≤ m.sv
  tk : m.tk ≤ (i : Int)
  nb : p.nx ≤ i + 1
  e1 : tl = p.T
  e2 : nx = p.nx
  e3 : pb = p.pops
  l0 : ls 0 = p.pushed
  l1 : ls 1 = p.popped
  l2 : ls 2 = p.stolen
  l3 : ls 3 = p.stack
  bd : len ≤ i → Bud m ag i (len + 400 - i)
section
variable {w0 w w1 : World} {ρ : Ro} {Pl S g Wv Ou P D n i len nx k : Nat} {tl : Int} {pb pb' : Bool} {ag : Nat → Ag} {ps : Nat → Option Nat} {vs : Nat → Value} {ls : Nat → List Int} {xs : List Int} {m : Mem} {p : Ps}
theorem PL.tb (h : PL w0 w ρ Pl S g Wv Ou P D n i len tl nx pb ag ps vs ls xs m p) : p.T ≤ i := by
  have := h.iv.ls.cnt
  have := h.nb
  omega
/-- nothing is done in this round. -/
theorem PL.skip (h : PL w0 w ρ Pl S g Wv Ou P D n i len tl nx pb ag ps vs ls xs m p) (hi : len ≤ i) (hi2 : i < len + 400) (hm : ¬ mov m (ag (i % 4))) : PL w0 w ρ Pl S g Wv Ou P D n (i + 1) len tl nx pb ag ps vs ls xs m p :=
  ⟨h.os, h.dq, h.iv, h.s0, by have := h.tk; omega, by have := h.nb; omega, h.e1, h.e2, h.e3, h.l0, h.l1, h.l2, h.l3, fun _ => by
    have hb := h.bd hi
    rw [show len + 400 - i = (len + 400 - (i + 1)) + 1 by omega] at hb
    exact bud_skip hb hm⟩
/-- a walk begins. -/
theorem PL.begin (h : PL w0 w ρ Pl S g Wv Ou P D n i len tl nx pb ag ps vs ls xs m p) (hi : i < len) (hk : k < 4) {A : Nat} {o : Wk} (a : Ag) (p' : Ps) (hb : Below w.heap.size w w1) (hA : w.heap.size ≤ A) (wA : WAt w1 A o) (ar : AgR A P D a o) (ha : a.pc ≠ .idle) (iv : Inv D m (upd ag k a) p') (hl : p'.lv = { p.lv with pops := pb' }) :
    PL w0 (w1.setCell ⟨Wv, k, none⟩ (.pointer (some ⟨A, 0, none⟩))) (ext ρ w.heap.size (10 + k)) Pl S g Wv Ou P D n i len tl nx pb' (upd ag k a) (fun q => if q = k then some A else ps q) vs ls xs m p' := by
  simp only [Ps.lv, Lv.mk.injEq] at hl
  obtain ⟨h1, h2, h3, h4, h5, h6, h7⟩ := hl
  have o1 := h.os.below (10 + k) hb
  have o2 := (o1.weaken (E' := fun q => True ∧ q ≠ k) (fun q _ => trivial)).setPtr k hk (some A) (fun q hq => hq.2)
  have hW : Wv < w.heap.size := lt_of_heap h.os.wv
  have wA2 : WAt (w1.setCell ⟨Wv, k, none⟩ (ptrV (some A))) A o := (ro.set_oth w1 Wv k A _ (by omega)).trans wA
  refine ⟨o2.join a (Or.inr ⟨A, o, by simp, ha, wA2, ro.ext_ge _ _ hA, ar⟩), h.dq, iv, h.s0, h.tk, by rw [h2]; exact h.nb, by rw [h1]; exact h.e1, by rw [h2]; exact h.e2, h3.symm, by rw [h4]; exact h.l0, by rw [h5]; exact h.l1, by rw [h6]; exact h.l2, by rw [h7]; exact h.l3, fun e => by omega⟩
end
/-- the walk k stands at a step, in the block A. -/
def MI (w0 w : World) (Pl S g Wv Ou P D n i len : Nat) (tl : Int) (nx : Nat) (pb : Bool) (k A : Nat) : Prop :=
  ∃ ρ ag ps vs ls xs m p, PL w0 w ρ Pl S g Wv Ou P D n i len tl nx pb ag ps vs ls xs m p ∧ ps k = some A
/-- the play's state, whatever stands in it. -/
def LI (w0 w : World) (Pl S g Wv Ou P D n i len : Nat) (tl : Int) (nx : Nat) (pb : Bool) : Prop :=
  ∃ ρ ag ps vs ls xs m p, PL w0 w ρ Pl S g Wv Ou P D n i len tl nx pb ag ps vs ls xs m p
theorem frz_below {w w1 : World} {b i : Nat} {cs : Array Value} {e : TypeId} (h : w.heap[b]? = some (.cells cs e (0, 0))) (hb : Below w.heap.size w w1) : w1.frozen? ⟨b, i, none⟩ = false := ro.frz ((hb.block b (lt_of_heap h)).trans h) i
theorem bg_eq : bg = .seq (.block 2 (.seq r17 (.cond (.tmp 55) (.exit 1) (.seq r18 (.cond (.tmp 60) r19 (.seq r20 (.cond (.tmp 65) (.seq r21 r22) (.seq r15 r16)))))))) r23 := by kernel_rfl
theorem p14_eq : p14 = .seq r14 (.cond (.tmp 51) bg .skip) := by kernel_rfl
theorem r18_eq : rgt (rgt b2) = c18 := rfl
set_option maxRecDepth 20000 in
set_option maxHeartbeats 4000000 in
theorem bg_of {D len cap Rz Pl S Wv Ou nx i : Nat} {a1 : Option Addr} {tl : Int} {ps : Bool} {w0 : World} {g P n k : Nat} {b off : Nat} {y : Int} {ρ : Ro} {ag : Nat → Ag} {ps0 : Nat → Option Nat} {vs : Nat → Value} {ls : Nat → List Int} {xs : List Int} {m : Mem} {p : Ps} {u15 u16 u17 u18 u19 u20 u21 u22 u23 u24 u25 u26 u27 u28 u29 u30 u31 u32 u33 u34 u35 u36 u37 u38 u39 u40 u41 u42 u43 u44 u45 u46 u47 u48 u49 u50 u51 u52 u53 u54 u55 u56 u57 u58 u59 u60 u61 u62 u63 u64 u65 u66 u67 u68 u69 u70 u71 u72 u73 u74 u75 u76 u77 u78 u79 u80 u81 u82 u83 u84 u85 u86 u87 u88 u89 u90 u91 u92 u93 u94 u95 u96 u97 u98 u99 u100 u101 u102 u103 u104 u105 u106 u107 u108 u109 u110 u111 u112 u113 u114 u115 u116 u117 u118 u119 u120 u121 u122 u123 u124 u125 u126 u127 u128 u129 u130 u131 u132 u133 u134 u135 u136 u137 u138 u139 u140 u141 u142 u143 u144 u145 u146 u147 u148 u149 u150 u151 u152 u153 u154 u155 u156 u157 u158 u159 u160 u161 u162 u163 u164 u165 u166 u167 u168 u169 u170 u171 u172 u173 u174 u175 u176 u177 u178 u179 u180 u181 u182 u183 : Value} {Q : Exit → Act → World → Prop} {w : World}
    (hD2 : 2 ≤ D) (hD8 : D ≤ 8) (hi9 : i ≤ 800) (hl : len ≤ 300) (hi : i < len) (ha : a1 = some ⟨b, off, none⟩) (hbl : b < w0.heap.size) (hz1 : w0.cell? ⟨b, off + i * 3 + 1, none⟩ = some (.int .u8 y)) (hy0 : 0 ≤ y) (hy1 : y ≤ 255) (hk : k < 4) (h : PL w0 w ρ Pl S g Wv Ou P D n i len tl nx ps ag ps0 vs ls xs m p) (hidle : (ag k).pc = .idle)
    (hN : ∀ (v52 v53 v54 v55 v56 v57 v58 v59 v60 v61 v62 v63 v64 v65 v66 v67 v68 v69 v70 v71 v72 v73 v74 v75 v76 v77 v78 v79 v80 : Value) (A : Nat) (pb : Bool) (w' : World), MI w0 w' Pl S g Wv Ou P D n i len tl nx pb k A → Q .normal ⟨#[.int .i64 (D : Int), .slice a1 len cap, undef, undef, .pointer (some ⟨Rz, 0, none⟩), .pointer (some ⟨Pl, 0, none⟩), .pointer (some ⟨S, 0, none⟩), .slice (some ⟨Wv, 0, none⟩) 4 4, .pointer (some ⟨Ou, 0, none⟩), .int .i64 tl, .int .i64 (nx : Int), .bool pb, .int .i64 (i : Int), .int .i64 (k : Int), .pointer (some ⟨A, 0, none⟩), u15, u16, u17, u18, u19, u20, u21, u22, u23, u24, u25, u26, u27, u28, u29, u30, u31, u32, u33, u34, u35, u36, u37, u38, u39, u40, u41, u42, u43, u44, u45, u46, u47, u48, u49, u50, u51, v52, v53, v54, v55, v56, v57, v58, v59, v60, v61, v62, v63, v64, v65, v66, v67, v68, v69, v70, v71, v72, v73, v74, v75, v76, v77, v78, v79, v80, u81, u82, u83, u84, u85, u86, u87, u88, u89, u90, u91, u92, u93, u94, u95, u96, u97, u98, u99, u100, u101, u102, u103, u104, u105, u106, u107, u108, u109, u110, u111, u112, u113, u114, u115, u116, u117, u118, u119, u120, u121, u122, u123, u124, u125, u126, u127, u128, u129, u130, u131, u132, u133, u134, u135, u136, u137, u138, u139, u140, u141, u142, u143, u144, u145, u146, u147, u148, u149, u150, u151, u152, u153, u154, u155, u156, u157, u158, u159, u160, u161, u162, u163, u164, u165, u166, u167, u168, u169, u170, u171, u172, u173, u174, u175, u176, u177, u178, u179, u180, u181, u182, u183], []⟩ w') :
    Code.wp Try.prog bg Q ⟨#[.int .i64 (D : Int), .slice a1 len cap, undef, undef, .pointer (some ⟨Rz, 0, none⟩), .pointer (some ⟨Pl, 0, none⟩), .pointer (some ⟨S, 0, none⟩), .slice (some ⟨Wv, 0, none⟩) 4 4, .pointer (some ⟨Ou, 0, none⟩), .int .i64 tl, .int .i64 (nx : Int), .bool ps, .int .i64 (i : Int), .int .i64 (k : Int), .pointer none, u15, u16, u17, u18, u19, u20, u21, u22, u23, u24, u25, u26, u27, u28, u29, u30, u31, u32, u33, u34, u35, u36, u37, u38, u39, u40, u41, u42, u43, u44, u45, u46, u47, u48, u49, u50, u51, u52, u53, u54, u55, u56, u57, u58, u59, u60, u61, u62, u63, u64, u65, u66, u67, u68, u69, u70, u71, u72, u73, u74, u75, u76, u77, u78, u79, u80, u81, u82, u83, u84, u85, u86, u87, u88, u89, u90, u91, u92, u93, u94, u95, u96, u97, u98, u99, u100, u101, u102, u103, u104, u105, u106, u107, u108, u109, u110, u111, u112, u113, u114, u115, u116, u117, u118, u119, u120, u121, u122, u123, u124, u125, u126, u127, u128, u129, u130, u131, u132, u133, u134, u135, u136, u137, u138, u139, u140, u141, u142, u143, u144, u145, u146, u147, u148, u149, u150, u151, u152, u153, u154, u155, u156, u157, u158, u159, u160, u161, u162, u163, u164, u165, u166, u167, u168, u169, u170, u171, u172, u173, u174, u175, u176, u177, u178, u179, u180, u181, u182, u183], []⟩ w := by
  obtain ⟨c0, c1, c2, c3⟩ := h.os.plan
  have hpv := h.os.ptr k hk
  have hT := h.tb
  have ht0 : 0 ≤ tl := by rw [h.e1]; omega
  have ht1 : tl ≤ 1000000 := by rw [h.e1]; omega
  have hy : w.cell? ⟨b, off + i * 3 + 1, none⟩ = some (.int .u8 y) := (h.os.b.cell (p := ⟨b, off + i * 3 + 1, none⟩) hbl).trans hz1
  rw [bg_eq]
  refine wp_seq ?_
  refine wp_block ?_
  refine wp_seq ?_
  refine r17_no (by omega) hl ?_
  intro v56 v57 v58 v59 w2 hw2
  rw [hw2]
  change Code.wp Try.prog (.cond (.tmp 55) (.exit 1) (.seq r18 (.cond (.tmp 60) r19 (.seq r20 (.cond (.tmp 65) (.seq r21 r22) (.seq r15 r16)))))) (Exit.inBlock 2 _) _ _
  refine wp_cond_false rfl ?_
  refine wp_seq ?_
  by_cases hk0 : k = 0
  · refine r18_no hk0 ?_
    intro v61 v62 w3 hw3
    rw [hw3]
    change Code.wp Try.prog (.cond (.tmp 60) r19 (.seq r20 (.cond (.tmp 65) (.seq r21 r22) (.seq r15 r16)))) (Exit.inBlock 2 _) _ _
    refine wp_cond_false rfl ?_
    refine wp_seq ?_
    subst hk0
    by_cases hr : y.tmod 3 < 2
    · refine r20_push (r := y.tmod 3) hi ha hy hy0 hy1 rfl hr ?_
      intro v66 v67 v68 v69 v70 v71 v72 w4 hw4
      rw [hw4]
      change Code.wp Try.prog (.cond (.tmp 65) (.seq r21 r22) (.seq r15 r16)) (Exit.inBlock 2 _) _ _
      refine wp_cond_true rfl ?_
      refine wp_seq ?_
      refine r21_of (R := fun A w1 => w.heap.size ≤ A ∧ Below w.heap.size w w1 ∧ WAt w1 A (⟨D, 1, tl, (nx : Int), 0, 0, 0, 0, false, false, fnV A 51⟩ : Wk)) c0 c1 c2 c3 (Lib.hid ((push_new S g D 1 tl (nx : Int) xs w0 w h.os.jj ht0 ht1).mono fun e w1 hh => by
        obtain ⟨A, h1, h2, h3, h4⟩ := hh
        exact ⟨A, h1, Lib.hid ⟨h2, h3, h4.a⟩⟩)) ?_
      intro v73 v74 v75 v76 A w1 ⟨hA, hB, wA⟩
      change Code.wp Try.prog r22 (Exit.inBlock 2 _) _ _
      refine r22_of ?_
      intro w2 hw2
      rw [hw2]
      change Code.wp Try.prog r23 Q _ _
      refine r23_of hk (keepc hpv hB) (frz_below h.os.wv hB) ?_
      intro v77 v78 v79 v80 w3 hw3
      rw [hw3]
      exact hN _ _ _ _ _ _ _ _ _ _ _ _ _ _ _ _ _ _ _ _ _ _ _ _ _ _ _ _ _ A false _ ⟨_, _, _, _, _, _, _, _, h.begin (pb' := false) hi hk ⟨.pushLook, tl, (nx : Int), 0, 0, 0, false, false⟩ { p with pops := false } hB hA wA ⟨rfl, rfl, rfl, rfl, rfl, rfl, fun hh => by simp [tick] at hh, rfl, rfl, rfl, rfl⟩ (by simp) (o_push_begin h.iv _ hidle rfl h.e1 (by show (nx : Int) = (p.nx : Int); rw [h.e2]) rfl rfl) (rfl), by simp⟩
    · refine r20_pop (r := y.tmod 3) hi ha hy hy0 hy1 rfl hr ?_
      intro v66 v67 v68 v69 v70 v71 v72 w4 hw4
      rw [hw4]
      change Code.wp Try.prog (.cond (.tmp 65) (.seq r21 r22) (.seq r15 r16)) (Exit.inBlock 2 _) _ _
      refine wp_cond_false rfl ?_
      refine wp_seq ?_
      refine r15_of (R := fun A w1 => w.heap.size ≤ A ∧ Below w.heap.size w w1 ∧ WAt w1 A (⟨D, 1, tl, 0, 0, 0, 0, 0, false, false, fnV A 52⟩ : Wk)) c0 c1 c2 c3 (Lib.hid ((pop_new S g D 1 tl xs w0 w h.os.jj ht0 ht1).mono fun e w1 hh => by
        obtain ⟨A, h1, h2, h3, h4⟩ := hh
        exact ⟨A, h1, Lib.hid ⟨h2, h3, h4.a⟩⟩)) ?_
      intro v52 v53 v54 A w1 ⟨hA, hB, wA⟩
      change Code.wp Try.prog r16 (Exit.inBlock 2 _) _ _
      refine r16_of ?_
      intro w2 hw2
      rw [hw2]
      change Code.wp Try.prog r23 Q _ _
      refine r23_of hk (keepc hpv hB) (frz_below h.os.wv hB) ?_
      intro v77 v78 v79 v80 w3 hw3
      rw [hw3]
      exact hN _ _ _ _ _ _ _ _ _ _ _ _ _ _ _ _ _ _ _ _ _ _ _ _ _ _ _ _ _ A true _ ⟨_, _, _, _, _, _, _, _, h.begin (pb' := true) hi hk ⟨.popClaim, tl, 0, 0, 0, 0, false, false⟩ { p with pops := true } hB hA wA ⟨rfl, rfl, rfl, rfl, rfl, rfl, fun hh => by simp [tick] at hh, rfl, rfl, rfl, rfl⟩ (by simp) (o_pop_begin h.iv _ hidle rfl h.e1 rfl rfl) (rfl), by simp⟩
  · refine r18_yes (by omega) hk ?_
    intro v61 v62 w3 hw3
    rw [hw3]
    change Code.wp Try.prog (.cond (.tmp 60) r19 (.seq r20 (.cond (.tmp 65) (.seq r21 r22) (.seq r15 r16)))) (Exit.inBlock 2 _) _ _
    refine wp_cond_true rfl ?_
    refine r19_of (R := fun A w1 => w.heap.size ≤ A ∧ Below w.heap.size w w1 ∧ WAt w1 A (⟨D, 1, 0, 0, 0, 0, 0, 0, false, false, fnV A 53⟩ : Wk)) c0 c1 c2 c3 (Lib.hid ((steal_new S g D 1 xs w0 w h.os.jj).mono fun e w1 hh => by
      obtain ⟨A, h1, h2, h3, h4⟩ := hh
      exact ⟨A, h1, Lib.hid ⟨h2, h3, h4.a⟩⟩)) ?_
    intro v63 v64 A w1 ⟨hA, hB, wA⟩
    change Code.wp Try.prog r23 Q _ _
    refine r23_of hk (keepc hpv hB) (frz_below h.os.wv hB) ?_
    intro v77 v78 v79 v80 w3 hw3
    rw [hw3]
    exact hN _ _ _ _ _ _ _ _ _ _ _ _ _ _ _ _ _ _ _ _ _ _ _ _ _ _ _ _ _ A ps _ ⟨_, _, _, _, _, _, _, _, h.begin (pb' := ps) hi hk ⟨.ask, 0, 0, 0, 0, 0, false, false⟩ p hB hA wA ⟨rfl, rfl, rfl, rfl, rfl, rfl, fun hh => by simp [tick] at hh, rfl, rfl, rfl, rfl⟩ (by simp) (t_begin h.iv k (by omega) hk _ hidle rfl rfl) (by rw [h.e3]; rfl), by simp⟩
end Go.Proofs.Ytegbifphekhgkaa.dqo
