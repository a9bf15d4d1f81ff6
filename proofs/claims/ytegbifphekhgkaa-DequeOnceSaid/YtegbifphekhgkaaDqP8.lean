/- The play of DequeOnce: the walk that is to step, and its step (layer 13). -/
import Derived.Test.YtegbifphekhgkaaDqP7
namespace Go.Proofs.Ytegbifphekhgkaa.dqo
open Go.Proofs.Ytegbifphekhgkaa.ro (Ro KX ext)
open Go.Proofs.Ytegbifphekhgkaa.DO
open Go.ChangeShapes Go.WideShapes Go.ChangeAt Go.RowKit

attribute [local go_sem ↓] Go.wp_at_zero Go.wp_at_succ
set_option linter.unusedVariables false
set_option linter.unusedSimpArgs false
theorem cd_f (A : Nat) {q : Pc} (h : q ≠ .idle) : ∃ f, cd A q = fnV A f := by
  cases q <;> first | exact absurd rfl h | exact ⟨_, rfl⟩
/-- behind a walk's last step: the lists do not tell of it yet. -/
structure PE (w0 w : World) (ρ : Ro) (Pl S g Wv Ou P D n i len : Nat) (tl : Int) (nx : Nat) (pb : Bool) (k A : Nat) (ag : Nat → Ag) (ps : Nat → Option Nat) (vs : Nat → Value) (ls : Nat → List Int) (xs : List Int) (m : Mem) (l : Lv) (p : Ps) (a : Ag) (o : Wk) (E : Nat → Prop) : Prop where
  os : OS w0 w ρ Pl S g Wv Ou P D n ag ps E vs ls xs
  dq : Dq P D xs m.h m.t m.tk m.sv m.sl
  iv : Inv D m ag p
  s0 : 0 ≤ m.sv
  tk : m.tk ≤ (i : Int) + 1
  nb : p.nx ≤ i + 2
  ob : WAt w A o
  rA : ρ A = 10 + k
  ar : AgR A P D a o
  en : a.pc = .idle
  out : Out k l p.lv a
  e1 : tl = l.T
  e2 : nx = l.nx
  e3 : pb = l.pops
  l0 : ls 0 = l.pushed
  l1 : ls 1 = l.popped
  l2 : ls 2 = l.stolen
  l3 : ls 3 = l.stack
  tb : l.T ≤ i
  xb : l.nx ≤ i + 1
  bd : len ≤ i + 1 → Bud m ag (i + 1) (len + 400 - (i + 1))
section
variable {w0 w w1 : World} {ρ : Ro} {Pl S g Wv Ou P D n i len nx k A : Nat} {tl : Int} {pb pb' : Bool} {ag : Nat → Ag} {ps : Nat → Option Nat} {vs : Nat → Value} {ls : Nat → List Int} {xs : List Int} {m m' : Mem} {p p' : Ps} {a' : Ag}
theorem PL.bnext (h : PL w0 w ρ Pl S g Wv Ou P D n i len tl nx pb ag ps vs ls xs m p) (hkk : len ≤ i → k = i % 4) (hi2 : i < len + 400) (iv : Inv D m' (upd ag k a') p') (mv : Mv m m' (ag k) a') : len ≤ i + 1 → Bud m' (upd ag k a') (i + 1) (len + 400 - (i + 1)) := by
  intro he
  by_cases hl : len ≤ i
  · obtain rfl := hkk hl
    have hb := h.bd hl
    rw [show len + 400 - i = (len + 400 - (i + 1)) + 1 by omega] at hb
    exact bud_step h.iv a' iv mv hb
  · rw [show len + 400 - (i + 1) = 400 by omega]
    exact bud_begin iv (i + 1)
theorem PL.obj (h : PL w0 w ρ Pl S g Wv Ou P D n i len tl nx pb ag ps vs ls xs m p) (hk : k < 4) (hA : ps k = some A) : ∃ o, (ag k).pc ≠ .idle ∧ WAt w A o ∧ ρ A = 10 + k ∧ AgR A P D (ag k) o := by
  rcases h.os.on k hk trivial with ⟨h1, _⟩ | ⟨A', o, h1, h2, h3, h4, h5⟩
  · rw [hA] at h1; cases h1
  · rw [hA] at h1; cases h1; exact ⟨o, h2, h3, h4, h5⟩
theorem OS.ws {E : Nat → Prop} {o : Wk} (h : OS w0 w ρ Pl S g Wv Ou P D n ag ps E vs ls xs) (hk : k < 4) (wA : WAt w A o) (rA : ρ A = 10 + k) : WS w0 w S g A xs o :=
  ⟨h.jj, wA, fun e => by have := h.rg; rw [← e, rA] at this; omega, fun e => by have := h.rS; rw [← e, rA] at this; omega, by
    rcases Nat.lt_or_ge A w0.heap.size with e | e
    · have := h.z A e; omega
    · exact e⟩
/-- the step, and the walk goes on. -/
theorem PL.went (h : PL w0 w ρ Pl S g Wv Ou P D n i len tl nx pb ag ps vs ls xs m p) (hk : k < 4) (hkk : len ≤ i → k = i % 4) (hi2 : i < len + 400) (hA : ps k = some A) {o o' : Wk} {xs' : List Int} (rA : ρ A = 10 + k) (wA : WAt w A o) (hp : Pair S g A P D m ag p k xs o xs' o' m' a' p') (hS : WS w0 w1 S g A xs' o') (hF : Fr g A w w1) (ha : a'.pc ≠ .idle) :
    LI w0 w1 Pl S g Wv Ou P D n (i + 1) len tl nx pb := by
  obtain ⟨ρ', h1, hr⟩ := h.os.step hk rA hS hF (hp.len.trans h.os.ln) (lt_of_heap wA)
  have hl : p'.lv = p.lv := by
    rcases hp.out with ⟨_, e⟩ | ⟨e, _⟩ | ⟨e, _⟩ | ⟨e, _⟩
    · exact e
    · exact absurd e ha
    · exact absurd e ha
    · exact absurd e ha
  simp only [Ps.lv, Lv.mk.injEq] at hl
  obtain ⟨q1, q2, q3, q4, q5, q6, q7⟩ := hl
  have := h.tk
  have := hp.tk
  have := h.nb
  exact ⟨ρ', _, _, _, _, _, _, _, h1.join a' (Or.inr ⟨A, o', hA, ha, hS.a, hr, hp.ar⟩), hp.dq, hp.inv, hp.s0, by push_cast; omega, by omega, by rw [q1]; exact h.e1, by rw [q2]; exact h.e2, by rw [q3]; exact h.e3, by rw [q4]; exact h.l0, by rw [q5]; exact h.l1, by rw [q6]; exact h.l2, by rw [q7]; exact h.l3, h.bnext hkk hi2 hp.inv hp.mv⟩
/-- the step, and the walk has ended. -/
theorem PL.ended (h : PL w0 w ρ Pl S g Wv Ou P D n i len tl nx pb ag ps vs ls xs m p) (hk : k < 4) (hkk : len ≤ i → k = i % 4) (hi2 : i < len + 400) {o o' : Wk} {xs' : List Int} (rA : ρ A = 10 + k) (wA : WAt w A o) (hp : Pair S g A P D m ag p k xs o xs' o' m' a' p') (hS : WS w0 w1 S g A xs' o') (hF : Fr g A w w1) (ha : a'.pc = .idle) :
    ∃ ρ', PE w0 (w1.setCell ⟨Wv, k, none⟩ (.pointer none)) ρ' Pl S g Wv Ou P D n i len tl nx pb k A (upd ag k a') (fun q => if q = k then none else ps q) vs ls xs' m' p.lv p' a' o' (fun _ => True) := by
  obtain ⟨ρ', h1, hr⟩ := h.os.step hk rA hS hF (hp.len.trans h.os.ln) (lt_of_heap wA)
  have h2 := h1.setPtr k hk none (fun q hq => hq.2)
  have := h.tk
  have := hp.tk
  have := h.nb
  have := hp.nb
  have hAW : A ≠ Wv := fun e => by have := h1.rw'; rw [← e, hr] at this; omega
  exact ⟨ρ', h2.join a' (Or.inl ⟨by simp, ha⟩), hp.dq, hp.inv, hp.s0, by omega, by omega, (ro.set_oth w1 Wv k A _ hAW).trans hS.a, hr, hp.ar, ha, hp.out, h.e1, h.e2, h.e3, h.l0, h.l1, h.l2, h.l3, h.tb, h.nb, h.bnext hkk hi2 hp.inv hp.mv⟩
end
theorem p24_eq : p24 = .seq r24 (.cond (.tmp 84) (.exit 1) .skip) := by kernel_rfl
set_option maxRecDepth 20000 in
set_option maxHeartbeats 4000000 in
theorem step_of24 {D len cap Rz Pl S Wv Ou nx i : Nat} {a1 : Option Addr} {tl : Int} {ps : Bool} {w0 : World} {g P n k A : Nat}  {u15 u16 u17 u18 u19 u20 u21 u22 u23 u24 u25 u26 u27 u28 u29 u30 u31 u32 u33 u34 u35 u36 u37 u38 u39 u40 u41 u42 u43 u44 u45 u46 u47 u48 u49 u50 u51 u52 u53 u54 u55 u56 u57 u58 u59 u60 u61 u62 u63 u64 u65 u66 u67 u68 u69 u70 u71 u72 u73 u74 u75 u76 u77 u78 u79 u80 u81 u82 u83 u84 u85 u86 u87 u88 u89 u90 u91 u92 u93 u94 u95 u96 u97 u98 u99 u100 u101 u102 u103 u104 u105 u106 u107 u108 u109 u110 u111 u112 u113 u114 u115 u116 u117 u118 u119 u120 u121 u122 u123 u124 u125 u126 u127 u128 u129 u130 u131 u132 u133 u134 u135 u136 u137 u138 u139 u140 u141 u142 u143 u144 u145 u146 u147 u148 u149 u150 u151 u152 u153 u154 u155 u156 u157 u158 u159 u160 u161 u162 u163 u164 u165 u166 u167 u168 u169 u170 u171 u172 u173 u174 u175 u176 u177 u178 u179 u180 u181 u182 u183 : Value} {Q : Exit → Act → World → Prop} {w : World}
    (hD2 : 2 ≤ D) (hD8 : D ≤ 8) (hP : 4 + D = P) (hn : 2 * (4 + D) + 10 = n) (hi9 : i ≤ 800) (hk : k < 4) (hkk : len ≤ i → k = i % 4) (hi2 : i < len + 400) (hl : len ≤ 300) (hM : MI w0 w Pl S g Wv Ou P D n i len tl nx ps k A)
    (hX : ∀ (v81 v82 v83 v84 v85 v86 v87 : Value)  (w' : World), LI w0 w' Pl S g Wv Ou P D n (i + 1) len tl nx ps → Q (.exit 1) ⟨#[.int .i64 (D : Int), .slice a1 len cap, undef, undef, .pointer (some ⟨Rz, 0, none⟩), .pointer (some ⟨Pl, 0, none⟩), .pointer (some ⟨S, 0, none⟩), .slice (some ⟨Wv, 0, none⟩) 4 4, .pointer (some ⟨Ou, 0, none⟩), .int .i64 tl, .int .i64 (nx : Int), .bool ps, .int .i64 (i : Int), .int .i64 (k : Int), .pointer (some ⟨A, 0, none⟩), u15, u16, u17, u18, u19, u20, u21, u22, u23, u24, u25, u26, u27, u28, u29, u30, u31, u32, u33, u34, u35, u36, u37, u38, u39, u40, u41, u42, u43, u44, u45, u46, u47, u48, u49, u50, u51, u52, u53, u54, u55, u56, u57, u58, u59, u60, u61, u62, u63, u64, u65, u66, u67, u68, u69, u70, u71, u72, u73, u74, u75, u76, u77, u78, u79, u80, v81, v82, v83, v84, v85, v86, v87, u88, u89, u90, u91, u92, u93, u94, u95, u96, u97, u98, u99, u100, u101, u102, u103, u104, u105, u106, u107, u108, u109, u110, u111, u112, u113, u114, u115, u116, u117, u118, u119, u120, u121, u122, u123, u124, u125, u126, u127, u128, u129, u130, u131, u132, u133, u134, u135, u136, u137, u138, u139, u140, u141, u142, u143, u144, u145, u146, u147, u148, u149, u150, u151, u152, u153, u154, u155, u156, u157, u158, u159, u160, u161, u162, u163, u164, u165, u166, u167, u168, u169, u170, u171, u172, u173, u174, u175, u176, u177, u178, u179, u180, u181, u182, u183], []⟩ w')
    (hN : ∀ (v81 v82 v83 v84 v85 v86 v87 : Value)  (w' : World), (∃ ρ ag ps0 vs ls xs m l p a o, PE w0 w' ρ Pl S g Wv Ou P D n i len tl nx ps k A ag ps0 vs ls xs m l p a o (fun _ => True)) → Code.wp Try.prog t26 Q ⟨#[.int .i64 (D : Int), .slice a1 len cap, undef, undef, .pointer (some ⟨Rz, 0, none⟩), .pointer (some ⟨Pl, 0, none⟩), .pointer (some ⟨S, 0, none⟩), .slice (some ⟨Wv, 0, none⟩) 4 4, .pointer (some ⟨Ou, 0, none⟩), .int .i64 tl, .int .i64 (nx : Int), .bool ps, .int .i64 (i : Int), .int .i64 (k : Int), .pointer (some ⟨A, 0, none⟩), u15, u16, u17, u18, u19, u20, u21, u22, u23, u24, u25, u26, u27, u28, u29, u30, u31, u32, u33, u34, u35, u36, u37, u38, u39, u40, u41, u42, u43, u44, u45, u46, u47, u48, u49, u50, u51, u52, u53, u54, u55, u56, u57, u58, u59, u60, u61, u62, u63, u64, u65, u66, u67, u68, u69, u70, u71, u72, u73, u74, u75, u76, u77, u78, u79, u80, v81, v82, v83, v84, v85, v86, v87, u88, u89, u90, u91, u92, u93, u94, u95, u96, u97, u98, u99, u100, u101, u102, u103, u104, u105, u106, u107, u108, u109, u110, u111, u112, u113, u114, u115, u116, u117, u118, u119, u120, u121, u122, u123, u124, u125, u126, u127, u128, u129, u130, u131, u132, u133, u134, u135, u136, u137, u138, u139, u140, u141, u142, u143, u144, u145, u146, u147, u148, u149, u150, u151, u152, u153, u154, u155, u156, u157, u158, u159, u160, u161, u162, u163, u164, u165, u166, u167, u168, u169, u170, u171, u172, u173, u174, u175, u176, u177, u178, u179, u180, u181, u182, u183], []⟩ w') :
    Code.wp Try.prog (.seq p24 (.seq p25 t26)) Q ⟨#[.int .i64 (D : Int), .slice a1 len cap, undef, undef, .pointer (some ⟨Rz, 0, none⟩), .pointer (some ⟨Pl, 0, none⟩), .pointer (some ⟨S, 0, none⟩), .slice (some ⟨Wv, 0, none⟩) 4 4, .pointer (some ⟨Ou, 0, none⟩), .int .i64 tl, .int .i64 (nx : Int), .bool ps, .int .i64 (i : Int), .int .i64 (k : Int), .pointer (some ⟨A, 0, none⟩), u15, u16, u17, u18, u19, u20, u21, u22, u23, u24, u25, u26, u27, u28, u29, u30, u31, u32, u33, u34, u35, u36, u37, u38, u39, u40, u41, u42, u43, u44, u45, u46, u47, u48, u49, u50, u51, u52, u53, u54, u55, u56, u57, u58, u59, u60, u61, u62, u63, u64, u65, u66, u67, u68, u69, u70, u71, u72, u73, u74, u75, u76, u77, u78, u79, u80, u81, u82, u83, u84, u85, u86, u87, u88, u89, u90, u91, u92, u93, u94, u95, u96, u97, u98, u99, u100, u101, u102, u103, u104, u105, u106, u107, u108, u109, u110, u111, u112, u113, u114, u115, u116, u117, u118, u119, u120, u121, u122, u123, u124, u125, u126, u127, u128, u129, u130, u131, u132, u133, u134, u135, u136, u137, u138, u139, u140, u141, u142, u143, u144, u145, u146, u147, u148, u149, u150, u151, u152, u153, u154, u155, u156, u157, u158, u159, u160, u161, u162, u163, u164, u165, u166, u167, u168, u169, u170, u171, u172, u173, u174, u175, u176, u177, u178, u179, u180, u181, u182, u183], []⟩ w := by
  obtain ⟨ρ, ag, ps0, vs, ls, xs, m, p, h, hA⟩ := hM
  obtain ⟨o, hni, wA, rA, ar⟩ := h.obj hk hA
  have hT := h.tb
  have hO : ∀ o : Wk, o.D = D → o.k = 1 → WOk o P xs.length := by
    rw [h.os.ln]
    exact wok D 1 P n hD2 (by omega) (by omega) (by omega) hn
  obtain ⟨xs', o', m', a', p', hp⟩ := any_step (S := S) (g := g) (A := A) h.iv ar h.dq hO h.s0 (by have := h.tk; omega) (by omega) hk hni
  rw [p24_eq]
  refine wp_seq ?_
  refine wp_seq ?_
  by_cases ha : a'.pc = .idle
  · refine r24_of (b := true) (R := fun w1 => WS w0 w1 S g A xs' o' ∧ Fr g A w w1) (Lib.hid ((step_of S g A xs xs' o o' true w0 w hp.st (Lib.hid (Or.inl ⟨by rw [hp.ar.nx, ha]; rfl, rfl⟩)) (h.os.ws hk wA rA)).mono fun e w1 hh => ⟨hh.1, Lib.hid hh.2⟩)) ?_
    intro v81 v82 v83 w1 ⟨hS, hF⟩
    change Code.wp Try.prog (.cond (.tmp 84) (.exit 1) .skip) _ _ _
    refine wp_cond_false rfl ?_
    refine wp_skip ?_
    change Code.wp Try.prog (.seq p25 t26) Q _ _
    refine wp_seq ?_
    obtain ⟨ρ', h1, _⟩ := h.os.step hk rA hS hF (hp.len.trans h.os.ln) (lt_of_heap wA)
    refine p25_of hk (h1.ptr k hk) (h1.frzW k) ?_
    intro v85 v86 v87 w2 hw2
    rw [hw2]
    change Code.wp Try.prog t26 Q _ _
    obtain ⟨ρ2, h2⟩ := h.ended hk hkk hi2 rA wA hp hS hF ha
    exact hN _ _ _ _ _ _ _ _ ⟨_, _, _, _, _, _, _, _, _, _, _, h2⟩
  · refine r24_of (b := false) (R := fun w1 => WS w0 w1 S g A xs' o' ∧ Fr g A w w1) (Lib.hid ((step_of S g A xs xs' o o' false w0 w hp.st (Lib.hid (Or.inr (by obtain ⟨f, hf⟩ := cd_f A ha; exact ⟨f, by rw [hp.ar.nx, hf], rfl⟩))) (h.os.ws hk wA rA)).mono fun e w1 hh => ⟨hh.1, Lib.hid hh.2⟩)) ?_
    intro v81 v82 v83 w1 ⟨hS, hF⟩
    change Code.wp Try.prog (.cond (.tmp 84) (.exit 1) .skip) _ _ _
    refine wp_cond_true rfl ?_
    refine wp_exit ?_
    change Q (.exit 1) _ _
    exact hX _ _ _ _ _ _ _ _ (h.went hk hkk hi2 hA rA wA hp hS hF ha)
end Go.Proofs.Ytegbifphekhgkaa.dqo
