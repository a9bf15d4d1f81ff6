/- The law DequeDoes: behind the walk that steps: both sides step, are compared, agree again (layer 13). -/
import Derived.Test.YtegbifphekhgkaaDqL6a
import Derived.Test.YtegbifphekhgkaaDqL6b
import Derived.Test.YtegbifphekhgkaaDqL6c
import Derived.Test.YtegbifphekhgkaaDqL7
namespace Go.Proofs.Ytegbifphekhgkaa.dqd
open Go.Proofs.Ytegbifphekhgkaa.ro (Ro KX ext)
open Go.ChangeShapes Go.WideShapes Go.ChangeAt Go.RowKit

attribute [local go_sem ↓] Go.wp_at_zero Go.wp_at_succ
set_option linter.unusedVariables false
set_option linter.unusedSimpArgs false
set_option maxRecDepth 20000 in
set_option maxHeartbeats 4000000 in
theorem p37_of {xI tl : Int} {wb : Bool} {a1 : Option Addr} {len cap Pl who S Wv Rv i k : Nat} {mv : Value} {A Bx : Nat} {mv1 : Value} {at_ t x xv : Int} {fl bE got ok : Bool} {VX : Value → World → Prop} {u6 u16 u22 u23 u24 u25 u26 u27 u28 u29 u30 u31 u32 u33 u34 u35 u36 u37 u38 u39 u40 u41 u42 u43 u44 u45 u46 u47 u48 u49 u50 u51 u52 u53 u54 u55 u56 u57 u58 u59 u60 u61 u62 u63 u64 u65 u66 u67 u68 u69 u70 u71 u72 u73 u74 u75 u76 u77 u78 u79 u80 u81 u82 u83 u84 u85 u86 u87 u88 u89 u90 u91 u92 u93 u94 u95 u96 u97 u98 u99 u100 u101 u102 u103 u104 u105 u106 u107 u108 u109 u110 u111 u112 u113 u114 u115 u116 u117 u118 u119 u120 u121 u122 u123 u124 u125 u126 u127 u128 u129 u130 u131 u132 u133 u134 u135 u136 u137 u138 u139 u140 u141 u142 u143 u144 u145 u146 u147 u148 u149 u150 u151 u152 u153 u154 u155 u156 u157 u158 u159 u160 u161 u162 u163 u164 u165 u166 u167 u168 u169 u170 u171 u172 u173 u174 u175 u176 u177 u178 u179 u180 u181 u182 u183 u184 u185 u186 u187 u188 u189 u190 u191 u192 u193 u194 u195 u196 u197 u198 u199 u200 u201 u202 u203 u204 u205 u206 u207 u208 u209 u210 u211 u212 u213 u214 u215 u216 u217 : Value} {Q : Exit → Act → World → Prop} {w : World}
    (hk : k < 4) (c0 : w.cell? ⟨Wv, k, none⟩ = some (.pointer (some ⟨A, 0, none⟩))) (c3 : w.cell? ⟨Bx, 3, none⟩ = some (.int .i64 at_)) (c4 : w.cell? ⟨Bx, 4, none⟩ = some (.int .i64 t)) (c5 : w.cell? ⟨Bx, 5, none⟩ = some (.int .i64 x)) (c8 : w.cell? ⟨Bx, 8, none⟩ = some (.bool got)) (c9 : w.cell? ⟨Bx, 9, none⟩ = some (.bool fl)) (hat : (bE = true ∧ at_ < 0) ∨ (bE = false ∧ ¬ at_ < 0)) (hok : (bE = true ∧ got = true ∧ ok = true ∧ xv = x) ∨ ((bE = false ∨ got = false) ∧ ok = false)) (C1 : Hid (∀ W, Below w.heap.size w W → Calls Try.prog 14 #[.pointer (some ⟨A, 0, none⟩)] W fun e w' => e = .returned (.bool bE) ∧ w' = W)) (C2 : Hid (∀ W, Below w.heap.size w W → Calls Try.prog 23 #[.pointer (some ⟨A, 0, none⟩)] W fun e w' => e = .returned (.bool fl) ∧ w' = W)) (C3 : Hid (∀ W, Below w.heap.size w W → Calls Try.prog 24 #[.pointer (some ⟨A, 0, none⟩)] W fun e w' => e = .returned (.int .i64 t) ∧ w' = W)) (C4 : Hid (∀ W, Below w.heap.size w W → Calls Try.prog 26 #[.pointer (some ⟨S, 0, none⟩)] W fun e w' => ∃ v, e = .returned v ∧ Hid (VX v w') ∧ Below w.heap.size w w')) (C5 : Hid (∀ W v, VX v W → Below w.heap.size w W → Calls Try.prog 25 #[v, mv1] W fun e w' => e = .returned (.bool true) ∧ Below w.heap.size w w'))
    (hN : ∀ (v153 v154 v155 v156 v157 v158 v159 v160 v161 v162 v163 v164 v165 v166 v167 v168 v169 v170 v171 v172 v173 v174 v175 v176 v177 v178 v179 v180 v181 v182 v183 v184 v185 v186 v187 v188 v189 v190 v191 v192 v193 v194 v195 v196 v197 v198 v199 v200 v201 v202 v203 v204 v205 v206 v207 v208 v209 v210 v211 v212 v213 : Value)  (w' : World), Below w.heap.size w w' → Q .normal ⟨#[.int .u8 xI, .bool wb, .slice a1 len cap, undef, undef, undef, u6, .pointer (some ⟨Pl, 0, none⟩), .int .i64 (who : Int), .pointer (some ⟨S, 0, none⟩), mv1, .slice (some ⟨Wv, 0, none⟩) 4 4, .slice (some ⟨Rv, 0, none⟩) 4 4, .int .i64 tl, .int .i64 (i : Int), .int .i64 (k : Int), u16, .bool bE, .pointer (some ⟨Bx, 0, none⟩), mv1, .int .i64 xv, .bool ok, u22, u23, u24, u25, u26, u27, u28, u29, u30, u31, u32, u33, u34, u35, u36, u37, u38, u39, u40, u41, u42, u43, u44, u45, u46, u47, u48, u49, u50, u51, u52, u53, u54, u55, u56, u57, u58, u59, u60, u61, u62, u63, u64, u65, u66, u67, u68, u69, u70, u71, u72, u73, u74, u75, u76, u77, u78, u79, u80, u81, u82, u83, u84, u85, u86, u87, u88, u89, u90, u91, u92, u93, u94, u95, u96, u97, u98, u99, u100, u101, u102, u103, u104, u105, u106, u107, u108, u109, u110, u111, u112, u113, u114, u115, u116, u117, u118, u119, u120, u121, u122, u123, u124, u125, u126, u127, u128, u129, u130, u131, u132, u133, u134, u135, u136, u137, u138, u139, u140, u141, u142, u143, u144, u145, u146, u147, u148, u149, u150, u151, u152, v153, v154, v155, v156, v157, v158, v159, v160, v161, v162, v163, v164, v165, v166, v167, v168, v169, v170, v171, v172, v173, v174, v175, v176, v177, v178, v179, v180, v181, v182, v183, v184, v185, v186, v187, v188, v189, v190, v191, v192, v193, v194, v195, v196, v197, v198, v199, v200, v201, v202, v203, v204, v205, v206, v207, v208, v209, v210, v211, v212, v213, u214, u215, u216, u217], []⟩ w') :
    Code.wp Try.prog p37 Q ⟨#[.int .u8 xI, .bool wb, .slice a1 len cap, undef, undef, undef, u6, .pointer (some ⟨Pl, 0, none⟩), .int .i64 (who : Int), .pointer (some ⟨S, 0, none⟩), mv1, .slice (some ⟨Wv, 0, none⟩) 4 4, .slice (some ⟨Rv, 0, none⟩) 4 4, .int .i64 tl, .int .i64 (i : Int), .int .i64 (k : Int), u16, .bool bE, .pointer (some ⟨Bx, 0, none⟩), mv1, .int .i64 xv, .bool ok, u22, u23, u24, u25, u26, u27, u28, u29, u30, u31, u32, u33, u34, u35, u36, u37, u38, u39, u40, u41, u42, u43, u44, u45, u46, u47, u48, u49, u50, u51, u52, u53, u54, u55, u56, u57, u58, u59, u60, u61, u62, u63, u64, u65, u66, u67, u68, u69, u70, u71, u72, u73, u74, u75, u76, u77, u78, u79, u80, u81, u82, u83, u84, u85, u86, u87, u88, u89, u90, u91, u92, u93, u94, u95, u96, u97, u98, u99, u100, u101, u102, u103, u104, u105, u106, u107, u108, u109, u110, u111, u112, u113, u114, u115, u116, u117, u118, u119, u120, u121, u122, u123, u124, u125, u126, u127, u128, u129, u130, u131, u132, u133, u134, u135, u136, u137, u138, u139, u140, u141, u142, u143, u144, u145, u146, u147, u148, u149, u150, u151, u152, u153, u154, u155, u156, u157, u158, u159, u160, u161, u162, u163, u164, u165, u166, u167, u168, u169, u170, u171, u172, u173, u174, u175, u176, u177, u178, u179, u180, u181, u182, u183, u184, u185, u186, u187, u188, u189, u190, u191, u192, u193, u194, u195, u196, u197, u198, u199, u200, u201, u202, u203, u204, u205, u206, u207, u208, u209, u210, u211, u212, u213, u214, u215, u216, u217], []⟩ w := by
  cases got with
  | false =>
    have hok' : ok = false := by
      rcases hok with ⟨_, h, _⟩ | ⟨_, h⟩
      · cases h
      · exact h
    subst hok'
    exact p37_a (mv := mv1) hk c0 c3 c4 c5 c8 c9 (by rcases hat with ⟨rfl, h⟩ | ⟨rfl, h⟩; exact decide_eq_true h; exact decide_eq_false h) C1 C2 C3 C4 C5 hN
  | true =>
    cases bE with
    | false =>
      have hok' : ok = false := by
        rcases hok with ⟨h, _⟩ | ⟨_, h⟩
        · cases h
        · exact h
      subst hok'
      exact p37_b (mv := mv1) hk c0 c3 c4 c5 c8 c9 (by rcases hat with ⟨h, _⟩ | ⟨_, h⟩; cases h; exact h) C1 C2 C3 C4 C5 hN
    | true =>
      obtain ⟨h1, h2⟩ : ok = true ∧ xv = x := by
        rcases hok with ⟨_, _, h1, h2⟩ | ⟨h | h, _⟩
        · exact ⟨h1, h2⟩
        · cases h
        · cases h
      subst h1
      exact p37_c (mv := mv1) hk c0 c3 c4 c5 c8 c9 (by rcases hat with ⟨_, h⟩ | ⟨h, _⟩; exact h; cases h) h2 C1 C2 C3 C4 C5 hN
def LI (w0 w : World) (Pl S g Wv Rv P D who n i : Nat) (mv : Value) (tl : Int) : Prop :=
  ∃ ρ ps os rs xs, DS w0 w ρ Pl S g Wv Rv P D who n i ps os rs mv (fun _ => True) xs xs ∧ 0 ≤ tl ∧ tl ≤ (i : Int)
def MI (w0 w : World) (Pl S g Wv Rv P D who n i k : Nat) (mv : Value) : Prop :=
  ∃ ρ ps os rs xs A, DS w0 w ρ Pl S g Wv Rv P D who n i ps os rs mv (fun _ => True) xs xs ∧ ps k = some A ∧ ∃ f, (os k).nx = fnV A f
theorem put_oth {w : World} {M N m : Nat} {v0 v1 v2 v3 v4 v5 v6 v7 v8 v9 : Value} (h : N ≠ M) : (World.setCell (World.setCell (World.setCell (World.setCell (World.setCell (World.setCell (World.setCell (World.setCell (World.setCell (World.setCell w ⟨M, m * 10, none⟩ v0) ⟨M, m * 10 + 1, none⟩ v1) ⟨M, m * 10 + 2, none⟩ v2) ⟨M, m * 10 + 3, none⟩ v3) ⟨M, m * 10 + 4, none⟩ v4) ⟨M, m * 10 + 5, none⟩ v5) ⟨M, m * 10 + 6, none⟩ v6) ⟨M, m * 10 + 7, none⟩ v7) ⟨M, m * 10 + 8, none⟩ v8) ⟨M, m * 10 + 9, none⟩ v9).heap[N]? = w.heap[N]? := by
  simp only [ro.set_oth _ _ _ _ _ h]
set_option maxRecDepth 20000 in
set_option maxHeartbeats 4000000 in
theorem tail_of_round {xI tl : Int} {wb : Bool} {a1 : Option Addr} {len cap Pl who S Wv Rv i k : Nat} {mv : Value} {w0 : World} {g P D n : Nat} {u6 u16 u17 u18 u19 u20 u21 u22 u23 u24 u25 u26 u27 u28 u29 u30 u31 u32 u33 u34 u35 u36 u37 u38 u39 u40 u41 u42 u43 u44 u45 u46 u47 u48 u49 u50 u51 u52 u53 u54 u55 u56 u57 u58 u59 u60 u61 u62 u63 u64 u65 u66 u67 u68 u69 u70 u71 u72 u73 u74 u75 u76 u77 u78 u79 u80 u81 u82 u83 u84 u85 u86 u87 u88 u89 u90 u91 u92 u93 u94 u95 u96 u97 u98 u99 u100 u101 u102 u103 u104 u105 u106 u107 u108 u109 u110 u111 u112 u113 u114 u115 u116 u117 u118 u119 u120 u121 u122 u123 u124 u125 u126 u127 u128 u129 u130 u131 u132 u133 u134 u135 u136 u137 u138 u139 u140 u141 u142 u143 u144 u145 u146 u147 u148 u149 u150 u151 u152 u153 u154 u155 u156 u157 u158 u159 u160 u161 u162 u163 u164 u165 u166 u167 u168 u169 u170 u171 u172 u173 u174 u175 u176 u177 u178 u179 u180 u181 u182 u183 u184 u185 u186 u187 u188 u189 u190 u191 u192 u193 u194 u195 u196 u197 u198 u199 u200 u201 u202 u203 u204 u205 u206 u207 u208 u209 u210 u211 u212 u213 u214 u215 u216 u217 : Value} {Q : Exit → Act → World → Prop} {w : World}
    (hk : k < 4) (hD2 : 2 ≤ D) (hD8 : D ≤ 8) (hwho : who < 2) (hPw : who * (4 + D) = P) (hn : 2 * (4 + D) + 10 = n) (hi : i ≤ 400) (ht0 : 0 ≤ tl) (ht1 : tl ≤ (i : Int)) (hM : MI w0 w Pl S g Wv Rv P D who n i k mv)
    (hN : ∀ (v17 v18 v19 v20 v21 v125 v126 v127 v128 v129 v130 v131 v132 v133 v134 v135 v136 v137 v138 v139 v140 v141 v142 v143 v144 v145 v146 v147 v148 v149 v150 v151 v152 v153 v154 v155 v156 v157 v158 v159 v160 v161 v162 v163 v164 v165 v166 v167 v168 v169 v170 v171 v172 v173 v174 v175 v176 v177 v178 v179 v180 v181 v182 v183 v184 v185 v186 v187 v188 v189 v190 v191 v192 v193 v194 v195 v196 v197 v198 v199 v200 v201 v202 v203 v204 v205 v206 v207 v208 v209 v210 v211 v212 v213 v214 v215 v216 v217 : Value) (mv1 : Value) (tl1 : Int) (w' : World), LI w0 w' Pl S g Wv Rv P D who n (i + 1) mv1 tl1 → Q .normal ⟨#[.int .u8 xI, .bool wb, .slice a1 len cap, undef, undef, undef, u6, .pointer (some ⟨Pl, 0, none⟩), .int .i64 (who : Int), .pointer (some ⟨S, 0, none⟩), mv1, .slice (some ⟨Wv, 0, none⟩) 4 4, .slice (some ⟨Rv, 0, none⟩) 4 4, .int .i64 tl1, .int .i64 (i : Int), .int .i64 (k : Int), u16, v17, v18, v19, v20, v21, u22, u23, u24, u25, u26, u27, u28, u29, u30, u31, u32, u33, u34, u35, u36, u37, u38, u39, u40, u41, u42, u43, u44, u45, u46, u47, u48, u49, u50, u51, u52, u53, u54, u55, u56, u57, u58, u59, u60, u61, u62, u63, u64, u65, u66, u67, u68, u69, u70, u71, u72, u73, u74, u75, u76, u77, u78, u79, u80, u81, u82, u83, u84, u85, u86, u87, u88, u89, u90, u91, u92, u93, u94, u95, u96, u97, u98, u99, u100, u101, u102, u103, u104, u105, u106, u107, u108, u109, u110, u111, u112, u113, u114, u115, u116, u117, u118, u119, u120, u121, u122, u123, u124, v125, v126, v127, v128, v129, v130, v131, v132, v133, v134, v135, v136, v137, v138, v139, v140, v141, v142, v143, v144, v145, v146, v147, v148, v149, v150, v151, v152, v153, v154, v155, v156, v157, v158, v159, v160, v161, v162, v163, v164, v165, v166, v167, v168, v169, v170, v171, v172, v173, v174, v175, v176, v177, v178, v179, v180, v181, v182, v183, v184, v185, v186, v187, v188, v189, v190, v191, v192, v193, v194, v195, v196, v197, v198, v199, v200, v201, v202, v203, v204, v205, v206, v207, v208, v209, v210, v211, v212, v213, v214, v215, v216, v217], []⟩ w') :
    Code.wp Try.prog tb Q ⟨#[.int .u8 xI, .bool wb, .slice a1 len cap, undef, undef, undef, u6, .pointer (some ⟨Pl, 0, none⟩), .int .i64 (who : Int), .pointer (some ⟨S, 0, none⟩), mv, .slice (some ⟨Wv, 0, none⟩) 4 4, .slice (some ⟨Rv, 0, none⟩) 4 4, .int .i64 tl, .int .i64 (i : Int), .int .i64 (k : Int), u16, u17, u18, u19, u20, u21, u22, u23, u24, u25, u26, u27, u28, u29, u30, u31, u32, u33, u34, u35, u36, u37, u38, u39, u40, u41, u42, u43, u44, u45, u46, u47, u48, u49, u50, u51, u52, u53, u54, u55, u56, u57, u58, u59, u60, u61, u62, u63, u64, u65, u66, u67, u68, u69, u70, u71, u72, u73, u74, u75, u76, u77, u78, u79, u80, u81, u82, u83, u84, u85, u86, u87, u88, u89, u90, u91, u92, u93, u94, u95, u96, u97, u98, u99, u100, u101, u102, u103, u104, u105, u106, u107, u108, u109, u110, u111, u112, u113, u114, u115, u116, u117, u118, u119, u120, u121, u122, u123, u124, u125, u126, u127, u128, u129, u130, u131, u132, u133, u134, u135, u136, u137, u138, u139, u140, u141, u142, u143, u144, u145, u146, u147, u148, u149, u150, u151, u152, u153, u154, u155, u156, u157, u158, u159, u160, u161, u162, u163, u164, u165, u166, u167, u168, u169, u170, u171, u172, u173, u174, u175, u176, u177, u178, u179, u180, u181, u182, u183, u184, u185, u186, u187, u188, u189, u190, u191, u192, u193, u194, u195, u196, u197, u198, u199, u200, u201, u202, u203, u204, u205, u206, u207, u208, u209, u210, u211, u212, u213, u214, u215, u216, u217], []⟩ w := by
  obtain ⟨ρ, ps, os, rs, xs, A, h0, hp, hf⟩ := hM
  obtain ⟨wA, rA, hnum⟩ := h0.on k hk trivial A hp
  obtain ⟨xs', o', r', b, q⟩ := step1 S g A D who P i k n xs (os k) (rs k) hD2 hD8 hwho hPw hn h0.ln hi h0.wd hnum hf
  have h0 := h0.mono (Nat.le_succ i)
  have hptr : w.cell? ⟨Wv, k, none⟩ = some (.pointer (some ⟨A, 0, none⟩)) := by rw [h0.ptr k hk, hp]; rfl
  have hAl : A < w.heap.size := wA.lt
  obtain ⟨ad, cp, rfl⟩ : ∃ ad cp, mv = .slice ad n cp := by
    obtain ⟨a, c, e, _⟩ := OI.form h0.m
    exact ⟨a, c, by rw [e, h0.lm]⟩
  have hS0 := h0.ws wA rA
  have hn1 : n ≤ 34 := by omega
  rw [tb_eq]
  refine wp_seq ?_
  refine p32_of (A := A) (bE := b) (R := fun w1 => WS w0 w1 S g A xs' o' ∧ Fr g A w w1) hk hptr (Lib.hid ((step_of S g A xs xs' (os k) o' b w0 w q.st (Lib.hid q.en) hS0).mono fun e w1 h => ⟨h.1, Lib.hid h.2⟩)) ?_
  intro v125 v126 v127 v128 v129 v130 w1 ⟨hS1, hF1⟩
  obtain ⟨ρ1, h1, rA1⟩ := h0.step hk rA hS1 hF1 q.len q.wd hAl
  change Code.wp Try.prog (.seq p33 (.seq p34 (.seq p35 (.seq p36 (.seq p37 p39))))) Q _ _
  refine wp_seq ?_
  obtain ⟨q0, q1, q2, q3, q4, q5, q6, q7, q8, q9⟩ := h1.ref10 k hk
  have hgl := lt_of_heap h1.st.2.1
  refine p33_of (n := n) (r := rs k) (r1 := r') (R := fun ad cp w2 => OI w2 (g + 1) (.slice ad n cp) xs' ∧ Below w1.heap.size w1 w2) hk q0 q1 q2 q3 q4 q5 q6 q7 q8 q9 (Lib.hid ((q.rf (g + 1) n ad cp w1 h1.lm (by omega) (by omega) h1.m).mono fun e w2 h => by obtain ⟨a, c, h2, h3, h4⟩ := h; exact ⟨a, c, h2, Lib.hid ⟨h3, h4⟩⟩)) ?_
  clear q0 q1 q2 q3 q4 q5 q6 q7 q8 q9
  intro v131 v132 v133 v134 v135 v136 v137 v138 v139 ad2 cp2 w2 w3 ⟨⟨ho2, hb2⟩, hw3⟩
  have hb3 : Below w1.heap.size w1 w3 := by rw [hw3]; exact btr hb2 (by go_grown)
  have hbx : w3.heap[w2.heap.size]? = some (.cells #[.int .i64 r'.kd, .int .i64 (r'.P : Int), .int .i64 (r'.D : Int), .int .i64 r'.at_, .int .i64 r'.t, .int .i64 r'.x, .int .i64 r'.tn, .int .i64 r'.h, .bool r'.got, .bool r'.full] 37 (0, 0)) := by rw [hw3]; exact heap_alloc_new _ _
  have ho3 : OI w3 (g + 1) (.slice ad2 n cp2) xs' := OI.below ho2 (by rw [hw3]; go_grown)
  have h3 := h1.below 9 hb3
  have wA3 : WAt w3 A o' := hS1.a.below hb3
  have hA1l : A < w1.heap.size := hS1.a.lt
  have rA3 : ext ρ1 w1.heap.size 9 A = 10 + k := by rw [ro.ext_lt ρ1 9 hA1l]; exact rA1
  have hRl : Rv < w1.heap.size := lt_of_heap h1.rv
  have hBR : w2.heap.size ≠ Rv := by have := hb2.size; omega
  have hAR : A ≠ Rv := fun e => by subst e; have := h1.rr; omega
  obtain ⟨Bx, hBx⟩ : ∃ Bx, w2.heap.size = Bx := ⟨_, rfl⟩
  rw [hBx] at hbx hBR ⊢
  change Code.wp Try.prog (.seq p34 (.seq p35 (.seq p36 (.seq p37 p39)))) Q _ _
  refine wp_seq ?_
  obtain ⟨q0, q1, q2, q3, q4, q5, q6, q7, q8, q9⟩ := h3.ref10 k hk
  refine p34_of (r := rs k) (r1 := r') hk hBR (fun j => h3.frzR (Below.refl _ _) j) q0 q1 q2 q3 q4 q5 q6 q7 q8 q9 (ro.cel hbx 0) (ro.cel hbx 1) (ro.cel hbx 2) (ro.cel hbx 3) (ro.cel hbx 4) (ro.cel hbx 5) (ro.cel hbx 6) (ro.cel hbx 7) (ro.cel hbx 8) (ro.cel hbx 9) ?_
  clear q0 q1 q2 q3 q4 q5 q6 q7 q8 q9
  intro v140 v141 v142 v143 w4 hw4
  have h4 := h3.setRef k hk r'
  have hoth : ∀ N, N ≠ Rv → w4.heap[N]? = w3.heap[N]? := fun N hN => by rw [hw4]; exact put_oth hN
  rw [← hw4] at h4
  have ho4 : OI w4 (g + 1) (.slice ad2 n cp2) xs' := OI.keep' ho3 fun b hb => hoth b (OI.neW ho3 h3.rv b hb)
  have hbx4 : w4.heap[Bx]? = some (.cells #[.int .i64 r'.kd, .int .i64 (r'.P : Int), .int .i64 (r'.D : Int), .int .i64 r'.at_, .int .i64 r'.t, .int .i64 r'.x, .int .i64 r'.tn, .int .i64 r'.h, .bool r'.got, .bool r'.full] 37 (0, 0)) := (hoth Bx hBR).trans hbx
  have wA4 : WAt w4 A o' := (hoth A hAR).trans wA3
  obtain ⟨ρ5, h5, hro⟩ := h4.row ho4 q.len
  have rA5 : ρ5 A = 10 + k := (hro A o' wA4).trans rA3
  have h6 := (h5.weaken (E' := fun q => True ∧ q ≠ k) (fun q hq => ⟨⟨trivial, hq.2⟩, hq.2⟩)).join o' (Nat.le_refl _) q.wd.2 (fun A' hA' => by
    obtain rfl : A = A' := by rw [hp] at hA'; injection hA'
    refine ⟨wA4, rA5, ?_⟩
    show Num D who P (i + 1) k A o' (if k = k then r' else rs k)
    rw [if_pos rfl]
    exact q.num)
  clear hw4 h5 h4 h3 h1
  have hrc := q.num.2.2.1.1
  have hptr4 : w4.cell? ⟨Wv, k, none⟩ = some (.pointer (some ⟨A, 0, none⟩)) := by rw [h6.ptr k hk, hp]; rfl
  obtain ⟨xv, ok, hok⟩ : ∃ xv ok, (b = true ∧ o'.hs = true ∧ ok = true ∧ xv = o'.gt) ∨ ((b = false ∨ o'.hs = false) ∧ ok = false ∧ xv = 0) := by
    cases b with
    | false => exact ⟨0, false, .inr ⟨.inl rfl, rfl, rfl⟩⟩
    | true =>
      cases hh : o'.hs with
      | false => exact ⟨0, false, .inr ⟨.inr rfl, rfl, rfl⟩⟩
      | true => exact ⟨o'.gt, true, .inl ⟨rfl, rfl, rfl, rfl⟩⟩
  change Code.wp Try.prog (.seq p35 (.seq p36 (.seq p37 p39))) Q _ _
  refine wp_seq ?_
  refine p35_of ?_
  intro v144 w4' hw4'
  subst hw4'
  change Code.wp Try.prog (.seq p36 (.seq p37 p39)) Q _ _
  refine wp_seq ?_
  refine p36_of (A := A) (xv := xv) (ok := ok) hk hptr4 (Lib.hid (got_of A o' b xv ok w4' wA4 (Lib.hid q.en) (Lib.hid hok))) ?_
  intro v145 v146 v147 v148 v149 v150 v151 v152 w5 hw5
  subst hw5
  change Code.wp Try.prog (.seq p37 p39) Q _ _
  refine wp_seq ?_
  refine p37_of (mv := undef) (A := A) (at_ := r'.at_) (t := r'.t) (x := r'.x) (fl := r'.full) (got := r'.got) (VX := fun v W => View W v xs') hk hptr4 (ro.cel hbx4 3) (ro.cel hbx4 4) (ro.cel hbx4 5) (ro.cel hbx4 8) (ro.cel hbx4 9) ?hat ?hok
    (Lib.hid fun W hb => ended_of A o' b W (wA4.below hb) (Lib.hid q.en))
    (Lib.hid fun W hb => by rw [hrc.fl]; exact full_of A o' W (wA4.below hb))
    (Lib.hid fun W hb => by rw [hrc.t]; exact tail_of A o' W (wA4.below hb))
    (Lib.hid fun W hb => (all_any S g xs' W (h6.st.below hb) (by rw [q.len]; omega)).mono fun e w' h => by obtain ⟨v, h1, h2, h3⟩ := h; exact ⟨v, h1, Lib.hid (view_of_own h2), hb.trans (h3.mono hb.size)⟩)
    (Lib.hid fun W v hv hb => (ints_any v _ xs' xs' W hv ((view_of_own h6.m).below hb)).mono fun e w' h => by obtain ⟨h1, m, h2⟩ := h; exact ⟨by rw [h1]; simp, by rw [h2]; exact below_drewN hb m⟩) ?_
  case hat =>
    rcases q.at_ with ⟨rfl, h⟩ | ⟨rfl, h⟩
    · exact .inl ⟨rfl, by omega⟩
    · exact .inr ⟨rfl, by omega⟩
  case hok =>
    rcases hok with ⟨h1, h2, h3, h4⟩ | ⟨h1, h2, h3⟩
    · exact .inl ⟨h1, hrc.got.trans h2, h3, h4.trans (hrc.x (hrc.got.trans h2)).symm⟩
    · exact .inr ⟨by rw [hrc.got]; exact h1, h2⟩
  intro v153 v154 v155 v156 v157 v158 v159 v160 v161 v162 v163 v164 v165 v166 v167 v168 v169 v170 v171 v172 v173 v174 v175 v176 v177 v178 v179 v180 v181 v182 v183 v184 v185 v186 v187 v188 v189 v190 v191 v192 v193 v194 v195 v196 v197 v198 v199 v200 v201 v202 v203 v204 v205 v206 v207 v208 v209 v210 v211 v212 v213 w6 hb6
  change Code.wp Try.prog p39 Q _ _
  have h7 := h6.below 9 hb6
  have hLI : ∀ t1 : Int, 0 ≤ t1 → t1 ≤ ((i + 1 : Nat) : Int) → LI w0 w6 Pl S g Wv Rv P D who n (i + 1) (.slice ad2 n cp2) t1 := fun t1 h1 h2 => ⟨_, _, _, _, _, h7, h1, h2⟩
  by_cases hk0 : k = 0
  · subst hk0
    refine p39_own (t2 := r'.t) (ro.cel ((hb6.block Bx (lt_of_heap hbx4)).trans hbx4) 4) ?_
    intro v214 v215 v216 v217 w7 hw7
    subst hw7
    exact hN _ _ _ _ _ _ _ _ _ _ _ _ _ _ _ _ _ _ _ _ _ _ _ _ _ _ _ _ _ _ _ _ _ _ _ _ _ _ _ _ _ _ _ _ _ _ _ _ _ _ _ _ _ _ _ _ _ _ _ _ _ _ _ _ _ _ _ _ _ _ _ _ _ _ _ _ _ _ _ _ _ _ _ _ _ _ _ _ _ _ _ _ _ _ _ _ _ _ _ _ _ (hLI _ (by rw [hrc.t]; exact hrc.t0) (by rw [hrc.t]; exact (q.num.2.2.2.2.2.1 rfl).2))
  · refine p39_thief hk0 ?_
    intro v214 v215 v216 v217 w7 hw7
    subst hw7
    exact hN _ _ _ _ _ _ _ _ _ _ _ _ _ _ _ _ _ _ _ _ _ _ _ _ _ _ _ _ _ _ _ _ _ _ _ _ _ _ _ _ _ _ _ _ _ _ _ _ _ _ _ _ _ _ _ _ _ _ _ _ _ _ _ _ _ _ _ _ _ _ _ _ _ _ _ _ _ _ _ _ _ _ _ _ _ _ _ _ _ _ _ _ _ _ _ _ _ _ _ _ _ (hLI _ ht0 (by omega))
end Go.Proofs.Ytegbifphekhgkaa.dqd
