/- The law CrossDoes: a walk begins (layer 19). -/
import Derived.Test.YtegbifphekhgkaaCdD
namespace Go.Proofs.Ytegbifphekhgkaa.cd
open Go.ChangeShapes Go.WideShapes Go.ChangeAt Go.RowKit
open Go.Proofs.Ytegbifphekhgkaa.cg (Rw)

attribute [local go_sem ↓] Go.wp_at_zero Go.wp_at_succ
set_option linter.unusedVariables false
set_option linter.unusedSimpArgs false
open Go.Proofs.Ytegbifphekhgkaa.ro (Ro KX ext)
open Go.Proofs.Ytegbifphekhgkaa.dqo (ptrV)
set_option maxRecDepth 20000 in
set_option maxHeartbeats 4000000 in
theorem beg3_of {len cap Pl Ql S Rg Pk Rf i G cp : Nat} {a0 : Option Addr}  {O R0 k : Nat} {kd who sr it n : Int} {w0 : World} {g : Nat} {ρ : Ro} {pr pp : Nat → Option Nat} {rc : Nat → Array Value} {xs : List Int} {u14 u15 u16 u17 u18 u19 u20 u21 u22 u23 u24 u25 u26 u27 u28 u29 u30 u31 u32 u33 u34 u35 u36 u37 u38 u39 u40 u41 u42 u43 u44 u45 u46 u47 u48 u49 u50 u51 u52 u53 u54 u55 u56 u57 u58 u59 u60 u61 u62 u63 u64 u65 u66 u67 u68 u69 u70 u71 u72 u73 u74 u75 u76 u77 u78 u79 u80 u81 u82 u83 u84 u85 u86 u87 u88 u89 u90 u91 u92 u93 u94 u95 u96 u97 u98 u99 u100 u101 u102 u103 u104 u105 u106 u107 u108 u109 u110 u111 u112 u113 u114 u115 u116 u117 u118 u119 u120 u121 u122 u123 u124 u125 u126 u127 u128 u129 u130 u131 u132 u133 u134 u135 u136 u137 u138 u139 u140 u141 u142 u143 u144 u145 u146 u147 u148 u149 u150 u151 u152 u153 u154 u155 u156 u157 u158 u159 u160 u161 u162 u163 u164 u165 u166 u167 u168 u169 u170 u171 u172 u173 u174 u175 u176 u177 u178 u179 u180 u181 u182 u183 u184 u185 u186 u187 u188 u189 u190 u191 u192 u193 u194 u195 u196 u197 u198 u199 u200 u201 u202 u203 u204 u205 u206 u207 u208 u209 u210 u211 u212 u213 u214 u215 u216 u217 u218 u219 u220 u221 u222 u223 u224 u225 u226 u227 u228 u229 u230 u231 u232 u233 u234 u235 u236 u237 u238 u239 u240 u241 u242 u243 u244 u245 u246 u247 u248 u249 u250 u251 u252 u253 u254 u255 u256 u257 u258 u259 u260 u261 u262 u263 u264 u265 u266 u267 u268 u269 u270 u271 u272 u273 u274 u275 u276 u277 u278 u279 u280 u281 u282 u283 u284 u285 u286 u287 u288 u289 u290 u291 u292 : Value} {Q : Exit → Act → World → Prop} {w : World}
    (h : CS w0 w ρ Pl Ql S g Rg Pk Rf (.slice (some ⟨G, 0, none⟩) 61 cp) pr pp rc (fun _ => True) xs xs) (hk : k < 3) (hO : w.heap[O]? = some (.cells #[.int .i64 3, .int .i64 who, .int .i64 sr, .int .i64 it, .int .i64 n] 66 (0, 0))) (rO : ρ O = 9) (hR : w.heap[R0]? = some (.cells #[.int .i64 1, .int .i64 3, .int .i64 3, .int .i64 3, .int .i64 2, .int .i64 sr] 69 (0, 0))) (rR : ρ R0 = 9) (hi : -1099511627776 ≤ it) (hi2 : it ≤ 1099511627776) 
    (hN : ∀ (v14 v15 v16 v17 v18 v19 v20 v21 v22 v23 v24 v25 v26 v27 v28 v29 v30 v31 v32 v33 v34 v35 v36 v37 v38 v39 v40 v41 v42 v43 v44 v45 v46 v47 v48 v49 v50 v51 v52 v53 v54 v55 v56 v57 v58 v59 v60 v61 v62 v63 v64 v65 v66 v67 v68 v69 v70 v71 v72 v73 v74 v75 v76 v77 v78 v79 v80 v81 v82 v83 v84 v85 v86 v87 v88 v89 v90 v91 v92 v93 v94 v95 v96 v97 v98 v99 v100 v101 v102 v103 v104 v105 v106 v107 v108 v109 v110 v111 v112 v113 v114 v115 v116 v117 v118 v119 v120 v121 v122 v123 v124 v125 v126 v127 v128 v129 v130 v131 v132 v133 v134 v135 v136 v137 v138 v139 v140 v141 v142 v143 v144 v145 v146 v147 v148 v149 v150 v151 v152 v153 v154 v155 v156 v157 v158 v159 v160 v161 v162 v163 v164 v165 v166 v167 v168 v169 v170 v171 v172 v173 v174 v175 v176 v177 v178 v179 v180 v181 v182 v183 v184 v185 v186 v187 v188 v189 v190 v191 v192 v193 v194 v195 v196 v197 v198 v199 v200 v201 v202 v203 v204 v205 v206 v207 v208 v209 v210 v211 v212 v213 v214 v215 v216 v217 v218 v219 v220 v221 v222 v223 v224 v225 v226 v227 v228 v229 v230 v231 v232 v233 v234 v235 v236 v237 v238 v239 v240 v241 v242 v243 v244 v245 v246 v247 v248 v249 v250 v251 v252 v253 v254 v255 v256 v257 v258 v259 v260 v261 v262 v263 v264 v265 : Value) (G1 cp1 : Nat) (w' : World), LI w0 w' Pl Ql S g Rg Pk Rf G1 cp1 → Q .normal ⟨#[.slice a0 len cap, undef, .bool false, .pointer (some ⟨Pl, 0, none⟩), .pointer (some ⟨Ql, 0, none⟩), .pointer (some ⟨S, 0, none⟩), .slice (some ⟨G1, 0, none⟩) 61 cp1, .slice (some ⟨Rg, 0, none⟩) 3 3, .slice (some ⟨Pk, 0, none⟩) 3 3, .slice (some ⟨Rf, 0, none⟩) 3 3, .int .i64 (i : Int), .pointer (some ⟨O, 0, none⟩), .int .i64 (k : Int), .pointer (some ⟨R0, 0, none⟩), v14, v15, v16, v17, v18, v19, v20, v21, v22, v23, v24, v25, v26, v27, v28, v29, v30, v31, v32, v33, v34, v35, v36, v37, v38, v39, v40, v41, v42, v43, v44, v45, v46, v47, v48, v49, v50, v51, v52, v53, v54, v55, v56, v57, v58, v59, v60, v61, v62, v63, v64, v65, v66, v67, v68, v69, v70, v71, v72, v73, v74, v75, v76, v77, v78, v79, v80, v81, v82, v83, v84, v85, v86, v87, v88, v89, v90, v91, v92, v93, v94, v95, v96, v97, v98, v99, v100, v101, v102, v103, v104, v105, v106, v107, v108, v109, v110, v111, v112, v113, v114, v115, v116, v117, v118, v119, v120, v121, v122, v123, v124, v125, v126, v127, v128, v129, v130, v131, v132, v133, v134, v135, v136, v137, v138, v139, v140, v141, v142, v143, v144, v145, v146, v147, v148, v149, v150, v151, v152, v153, v154, v155, v156, v157, v158, v159, v160, v161, v162, v163, v164, v165, v166, v167, v168, v169, v170, v171, v172, v173, v174, v175, v176, v177, v178, v179, v180, v181, v182, v183, v184, v185, v186, v187, v188, v189, v190, v191, v192, v193, v194, v195, v196, v197, v198, v199, v200, v201, v202, v203, v204, v205, v206, v207, v208, v209, v210, v211, v212, v213, v214, v215, v216, v217, v218, v219, v220, v221, v222, v223, v224, v225, v226, v227, v228, v229, v230, v231, v232, v233, v234, v235, v236, v237, v238, v239, v240, v241, v242, v243, v244, v245, v246, v247, v248, v249, v250, v251, v252, v253, v254, v255, v256, v257, v258, v259, v260, v261, v262, v263, v264, v265, u266, u267, u268, u269, u270, u271, u272, u273, u274, u275, u276, u277, u278, u279, u280, u281, u282, u283, u284, u285, u286, u287, u288, u289, u290, u291, u292], []⟩ w') :
    Code.wp Try.prog cBeg Q ⟨#[.slice a0 len cap, undef, .bool false, .pointer (some ⟨Pl, 0, none⟩), .pointer (some ⟨Ql, 0, none⟩), .pointer (some ⟨S, 0, none⟩), .slice (some ⟨G, 0, none⟩) 61 cp, .slice (some ⟨Rg, 0, none⟩) 3 3, .slice (some ⟨Pk, 0, none⟩) 3 3, .slice (some ⟨Rf, 0, none⟩) 3 3, .int .i64 (i : Int), .pointer (some ⟨O, 0, none⟩), .int .i64 (k : Int), .pointer (some ⟨R0, 0, none⟩), u14, u15, u16, u17, u18, u19, u20, u21, u22, u23, u24, u25, u26, u27, u28, u29, u30, u31, u32, u33, u34, u35, u36, u37, u38, u39, u40, u41, u42, u43, u44, u45, u46, u47, u48, u49, u50, u51, u52, u53, u54, u55, u56, u57, u58, u59, u60, u61, u62, u63, u64, u65, u66, u67, u68, u69, u70, u71, u72, u73, u74, u75, u76, u77, u78, u79, u80, u81, u82, u83, u84, u85, u86, u87, u88, u89, u90, u91, u92, u93, u94, u95, u96, u97, u98, u99, u100, u101, u102, u103, u104, u105, u106, u107, u108, u109, u110, u111, u112, u113, u114, u115, u116, u117, u118, u119, u120, u121, u122, u123, u124, u125, u126, u127, u128, u129, u130, u131, u132, u133, u134, u135, u136, u137, u138, u139, u140, u141, u142, u143, u144, u145, u146, u147, u148, u149, u150, u151, u152, u153, u154, u155, u156, u157, u158, u159, u160, u161, u162, u163, u164, u165, u166, u167, u168, u169, u170, u171, u172, u173, u174, u175, u176, u177, u178, u179, u180, u181, u182, u183, u184, u185, u186, u187, u188, u189, u190, u191, u192, u193, u194, u195, u196, u197, u198, u199, u200, u201, u202, u203, u204, u205, u206, u207, u208, u209, u210, u211, u212, u213, u214, u215, u216, u217, u218, u219, u220, u221, u222, u223, u224, u225, u226, u227, u228, u229, u230, u231, u232, u233, u234, u235, u236, u237, u238, u239, u240, u241, u242, u243, u244, u245, u246, u247, u248, u249, u250, u251, u252, u253, u254, u255, u256, u257, u258, u259, u260, u261, u262, u263, u264, u265, u266, u267, u268, u269, u270, u271, u272, u273, u274, u275, u276, u277, u278, u279, u280, u281, u282, u283, u284, u285, u286, u287, u288, u289, u290, u291, u292], []⟩ w := by
  obtain ⟨t0, t1, t2, t3, t4, t5, t6, t7, t8, et⟩ := nine (h.sz k hk)
  rw [beg_eq]
  refine wp_seq ?_
  refine r20_of (kd := 3) (who := who) (sr := sr) (it := it) (n := n) hk (h.right k hk) (h.frR k) ?_
  intro v90 v91 v92 w1 hw1
  have h1 := (h.weaken (E' := fun q => q ≠ k) (fun q _ => trivial)).setR k hk none (fun q hq => hq)
  have nO : O ≠ Rg ∧ O ≠ Pk ∧ O ≠ Rf := ⟨fun e => by subst e; have := h.rr; omega, fun e => by subst e; have := h.rk; omega, fun e => by subst e; have := h.rF; omega⟩
  have nR : R0 ≠ Rg ∧ R0 ≠ Pk ∧ R0 ≠ Rf := ⟨fun e => by subst e; have := h.rr; omega, fun e => by subst e; have := h.rk; omega, fun e => by subst e; have := h.rF; omega⟩
  have hO1 := (ro.set_oth w Rg k O (ptrV none) nO.1).trans hO
  have hR1 := (ro.set_oth w Rg k R0 (ptrV none) nR.1).trans hR
  change CS w0 (w.setCell ⟨Rg, k, none⟩ (.pointer none)) _ _ _ _ _ _ _ _ _ _ _ _ _ _ _ at h1
  change (w.setCell ⟨Rg, k, none⟩ (.pointer none)).heap[O]? = _ at hO1
  change (w.setCell ⟨Rg, k, none⟩ (.pointer none)).heap[R0]? = _ at hR1
  rw [← hw1] at h1 hO1 hR1
  clear hw1
  change Code.wp Try.prog (.seq r21 (.seq r22 (.seq r23 (.cond (.tmp 111) r24 r25)))) Q _ _
  refine wp_seq ?_
  refine r21_of (kd := 3) (who := who) (sr := sr) (it := it) (n := n) hk (h1.park k hk) (h1.frP k) ?_
  intro v93 v94 v95 w2 hw2
  have h2 := h1.setP k hk none (fun q hq => hq)
  have hO2 := (ro.set_oth w1 Pk k O (ptrV none) nO.2.1).trans hO1
  have hR2 := (ro.set_oth w1 Pk k R0 (ptrV none) nR.2.1).trans hR1
  change CS w0 (w1.setCell ⟨Pk, k, none⟩ (.pointer none)) _ _ _ _ _ _ _ _ _ _ _ _ _ _ _ at h2
  change (w1.setCell ⟨Pk, k, none⟩ (.pointer none)).heap[O]? = _ at hO2
  change (w1.setCell ⟨Pk, k, none⟩ (.pointer none)).heap[R0]? = _ at hR2
  rw [← hw2] at h2 hO2 hR2
  clear hw2 h1 hO1 hR1
  change Code.wp Try.prog (.seq r22 (.seq r23 (.cond (.tmp 111) r24 r25))) Q _ _
  refine wp_seq ?_
  obtain ⟨y0, y1, y2, y3, y4, y5, y6, y7, y8⟩ := h2.refs k hk et
  refine r22_of (kd := 3) (who := who) (sr := sr) (it := it) (n := n) (pk := false) hk (ro.cel hO2 0) (ro.cel hO2 2) (ro.cel hO2 3) (ro.cel hO2 4) rfl y0 y1 y2 y3 y4 y5 y6 y7 y8 (fun j => h2.frF j) ?_
  intro v96 v97 v98 v99 v100 v101 v102 v103 v104 v105 v106 v107 v108 w3 hw3
  obtain ⟨h3, keep3⟩ := h2.putF k hk (fun q hq => hq) (.bool false) (.int .i64 2) (.int .i64 sr) (.int .i64 it) (.int .i64 n) (.int .i64 0) (.int .i64 0) (.int .i64 0) (.bool false)
  have hO3 := (keep3 O nO.2.2).trans hO2
  have hR3 := (keep3 R0 nR.2.2).trans hR2
  rw [← hw3] at h3 hO3 hR3
  clear hw3 h2 hO2 hR2 keep3 y0 y1 y2 y3 y4 y5 y6 y7 y8
  change Code.wp Try.prog (.seq r23 (.cond (.tmp 111) r24 r25)) Q _ _
  refine wp_seq ?_
  refine r23_of (kd := 3) (who := who) (sr := sr) (it := it) (n := n) (b3 := true) (ro.cel hO3 0) rfl ?_
  intro v109 v110 w4 hw4
  rw [hw4]
  change Code.wp Try.prog (.cond (.tmp 111) r24 r25) Q _ _
  refine wp_cond_true rfl ?_
  refine r24_of (kd := 3) (who := who) (sr := sr) (it := it) (n := n) (R := fun A w5 => w3.heap.size ≤ A ∧ Below w3.heap.size w3 w5 ∧ cg.RightAt w5 A 2 sr (it + 1) n 0 0 0 false) hk (ro.cel hR3 0) (ro.cel hR3 1) (ro.cel hR3 2) (ro.cel hR3 3) (ro.cel hR3 4) (ro.cel hR3 5) (ro.cel hO3 3) (ro.cel hO3 4) (Lib.hid ((cg.look_new 2 sr it (it + 1) n w3 rfl hi hi2).mono fun e w5 hh => by
    obtain ⟨A, a1, a2, a3, a4⟩ := hh
    exact ⟨A, a1, Lib.hid ⟨a2, a4, a3⟩, keepc (h3.right k hk) a4, (h3.below 9 a4).frR k⟩)) ?_
  intro v112 v113 v114 v115 v116 v117 v118 v119 v120 A w5 w6 hw6
  obtain ⟨⟨hA, hB, hAt⟩, hw6⟩ := hw6
  have h5 := h3.below (10 + k) hB
  have hAl : ext ρ w3.heap.size (10 + k) A = 10 + k := ro.ext_ge ρ _ hA
  have h6 := h5.setR k hk (some A) (fun q hq => hq)
  have hAt6 : cg.RightAt (w5.setCell ⟨Rg, k, none⟩ (ptrV (some A))) A 2 sr (it + 1) n 0 0 0 false := (ro.set_oth w5 Rg k A _ (by have := lt_of_heap h3.ri; omega)).trans hAt
  have h7 := h6.join (k := k) (.inr (.inl ⟨A, ⟨false, sr, it, n, 0, 0, 0, false⟩, 0, by simp, by simp, by simp [Rw.cs], hAl, rfl, hAt6, ⟨.inl rfl, hi, hi2⟩, fun _ => rfl⟩))
  change CS w0 (w5.setCell ⟨Rg, k, none⟩ (.pointer (some ⟨A, 0, none⟩))) _ _ _ _ _ _ _ _ _ _ _ _ _ _ _ at h7
  rw [← hw6] at h7
  exact hN _ _ _ _ _ _ _ _ _ _ _ _ _ _ _ _ _ _ _ _ _ _ _ _ _ _ _ _ _ _ _ _ _ _ _ _ _ _ _ _ _ _ _ _ _ _ _ _ _ _ _ _ _ _ _ _ _ _ _ _ _ _ _ _ _ _ _ _ _ _ _ _ _ _ _ _ _ _ _ _ _ _ _ _ _ _ _ _ _ _ _ _ _ _ _ _ _ _ _ _ _ _ _ _ _ _ _ _ _ _ _ _ _ _ _ _ _ _ _ _ _ _ _ _ _ _ _ _ _ _ _ _ _ _ _ _ _ _ _ _ _ _ _ _ _ _ _ _ _ _ _ _ _ _ _ _ _ _ _ _ _ _ _ _ _ _ _ _ _ _ _ _ _ _ _ _ _ _ _ _ _ _ _ _ _ _ _ _ _ _ _ _ _ _ _ _ _ _ _ _ _ _ _ _ _ _ _ _ _ _ _ _ _ _ _ _ _ _ _ _ _ _ _ _ _ _ _ _ _ _ _ _ _ _ _ _ _ _ _ _ _ _ _ _ _ _ _ _ _ _ _ _ _ _ _ ⟨_, _, _, _, _, h7⟩
set_option maxRecDepth 20000 in
set_option maxHeartbeats 4000000 in
theorem beg4_of {len cap Pl Ql S Rg Pk Rf i G cp : Nat} {a0 : Option Addr}  {O R0 k : Nat} {kd who sr it n : Int} {w0 : World} {g : Nat} {ρ : Ro} {pr pp : Nat → Option Nat} {rc : Nat → Array Value} {xs : List Int} {u14 u15 u16 u17 u18 u19 u20 u21 u22 u23 u24 u25 u26 u27 u28 u29 u30 u31 u32 u33 u34 u35 u36 u37 u38 u39 u40 u41 u42 u43 u44 u45 u46 u47 u48 u49 u50 u51 u52 u53 u54 u55 u56 u57 u58 u59 u60 u61 u62 u63 u64 u65 u66 u67 u68 u69 u70 u71 u72 u73 u74 u75 u76 u77 u78 u79 u80 u81 u82 u83 u84 u85 u86 u87 u88 u89 u90 u91 u92 u93 u94 u95 u96 u97 u98 u99 u100 u101 u102 u103 u104 u105 u106 u107 u108 u109 u110 u111 u112 u113 u114 u115 u116 u117 u118 u119 u120 u121 u122 u123 u124 u125 u126 u127 u128 u129 u130 u131 u132 u133 u134 u135 u136 u137 u138 u139 u140 u141 u142 u143 u144 u145 u146 u147 u148 u149 u150 u151 u152 u153 u154 u155 u156 u157 u158 u159 u160 u161 u162 u163 u164 u165 u166 u167 u168 u169 u170 u171 u172 u173 u174 u175 u176 u177 u178 u179 u180 u181 u182 u183 u184 u185 u186 u187 u188 u189 u190 u191 u192 u193 u194 u195 u196 u197 u198 u199 u200 u201 u202 u203 u204 u205 u206 u207 u208 u209 u210 u211 u212 u213 u214 u215 u216 u217 u218 u219 u220 u221 u222 u223 u224 u225 u226 u227 u228 u229 u230 u231 u232 u233 u234 u235 u236 u237 u238 u239 u240 u241 u242 u243 u244 u245 u246 u247 u248 u249 u250 u251 u252 u253 u254 u255 u256 u257 u258 u259 u260 u261 u262 u263 u264 u265 u266 u267 u268 u269 u270 u271 u272 u273 u274 u275 u276 u277 u278 u279 u280 u281 u282 u283 u284 u285 u286 u287 u288 u289 u290 u291 u292 : Value} {Q : Exit → Act → World → Prop} {w : World}
    (h : CS w0 w ρ Pl Ql S g Rg Pk Rf (.slice (some ⟨G, 0, none⟩) 61 cp) pr pp rc (fun _ => True) xs xs) (hk : k < 3) (hO : w.heap[O]? = some (.cells #[.int .i64 4, .int .i64 who, .int .i64 sr, .int .i64 it, .int .i64 n] 66 (0, 0))) (rO : ρ O = 9) (hR : w.heap[R0]? = some (.cells #[.int .i64 1, .int .i64 3, .int .i64 3, .int .i64 3, .int .i64 2, .int .i64 sr] 69 (0, 0))) (rR : ρ R0 = 9) (hi : -1099511627776 ≤ it) (hi2 : it ≤ 1099511627776) 
    (hN : ∀ (v14 v15 v16 v17 v18 v19 v20 v21 v22 v23 v24 v25 v26 v27 v28 v29 v30 v31 v32 v33 v34 v35 v36 v37 v38 v39 v40 v41 v42 v43 v44 v45 v46 v47 v48 v49 v50 v51 v52 v53 v54 v55 v56 v57 v58 v59 v60 v61 v62 v63 v64 v65 v66 v67 v68 v69 v70 v71 v72 v73 v74 v75 v76 v77 v78 v79 v80 v81 v82 v83 v84 v85 v86 v87 v88 v89 v90 v91 v92 v93 v94 v95 v96 v97 v98 v99 v100 v101 v102 v103 v104 v105 v106 v107 v108 v109 v110 v111 v112 v113 v114 v115 v116 v117 v118 v119 v120 v121 v122 v123 v124 v125 v126 v127 v128 v129 v130 v131 v132 v133 v134 v135 v136 v137 v138 v139 v140 v141 v142 v143 v144 v145 v146 v147 v148 v149 v150 v151 v152 v153 v154 v155 v156 v157 v158 v159 v160 v161 v162 v163 v164 v165 v166 v167 v168 v169 v170 v171 v172 v173 v174 v175 v176 v177 v178 v179 v180 v181 v182 v183 v184 v185 v186 v187 v188 v189 v190 v191 v192 v193 v194 v195 v196 v197 v198 v199 v200 v201 v202 v203 v204 v205 v206 v207 v208 v209 v210 v211 v212 v213 v214 v215 v216 v217 v218 v219 v220 v221 v222 v223 v224 v225 v226 v227 v228 v229 v230 v231 v232 v233 v234 v235 v236 v237 v238 v239 v240 v241 v242 v243 v244 v245 v246 v247 v248 v249 v250 v251 v252 v253 v254 v255 v256 v257 v258 v259 v260 v261 v262 v263 v264 v265 : Value) (G1 cp1 : Nat) (w' : World), LI w0 w' Pl Ql S g Rg Pk Rf G1 cp1 → Q .normal ⟨#[.slice a0 len cap, undef, .bool false, .pointer (some ⟨Pl, 0, none⟩), .pointer (some ⟨Ql, 0, none⟩), .pointer (some ⟨S, 0, none⟩), .slice (some ⟨G1, 0, none⟩) 61 cp1, .slice (some ⟨Rg, 0, none⟩) 3 3, .slice (some ⟨Pk, 0, none⟩) 3 3, .slice (some ⟨Rf, 0, none⟩) 3 3, .int .i64 (i : Int), .pointer (some ⟨O, 0, none⟩), .int .i64 (k : Int), .pointer (some ⟨R0, 0, none⟩), v14, v15, v16, v17, v18, v19, v20, v21, v22, v23, v24, v25, v26, v27, v28, v29, v30, v31, v32, v33, v34, v35, v36, v37, v38, v39, v40, v41, v42, v43, v44, v45, v46, v47, v48, v49, v50, v51, v52, v53, v54, v55, v56, v57, v58, v59, v60, v61, v62, v63, v64, v65, v66, v67, v68, v69, v70, v71, v72, v73, v74, v75, v76, v77, v78, v79, v80, v81, v82, v83, v84, v85, v86, v87, v88, v89, v90, v91, v92, v93, v94, v95, v96, v97, v98, v99, v100, v101, v102, v103, v104, v105, v106, v107, v108, v109, v110, v111, v112, v113, v114, v115, v116, v117, v118, v119, v120, v121, v122, v123, v124, v125, v126, v127, v128, v129, v130, v131, v132, v133, v134, v135, v136, v137, v138, v139, v140, v141, v142, v143, v144, v145, v146, v147, v148, v149, v150, v151, v152, v153, v154, v155, v156, v157, v158, v159, v160, v161, v162, v163, v164, v165, v166, v167, v168, v169, v170, v171, v172, v173, v174, v175, v176, v177, v178, v179, v180, v181, v182, v183, v184, v185, v186, v187, v188, v189, v190, v191, v192, v193, v194, v195, v196, v197, v198, v199, v200, v201, v202, v203, v204, v205, v206, v207, v208, v209, v210, v211, v212, v213, v214, v215, v216, v217, v218, v219, v220, v221, v222, v223, v224, v225, v226, v227, v228, v229, v230, v231, v232, v233, v234, v235, v236, v237, v238, v239, v240, v241, v242, v243, v244, v245, v246, v247, v248, v249, v250, v251, v252, v253, v254, v255, v256, v257, v258, v259, v260, v261, v262, v263, v264, v265, u266, u267, u268, u269, u270, u271, u272, u273, u274, u275, u276, u277, u278, u279, u280, u281, u282, u283, u284, u285, u286, u287, u288, u289, u290, u291, u292], []⟩ w') :
    Code.wp Try.prog cBeg Q ⟨#[.slice a0 len cap, undef, .bool false, .pointer (some ⟨Pl, 0, none⟩), .pointer (some ⟨Ql, 0, none⟩), .pointer (some ⟨S, 0, none⟩), .slice (some ⟨G, 0, none⟩) 61 cp, .slice (some ⟨Rg, 0, none⟩) 3 3, .slice (some ⟨Pk, 0, none⟩) 3 3, .slice (some ⟨Rf, 0, none⟩) 3 3, .int .i64 (i : Int), .pointer (some ⟨O, 0, none⟩), .int .i64 (k : Int), .pointer (some ⟨R0, 0, none⟩), u14, u15, u16, u17, u18, u19, u20, u21, u22, u23, u24, u25, u26, u27, u28, u29, u30, u31, u32, u33, u34, u35, u36, u37, u38, u39, u40, u41, u42, u43, u44, u45, u46, u47, u48, u49, u50, u51, u52, u53, u54, u55, u56, u57, u58, u59, u60, u61, u62, u63, u64, u65, u66, u67, u68, u69, u70, u71, u72, u73, u74, u75, u76, u77, u78, u79, u80, u81, u82, u83, u84, u85, u86, u87, u88, u89, u90, u91, u92, u93, u94, u95, u96, u97, u98, u99, u100, u101, u102, u103, u104, u105, u106, u107, u108, u109, u110, u111, u112, u113, u114, u115, u116, u117, u118, u119, u120, u121, u122, u123, u124, u125, u126, u127, u128, u129, u130, u131, u132, u133, u134, u135, u136, u137, u138, u139, u140, u141, u142, u143, u144, u145, u146, u147, u148, u149, u150, u151, u152, u153, u154, u155, u156, u157, u158, u159, u160, u161, u162, u163, u164, u165, u166, u167, u168, u169, u170, u171, u172, u173, u174, u175, u176, u177, u178, u179, u180, u181, u182, u183, u184, u185, u186, u187, u188, u189, u190, u191, u192, u193, u194, u195, u196, u197, u198, u199, u200, u201, u202, u203, u204, u205, u206, u207, u208, u209, u210, u211, u212, u213, u214, u215, u216, u217, u218, u219, u220, u221, u222, u223, u224, u225, u226, u227, u228, u229, u230, u231, u232, u233, u234, u235, u236, u237, u238, u239, u240, u241, u242, u243, u244, u245, u246, u247, u248, u249, u250, u251, u252, u253, u254, u255, u256, u257, u258, u259, u260, u261, u262, u263, u264, u265, u266, u267, u268, u269, u270, u271, u272, u273, u274, u275, u276, u277, u278, u279, u280, u281, u282, u283, u284, u285, u286, u287, u288, u289, u290, u291, u292], []⟩ w := by
  obtain ⟨t0, t1, t2, t3, t4, t5, t6, t7, t8, et⟩ := nine (h.sz k hk)
  rw [beg_eq]
  refine wp_seq ?_
  refine r20_of (kd := 4) (who := who) (sr := sr) (it := it) (n := n) hk (h.right k hk) (h.frR k) ?_
  intro v90 v91 v92 w1 hw1
  have h1 := (h.weaken (E' := fun q => q ≠ k) (fun q _ => trivial)).setR k hk none (fun q hq => hq)
  have nO : O ≠ Rg ∧ O ≠ Pk ∧ O ≠ Rf := ⟨fun e => by subst e; have := h.rr; omega, fun e => by subst e; have := h.rk; omega, fun e => by subst e; have := h.rF; omega⟩
  have nR : R0 ≠ Rg ∧ R0 ≠ Pk ∧ R0 ≠ Rf := ⟨fun e => by subst e; have := h.rr; omega, fun e => by subst e; have := h.rk; omega, fun e => by subst e; have := h.rF; omega⟩
  have hO1 := (ro.set_oth w Rg k O (ptrV none) nO.1).trans hO
  have hR1 := (ro.set_oth w Rg k R0 (ptrV none) nR.1).trans hR
  change CS w0 (w.setCell ⟨Rg, k, none⟩ (.pointer none)) _ _ _ _ _ _ _ _ _ _ _ _ _ _ _ at h1
  change (w.setCell ⟨Rg, k, none⟩ (.pointer none)).heap[O]? = _ at hO1
  change (w.setCell ⟨Rg, k, none⟩ (.pointer none)).heap[R0]? = _ at hR1
  rw [← hw1] at h1 hO1 hR1
  clear hw1
  change Code.wp Try.prog (.seq r21 (.seq r22 (.seq r23 (.cond (.tmp 111) r24 r25)))) Q _ _
  refine wp_seq ?_
  refine r21_of (kd := 4) (who := who) (sr := sr) (it := it) (n := n) hk (h1.park k hk) (h1.frP k) ?_
  intro v93 v94 v95 w2 hw2
  have h2 := h1.setP k hk none (fun q hq => hq)
  have hO2 := (ro.set_oth w1 Pk k O (ptrV none) nO.2.1).trans hO1
  have hR2 := (ro.set_oth w1 Pk k R0 (ptrV none) nR.2.1).trans hR1
  change CS w0 (w1.setCell ⟨Pk, k, none⟩ (.pointer none)) _ _ _ _ _ _ _ _ _ _ _ _ _ _ _ at h2
  change (w1.setCell ⟨Pk, k, none⟩ (.pointer none)).heap[O]? = _ at hO2
  change (w1.setCell ⟨Pk, k, none⟩ (.pointer none)).heap[R0]? = _ at hR2
  rw [← hw2] at h2 hO2 hR2
  clear hw2 h1 hO1 hR1
  change Code.wp Try.prog (.seq r22 (.seq r23 (.cond (.tmp 111) r24 r25))) Q _ _
  refine wp_seq ?_
  obtain ⟨y0, y1, y2, y3, y4, y5, y6, y7, y8⟩ := h2.refs k hk et
  refine r22_of (kd := 4) (who := who) (sr := sr) (it := it) (n := n) (pk := true) hk (ro.cel hO2 0) (ro.cel hO2 2) (ro.cel hO2 3) (ro.cel hO2 4) rfl y0 y1 y2 y3 y4 y5 y6 y7 y8 (fun j => h2.frF j) ?_
  intro v96 v97 v98 v99 v100 v101 v102 v103 v104 v105 v106 v107 v108 w3 hw3
  obtain ⟨h3, keep3⟩ := h2.putF k hk (fun q hq => hq) (.bool true) (.int .i64 2) (.int .i64 sr) (.int .i64 it) (.int .i64 n) (.int .i64 0) (.int .i64 0) (.int .i64 0) (.bool false)
  have hO3 := (keep3 O nO.2.2).trans hO2
  have hR3 := (keep3 R0 nR.2.2).trans hR2
  rw [← hw3] at h3 hO3 hR3
  clear hw3 h2 hO2 hR2 keep3 y0 y1 y2 y3 y4 y5 y6 y7 y8
  change Code.wp Try.prog (.seq r23 (.cond (.tmp 111) r24 r25)) Q _ _
  refine wp_seq ?_
  refine r23_of (kd := 4) (who := who) (sr := sr) (it := it) (n := n) (b3 := false) (ro.cel hO3 0) rfl ?_
  intro v109 v110 w4 hw4
  rw [hw4]
  change Code.wp Try.prog (.cond (.tmp 111) r24 r25) Q _ _
  refine wp_cond_false rfl ?_
  refine r25_of (kd := 4) (who := who) (sr := sr) (it := it) (n := n) (R := fun A w5 => w3.heap.size ≤ A ∧ Below w3.heap.size w3 w5 ∧ ParkAt w5 A 2 sr it n 0 false) hk (ro.cel hR3 0) (ro.cel hR3 1) (ro.cel hR3 2) (ro.cel hR3 3) (ro.cel hR3 4) (ro.cel hR3 5) (ro.cel hO3 3) (ro.cel hO3 4) (Lib.hid ((stop_new 2 sr it n w3).mono fun e w5 hh => by
    obtain ⟨A, a1, a2, a3, a4⟩ := hh
    exact ⟨A, a1, Lib.hid ⟨a2, a4, a3⟩, keepc (h3.park k hk) a4, (h3.below 9 a4).frP k⟩)) ?_
  intro v121 v122 v123 v124 v125 v126 v127 v128 v129 A w5 w6 hw6
  obtain ⟨⟨hA, hB, hAt⟩, hw6⟩ := hw6
  have h5 := h3.below (10 + k) hB
  have hAl : ext ρ w3.heap.size (10 + k) A = 10 + k := ro.ext_ge ρ _ hA
  have h6 := h5.setP k hk (some A) (fun q hq => hq)
  have hAt6 : ParkAt (w5.setCell ⟨Pk, k, none⟩ (ptrV (some A))) A 2 sr it n 0 false := (ro.set_oth w5 Pk k A _ (by have := lt_of_heap h3.pa; omega)).trans hAt
  have h7 := h6.join (k := k) (.inr (.inr ⟨A, ⟨true, sr, it, n, 0, 0, 0, false⟩, by simp, by simp, by simp [Rw.cs], hAl, rfl, hAt6, ⟨.inl rfl, hi, hi2⟩⟩))
  change CS w0 (w5.setCell ⟨Pk, k, none⟩ (.pointer (some ⟨A, 0, none⟩))) _ _ _ _ _ _ _ _ _ _ _ _ _ _ _ at h7
  rw [← hw6] at h7
  exact hN _ _ _ _ _ _ _ _ _ _ _ _ _ _ _ _ _ _ _ _ _ _ _ _ _ _ _ _ _ _ _ _ _ _ _ _ _ _ _ _ _ _ _ _ _ _ _ _ _ _ _ _ _ _ _ _ _ _ _ _ _ _ _ _ _ _ _ _ _ _ _ _ _ _ _ _ _ _ _ _ _ _ _ _ _ _ _ _ _ _ _ _ _ _ _ _ _ _ _ _ _ _ _ _ _ _ _ _ _ _ _ _ _ _ _ _ _ _ _ _ _ _ _ _ _ _ _ _ _ _ _ _ _ _ _ _ _ _ _ _ _ _ _ _ _ _ _ _ _ _ _ _ _ _ _ _ _ _ _ _ _ _ _ _ _ _ _ _ _ _ _ _ _ _ _ _ _ _ _ _ _ _ _ _ _ _ _ _ _ _ _ _ _ _ _ _ _ _ _ _ _ _ _ _ _ _ _ _ _ _ _ _ _ _ _ _ _ _ _ _ _ _ _ _ _ _ _ _ _ _ _ _ _ _ _ _ _ _ _ _ _ _ _ _ _ _ _ _ _ _ _ _ _ _ _ ⟨_, _, _, _, _, h7⟩
end Go.Proofs.Ytegbifphekhgkaa.cd
