/- The law CrossDoes: a word is told; a walk steps (layer 19). -/
import Derived.Test.YtegbifphekhgkaaCdE
namespace Go.Proofs.Ytegbifphekhgkaa.cd
open Go.ChangeShapes Go.WideShapes Go.ChangeAt Go.RowKit
open Go.Proofs.Ytegbifphekhgkaa.cg (Rw)

attribute [local go_sem ↓] Go.wp_at_zero Go.wp_at_succ
set_option linter.unusedVariables false
set_option linter.unusedSimpArgs false
open Go.Proofs.Ytegbifphekhgkaa.ro (Ro KX ext)
open Go.Proofs.Ytegbifphekhgkaa.dqo (ptrV)
open Go.Proofs.Ytegbifphekhgkaa.cg
set_option maxRecDepth 20000 in
set_option maxHeartbeats 4000000 in
theorem word5_of {len cap Pl Ql S Rg Pk Rf i G cp : Nat} {a0 : Option Addr}  {O R0 k : Nat} {kd who sr it n : Int} {w0 : World} {g : Nat} {ρ : Ro} {pr pp : Nat → Option Nat} {rc : Nat → Array Value} {xs : List Int} {u14 u15 u16 u17 u18 u19 u20 u21 u22 u23 u24 u25 u26 u27 u28 u29 u30 u31 u32 u33 u34 u35 u36 u37 u38 u39 u40 u41 u42 u43 u44 u45 u46 u47 u48 u49 u50 u51 u52 u53 u54 u55 u56 u57 u58 u59 u60 u61 u62 u63 u64 u65 u66 u67 u68 u69 u70 u71 u72 u73 u74 u75 u76 u77 u78 u79 u80 u81 u82 u83 u84 u85 u86 u87 u88 u89 u90 u91 u92 u93 u94 u95 u96 u97 u98 u99 u100 u101 u102 u103 u104 u105 u106 u107 u108 u109 u110 u111 u112 u113 u114 u115 u116 u117 u118 u119 u120 u121 u122 u123 u124 u125 u126 u127 u128 u129 u130 u131 u132 u133 u134 u135 u136 u137 u138 u139 u140 u141 u142 u143 u144 u145 u146 u147 u148 u149 u150 u151 u152 u153 u154 u155 u156 u157 u158 u159 u160 u161 u162 u163 u164 u165 u166 u167 u168 u169 u170 u171 u172 u173 u174 u175 u176 u177 u178 u179 u180 u181 u182 u183 u184 u185 u186 u187 u188 u189 u190 u191 u192 u193 u194 u195 u196 u197 u198 u199 u200 u201 u202 u203 u204 u205 u206 u207 u208 u209 u210 u211 u212 u213 u214 u215 u216 u217 u218 u219 u220 u221 u222 u223 u224 u225 u226 u227 u228 u229 u230 u231 u232 u233 u234 u235 u236 u237 u238 u239 u240 u241 u242 u243 u244 u245 u246 u247 u248 u249 u250 u251 u252 u253 u254 u255 u256 u257 u258 u259 u260 u261 u262 u263 u264 u265 u266 u267 u268 u269 u270 u271 u272 u273 u274 u275 u276 u277 u278 u279 u280 u281 u282 u283 u284 u285 u286 u287 u288 u289 u290 u291 u292 : Value} {Q : Exit → Act → World → Prop} {w : World}
    (h : CS w0 w ρ Pl Ql S g Rg Pk Rf (.slice (some ⟨G, 0, none⟩) 61 cp) pr pp rc (fun _ => True) xs xs) (hk : k < 3) (hO : w.heap[O]? = some (.cells #[.int .i64 5, .int .i64 who, .int .i64 sr, .int .i64 it, .int .i64 n] 66 (0, 0))) (rO : ρ O = 9) (hR : w.heap[R0]? = some (.cells #[.int .i64 1, .int .i64 3, .int .i64 3, .int .i64 3, .int .i64 2, .int .i64 sr] 69 (0, 0))) (rR : ρ R0 = 9) (hi : -1099511627776 ≤ it) (hi2 : it ≤ 1099511627776) 
    (hN : ∀ (v14 v15 v16 v17 v18 v19 v20 v21 v22 v23 v24 v25 v26 v27 v28 v29 v30 v31 v32 v33 v34 v35 v36 v37 v38 v39 v40 v41 v42 v43 v44 v45 v46 v47 v48 v49 v50 v51 v52 v53 v54 v55 v56 v57 v58 v59 v60 v61 v62 v63 v64 v65 v66 v67 v68 v69 v70 v71 v72 v73 v74 v75 v76 v77 v78 v79 v80 v81 v82 v83 v84 v85 v86 v87 v88 v89 v90 v91 v92 v93 v94 v95 v96 v97 v98 v99 v100 v101 v102 v103 v104 v105 v106 v107 v108 v109 v110 v111 v112 v113 v114 v115 v116 v117 v118 v119 v120 v121 v122 v123 v124 v125 v126 v127 v128 v129 v130 v131 v132 v133 v134 v135 v136 v137 v138 v139 v140 v141 v142 v143 v144 v145 v146 v147 v148 v149 v150 v151 v152 v153 v154 v155 v156 v157 v158 v159 v160 v161 v162 v163 v164 v165 v166 v167 v168 v169 v170 v171 v172 v173 v174 v175 v176 v177 v178 v179 v180 v181 v182 v183 v184 v185 v186 v187 v188 v189 v190 v191 v192 v193 v194 v195 v196 v197 v198 v199 v200 v201 v202 v203 v204 v205 v206 v207 v208 v209 v210 v211 v212 v213 v214 v215 v216 v217 v218 v219 v220 v221 v222 v223 v224 v225 v226 v227 v228 v229 v230 v231 v232 v233 v234 v235 v236 v237 v238 v239 v240 v241 v242 v243 v244 v245 v246 v247 v248 v249 v250 v251 v252 v253 v254 v255 v256 v257 v258 v259 v260 v261 v262 v263 v264 v265 : Value) (G1 cp1 : Nat) (w' : World), LI w0 w' Pl Ql S g Rg Pk Rf G1 cp1 → Q .normal ⟨#[.slice a0 len cap, undef, .bool false, .pointer (some ⟨Pl, 0, none⟩), .pointer (some ⟨Ql, 0, none⟩), .pointer (some ⟨S, 0, none⟩), .slice (some ⟨G1, 0, none⟩) 61 cp1, .slice (some ⟨Rg, 0, none⟩) 3 3, .slice (some ⟨Pk, 0, none⟩) 3 3, .slice (some ⟨Rf, 0, none⟩) 3 3, .int .i64 (i : Int), .pointer (some ⟨O, 0, none⟩), .int .i64 (k : Int), .pointer (some ⟨R0, 0, none⟩), v14, v15, v16, v17, v18, v19, v20, v21, v22, v23, v24, v25, v26, v27, v28, v29, v30, v31, v32, v33, v34, v35, v36, v37, v38, v39, v40, v41, v42, v43, v44, v45, v46, v47, v48, v49, v50, v51, v52, v53, v54, v55, v56, v57, v58, v59, v60, v61, v62, v63, v64, v65, v66, v67, v68, v69, v70, v71, v72, v73, v74, v75, v76, v77, v78, v79, v80, v81, v82, v83, v84, v85, v86, v87, v88, v89, v90, v91, v92, v93, v94, v95, v96, v97, v98, v99, v100, v101, v102, v103, v104, v105, v106, v107, v108, v109, v110, v111, v112, v113, v114, v115, v116, v117, v118, v119, v120, v121, v122, v123, v124, v125, v126, v127, v128, v129, v130, v131, v132, v133, v134, v135, v136, v137, v138, v139, v140, v141, v142, v143, v144, v145, v146, v147, v148, v149, v150, v151, v152, v153, v154, v155, v156, v157, v158, v159, v160, v161, v162, v163, v164, v165, v166, v167, v168, v169, v170, v171, v172, v173, v174, v175, v176, v177, v178, v179, v180, v181, v182, v183, v184, v185, v186, v187, v188, v189, v190, v191, v192, v193, v194, v195, v196, v197, v198, v199, v200, v201, v202, v203, v204, v205, v206, v207, v208, v209, v210, v211, v212, v213, v214, v215, v216, v217, v218, v219, v220, v221, v222, v223, v224, v225, v226, v227, v228, v229, v230, v231, v232, v233, v234, v235, v236, v237, v238, v239, v240, v241, v242, v243, v244, v245, v246, v247, v248, v249, v250, v251, v252, v253, v254, v255, v256, v257, v258, v259, v260, v261, v262, v263, v264, v265, u266, u267, u268, u269, u270, u271, u272, u273, u274, u275, u276, u277, u278, u279, u280, u281, u282, u283, u284, u285, u286, u287, u288, u289, u290, u291, u292], []⟩ w') :
    Code.wp Try.prog cWord Q ⟨#[.slice a0 len cap, undef, .bool false, .pointer (some ⟨Pl, 0, none⟩), .pointer (some ⟨Ql, 0, none⟩), .pointer (some ⟨S, 0, none⟩), .slice (some ⟨G, 0, none⟩) 61 cp, .slice (some ⟨Rg, 0, none⟩) 3 3, .slice (some ⟨Pk, 0, none⟩) 3 3, .slice (some ⟨Rf, 0, none⟩) 3 3, .int .i64 (i : Int), .pointer (some ⟨O, 0, none⟩), .int .i64 (k : Int), .pointer (some ⟨R0, 0, none⟩), u14, u15, u16, u17, u18, u19, u20, u21, u22, u23, u24, u25, u26, u27, u28, u29, u30, u31, u32, u33, u34, u35, u36, u37, u38, u39, u40, u41, u42, u43, u44, u45, u46, u47, u48, u49, u50, u51, u52, u53, u54, u55, u56, u57, u58, u59, u60, u61, u62, u63, u64, u65, u66, u67, u68, u69, u70, u71, u72, u73, u74, u75, u76, u77, u78, u79, u80, u81, u82, u83, u84, u85, u86, u87, u88, u89, u90, u91, u92, u93, u94, u95, u96, u97, u98, u99, u100, u101, u102, u103, u104, u105, u106, u107, u108, u109, u110, u111, u112, u113, u114, u115, u116, u117, u118, u119, u120, u121, u122, u123, u124, u125, u126, u127, u128, u129, u130, u131, u132, u133, u134, u135, u136, u137, u138, u139, u140, u141, u142, u143, u144, u145, u146, u147, u148, u149, u150, u151, u152, u153, u154, u155, u156, u157, u158, u159, u160, u161, u162, u163, u164, u165, u166, u167, u168, u169, u170, u171, u172, u173, u174, u175, u176, u177, u178, u179, u180, u181, u182, u183, u184, u185, u186, u187, u188, u189, u190, u191, u192, u193, u194, u195, u196, u197, u198, u199, u200, u201, u202, u203, u204, u205, u206, u207, u208, u209, u210, u211, u212, u213, u214, u215, u216, u217, u218, u219, u220, u221, u222, u223, u224, u225, u226, u227, u228, u229, u230, u231, u232, u233, u234, u235, u236, u237, u238, u239, u240, u241, u242, u243, u244, u245, u246, u247, u248, u249, u250, u251, u252, u253, u254, u255, u256, u257, u258, u259, u260, u261, u262, u263, u264, u265, u266, u267, u268, u269, u270, u271, u272, u273, u274, u275, u276, u277, u278, u279, u280, u281, u282, u283, u284, u285, u286, u287, u288, u289, u290, u291, u292], []⟩ w := by
  obtain ⟨q, a, hq, ha, ha6⟩ := slot_ex it 0 (by omega) (by omega)
  obtain ⟨G0, eG, hGl, hG0, hGc, hGf⟩ := row_at h.mr rfl h.lm
  obtain rfl : G = G0 := by simpa using eG
  clear eG hGl hG0 hGc hGf
  have lO := lt_of_heap hO
  have lR := lt_of_heap hR
  rw [word_eq]
  refine wp_seq ?_
  refine r27_5 (kd := 5) (who := who) (sr := sr) (it := it) (n := n) (ro.cel hO 0) ?_
  intro v139 v140 v141 v142 v143 v144 w1 hw1
  have b1 : Below w.heap.size w w1 := by rw [hw1]; exact (Below.refl _ w).alloc (Nat.le_refl _) _
  have h1 := h.below 9 b1
  have hO1 := (b1.block O lO).trans hO
  clear hw1
  change Code.wp Try.prog (.seq r28 (.seq r29 (.seq r30 (.seq r31 r32)))) Q _ _
  refine wp_seq ?_
  refine r28_of (kd := 5) (who := who) (sr := sr) (it := it) (n := n) (ro.cel hO1 3) (ro.cel hO1 4) ?_
  intro v145 v146 v147 v148 v149 v150 w2 hw2
  have b2 : Below w1.heap.size w1 w2 := by rw [hw2]; exact (Below.refl _ w1).alloc (Nat.le_refl _) _
  have hSb : w2.heap[w1.heap.size]? = some (.cells #[.int .i64 1, .int .i64 it, .int .i64 n] 78 (0, 0)) := by rw [hw2]; exact heap_alloc_new _ _
  have h2 := h1.below 9 b2
  have hO2 := (b2.block O (lt_of_heap hO1)).trans hO1
  clear hw2
  change Code.wp Try.prog (.seq r29 (.seq r30 (.seq r31 r32))) Q _ _
  refine wp_seq ?_
  refine r29_of (kd := 5) (who := who) (sr := sr) (it := it) (n := n) (at_ := a) h2.plan2.1 h2.plan2.2.1 h2.plan2.2.2.1 h2.plan2.2.2.2 (ro.cel hSb 0) (ro.cel hSb 1) (ro.cel hSb 2) (Lib.hid (by
    have hh := rword_at 1 0 it n q w2 (by omega) hq
    rw [ha.out] at hh
    exact hh)) ?_
  intro v151 v152 v153 w3 b3
  have h3 := h2.below 9 b3
  have hO3 := (b3.block O (lt_of_heap hO2)).trans hO2
  have hSb3 := (b3.block _ (lt_of_heap hSb)).trans hSb
  obtain ⟨G0, eG, hGl, hG0, hGc, hGf⟩ := row_at h3.mr rfl h3.lm
  obtain rfl : G = G0 := by simpa using eG
  obtain ⟨dv, hdv⟩ : ∃ dv, doV (xs.getD a 0) sr 1 it n = dv := ⟨_, rfl⟩
  obtain ⟨xa, now⟩ := dv
  change Code.wp Try.prog (.seq r30 (.seq r31 r32)) Q _ _
  refine wp_seq ?_
  refine r30_of (kd := 5) (who := who) (sr := sr) (it := it) (n := n) (at_ := a) (x := xs.getD a 0) (xa := xa) (now := now) ha6 (hGc a ha6) (ro.cel hO3 2) (ro.cel hSb3 0) (ro.cel hSb3 1) (ro.cel hSb3 2) (Lib.hid fun W => rdo_of (xs.getD a 0) sr 1 it n xa now W (by omega) hdv) ?_
  intro v154 v155 v156 v157 v158 v159 v160 v161 v162 v163 v164 w4 b4
  have h4 := h3.below 9 b4
  obtain ⟨G0, eG, hGl4, hG04, hGc4, hGf4⟩ := row_at h4.mr rfl h4.lm
  obtain rfl : G = G0 := by simpa using eG
  change Code.wp Try.prog (.seq r31 r32) Q _ _
  refine wp_seq ?_
  refine r31_of (kd := 5) (who := who) (sr := sr) (it := it) (n := n) (at_ := a) ha6 (hGc4 a ha6) (hGf4 a) ?_
  intro v165 v166 v167 v168 w5 hw5
  have h5 := h4.mset rfl a now
  rw [← hw5] at h5
  clear hw5
  change Code.wp Try.prog r32 Q _ _
  have hal : a < xs.length := by rw [h5.ln]; exact ha6
  refine r32_of (kd := 5) (who := who) (sr := sr) (it := it) (n := n) (at_ := a) (bv := .bool true) (R := fun w6 => w5.setCell ⟨g, a, none⟩ (.int .i64 now) = w6) (Lib.hid ((store_in S g xs a now w5 h5.st hal (by rw [h5.ln]; omega)).mono fun e w6 hh => ⟨hh.1, Lib.hid hh.2⟩)) ?_
  intro v169 v170 v171 v172 w6 hw6
  have h6 := h5.word (h5.jj.set a now hw6) (Keep.set hw6) (by rw [List.length_set]; exact h5.ln)
  exact hN _ _ _ _ _ _ _ _ _ _ _ _ _ _ _ _ _ _ _ _ _ _ _ _ _ _ _ _ _ _ _ _ _ _ _ _ _ _ _ _ _ _ _ _ _ _ _ _ _ _ _ _ _ _ _ _ _ _ _ _ _ _ _ _ _ _ _ _ _ _ _ _ _ _ _ _ _ _ _ _ _ _ _ _ _ _ _ _ _ _ _ _ _ _ _ _ _ _ _ _ _ _ _ _ _ _ _ _ _ _ _ _ _ _ _ _ _ _ _ _ _ _ _ _ _ _ _ _ _ _ _ _ _ _ _ _ _ _ _ _ _ _ _ _ _ _ _ _ _ _ _ _ _ _ _ _ _ _ _ _ _ _ _ _ _ _ _ _ _ _ _ _ _ _ _ _ _ _ _ _ _ _ _ _ _ _ _ _ _ _ _ _ _ _ _ _ _ _ _ _ _ _ _ _ _ _ _ _ _ _ _ _ _ _ _ _ _ _ _ _ _ _ _ _ _ _ _ _ _ _ _ _ _ _ _ _ _ _ _ _ _ _ _ _ _ _ _ _ _ _ _ _ _ _ _ ⟨_, _, _, _, _, h6⟩
set_option maxRecDepth 20000 in
set_option maxHeartbeats 4000000 in
theorem word6_of {len cap Pl Ql S Rg Pk Rf i G cp : Nat} {a0 : Option Addr}  {O R0 k : Nat} {kd who sr it n : Int} {w0 : World} {g : Nat} {ρ : Ro} {pr pp : Nat → Option Nat} {rc : Nat → Array Value} {xs : List Int} {u14 u15 u16 u17 u18 u19 u20 u21 u22 u23 u24 u25 u26 u27 u28 u29 u30 u31 u32 u33 u34 u35 u36 u37 u38 u39 u40 u41 u42 u43 u44 u45 u46 u47 u48 u49 u50 u51 u52 u53 u54 u55 u56 u57 u58 u59 u60 u61 u62 u63 u64 u65 u66 u67 u68 u69 u70 u71 u72 u73 u74 u75 u76 u77 u78 u79 u80 u81 u82 u83 u84 u85 u86 u87 u88 u89 u90 u91 u92 u93 u94 u95 u96 u97 u98 u99 u100 u101 u102 u103 u104 u105 u106 u107 u108 u109 u110 u111 u112 u113 u114 u115 u116 u117 u118 u119 u120 u121 u122 u123 u124 u125 u126 u127 u128 u129 u130 u131 u132 u133 u134 u135 u136 u137 u138 u139 u140 u141 u142 u143 u144 u145 u146 u147 u148 u149 u150 u151 u152 u153 u154 u155 u156 u157 u158 u159 u160 u161 u162 u163 u164 u165 u166 u167 u168 u169 u170 u171 u172 u173 u174 u175 u176 u177 u178 u179 u180 u181 u182 u183 u184 u185 u186 u187 u188 u189 u190 u191 u192 u193 u194 u195 u196 u197 u198 u199 u200 u201 u202 u203 u204 u205 u206 u207 u208 u209 u210 u211 u212 u213 u214 u215 u216 u217 u218 u219 u220 u221 u222 u223 u224 u225 u226 u227 u228 u229 u230 u231 u232 u233 u234 u235 u236 u237 u238 u239 u240 u241 u242 u243 u244 u245 u246 u247 u248 u249 u250 u251 u252 u253 u254 u255 u256 u257 u258 u259 u260 u261 u262 u263 u264 u265 u266 u267 u268 u269 u270 u271 u272 u273 u274 u275 u276 u277 u278 u279 u280 u281 u282 u283 u284 u285 u286 u287 u288 u289 u290 u291 u292 : Value} {Q : Exit → Act → World → Prop} {w : World}
    (h : CS w0 w ρ Pl Ql S g Rg Pk Rf (.slice (some ⟨G, 0, none⟩) 61 cp) pr pp rc (fun _ => True) xs xs) (hk : k < 3) (hO : w.heap[O]? = some (.cells #[.int .i64 6, .int .i64 who, .int .i64 sr, .int .i64 it, .int .i64 n] 66 (0, 0))) (rO : ρ O = 9) (hR : w.heap[R0]? = some (.cells #[.int .i64 1, .int .i64 3, .int .i64 3, .int .i64 3, .int .i64 2, .int .i64 sr] 69 (0, 0))) (rR : ρ R0 = 9) (hi : -1099511627776 ≤ it) (hi2 : it ≤ 1099511627776) 
    (hN : ∀ (v14 v15 v16 v17 v18 v19 v20 v21 v22 v23 v24 v25 v26 v27 v28 v29 v30 v31 v32 v33 v34 v35 v36 v37 v38 v39 v40 v41 v42 v43 v44 v45 v46 v47 v48 v49 v50 v51 v52 v53 v54 v55 v56 v57 v58 v59 v60 v61 v62 v63 v64 v65 v66 v67 v68 v69 v70 v71 v72 v73 v74 v75 v76 v77 v78 v79 v80 v81 v82 v83 v84 v85 v86 v87 v88 v89 v90 v91 v92 v93 v94 v95 v96 v97 v98 v99 v100 v101 v102 v103 v104 v105 v106 v107 v108 v109 v110 v111 v112 v113 v114 v115 v116 v117 v118 v119 v120 v121 v122 v123 v124 v125 v126 v127 v128 v129 v130 v131 v132 v133 v134 v135 v136 v137 v138 v139 v140 v141 v142 v143 v144 v145 v146 v147 v148 v149 v150 v151 v152 v153 v154 v155 v156 v157 v158 v159 v160 v161 v162 v163 v164 v165 v166 v167 v168 v169 v170 v171 v172 v173 v174 v175 v176 v177 v178 v179 v180 v181 v182 v183 v184 v185 v186 v187 v188 v189 v190 v191 v192 v193 v194 v195 v196 v197 v198 v199 v200 v201 v202 v203 v204 v205 v206 v207 v208 v209 v210 v211 v212 v213 v214 v215 v216 v217 v218 v219 v220 v221 v222 v223 v224 v225 v226 v227 v228 v229 v230 v231 v232 v233 v234 v235 v236 v237 v238 v239 v240 v241 v242 v243 v244 v245 v246 v247 v248 v249 v250 v251 v252 v253 v254 v255 v256 v257 v258 v259 v260 v261 v262 v263 v264 v265 : Value) (G1 cp1 : Nat) (w' : World), LI w0 w' Pl Ql S g Rg Pk Rf G1 cp1 → Q .normal ⟨#[.slice a0 len cap, undef, .bool false, .pointer (some ⟨Pl, 0, none⟩), .pointer (some ⟨Ql, 0, none⟩), .pointer (some ⟨S, 0, none⟩), .slice (some ⟨G1, 0, none⟩) 61 cp1, .slice (some ⟨Rg, 0, none⟩) 3 3, .slice (some ⟨Pk, 0, none⟩) 3 3, .slice (some ⟨Rf, 0, none⟩) 3 3, .int .i64 (i : Int), .pointer (some ⟨O, 0, none⟩), .int .i64 (k : Int), .pointer (some ⟨R0, 0, none⟩), v14, v15, v16, v17, v18, v19, v20, v21, v22, v23, v24, v25, v26, v27, v28, v29, v30, v31, v32, v33, v34, v35, v36, v37, v38, v39, v40, v41, v42, v43, v44, v45, v46, v47, v48, v49, v50, v51, v52, v53, v54, v55, v56, v57, v58, v59, v60, v61, v62, v63, v64, v65, v66, v67, v68, v69, v70, v71, v72, v73, v74, v75, v76, v77, v78, v79, v80, v81, v82, v83, v84, v85, v86, v87, v88, v89, v90, v91, v92, v93, v94, v95, v96, v97, v98, v99, v100, v101, v102, v103, v104, v105, v106, v107, v108, v109, v110, v111, v112, v113, v114, v115, v116, v117, v118, v119, v120, v121, v122, v123, v124, v125, v126, v127, v128, v129, v130, v131, v132, v133, v134, v135, v136, v137, v138, v139, v140, v141, v142, v143, v144, v145, v146, v147, v148, v149, v150, v151, v152, v153, v154, v155, v156, v157, v158, v159, v160, v161, v162, v163, v164, v165, v166, v167, v168, v169, v170, v171, v172, v173, v174, v175, v176, v177, v178, v179, v180, v181, v182, v183, v184, v185, v186, v187, v188, v189, v190, v191, v192, v193, v194, v195, v196, v197, v198, v199, v200, v201, v202, v203, v204, v205, v206, v207, v208, v209, v210, v211, v212, v213, v214, v215, v216, v217, v218, v219, v220, v221, v222, v223, v224, v225, v226, v227, v228, v229, v230, v231, v232, v233, v234, v235, v236, v237, v238, v239, v240, v241, v242, v243, v244, v245, v246, v247, v248, v249, v250, v251, v252, v253, v254, v255, v256, v257, v258, v259, v260, v261, v262, v263, v264, v265, u266, u267, u268, u269, u270, u271, u272, u273, u274, u275, u276, u277, u278, u279, u280, u281, u282, u283, u284, u285, u286, u287, u288, u289, u290, u291, u292], []⟩ w') :
    Code.wp Try.prog cWord Q ⟨#[.slice a0 len cap, undef, .bool false, .pointer (some ⟨Pl, 0, none⟩), .pointer (some ⟨Ql, 0, none⟩), .pointer (some ⟨S, 0, none⟩), .slice (some ⟨G, 0, none⟩) 61 cp, .slice (some ⟨Rg, 0, none⟩) 3 3, .slice (some ⟨Pk, 0, none⟩) 3 3, .slice (some ⟨Rf, 0, none⟩) 3 3, .int .i64 (i : Int), .pointer (some ⟨O, 0, none⟩), .int .i64 (k : Int), .pointer (some ⟨R0, 0, none⟩), u14, u15, u16, u17, u18, u19, u20, u21, u22, u23, u24, u25, u26, u27, u28, u29, u30, u31, u32, u33, u34, u35, u36, u37, u38, u39, u40, u41, u42, u43, u44, u45, u46, u47, u48, u49, u50, u51, u52, u53, u54, u55, u56, u57, u58, u59, u60, u61, u62, u63, u64, u65, u66, u67, u68, u69, u70, u71, u72, u73, u74, u75, u76, u77, u78, u79, u80, u81, u82, u83, u84, u85, u86, u87, u88, u89, u90, u91, u92, u93, u94, u95, u96, u97, u98, u99, u100, u101, u102, u103, u104, u105, u106, u107, u108, u109, u110, u111, u112, u113, u114, u115, u116, u117, u118, u119, u120, u121, u122, u123, u124, u125, u126, u127, u128, u129, u130, u131, u132, u133, u134, u135, u136, u137, u138, u139, u140, u141, u142, u143, u144, u145, u146, u147, u148, u149, u150, u151, u152, u153, u154, u155, u156, u157, u158, u159, u160, u161, u162, u163, u164, u165, u166, u167, u168, u169, u170, u171, u172, u173, u174, u175, u176, u177, u178, u179, u180, u181, u182, u183, u184, u185, u186, u187, u188, u189, u190, u191, u192, u193, u194, u195, u196, u197, u198, u199, u200, u201, u202, u203, u204, u205, u206, u207, u208, u209, u210, u211, u212, u213, u214, u215, u216, u217, u218, u219, u220, u221, u222, u223, u224, u225, u226, u227, u228, u229, u230, u231, u232, u233, u234, u235, u236, u237, u238, u239, u240, u241, u242, u243, u244, u245, u246, u247, u248, u249, u250, u251, u252, u253, u254, u255, u256, u257, u258, u259, u260, u261, u262, u263, u264, u265, u266, u267, u268, u269, u270, u271, u272, u273, u274, u275, u276, u277, u278, u279, u280, u281, u282, u283, u284, u285, u286, u287, u288, u289, u290, u291, u292], []⟩ w := by
  obtain ⟨q, a, hq, ha, ha6⟩ := slot_ex it 2 (by omega) (by omega)
  obtain ⟨G0, eG, hGl, hG0, hGc, hGf⟩ := row_at h.mr rfl h.lm
  obtain rfl : G = G0 := by simpa using eG
  clear eG hGl hG0 hGc hGf
  have lO := lt_of_heap hO
  have lR := lt_of_heap hR
  rw [word_eq]
  refine wp_seq ?_
  refine r27_6 (kd := 6) (who := who) (sr := sr) (it := it) (n := n) (ro.cel hO 0) ?_
  intro v139 v140 v141 v142 v143 v144 w1 hw1
  have b1 : Below w.heap.size w w1 := by rw [hw1]; exact (Below.refl _ w).alloc (Nat.le_refl _) _
  have h1 := h.below 9 b1
  have hO1 := (b1.block O lO).trans hO
  clear hw1
  change Code.wp Try.prog (.seq r28 (.seq r29 (.seq r30 (.seq r31 r32)))) Q _ _
  refine wp_seq ?_
  refine r28_of (kd := 6) (who := who) (sr := sr) (it := it) (n := n) (ro.cel hO1 3) (ro.cel hO1 4) ?_
  intro v145 v146 v147 v148 v149 v150 w2 hw2
  have b2 : Below w1.heap.size w1 w2 := by rw [hw2]; exact (Below.refl _ w1).alloc (Nat.le_refl _) _
  have hSb : w2.heap[w1.heap.size]? = some (.cells #[.int .i64 6, .int .i64 it, .int .i64 n] 78 (0, 0)) := by rw [hw2]; exact heap_alloc_new _ _
  have h2 := h1.below 9 b2
  have hO2 := (b2.block O (lt_of_heap hO1)).trans hO1
  clear hw2
  change Code.wp Try.prog (.seq r29 (.seq r30 (.seq r31 r32))) Q _ _
  refine wp_seq ?_
  refine r29_of (kd := 6) (who := who) (sr := sr) (it := it) (n := n) (at_ := a) h2.plan2.1 h2.plan2.2.1 h2.plan2.2.2.1 h2.plan2.2.2.2 (ro.cel hSb 0) (ro.cel hSb 1) (ro.cel hSb 2) (Lib.hid (by
    have hh := rword_at 6 2 it n q w2 (by omega) hq
    rw [ha.out] at hh
    exact hh)) ?_
  intro v151 v152 v153 w3 b3
  have h3 := h2.below 9 b3
  have hO3 := (b3.block O (lt_of_heap hO2)).trans hO2
  have hSb3 := (b3.block _ (lt_of_heap hSb)).trans hSb
  obtain ⟨G0, eG, hGl, hG0, hGc, hGf⟩ := row_at h3.mr rfl h3.lm
  obtain rfl : G = G0 := by simpa using eG
  obtain ⟨dv, hdv⟩ : ∃ dv, doV (xs.getD a 0) sr 6 it n = dv := ⟨_, rfl⟩
  obtain ⟨xa, now⟩ := dv
  change Code.wp Try.prog (.seq r30 (.seq r31 r32)) Q _ _
  refine wp_seq ?_
  refine r30_of (kd := 6) (who := who) (sr := sr) (it := it) (n := n) (at_ := a) (x := xs.getD a 0) (xa := xa) (now := now) ha6 (hGc a ha6) (ro.cel hO3 2) (ro.cel hSb3 0) (ro.cel hSb3 1) (ro.cel hSb3 2) (Lib.hid fun W => rdo_of (xs.getD a 0) sr 6 it n xa now W (by omega) hdv) ?_
  intro v154 v155 v156 v157 v158 v159 v160 v161 v162 v163 v164 w4 b4
  have h4 := h3.below 9 b4
  obtain ⟨G0, eG, hGl4, hG04, hGc4, hGf4⟩ := row_at h4.mr rfl h4.lm
  obtain rfl : G = G0 := by simpa using eG
  change Code.wp Try.prog (.seq r31 r32) Q _ _
  refine wp_seq ?_
  refine r31_of (kd := 6) (who := who) (sr := sr) (it := it) (n := n) (at_ := a) ha6 (hGc4 a ha6) (hGf4 a) ?_
  intro v165 v166 v167 v168 w5 hw5
  have h5 := h4.mset rfl a now
  rw [← hw5] at h5
  clear hw5
  change Code.wp Try.prog r32 Q _ _
  have hal : a < xs.length := by rw [h5.ln]; exact ha6
  refine r32_of (kd := 6) (who := who) (sr := sr) (it := it) (n := n) (at_ := a) (bv := .bool true) (R := fun w6 => w5.setCell ⟨g, a, none⟩ (.int .i64 now) = w6) (Lib.hid ((store_in S g xs a now w5 h5.st hal (by rw [h5.ln]; omega)).mono fun e w6 hh => ⟨hh.1, Lib.hid hh.2⟩)) ?_
  intro v169 v170 v171 v172 w6 hw6
  have h6 := h5.word (h5.jj.set a now hw6) (Keep.set hw6) (by rw [List.length_set]; exact h5.ln)
  exact hN _ _ _ _ _ _ _ _ _ _ _ _ _ _ _ _ _ _ _ _ _ _ _ _ _ _ _ _ _ _ _ _ _ _ _ _ _ _ _ _ _ _ _ _ _ _ _ _ _ _ _ _ _ _ _ _ _ _ _ _ _ _ _ _ _ _ _ _ _ _ _ _ _ _ _ _ _ _ _ _ _ _ _ _ _ _ _ _ _ _ _ _ _ _ _ _ _ _ _ _ _ _ _ _ _ _ _ _ _ _ _ _ _ _ _ _ _ _ _ _ _ _ _ _ _ _ _ _ _ _ _ _ _ _ _ _ _ _ _ _ _ _ _ _ _ _ _ _ _ _ _ _ _ _ _ _ _ _ _ _ _ _ _ _ _ _ _ _ _ _ _ _ _ _ _ _ _ _ _ _ _ _ _ _ _ _ _ _ _ _ _ _ _ _ _ _ _ _ _ _ _ _ _ _ _ _ _ _ _ _ _ _ _ _ _ _ _ _ _ _ _ _ _ _ _ _ _ _ _ _ _ _ _ _ _ _ _ _ _ _ _ _ _ _ _ _ _ _ _ _ _ _ _ _ _ ⟨_, _, _, _, _, h6⟩
set_option maxRecDepth 20000 in
set_option maxHeartbeats 4000000 in
theorem word7_of {len cap Pl Ql S Rg Pk Rf i G cp : Nat} {a0 : Option Addr}  {O R0 k : Nat} {kd who sr it n : Int} {w0 : World} {g : Nat} {ρ : Ro} {pr pp : Nat → Option Nat} {rc : Nat → Array Value} {xs : List Int} {u14 u15 u16 u17 u18 u19 u20 u21 u22 u23 u24 u25 u26 u27 u28 u29 u30 u31 u32 u33 u34 u35 u36 u37 u38 u39 u40 u41 u42 u43 u44 u45 u46 u47 u48 u49 u50 u51 u52 u53 u54 u55 u56 u57 u58 u59 u60 u61 u62 u63 u64 u65 u66 u67 u68 u69 u70 u71 u72 u73 u74 u75 u76 u77 u78 u79 u80 u81 u82 u83 u84 u85 u86 u87 u88 u89 u90 u91 u92 u93 u94 u95 u96 u97 u98 u99 u100 u101 u102 u103 u104 u105 u106 u107 u108 u109 u110 u111 u112 u113 u114 u115 u116 u117 u118 u119 u120 u121 u122 u123 u124 u125 u126 u127 u128 u129 u130 u131 u132 u133 u134 u135 u136 u137 u138 u139 u140 u141 u142 u143 u144 u145 u146 u147 u148 u149 u150 u151 u152 u153 u154 u155 u156 u157 u158 u159 u160 u161 u162 u163 u164 u165 u166 u167 u168 u169 u170 u171 u172 u173 u174 u175 u176 u177 u178 u179 u180 u181 u182 u183 u184 u185 u186 u187 u188 u189 u190 u191 u192 u193 u194 u195 u196 u197 u198 u199 u200 u201 u202 u203 u204 u205 u206 u207 u208 u209 u210 u211 u212 u213 u214 u215 u216 u217 u218 u219 u220 u221 u222 u223 u224 u225 u226 u227 u228 u229 u230 u231 u232 u233 u234 u235 u236 u237 u238 u239 u240 u241 u242 u243 u244 u245 u246 u247 u248 u249 u250 u251 u252 u253 u254 u255 u256 u257 u258 u259 u260 u261 u262 u263 u264 u265 u266 u267 u268 u269 u270 u271 u272 u273 u274 u275 u276 u277 u278 u279 u280 u281 u282 u283 u284 u285 u286 u287 u288 u289 u290 u291 u292 : Value} {Q : Exit → Act → World → Prop} {w : World}
    (h : CS w0 w ρ Pl Ql S g Rg Pk Rf (.slice (some ⟨G, 0, none⟩) 61 cp) pr pp rc (fun _ => True) xs xs) (hk : k < 3) (hO : w.heap[O]? = some (.cells #[.int .i64 7, .int .i64 who, .int .i64 sr, .int .i64 it, .int .i64 n] 66 (0, 0))) (rO : ρ O = 9) (hR : w.heap[R0]? = some (.cells #[.int .i64 1, .int .i64 3, .int .i64 3, .int .i64 3, .int .i64 2, .int .i64 sr] 69 (0, 0))) (rR : ρ R0 = 9) (hi : -1099511627776 ≤ it) (hi2 : it ≤ 1099511627776) 
    (hN : ∀ (v14 v15 v16 v17 v18 v19 v20 v21 v22 v23 v24 v25 v26 v27 v28 v29 v30 v31 v32 v33 v34 v35 v36 v37 v38 v39 v40 v41 v42 v43 v44 v45 v46 v47 v48 v49 v50 v51 v52 v53 v54 v55 v56 v57 v58 v59 v60 v61 v62 v63 v64 v65 v66 v67 v68 v69 v70 v71 v72 v73 v74 v75 v76 v77 v78 v79 v80 v81 v82 v83 v84 v85 v86 v87 v88 v89 v90 v91 v92 v93 v94 v95 v96 v97 v98 v99 v100 v101 v102 v103 v104 v105 v106 v107 v108 v109 v110 v111 v112 v113 v114 v115 v116 v117 v118 v119 v120 v121 v122 v123 v124 v125 v126 v127 v128 v129 v130 v131 v132 v133 v134 v135 v136 v137 v138 v139 v140 v141 v142 v143 v144 v145 v146 v147 v148 v149 v150 v151 v152 v153 v154 v155 v156 v157 v158 v159 v160 v161 v162 v163 v164 v165 v166 v167 v168 v169 v170 v171 v172 v173 v174 v175 v176 v177 v178 v179 v180 v181 v182 v183 v184 v185 v186 v187 v188 v189 v190 v191 v192 v193 v194 v195 v196 v197 v198 v199 v200 v201 v202 v203 v204 v205 v206 v207 v208 v209 v210 v211 v212 v213 v214 v215 v216 v217 v218 v219 v220 v221 v222 v223 v224 v225 v226 v227 v228 v229 v230 v231 v232 v233 v234 v235 v236 v237 v238 v239 v240 v241 v242 v243 v244 v245 v246 v247 v248 v249 v250 v251 v252 v253 v254 v255 v256 v257 v258 v259 v260 v261 v262 v263 v264 v265 : Value) (G1 cp1 : Nat) (w' : World), LI w0 w' Pl Ql S g Rg Pk Rf G1 cp1 → Q .normal ⟨#[.slice a0 len cap, undef, .bool false, .pointer (some ⟨Pl, 0, none⟩), .pointer (some ⟨Ql, 0, none⟩), .pointer (some ⟨S, 0, none⟩), .slice (some ⟨G1, 0, none⟩) 61 cp1, .slice (some ⟨Rg, 0, none⟩) 3 3, .slice (some ⟨Pk, 0, none⟩) 3 3, .slice (some ⟨Rf, 0, none⟩) 3 3, .int .i64 (i : Int), .pointer (some ⟨O, 0, none⟩), .int .i64 (k : Int), .pointer (some ⟨R0, 0, none⟩), v14, v15, v16, v17, v18, v19, v20, v21, v22, v23, v24, v25, v26, v27, v28, v29, v30, v31, v32, v33, v34, v35, v36, v37, v38, v39, v40, v41, v42, v43, v44, v45, v46, v47, v48, v49, v50, v51, v52, v53, v54, v55, v56, v57, v58, v59, v60, v61, v62, v63, v64, v65, v66, v67, v68, v69, v70, v71, v72, v73, v74, v75, v76, v77, v78, v79, v80, v81, v82, v83, v84, v85, v86, v87, v88, v89, v90, v91, v92, v93, v94, v95, v96, v97, v98, v99, v100, v101, v102, v103, v104, v105, v106, v107, v108, v109, v110, v111, v112, v113, v114, v115, v116, v117, v118, v119, v120, v121, v122, v123, v124, v125, v126, v127, v128, v129, v130, v131, v132, v133, v134, v135, v136, v137, v138, v139, v140, v141, v142, v143, v144, v145, v146, v147, v148, v149, v150, v151, v152, v153, v154, v155, v156, v157, v158, v159, v160, v161, v162, v163, v164, v165, v166, v167, v168, v169, v170, v171, v172, v173, v174, v175, v176, v177, v178, v179, v180, v181, v182, v183, v184, v185, v186, v187, v188, v189, v190, v191, v192, v193, v194, v195, v196, v197, v198, v199, v200, v201, v202, v203, v204, v205, v206, v207, v208, v209, v210, v211, v212, v213, v214, v215, v216, v217, v218, v219, v220, v221, v222, v223, v224, v225, v226, v227, v228, v229, v230, v231, v232, v233, v234, v235, v236, v237, v238, v239, v240, v241, v242, v243, v244, v245, v246, v247, v248, v249, v250, v251, v252, v253, v254, v255, v256, v257, v258, v259, v260, v261, v262, v263, v264, v265, u266, u267, u268, u269, u270, u271, u272, u273, u274, u275, u276, u277, u278, u279, u280, u281, u282, u283, u284, u285, u286, u287, u288, u289, u290, u291, u292], []⟩ w') :
    Code.wp Try.prog cWord Q ⟨#[.slice a0 len cap, undef, .bool false, .pointer (some ⟨Pl, 0, none⟩), .pointer (some ⟨Ql, 0, none⟩), .pointer (some ⟨S, 0, none⟩), .slice (some ⟨G, 0, none⟩) 61 cp, .slice (some ⟨Rg, 0, none⟩) 3 3, .slice (some ⟨Pk, 0, none⟩) 3 3, .slice (some ⟨Rf, 0, none⟩) 3 3, .int .i64 (i : Int), .pointer (some ⟨O, 0, none⟩), .int .i64 (k : Int), .pointer (some ⟨R0, 0, none⟩), u14, u15, u16, u17, u18, u19, u20, u21, u22, u23, u24, u25, u26, u27, u28, u29, u30, u31, u32, u33, u34, u35, u36, u37, u38, u39, u40, u41, u42, u43, u44, u45, u46, u47, u48, u49, u50, u51, u52, u53, u54, u55, u56, u57, u58, u59, u60, u61, u62, u63, u64, u65, u66, u67, u68, u69, u70, u71, u72, u73, u74, u75, u76, u77, u78, u79, u80, u81, u82, u83, u84, u85, u86, u87, u88, u89, u90, u91, u92, u93, u94, u95, u96, u97, u98, u99, u100, u101, u102, u103, u104, u105, u106, u107, u108, u109, u110, u111, u112, u113, u114, u115, u116, u117, u118, u119, u120, u121, u122, u123, u124, u125, u126, u127, u128, u129, u130, u131, u132, u133, u134, u135, u136, u137, u138, u139, u140, u141, u142, u143, u144, u145, u146, u147, u148, u149, u150, u151, u152, u153, u154, u155, u156, u157, u158, u159, u160, u161, u162, u163, u164, u165, u166, u167, u168, u169, u170, u171, u172, u173, u174, u175, u176, u177, u178, u179, u180, u181, u182, u183, u184, u185, u186, u187, u188, u189, u190, u191, u192, u193, u194, u195, u196, u197, u198, u199, u200, u201, u202, u203, u204, u205, u206, u207, u208, u209, u210, u211, u212, u213, u214, u215, u216, u217, u218, u219, u220, u221, u222, u223, u224, u225, u226, u227, u228, u229, u230, u231, u232, u233, u234, u235, u236, u237, u238, u239, u240, u241, u242, u243, u244, u245, u246, u247, u248, u249, u250, u251, u252, u253, u254, u255, u256, u257, u258, u259, u260, u261, u262, u263, u264, u265, u266, u267, u268, u269, u270, u271, u272, u273, u274, u275, u276, u277, u278, u279, u280, u281, u282, u283, u284, u285, u286, u287, u288, u289, u290, u291, u292], []⟩ w := by
  obtain ⟨q, a, hq, ha, ha6⟩ := slot_ex it 1 (by omega) (by omega)
  obtain ⟨G0, eG, hGl, hG0, hGc, hGf⟩ := row_at h.mr rfl h.lm
  obtain rfl : G = G0 := by simpa using eG
  clear eG hGl hG0 hGc hGf
  have lO := lt_of_heap hO
  have lR := lt_of_heap hR
  rw [word_eq]
  refine wp_seq ?_
  refine r27_7 (kd := 7) (who := who) (sr := sr) (it := it) (n := n) (ro.cel hO 0) ?_
  intro v139 v140 v141 v142 v143 v144 w1 hw1
  have b1 : Below w.heap.size w w1 := by rw [hw1]; exact (Below.refl _ w).alloc (Nat.le_refl _) _
  have h1 := h.below 9 b1
  have hO1 := (b1.block O lO).trans hO
  clear hw1
  change Code.wp Try.prog (.seq r28 (.seq r29 (.seq r30 (.seq r31 r32)))) Q _ _
  refine wp_seq ?_
  refine r28_of (kd := 7) (who := who) (sr := sr) (it := it) (n := n) (ro.cel hO1 3) (ro.cel hO1 4) ?_
  intro v145 v146 v147 v148 v149 v150 w2 hw2
  have b2 : Below w1.heap.size w1 w2 := by rw [hw2]; exact (Below.refl _ w1).alloc (Nat.le_refl _) _
  have hSb : w2.heap[w1.heap.size]? = some (.cells #[.int .i64 3, .int .i64 it, .int .i64 n] 78 (0, 0)) := by rw [hw2]; exact heap_alloc_new _ _
  have h2 := h1.below 9 b2
  have hO2 := (b2.block O (lt_of_heap hO1)).trans hO1
  clear hw2
  change Code.wp Try.prog (.seq r29 (.seq r30 (.seq r31 r32))) Q _ _
  refine wp_seq ?_
  refine r29_of (kd := 7) (who := who) (sr := sr) (it := it) (n := n) (at_ := a) h2.plan2.1 h2.plan2.2.1 h2.plan2.2.2.1 h2.plan2.2.2.2 (ro.cel hSb 0) (ro.cel hSb 1) (ro.cel hSb 2) (Lib.hid (by
    have hh := rword_at 3 1 it n q w2 (by omega) hq
    rw [ha.out] at hh
    exact hh)) ?_
  intro v151 v152 v153 w3 b3
  have h3 := h2.below 9 b3
  have hO3 := (b3.block O (lt_of_heap hO2)).trans hO2
  have hSb3 := (b3.block _ (lt_of_heap hSb)).trans hSb
  obtain ⟨G0, eG, hGl, hG0, hGc, hGf⟩ := row_at h3.mr rfl h3.lm
  obtain rfl : G = G0 := by simpa using eG
  obtain ⟨dv, hdv⟩ : ∃ dv, doV (xs.getD a 0) sr 3 it n = dv := ⟨_, rfl⟩
  obtain ⟨xa, now⟩ := dv
  change Code.wp Try.prog (.seq r30 (.seq r31 r32)) Q _ _
  refine wp_seq ?_
  refine r30_of (kd := 7) (who := who) (sr := sr) (it := it) (n := n) (at_ := a) (x := xs.getD a 0) (xa := xa) (now := now) ha6 (hGc a ha6) (ro.cel hO3 2) (ro.cel hSb3 0) (ro.cel hSb3 1) (ro.cel hSb3 2) (Lib.hid fun W => rdo_of (xs.getD a 0) sr 3 it n xa now W (by omega) hdv) ?_
  intro v154 v155 v156 v157 v158 v159 v160 v161 v162 v163 v164 w4 b4
  have h4 := h3.below 9 b4
  obtain ⟨G0, eG, hGl4, hG04, hGc4, hGf4⟩ := row_at h4.mr rfl h4.lm
  obtain rfl : G = G0 := by simpa using eG
  change Code.wp Try.prog (.seq r31 r32) Q _ _
  refine wp_seq ?_
  refine r31_of (kd := 7) (who := who) (sr := sr) (it := it) (n := n) (at_ := a) ha6 (hGc4 a ha6) (hGf4 a) ?_
  intro v165 v166 v167 v168 w5 hw5
  have h5 := h4.mset rfl a now
  rw [← hw5] at h5
  clear hw5
  change Code.wp Try.prog r32 Q _ _
  have hal : a < xs.length := by rw [h5.ln]; exact ha6
  refine r32_of (kd := 7) (who := who) (sr := sr) (it := it) (n := n) (at_ := a) (bv := .bool true) (R := fun w6 => w5.setCell ⟨g, a, none⟩ (.int .i64 now) = w6) (Lib.hid ((store_in S g xs a now w5 h5.st hal (by rw [h5.ln]; omega)).mono fun e w6 hh => ⟨hh.1, Lib.hid hh.2⟩)) ?_
  intro v169 v170 v171 v172 w6 hw6
  have h6 := h5.word (h5.jj.set a now hw6) (Keep.set hw6) (by rw [List.length_set]; exact h5.ln)
  exact hN _ _ _ _ _ _ _ _ _ _ _ _ _ _ _ _ _ _ _ _ _ _ _ _ _ _ _ _ _ _ _ _ _ _ _ _ _ _ _ _ _ _ _ _ _ _ _ _ _ _ _ _ _ _ _ _ _ _ _ _ _ _ _ _ _ _ _ _ _ _ _ _ _ _ _ _ _ _ _ _ _ _ _ _ _ _ _ _ _ _ _ _ _ _ _ _ _ _ _ _ _ _ _ _ _ _ _ _ _ _ _ _ _ _ _ _ _ _ _ _ _ _ _ _ _ _ _ _ _ _ _ _ _ _ _ _ _ _ _ _ _ _ _ _ _ _ _ _ _ _ _ _ _ _ _ _ _ _ _ _ _ _ _ _ _ _ _ _ _ _ _ _ _ _ _ _ _ _ _ _ _ _ _ _ _ _ _ _ _ _ _ _ _ _ _ _ _ _ _ _ _ _ _ _ _ _ _ _ _ _ _ _ _ _ _ _ _ _ _ _ _ _ _ _ _ _ _ _ _ _ _ _ _ _ _ _ _ _ _ _ _ _ _ _ _ _ _ _ _ _ _ _ _ _ _ ⟨_, _, _, _, _, h6⟩
set_option maxRecDepth 20000 in
set_option maxHeartbeats 4000000 in
theorem right_of {len cap Pl Ql S Rg Pk Rf i G cp : Nat} {a0 : Option Addr}  {O R0 k : Nat} {kd who sr it n : Int} {A : Nat} {r : Rw} {st : Int} {w0 : World} {g : Nat} {ρ : Ro} {pr pp : Nat → Option Nat} {rc : Nat → Array Value} {xs : List Int} {u14 u15 u16 u17 u18 u19 u20 u21 u22 u23 u24 u25 u26 u27 u28 u29 u30 u31 u32 u33 u34 u35 u36 u37 u38 u39 u40 u41 u42 u43 u44 u45 u46 u47 u48 u49 u50 u51 u52 u53 u54 u55 u56 u57 u58 u59 u60 u61 u62 u63 u64 u65 u66 u67 u68 u69 u70 u71 u72 u73 u74 u75 u76 u77 u78 u79 u80 u81 u82 u83 u84 u85 u86 u87 u88 u89 u90 u91 u92 u93 u94 u95 u96 u97 u98 u99 u100 u101 u102 u103 u104 u105 u106 u107 u108 u109 u110 u111 u112 u113 u114 u115 u116 u117 u118 u119 u120 u121 u122 u123 u124 u125 u126 u127 u128 u129 u130 u131 u132 u133 u134 u135 u136 u137 u138 u139 u140 u141 u142 u143 u144 u145 u146 u147 u148 u149 u150 u151 u152 u153 u154 u155 u156 u157 u158 u159 u160 u161 u162 u163 u164 u165 u166 u167 u168 u169 u170 u171 u172 u173 u174 u175 u176 u177 u178 u179 u180 u181 u182 u183 u184 u185 u186 u187 u188 u189 u190 u191 u192 u193 u194 u195 u196 u197 u198 u199 u200 u201 u202 u203 u204 u205 u206 u207 u208 u209 u210 u211 u212 u213 u214 u215 u216 u217 u218 u219 u220 u221 u222 u223 u224 u225 u226 u227 u228 u229 u230 u231 u232 u233 u234 u235 u236 u237 u238 u239 u240 u241 u242 u243 u244 u245 u246 u247 u248 u249 u250 u251 u252 u253 u254 u255 u256 u257 u258 u259 u260 u261 u262 u263 u264 u265 u266 u267 u268 u269 u270 u271 u272 u273 u274 u275 u276 u277 u278 u279 u280 u281 u282 u283 u284 u285 u286 u287 u288 u289 u290 u291 u292 : Value} {Q : Exit → Act → World → Prop} {w : World}
    (h : CS w0 w ρ Pl Ql S g Rg Pk Rf (.slice (some ⟨G, 0, none⟩) 61 cp) pr pp rc (fun _ => True) xs xs) (hk : k < 3) (hO : w.heap[O]? = some (.cells #[.int .i64 kd, .int .i64 who, .int .i64 sr, .int .i64 it, .int .i64 n] 66 (0, 0))) (rO : ρ O = 9) (hR : w.heap[R0]? = some (.cells #[.int .i64 1, .int .i64 3, .int .i64 3, .int .i64 3, .int .i64 2, .int .i64 sr] 69 (0, 0))) (rR : ρ R0 = 9) (hi : -1099511627776 ≤ it) (hi2 : it ≤ 1099511627776) (hpr : pr k = some A) (hpp : pp k = none) (hc : rc k = r.cs) (rA : ρ A = 10 + k) (hpk : r.pk = false) (hAt : cg.RightAt w A 2 r.sr (r.it + 1) r.n r.at_ st r.fr r.gt) (hok : Ok3 r) (hst : r.at_ = 1 → st = r.st)
    (hN : ∀ (v14 v15 v16 v17 v18 v19 v20 v21 v22 v23 v24 v25 v26 v27 v28 v29 v30 v31 v32 v33 v34 v35 v36 v37 v38 v39 v40 v41 v42 v43 v44 v45 v46 v47 v48 v49 v50 v51 v52 v53 v54 v55 v56 v57 v58 v59 v60 v61 v62 v63 v64 v65 v66 v67 v68 v69 v70 v71 v72 v73 v74 v75 v76 v77 v78 v79 v80 v81 v82 v83 v84 v85 v86 v87 v88 v89 v90 v91 v92 v93 v94 v95 v96 v97 v98 v99 v100 v101 v102 v103 v104 v105 v106 v107 v108 v109 v110 v111 v112 v113 v114 v115 v116 v117 v118 v119 v120 v121 v122 v123 v124 v125 v126 v127 v128 v129 v130 v131 v132 v133 v134 v135 v136 v137 v138 v139 v140 v141 v142 v143 v144 v145 v146 v147 v148 v149 v150 v151 v152 v153 v154 v155 v156 v157 v158 v159 v160 v161 v162 v163 v164 v165 v166 v167 v168 v169 v170 v171 v172 v173 v174 v175 v176 v177 v178 v179 v180 v181 v182 v183 v184 v185 v186 v187 v188 v189 v190 v191 v192 v193 v194 v195 v196 v197 v198 v199 v200 v201 v202 v203 v204 v205 v206 v207 v208 v209 v210 v211 v212 v213 v214 v215 v216 v217 v218 v219 v220 v221 v222 v223 v224 v225 v226 v227 v228 v229 v230 v231 v232 v233 v234 v235 v236 v237 v238 v239 v240 v241 v242 v243 v244 v245 v246 v247 v248 v249 v250 v251 v252 v253 v254 v255 v256 v257 v258 v259 v260 v261 v262 v263 v264 v265 : Value) (G1 cp1 : Nat) (w' : World), LI w0 w' Pl Ql S g Rg Pk Rf G1 cp1 → Q .normal ⟨#[.slice a0 len cap, undef, .bool false, .pointer (some ⟨Pl, 0, none⟩), .pointer (some ⟨Ql, 0, none⟩), .pointer (some ⟨S, 0, none⟩), .slice (some ⟨G1, 0, none⟩) 61 cp1, .slice (some ⟨Rg, 0, none⟩) 3 3, .slice (some ⟨Pk, 0, none⟩) 3 3, .slice (some ⟨Rf, 0, none⟩) 3 3, .int .i64 (i : Int), .pointer (some ⟨O, 0, none⟩), .int .i64 (k : Int), .pointer (some ⟨R0, 0, none⟩), v14, v15, v16, v17, v18, v19, v20, v21, v22, v23, v24, v25, v26, v27, v28, v29, v30, v31, v32, v33, v34, v35, v36, v37, v38, v39, v40, v41, v42, v43, v44, v45, v46, v47, v48, v49, v50, v51, v52, v53, v54, v55, v56, v57, v58, v59, v60, v61, v62, v63, v64, v65, v66, v67, v68, v69, v70, v71, v72, v73, v74, v75, v76, v77, v78, v79, v80, v81, v82, v83, v84, v85, v86, v87, v88, v89, v90, v91, v92, v93, v94, v95, v96, v97, v98, v99, v100, v101, v102, v103, v104, v105, v106, v107, v108, v109, v110, v111, v112, v113, v114, v115, v116, v117, v118, v119, v120, v121, v122, v123, v124, v125, v126, v127, v128, v129, v130, v131, v132, v133, v134, v135, v136, v137, v138, v139, v140, v141, v142, v143, v144, v145, v146, v147, v148, v149, v150, v151, v152, v153, v154, v155, v156, v157, v158, v159, v160, v161, v162, v163, v164, v165, v166, v167, v168, v169, v170, v171, v172, v173, v174, v175, v176, v177, v178, v179, v180, v181, v182, v183, v184, v185, v186, v187, v188, v189, v190, v191, v192, v193, v194, v195, v196, v197, v198, v199, v200, v201, v202, v203, v204, v205, v206, v207, v208, v209, v210, v211, v212, v213, v214, v215, v216, v217, v218, v219, v220, v221, v222, v223, v224, v225, v226, v227, v228, v229, v230, v231, v232, v233, v234, v235, v236, v237, v238, v239, v240, v241, v242, v243, v244, v245, v246, v247, v248, v249, v250, v251, v252, v253, v254, v255, v256, v257, v258, v259, v260, v261, v262, v263, v264, v265, u266, u267, u268, u269, u270, u271, u272, u273, u274, u275, u276, u277, u278, u279, u280, u281, u282, u283, u284, u285, u286, u287, u288, u289, u290, u291, u292], []⟩ w') :
    Code.wp Try.prog cRight Q ⟨#[.slice a0 len cap, undef, .bool false, .pointer (some ⟨Pl, 0, none⟩), .pointer (some ⟨Ql, 0, none⟩), .pointer (some ⟨S, 0, none⟩), .slice (some ⟨G, 0, none⟩) 61 cp, .slice (some ⟨Rg, 0, none⟩) 3 3, .slice (some ⟨Pk, 0, none⟩) 3 3, .slice (some ⟨Rf, 0, none⟩) 3 3, .int .i64 (i : Int), .pointer (some ⟨O, 0, none⟩), .int .i64 (k : Int), .pointer (some ⟨R0, 0, none⟩), u14, u15, u16, u17, u18, u19, u20, u21, u22, u23, u24, u25, u26, u27, u28, u29, u30, u31, u32, u33, u34, u35, u36, u37, u38, u39, u40, u41, u42, u43, u44, u45, u46, u47, u48, u49, u50, u51, u52, u53, u54, u55, u56, u57, u58, u59, u60, u61, u62, u63, u64, u65, u66, u67, u68, u69, u70, u71, u72, u73, u74, u75, u76, u77, u78, u79, u80, u81, u82, u83, u84, u85, u86, u87, u88, u89, u90, u91, u92, u93, u94, u95, u96, u97, u98, u99, u100, u101, u102, u103, u104, u105, u106, u107, u108, u109, u110, u111, u112, u113, u114, u115, u116, u117, u118, u119, u120, u121, u122, u123, u124, u125, u126, u127, u128, u129, u130, u131, u132, u133, u134, u135, u136, u137, u138, u139, u140, u141, u142, u143, u144, u145, u146, u147, u148, u149, u150, u151, u152, u153, u154, u155, u156, u157, u158, u159, u160, u161, u162, u163, u164, u165, u166, u167, u168, u169, u170, u171, u172, u173, u174, u175, u176, u177, u178, u179, u180, u181, u182, u183, u184, u185, u186, u187, u188, u189, u190, u191, u192, u193, u194, u195, u196, u197, u198, u199, u200, u201, u202, u203, u204, u205, u206, u207, u208, u209, u210, u211, u212, u213, u214, u215, u216, u217, u218, u219, u220, u221, u222, u223, u224, u225, u226, u227, u228, u229, u230, u231, u232, u233, u234, u235, u236, u237, u238, u239, u240, u241, u242, u243, u244, u245, u246, u247, u248, u249, u250, u251, u252, u253, u254, u255, u256, u257, u258, u259, u260, u261, u262, u263, u264, u265, u266, u267, u268, u269, u270, u271, u272, u273, u274, u275, u276, u277, u278, u279, u280, u281, u282, u283, u284, u285, u286, u287, u288, u289, u290, u291, u292], []⟩ w := by
  obtain ⟨ok3, hit1, hit2⟩ := hok
  obtain ⟨xs', r', st', q⟩ := right_pair S g A xs r st hpk ok3 hst h.ln hit1 hit2
  obtain ⟨G0, eG, hGl, hG0, hGc, hGf⟩ := row_at h.mr rfl h.lm
  obtain rfl : G = G0 := by simpa using eG
  rw [right_eq]
  refine wp_seq ?_
  have hrefs : w.cell? ⟨Rf, k * 9, none⟩ = some (.bool r.pk) ∧ w.cell? ⟨Rf, k * 9 + 1, none⟩ = some (.int .i64 2) ∧ w.cell? ⟨Rf, k * 9 + 2, none⟩ = some (.int .i64 r.sr) ∧ w.cell? ⟨Rf, k * 9 + 3, none⟩ = some (.int .i64 r.it) ∧ w.cell? ⟨Rf, k * 9 + 4, none⟩ = some (.int .i64 r.n) ∧ w.cell? ⟨Rf, k * 9 + 5, none⟩ = some (.int .i64 r.at_) ∧ w.cell? ⟨Rf, k * 9 + 6, none⟩ = some (.int .i64 r.st) ∧ w.cell? ⟨Rf, k * 9 + 7, none⟩ = some (.int .i64 r.fr) ∧ w.cell? ⟨Rf, k * 9 + 8, none⟩ = some (.bool r.gt) := by
    have hh := h.refs k hk (hc ▸ rfl : rc k = #[.bool r.pk, .int .i64 2, .int .i64 r.sr, .int .i64 r.it, .int .i64 r.n, .int .i64 r.at_, .int .i64 r.st, .int .i64 r.fr, .bool r.gt])
    exact hh
  have hpl := h.plan2
  refine r34_of (kd := kd) (who := who) (sr := sr) (it := it) (n := n) (B0 := w0.heap.size) (r := r) (r1 := r') (ys := xs') hk h.lts.1 h.lts.2 hGl ⟨hpl.1, hpl.2.1, hpl.2.2.1, hpl.2.2.2, hrefs⟩ (Lib.hid fun W hb => q.ref W w0.heap.size _ _ (OI.below h.mr hb) (Nat.le_trans h.b.size hb.size)) ?_
  intro v179 v180 v181 v182 v183 v184 v185 v186 v187 v188 Bx cp1 ad w1 hp9
  obtain ⟨b1, hBx, hBc, hOI, hown⟩ := hp9
  have h1 := h.row b1 hOI (fun q hq => (hown q hq).imp (fun h => h) (fun h => by rw [h]; rfl)) q.len
  have rBx : ext ρ w.heap.size 8 Bx = 8 := ro.ext_ge ρ _ hBx
  obtain ⟨G1, eG1, _, _, _, _⟩ := row_at h1.mr rfl h1.lm
  subst eG1
  have hA1 : cg.RightAt w1 A 2 r.sr (r.it + 1) r.n r.at_ st r.fr r.gt := (b1.block A (lt_of_heap hAt)).trans hAt
  have rA1 : ext ρ w.heap.size 8 A = 10 + k := by rw [ro.ext_lt ρ 8 (lt_of_heap hAt)]; exact rA
  change Code.wp Try.prog (.seq r35 (.seq r36 (.seq r37 (.seq r38 c39)))) Q _ _
  refine wp_seq ?_
  obtain ⟨y0, y1, y2, y3, y4, y5, y6, y7, y8⟩ := h1.refs k hk (hc ▸ rfl : rc k = #[.bool r.pk, .int .i64 2, .int .i64 r.sr, .int .i64 r.it, .int .i64 r.n, .int .i64 r.at_, .int .i64 r.st, .int .i64 r.fr, .bool r.gt])
  have nBx : Bx ≠ Rf := fun e => by subst e; have := h1.rF; omega
  refine r35_of (kd := kd) (who := who) (sr := sr) (it := it) (n := n) (r1 := r') hk nBx (fun j => h1.frF j) y0 y1 y2 y3 y4 y5 y6 y7 y8 (ro.cel hBc 0) (ro.cel hBc 1) (ro.cel hBc 2) (ro.cel hBc 3) (ro.cel hBc 4) (ro.cel hBc 5) (ro.cel hBc 6) (ro.cel hBc 7) (ro.cel hBc 8) ?_
  intro v189 v190 v191 v192 w2 hw2
  obtain ⟨h2, keep2⟩ := (h1.weaken (E' := fun q => q ≠ k) (fun q _ => trivial)).putF k hk (fun q hq => hq) (.bool r'.pk) (.int .i64 2) (.int .i64 r'.sr) (.int .i64 r'.it) (.int .i64 r'.n) (.int .i64 r'.at_) (.int .i64 r'.st) (.int .i64 r'.fr) (.bool r'.gt)
  have nA : A ≠ Rf := fun e => by subst e; have := h1.rF; omega
  have hA2 := (keep2 A nA).trans hA1
  have hB2 := (keep2 Bx nBx).trans hBc
  rw [← hw2] at h2 hA2 hB2
  clear hw2 y0 y1 y2 y3 y4 y5 y6 y7 y8 keep2
  change Code.wp Try.prog (.seq r36 (.seq r37 (.seq r38 c39))) Q _ _
  refine wp_seq ?_
  refine r36_of (kd := kd) (who := who) (sr := sr) (it := it) (n := n) ?_
  intro v193 w3 hw3
  rw [hw3]
  change Code.wp Try.prog (.seq r37 (.seq r38 c39)) Q _ _
  refine wp_seq ?_
  have hptr : w2.cell? ⟨Rg, k, none⟩ = some (.pointer (some ⟨A, 0, none⟩)) := (h2.right k hk).trans (by rw [hpr]; rfl)
  have nAg : A ≠ g := fun e => by subst e; have := h2.rg; omega
  have nAS : A ≠ S := fun e => by subst e; have := h2.rS; omega
  have hA0 : w0.heap.size ≤ A := by
    rcases Nat.lt_or_ge A w0.heap.size with hh | hh
    · have := h2.z A hh; omega
    · exact hh
  refine r37_of (kd := kd) (who := who) (sr := sr) (it := it) (n := n) (bE := decide (r'.at_ = 3)) (R := fun w4 => J w0 w4 S g xs' ∧ cg.RightAt w4 A 2 r.sr (r.it + 1) r.n r'.at_ st' r'.fr r'.gt ∧ Keep2 g A w2 w4) hk hptr (Lib.hid ((q.prg w0 w2 h2.jj hA2 nAg nAS hA0).mono fun e w4 hh => ⟨hh.1, Lib.hid hh.2⟩)) ?_
  intro v194 v195 v196 v197 v198 v199 w4 hw4
  obtain ⟨hJ, hA4, hK4⟩ := hw4
  obtain ⟨ρ4, h4, rA4⟩ := h2.step hk rA1 hJ hK4 q.len (lt_of_heap hA2)
  have nBg : Bx ≠ g := fun e => by subst e; have := h2.rg; omega
  have nBA : Bx ≠ A := fun e => by subst e; omega
  have hB4 := hK4.block hB2 nBg nBA
  change Code.wp Try.prog (.seq r38 c39) Q _ _
  refine wp_seq ?_
  have hptr4 : w4.cell? ⟨Rg, k, none⟩ = some (.pointer (some ⟨A, 0, none⟩)) := (h4.right k hk).trans (by rw [hpr]; rfl)
  refine r38_of (kd := kd) (who := who) (sr := sr) (it := it) (n := n) (xv := r'.fr) (ok := r'.gt) hk hptr4 (Lib.hid (cg.rgot_of A 2 r.sr (r.it + 1) r.n r'.at_ st' r'.fr r'.gt w4 hA4)) ?_
  intro v200 v201 v202 v203 v204 v205 v206 v207 m5 w5 hw5
  rw [hw5]
  have b5 : Below w4.heap.size w4 (w4.drewN m5) := below_drewN (Below.refl _ _) m5
  have h5 := h4.below 9 b5
  change Code.wp Try.prog c39 Q _ _
  refine c39_of (kd := kd) (who := who) (sr := sr) (it := it) (n := n) (at_ := r'.at_) (ro.cel hB4 5) (ro.cel hB4 7) (ro.cel hB4 8) (by by_cases e : r'.at_ = 3 <;> simp [e]) ?_
  intro v208 v209 v210 v211 v212 v213 v214 v215 v216 v217 v218 v219 v220 v221 v222 v223 v224 w6 hw6
  rw [hw6]
  obtain ⟨e1, e2, e3, e4⟩ := q.same
  have h6 := (h5.weaken (E' := fun q => q ≠ k) (fun q hq => ⟨hq, hq⟩)).join (k := k) (.inr (.inl ⟨A, r', st', hpr, hpp, by simp [Rw.cs], by rw [ro.ext_lt ρ4 9 (lt_of_heap hA4)]; exact rA4, by rw [e1]; exact hpk, by rw [e2, e3, e4]; exact hA4, ⟨q.ats, by rw [e3]; exact hit1, by rw [e3]; exact hit2⟩, q.sta⟩))
  exact hN _ _ _ _ _ _ _ _ _ _ _ _ _ _ _ _ _ _ _ _ _ _ _ _ _ _ _ _ _ _ _ _ _ _ _ _ _ _ _ _ _ _ _ _ _ _ _ _ _ _ _ _ _ _ _ _ _ _ _ _ _ _ _ _ _ _ _ _ _ _ _ _ _ _ _ _ _ _ _ _ _ _ _ _ _ _ _ _ _ _ _ _ _ _ _ _ _ _ _ _ _ _ _ _ _ _ _ _ _ _ _ _ _ _ _ _ _ _ _ _ _ _ _ _ _ _ _ _ _ _ _ _ _ _ _ _ _ _ _ _ _ _ _ _ _ _ _ _ _ _ _ _ _ _ _ _ _ _ _ _ _ _ _ _ _ _ _ _ _ _ _ _ _ _ _ _ _ _ _ _ _ _ _ _ _ _ _ _ _ _ _ _ _ _ _ _ _ _ _ _ _ _ _ _ _ _ _ _ _ _ _ _ _ _ _ _ _ _ _ _ _ _ _ _ _ _ _ _ _ _ _ _ _ _ _ _ _ _ _ _ _ _ _ _ _ _ _ _ _ _ _ _ _ _ _ ⟨_, _, _, _, _, h6⟩
set_option maxRecDepth 20000 in
set_option maxHeartbeats 4000000 in
theorem park_of {len cap Pl Ql S Rg Pk Rf i G cp : Nat} {a0 : Option Addr}  {O R0 k : Nat} {kd who sr it n : Int} {A : Nat} {r : Rw} {w0 : World} {g : Nat} {ρ : Ro} {pr pp : Nat → Option Nat} {rc : Nat → Array Value} {xs : List Int} {u14 u15 u16 u17 u18 u19 u20 u21 u22 u23 u24 u25 u26 u27 u28 u29 u30 u31 u32 u33 u34 u35 u36 u37 u38 u39 u40 u41 u42 u43 u44 u45 u46 u47 u48 u49 u50 u51 u52 u53 u54 u55 u56 u57 u58 u59 u60 u61 u62 u63 u64 u65 u66 u67 u68 u69 u70 u71 u72 u73 u74 u75 u76 u77 u78 u79 u80 u81 u82 u83 u84 u85 u86 u87 u88 u89 u90 u91 u92 u93 u94 u95 u96 u97 u98 u99 u100 u101 u102 u103 u104 u105 u106 u107 u108 u109 u110 u111 u112 u113 u114 u115 u116 u117 u118 u119 u120 u121 u122 u123 u124 u125 u126 u127 u128 u129 u130 u131 u132 u133 u134 u135 u136 u137 u138 u139 u140 u141 u142 u143 u144 u145 u146 u147 u148 u149 u150 u151 u152 u153 u154 u155 u156 u157 u158 u159 u160 u161 u162 u163 u164 u165 u166 u167 u168 u169 u170 u171 u172 u173 u174 u175 u176 u177 u178 u179 u180 u181 u182 u183 u184 u185 u186 u187 u188 u189 u190 u191 u192 u193 u194 u195 u196 u197 u198 u199 u200 u201 u202 u203 u204 u205 u206 u207 u208 u209 u210 u211 u212 u213 u214 u215 u216 u217 u218 u219 u220 u221 u222 u223 u224 u225 u226 u227 u228 u229 u230 u231 u232 u233 u234 u235 u236 u237 u238 u239 u240 u241 u242 u243 u244 u245 u246 u247 u248 u249 u250 u251 u252 u253 u254 u255 u256 u257 u258 u259 u260 u261 u262 u263 u264 u265 u266 u267 u268 u269 u270 u271 u272 u273 u274 u275 u276 u277 u278 u279 u280 u281 u282 u283 u284 u285 u286 u287 u288 u289 u290 u291 u292 : Value} {Q : Exit → Act → World → Prop} {w : World}
    (h : CS w0 w ρ Pl Ql S g Rg Pk Rf (.slice (some ⟨G, 0, none⟩) 61 cp) pr pp rc (fun _ => True) xs xs) (hk : k < 3) (hO : w.heap[O]? = some (.cells #[.int .i64 kd, .int .i64 who, .int .i64 sr, .int .i64 it, .int .i64 n] 66 (0, 0))) (rO : ρ O = 9) (hR : w.heap[R0]? = some (.cells #[.int .i64 1, .int .i64 3, .int .i64 3, .int .i64 3, .int .i64 2, .int .i64 sr] 69 (0, 0))) (rR : ρ R0 = 9) (hi : -1099511627776 ≤ it) (hi2 : it ≤ 1099511627776) (hpr : pr k = none) (hpp : pp k = some A) (hc : rc k = r.cs) (rA : ρ A = 10 + k) (hpk : r.pk = true) (hAt : ParkAt w A 2 r.sr r.it r.n r.at_ r.gt) (hok : Ok3 r)
    (hN : ∀ (v14 v15 v16 v17 v18 v19 v20 v21 v22 v23 v24 v25 v26 v27 v28 v29 v30 v31 v32 v33 v34 v35 v36 v37 v38 v39 v40 v41 v42 v43 v44 v45 v46 v47 v48 v49 v50 v51 v52 v53 v54 v55 v56 v57 v58 v59 v60 v61 v62 v63 v64 v65 v66 v67 v68 v69 v70 v71 v72 v73 v74 v75 v76 v77 v78 v79 v80 v81 v82 v83 v84 v85 v86 v87 v88 v89 v90 v91 v92 v93 v94 v95 v96 v97 v98 v99 v100 v101 v102 v103 v104 v105 v106 v107 v108 v109 v110 v111 v112 v113 v114 v115 v116 v117 v118 v119 v120 v121 v122 v123 v124 v125 v126 v127 v128 v129 v130 v131 v132 v133 v134 v135 v136 v137 v138 v139 v140 v141 v142 v143 v144 v145 v146 v147 v148 v149 v150 v151 v152 v153 v154 v155 v156 v157 v158 v159 v160 v161 v162 v163 v164 v165 v166 v167 v168 v169 v170 v171 v172 v173 v174 v175 v176 v177 v178 v179 v180 v181 v182 v183 v184 v185 v186 v187 v188 v189 v190 v191 v192 v193 v194 v195 v196 v197 v198 v199 v200 v201 v202 v203 v204 v205 v206 v207 v208 v209 v210 v211 v212 v213 v214 v215 v216 v217 v218 v219 v220 v221 v222 v223 v224 v225 v226 v227 v228 v229 v230 v231 v232 v233 v234 v235 v236 v237 v238 v239 v240 v241 v242 v243 v244 v245 v246 v247 v248 v249 v250 v251 v252 v253 v254 v255 v256 v257 v258 v259 v260 v261 v262 v263 v264 v265 : Value) (G1 cp1 : Nat) (w' : World), LI w0 w' Pl Ql S g Rg Pk Rf G1 cp1 → Q .normal ⟨#[.slice a0 len cap, undef, .bool false, .pointer (some ⟨Pl, 0, none⟩), .pointer (some ⟨Ql, 0, none⟩), .pointer (some ⟨S, 0, none⟩), .slice (some ⟨G1, 0, none⟩) 61 cp1, .slice (some ⟨Rg, 0, none⟩) 3 3, .slice (some ⟨Pk, 0, none⟩) 3 3, .slice (some ⟨Rf, 0, none⟩) 3 3, .int .i64 (i : Int), .pointer (some ⟨O, 0, none⟩), .int .i64 (k : Int), .pointer (some ⟨R0, 0, none⟩), v14, v15, v16, v17, v18, v19, v20, v21, v22, v23, v24, v25, v26, v27, v28, v29, v30, v31, v32, v33, v34, v35, v36, v37, v38, v39, v40, v41, v42, v43, v44, v45, v46, v47, v48, v49, v50, v51, v52, v53, v54, v55, v56, v57, v58, v59, v60, v61, v62, v63, v64, v65, v66, v67, v68, v69, v70, v71, v72, v73, v74, v75, v76, v77, v78, v79, v80, v81, v82, v83, v84, v85, v86, v87, v88, v89, v90, v91, v92, v93, v94, v95, v96, v97, v98, v99, v100, v101, v102, v103, v104, v105, v106, v107, v108, v109, v110, v111, v112, v113, v114, v115, v116, v117, v118, v119, v120, v121, v122, v123, v124, v125, v126, v127, v128, v129, v130, v131, v132, v133, v134, v135, v136, v137, v138, v139, v140, v141, v142, v143, v144, v145, v146, v147, v148, v149, v150, v151, v152, v153, v154, v155, v156, v157, v158, v159, v160, v161, v162, v163, v164, v165, v166, v167, v168, v169, v170, v171, v172, v173, v174, v175, v176, v177, v178, v179, v180, v181, v182, v183, v184, v185, v186, v187, v188, v189, v190, v191, v192, v193, v194, v195, v196, v197, v198, v199, v200, v201, v202, v203, v204, v205, v206, v207, v208, v209, v210, v211, v212, v213, v214, v215, v216, v217, v218, v219, v220, v221, v222, v223, v224, v225, v226, v227, v228, v229, v230, v231, v232, v233, v234, v235, v236, v237, v238, v239, v240, v241, v242, v243, v244, v245, v246, v247, v248, v249, v250, v251, v252, v253, v254, v255, v256, v257, v258, v259, v260, v261, v262, v263, v264, v265, u266, u267, u268, u269, u270, u271, u272, u273, u274, u275, u276, u277, u278, u279, u280, u281, u282, u283, u284, u285, u286, u287, u288, u289, u290, u291, u292], []⟩ w') :
    Code.wp Try.prog cPark Q ⟨#[.slice a0 len cap, undef, .bool false, .pointer (some ⟨Pl, 0, none⟩), .pointer (some ⟨Ql, 0, none⟩), .pointer (some ⟨S, 0, none⟩), .slice (some ⟨G, 0, none⟩) 61 cp, .slice (some ⟨Rg, 0, none⟩) 3 3, .slice (some ⟨Pk, 0, none⟩) 3 3, .slice (some ⟨Rf, 0, none⟩) 3 3, .int .i64 (i : Int), .pointer (some ⟨O, 0, none⟩), .int .i64 (k : Int), .pointer (some ⟨R0, 0, none⟩), u14, u15, u16, u17, u18, u19, u20, u21, u22, u23, u24, u25, u26, u27, u28, u29, u30, u31, u32, u33, u34, u35, u36, u37, u38, u39, u40, u41, u42, u43, u44, u45, u46, u47, u48, u49, u50, u51, u52, u53, u54, u55, u56, u57, u58, u59, u60, u61, u62, u63, u64, u65, u66, u67, u68, u69, u70, u71, u72, u73, u74, u75, u76, u77, u78, u79, u80, u81, u82, u83, u84, u85, u86, u87, u88, u89, u90, u91, u92, u93, u94, u95, u96, u97, u98, u99, u100, u101, u102, u103, u104, u105, u106, u107, u108, u109, u110, u111, u112, u113, u114, u115, u116, u117, u118, u119, u120, u121, u122, u123, u124, u125, u126, u127, u128, u129, u130, u131, u132, u133, u134, u135, u136, u137, u138, u139, u140, u141, u142, u143, u144, u145, u146, u147, u148, u149, u150, u151, u152, u153, u154, u155, u156, u157, u158, u159, u160, u161, u162, u163, u164, u165, u166, u167, u168, u169, u170, u171, u172, u173, u174, u175, u176, u177, u178, u179, u180, u181, u182, u183, u184, u185, u186, u187, u188, u189, u190, u191, u192, u193, u194, u195, u196, u197, u198, u199, u200, u201, u202, u203, u204, u205, u206, u207, u208, u209, u210, u211, u212, u213, u214, u215, u216, u217, u218, u219, u220, u221, u222, u223, u224, u225, u226, u227, u228, u229, u230, u231, u232, u233, u234, u235, u236, u237, u238, u239, u240, u241, u242, u243, u244, u245, u246, u247, u248, u249, u250, u251, u252, u253, u254, u255, u256, u257, u258, u259, u260, u261, u262, u263, u264, u265, u266, u267, u268, u269, u270, u271, u272, u273, u274, u275, u276, u277, u278, u279, u280, u281, u282, u283, u284, u285, u286, u287, u288, u289, u290, u291, u292], []⟩ w := by
  obtain ⟨ok3, hit1, hit2⟩ := hok
  obtain ⟨xs', r', q⟩ := park_pair S g A xs r hpk ok3 h.ln hit1 hit2
  obtain ⟨G0, eG, hGl, hG0, hGc, hGf⟩ := row_at h.mr rfl h.lm
  obtain rfl : G = G0 := by simpa using eG
  rw [park_eq]
  refine wp_seq ?_
  have hrefs : w.cell? ⟨Rf, k * 9, none⟩ = some (.bool r.pk) ∧ w.cell? ⟨Rf, k * 9 + 1, none⟩ = some (.int .i64 2) ∧ w.cell? ⟨Rf, k * 9 + 2, none⟩ = some (.int .i64 r.sr) ∧ w.cell? ⟨Rf, k * 9 + 3, none⟩ = some (.int .i64 r.it) ∧ w.cell? ⟨Rf, k * 9 + 4, none⟩ = some (.int .i64 r.n) ∧ w.cell? ⟨Rf, k * 9 + 5, none⟩ = some (.int .i64 r.at_) ∧ w.cell? ⟨Rf, k * 9 + 6, none⟩ = some (.int .i64 r.st) ∧ w.cell? ⟨Rf, k * 9 + 7, none⟩ = some (.int .i64 r.fr) ∧ w.cell? ⟨Rf, k * 9 + 8, none⟩ = some (.bool r.gt) := by
    have hh := h.refs k hk (hc ▸ rfl : rc k = #[.bool r.pk, .int .i64 2, .int .i64 r.sr, .int .i64 r.it, .int .i64 r.n, .int .i64 r.at_, .int .i64 r.st, .int .i64 r.fr, .bool r.gt])
    exact hh
  have hpl := h.plan2
  refine r42_of (kd := kd) (who := who) (sr := sr) (it := it) (n := n) (B0 := w0.heap.size) (r := r) (r1 := r') (ys := xs') hk h.lts.1 h.lts.2 hGl ⟨hpl.1, hpl.2.1, hpl.2.2.1, hpl.2.2.2, hrefs⟩ (Lib.hid fun W hb => q.ref W w0.heap.size _ _ (OI.below h.mr hb) (Nat.le_trans h.b.size hb.size)) ?_
  intro v231 v232 v233 v234 v235 v236 v237 v238 v239 v240 Bx cp1 ad w1 hp9
  obtain ⟨b1, hBx, hBc, hOI, hown⟩ := hp9
  have h1 := h.row b1 hOI (fun q hq => (hown q hq).imp (fun h => h) (fun h => by rw [h]; rfl)) q.len
  have rBx : ext ρ w.heap.size 8 Bx = 8 := ro.ext_ge ρ _ hBx
  obtain ⟨G1, eG1, _, _, _, _⟩ := row_at h1.mr rfl h1.lm
  subst eG1
  have hA1 : ParkAt w1 A 2 r.sr r.it r.n r.at_ r.gt := (b1.block A (lt_of_heap hAt)).trans hAt
  have rA1 : ext ρ w.heap.size 8 A = 10 + k := by rw [ro.ext_lt ρ 8 (lt_of_heap hAt)]; exact rA
  change Code.wp Try.prog (.seq r43 (.seq r44 c45)) Q _ _
  refine wp_seq ?_
  obtain ⟨y0, y1, y2, y3, y4, y5, y6, y7, y8⟩ := h1.refs k hk (hc ▸ rfl : rc k = #[.bool r.pk, .int .i64 2, .int .i64 r.sr, .int .i64 r.it, .int .i64 r.n, .int .i64 r.at_, .int .i64 r.st, .int .i64 r.fr, .bool r.gt])
  have nBx : Bx ≠ Rf := fun e => by subst e; have := h1.rF; omega
  refine r43_of (kd := kd) (who := who) (sr := sr) (it := it) (n := n) (r1 := r') hk nBx (fun j => h1.frF j) y0 y1 y2 y3 y4 y5 y6 y7 y8 (ro.cel hBc 0) (ro.cel hBc 1) (ro.cel hBc 2) (ro.cel hBc 3) (ro.cel hBc 4) (ro.cel hBc 5) (ro.cel hBc 6) (ro.cel hBc 7) (ro.cel hBc 8) ?_
  intro v241 v242 v243 v244 w2 hw2
  obtain ⟨h2, keep2⟩ := (h1.weaken (E' := fun q => q ≠ k) (fun q _ => trivial)).putF k hk (fun q hq => hq) (.bool r'.pk) (.int .i64 2) (.int .i64 r'.sr) (.int .i64 r'.it) (.int .i64 r'.n) (.int .i64 r'.at_) (.int .i64 r'.st) (.int .i64 r'.fr) (.bool r'.gt)
  have nA : A ≠ Rf := fun e => by subst e; have := h1.rF; omega
  have hA2 := (keep2 A nA).trans hA1
  have hB2 := (keep2 Bx nBx).trans hBc
  rw [← hw2] at h2 hA2 hB2
  clear hw2 y0 y1 y2 y3 y4 y5 y6 y7 y8 keep2
  change Code.wp Try.prog (.seq r44 c45) Q _ _
  refine wp_seq ?_
  refine r44_of (kd := kd) (who := who) (sr := sr) (it := it) (n := n) ?_
  intro v245 w3 hw3
  rw [hw3]
  change Code.wp Try.prog c45 Q _ _
  have hptr : w2.cell? ⟨Pk, k, none⟩ = some (.pointer (some ⟨A, 0, none⟩)) := (h2.park k hk).trans (by rw [hpp]; rfl)
  have nAg : A ≠ g := fun e => by subst e; have := h2.rg; omega
  have nAS : A ≠ S := fun e => by subst e; have := h2.rS; omega
  have hA0 : w0.heap.size ≤ A := by
    rcases Nat.lt_or_ge A w0.heap.size with hh | hh
    · have := h2.z A hh; omega
    · exact hh
  have nBg : Bx ≠ g := fun e => by subst e; have := h2.rg; omega
  have nBA : Bx ≠ A := fun e => by subst e; omega
  have nPg : Pk ≠ g := fun e => by subst e; have := h2.rg; have := h2.rk; omega
  have nPA : Pk ≠ A := fun e => by subst e; have := h2.rk; omega
  have bd : Below w2.heap.size w2 w2.drew := below_drewN (Below.refl _ _) 1
  refine c45_of (kd := kd) (who := who) (sr := sr) (it := it) (n := n) (bE := decide (r'.at_ = 3)) (gt := r'.gt) (at_ := r'.at_) (R := fun w4 => J w0 w4 S g xs' ∧ ParkAt w4 A 2 r.sr r.it r.n r'.at_ r'.gt ∧ Keep2 g A w2.drew w4) hk ⟨hptr, ro.cel hB2 5, ro.cel hB2 8⟩ (by by_cases e : r'.at_ = 3 <;> simp [e]) (Lib.hid ((q.prg w0 w2.drew (h2.jj.below' bd) hA2 nAg nAS hA0).mono fun e w4 hh => ⟨hh.1, Lib.hid hh.2, Lib.hid ⟨?pc, ?b5, ?b8⟩⟩)) (Lib.hid fun W hW => (pback_of A 2 r.sr r.it r.n r'.at_ r'.gt W hW.2.1).mono fun e w4 hh => hh) ?_
  case pc => exact (ro.cel (hh.2.2.2.block (C := Pk) h2.pa nPg nPA) k).trans ((ro.cel h2.pa k).symm.trans hptr)
  case b5 => exact ro.cel (hh.2.2.2.block (C := Bx) hB2 nBg nBA) 5
  case b8 => exact ro.cel (hh.2.2.2.block (C := Bx) hB2 nBg nBA) 8
  intro v246 v247 v248 v249 v250 v251 v252 v253 v254 v255 v256 v257 v258 v259 v260 v261 v262 v263 v264 v265 w4 hw4
  obtain ⟨hJ, hA4, hK4⟩ := hw4
  have h3 := h2.below 9 bd
  obtain ⟨ρ4, h4, rA4⟩ := h3.step hk (by rw [ro.ext_lt _ 9 (lt_of_heap hA2)]; exact rA1) hJ hK4 q.len (lt_of_heap (w := w2.drew) hA2)
  obtain ⟨e1, e2, e3, e4⟩ := q.same
  have h6 := (h4.weaken (E' := fun q => q ≠ k) (fun q hq => ⟨hq, hq⟩)).join (k := k) (.inr (.inr ⟨A, r', hpr, hpp, by simp [Rw.cs], rA4, by rw [e1]; exact hpk, by rw [e2, e3, e4]; exact hA4, ⟨q.ats, by rw [e3]; exact hit1, by rw [e3]; exact hit2⟩⟩))
  exact hN _ _ _ _ _ _ _ _ _ _ _ _ _ _ _ _ _ _ _ _ _ _ _ _ _ _ _ _ _ _ _ _ _ _ _ _ _ _ _ _ _ _ _ _ _ _ _ _ _ _ _ _ _ _ _ _ _ _ _ _ _ _ _ _ _ _ _ _ _ _ _ _ _ _ _ _ _ _ _ _ _ _ _ _ _ _ _ _ _ _ _ _ _ _ _ _ _ _ _ _ _ _ _ _ _ _ _ _ _ _ _ _ _ _ _ _ _ _ _ _ _ _ _ _ _ _ _ _ _ _ _ _ _ _ _ _ _ _ _ _ _ _ _ _ _ _ _ _ _ _ _ _ _ _ _ _ _ _ _ _ _ _ _ _ _ _ _ _ _ _ _ _ _ _ _ _ _ _ _ _ _ _ _ _ _ _ _ _ _ _ _ _ _ _ _ _ _ _ _ _ _ _ _ _ _ _ _ _ _ _ _ _ _ _ _ _ _ _ _ _ _ _ _ _ _ _ _ _ _ _ _ _ _ _ _ _ _ _ _ _ _ _ _ _ _ _ _ _ _ _ _ _ _ _ _ ⟨_, _, _, _, _, h6⟩
end Go.Proofs.Ytegbifphekhgkaa.cd
