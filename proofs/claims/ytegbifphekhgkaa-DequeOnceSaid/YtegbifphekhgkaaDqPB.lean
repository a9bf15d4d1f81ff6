/- The play of DequeOnce: a round (layer 13). -/
import Derived.Test.YtegbifphekhgkaaDqPA
namespace Go.Proofs.Ytegbifphekhgkaa.dqo
open Go.Proofs.Ytegbifphekhgkaa.ro (Ro KX ext)
open Go.Proofs.Ytegbifphekhgkaa.DO
open Go.ChangeShapes Go.WideShapes Go.ChangeAt Go.RowKit

attribute [local go_sem ↓] Go.wp_at_zero Go.wp_at_succ
set_option linter.unusedVariables false
set_option linter.unusedSimpArgs false
theorem inr_eq : inr = .seq p10 (.seq p11 (.seq p13 (.seq p14 (.seq p24 (.seq p25 t26))))) := by kernel_rfl
theorem rbody_eq : rbody = .seq p8 (.seq (.block 1 inr) p9) := by kernel_rfl
/-- the steps that are asked for, in memory. -/
def Ops (w0 : World) (a1 : Option Addr) (len : Nat) : Prop := ∀ i, i < len → ∃ b off y z, a1 = some ⟨b, off, none⟩ ∧ b < w0.heap.size ∧ w0.cell? ⟨b, off + i * 3, none⟩ = some (.int .u8 y) ∧ 0 ≤ y ∧ y ≤ 255 ∧ w0.cell? ⟨b, off + i * 3 + 1, none⟩ = some (.int .u8 z) ∧ 0 ≤ z ∧ z ≤ 255
set_option maxRecDepth 20000 in
set_option maxHeartbeats 4000000 in
theorem rest_of {D len cap Rz Pl S Wv Ou nx i : Nat} {a1 : Option Addr} {tl : Int} {ps : Bool} {w0 : World} {g P n k A : Nat}  {u15 u16 u17 u18 u19 u20 u21 u22 u23 u24 u25 u26 u27 u28 u29 u30 u31 u32 u33 u34 u35 u36 u37 u38 u39 u40 u41 u42 u43 u44 u45 u46 u47 u48 u49 u50 u51 u52 u53 u54 u55 u56 u57 u58 u59 u60 u61 u62 u63 u64 u65 u66 u67 u68 u69 u70 u71 u72 u73 u74 u75 u76 u77 u78 u79 u80 u81 u82 u83 u84 u85 u86 u87 u88 u89 u90 u91 u92 u93 u94 u95 u96 u97 u98 u99 u100 u101 u102 u103 u104 u105 u106 u107 u108 u109 u110 u111 u112 u113 u114 u115 u116 u117 u118 u119 u120 u121 u122 u123 u124 u125 u126 u127 u128 u129 u130 u131 u132 u133 u134 u135 u136 u137 u138 u139 u140 u141 u142 u143 u144 u145 u146 u147 u148 u149 u150 u151 u152 u153 u154 u155 u156 u157 u158 u159 u160 u161 u162 u163 u164 u165 u166 u167 u168 u169 u170 u171 u172 u173 u174 u175 u176 u177 u178 u179 u180 u181 u182 u183 : Value} {Q : Exit → Act → World → Prop} {w : World}
    (hD2 : 2 ≤ D) (hD8 : D ≤ 8) (hP : 4 + D = P) (hn : 2 * (4 + D) + 10 = n) (hi9 : i ≤ 800) (hk : k < 4) (hkk : len ≤ i → k = i % 4) (hi2 : i < len + 400) (hl : len ≤ 300) (hM : MI w0 w Pl S g Wv Ou P D n i len tl nx ps k A)
    (hX : ∀ (v15 v16 v17 v81 v82 v83 v84 v85 v86 v87 v88 v89 v90 v91 v92 v93 v94 v95 v96 v97 v98 v99 v100 v101 v102 v103 v104 v105 v106 v107 v108 v109 v110 v111 v112 v113 v114 v115 v116 v117 v118 v119 v120 v121 v122 v123 v124 v125 v126 v127 v128 v129 v130 v131 v132 v133 v134 v135 v136 v137 v138 v139 v140 v141 v142 v143 v144 v145 v146 v147 v148 v149 v150 v151 v152 v153 v154 v155 v156 v157 v158 v159 v160 v161 v162 v163 v164 v165 v166 v167 v168 : Value)  (w' : World), LI w0 w' Pl S g Wv Ou P D n (i + 1) len tl nx ps → Q (.exit 1) ⟨#[.int .i64 (D : Int), .slice a1 len cap, undef, undef, .pointer (some ⟨Rz, 0, none⟩), .pointer (some ⟨Pl, 0, none⟩), .pointer (some ⟨S, 0, none⟩), .slice (some ⟨Wv, 0, none⟩) 4 4, .pointer (some ⟨Ou, 0, none⟩), .int .i64 tl, .int .i64 (nx : Int), .bool ps, .int .i64 (i : Int), .int .i64 (k : Int), .pointer (some ⟨A, 0, none⟩), v15, v16, v17, u18, u19, u20, u21, u22, u23, u24, u25, u26, u27, u28, u29, u30, u31, u32, u33, u34, u35, u36, u37, u38, u39, u40, u41, u42, u43, u44, u45, u46, u47, u48, u49, u50, u51, u52, u53, u54, u55, u56, u57, u58, u59, u60, u61, u62, u63, u64, u65, u66, u67, u68, u69, u70, u71, u72, u73, u74, u75, u76, u77, u78, u79, u80, v81, v82, v83, v84, v85, v86, v87, v88, v89, v90, v91, v92, v93, v94, v95, v96, v97, v98, v99, v100, v101, v102, v103, v104, v105, v106, v107, v108, v109, v110, v111, v112, v113, v114, v115, v116, v117, v118, v119, v120, v121, v122, v123, v124, v125, v126, v127, v128, v129, v130, v131, v132, v133, v134, v135, v136, v137, v138, v139, v140, v141, v142, v143, v144, v145, v146, v147, v148, v149, v150, v151, v152, v153, v154, v155, v156, v157, v158, v159, v160, v161, v162, v163, v164, v165, v166, v167, v168, u169, u170, u171, u172, u173, u174, u175, u176, u177, u178, u179, u180, u181, u182, u183], []⟩ w')
    (hN : ∀ (v15 v16 v17 v81 v82 v83 v84 v85 v86 v87 v88 v89 v90 v91 v92 v93 v94 v95 v96 v97 v98 v99 v100 v101 v102 v103 v104 v105 v106 v107 v108 v109 v110 v111 v112 v113 v114 v115 v116 v117 v118 v119 v120 v121 v122 v123 v124 v125 v126 v127 v128 v129 v130 v131 v132 v133 v134 v135 v136 v137 v138 v139 v140 v141 v142 v143 v144 v145 v146 v147 v148 v149 v150 v151 v152 v153 v154 v155 v156 v157 v158 v159 v160 v161 v162 v163 v164 v165 v166 v167 v168 : Value) (tl' : Int) (nx' : Nat) (w' : World), LI w0 w' Pl S g Wv Ou P D n (i + 1) len tl' nx' ps → Q .normal ⟨#[.int .i64 (D : Int), .slice a1 len cap, undef, undef, .pointer (some ⟨Rz, 0, none⟩), .pointer (some ⟨Pl, 0, none⟩), .pointer (some ⟨S, 0, none⟩), .slice (some ⟨Wv, 0, none⟩) 4 4, .pointer (some ⟨Ou, 0, none⟩), .int .i64 tl', .int .i64 (nx' : Int), .bool ps, .int .i64 (i : Int), .int .i64 (k : Int), .pointer (some ⟨A, 0, none⟩), v15, v16, v17, u18, u19, u20, u21, u22, u23, u24, u25, u26, u27, u28, u29, u30, u31, u32, u33, u34, u35, u36, u37, u38, u39, u40, u41, u42, u43, u44, u45, u46, u47, u48, u49, u50, u51, u52, u53, u54, u55, u56, u57, u58, u59, u60, u61, u62, u63, u64, u65, u66, u67, u68, u69, u70, u71, u72, u73, u74, u75, u76, u77, u78, u79, u80, v81, v82, v83, v84, v85, v86, v87, v88, v89, v90, v91, v92, v93, v94, v95, v96, v97, v98, v99, v100, v101, v102, v103, v104, v105, v106, v107, v108, v109, v110, v111, v112, v113, v114, v115, v116, v117, v118, v119, v120, v121, v122, v123, v124, v125, v126, v127, v128, v129, v130, v131, v132, v133, v134, v135, v136, v137, v138, v139, v140, v141, v142, v143, v144, v145, v146, v147, v148, v149, v150, v151, v152, v153, v154, v155, v156, v157, v158, v159, v160, v161, v162, v163, v164, v165, v166, v167, v168, u169, u170, u171, u172, u173, u174, u175, u176, u177, u178, u179, u180, u181, u182, u183], []⟩ w') :
    Code.wp Try.prog (.seq p24 (.seq p25 t26)) Q ⟨#[.int .i64 (D : Int), .slice a1 len cap, undef, undef, .pointer (some ⟨Rz, 0, none⟩), .pointer (some ⟨Pl, 0, none⟩), .pointer (some ⟨S, 0, none⟩), .slice (some ⟨Wv, 0, none⟩) 4 4, .pointer (some ⟨Ou, 0, none⟩), .int .i64 tl, .int .i64 (nx : Int), .bool ps, .int .i64 (i : Int), .int .i64 (k : Int), .pointer (some ⟨A, 0, none⟩), u15, u16, u17, u18, u19, u20, u21, u22, u23, u24, u25, u26, u27, u28, u29, u30, u31, u32, u33, u34, u35, u36, u37, u38, u39, u40, u41, u42, u43, u44, u45, u46, u47, u48, u49, u50, u51, u52, u53, u54, u55, u56, u57, u58, u59, u60, u61, u62, u63, u64, u65, u66, u67, u68, u69, u70, u71, u72, u73, u74, u75, u76, u77, u78, u79, u80, u81, u82, u83, u84, u85, u86, u87, u88, u89, u90, u91, u92, u93, u94, u95, u96, u97, u98, u99, u100, u101, u102, u103, u104, u105, u106, u107, u108, u109, u110, u111, u112, u113, u114, u115, u116, u117, u118, u119, u120, u121, u122, u123, u124, u125, u126, u127, u128, u129, u130, u131, u132, u133, u134, u135, u136, u137, u138, u139, u140, u141, u142, u143, u144, u145, u146, u147, u148, u149, u150, u151, u152, u153, u154, u155, u156, u157, u158, u159, u160, u161, u162, u163, u164, u165, u166, u167, u168, u169, u170, u171, u172, u173, u174, u175, u176, u177, u178, u179, u180, u181, u182, u183], []⟩ w := by
  refine step_of24 hD2 hD8 hP hn hi9 hk hkk hi2 hl hM ?_ ?_
  · intro v81 v82 v83 v84 v85 v86 v87 w1 h1
    exact hX _ _ _ _ _ _ _ _ _ _ _ _ _ _ _ _ _ _ _ _ _ _ _ _ _ _ _ _ _ _ _ _ _ _ _ _ _ _ _ _ _ _ _ _ _ _ _ _ _ _ _ _ _ _ _ _ _ _ _ _ _ _ _ _ _ _ _ _ _ _ _ _ _ _ _ _ _ _ _ _ _ _ _ _ _ _ _ _ _ _ _ w1 h1
  · intro v81 v82 v83 v84 v85 v86 v87 w1 ⟨ρ, ag, ps0, vs, ls, xs, m, l, p, a, o, h⟩
    by_cases hk0 : k = 0
    · refine owner_of hi9 hk0 h ?_
      intro v15 v16 v17 v88 v89 v90 v91 v92 v93 v94 v95 v96 v97 v98 v99 v100 v101 v102 v103 v104 v105 v106 v107 v108 v109 v110 v111 v112 v113 v114 v115 v116 v117 v118 v119 v120 v121 v122 v123 v124 v125 v126 v127 v128 v129 v130 v131 v132 v133 v134 v135 v136 v137 v138 v139 v140 v141 v142 v143 v144 v145 v146 v147 v148 v149 v150 v151 v152 v153 v154 v155 v156 v157 v158 v159 v160 v161 v162 v163 v164 v165 v166 v167 v168 tl' nx' w2 h2
      exact hN _ _ _ _ _ _ _ _ _ _ _ _ _ _ _ _ _ _ _ _ _ _ _ _ _ _ _ _ _ _ _ _ _ _ _ _ _ _ _ _ _ _ _ _ _ _ _ _ _ _ _ _ _ _ _ _ _ _ _ _ _ _ _ _ _ _ _ _ _ _ _ _ _ _ _ _ _ _ _ _ _ _ _ _ _ _ _ _ _ _ _ tl' nx' w2 h2
    · refine thief_of hi9 hk hk0 h ?_
      intro v15 v16 v88 v89 v90 v91 v92 v93 v94 v95 v96 v97 v98 v99 v100 v101 w2 h2
      exact hX _ _ _ _ _ _ _ _ _ _ _ _ _ _ _ _ _ _ _ _ _ _ _ _ _ _ _ _ _ _ _ _ _ _ _ _ _ _ _ _ _ _ _ _ _ _ _ _ _ _ _ _ _ _ _ _ _ _ _ _ _ _ _ _ _ _ _ _ _ _ _ _ _ _ _ _ _ _ _ _ _ _ _ _ _ _ _ _ _ _ _ w2 h2
set_option maxRecDepth 20000 in
set_option maxHeartbeats 4000000 in
theorem mid_of {D len cap Rz Pl S Wv Ou nx i : Nat} {a1 : Option Addr} {tl : Int} {ps : Bool} {w0 : World} {g P n k : Nat}  {u14 u15 u16 u17 u18 u19 u20 u21 u22 u23 u24 u25 u26 u27 u28 u29 u30 u31 u32 u33 u34 u35 u36 u37 u38 u39 u40 u41 u42 u43 u44 u45 u46 u47 u48 u49 u50 u51 u52 u53 u54 u55 u56 u57 u58 u59 u60 u61 u62 u63 u64 u65 u66 u67 u68 u69 u70 u71 u72 u73 u74 u75 u76 u77 u78 u79 u80 u81 u82 u83 u84 u85 u86 u87 u88 u89 u90 u91 u92 u93 u94 u95 u96 u97 u98 u99 u100 u101 u102 u103 u104 u105 u106 u107 u108 u109 u110 u111 u112 u113 u114 u115 u116 u117 u118 u119 u120 u121 u122 u123 u124 u125 u126 u127 u128 u129 u130 u131 u132 u133 u134 u135 u136 u137 u138 u139 u140 u141 u142 u143 u144 u145 u146 u147 u148 u149 u150 u151 u152 u153 u154 u155 u156 u157 u158 u159 u160 u161 u162 u163 u164 u165 u166 u167 u168 u169 u170 u171 u172 u173 u174 u175 u176 u177 u178 u179 u180 u181 u182 u183 : Value} {Q : Exit → Act → World → Prop} {w : World}
    (hD2 : 2 ≤ D) (hD8 : D ≤ 8) (hP : 4 + D = P) (hn : 2 * (4 + D) + 10 = n) (hi9 : i ≤ 800) (hk : k < 4) (hkk : len ≤ i → k = i % 4) (hi2 : i < len + 400) (hl : len ≤ 300) (ho : Ops w0 a1 len) (hL : LI w0 w Pl S g Wv Ou P D n i len tl nx ps)
    (hX : ∀ (v14 v15 v16 v17 v46 v47 v48 v49 v50 v51 v52 v53 v54 v55 v56 v57 v58 v59 v60 v61 v62 v63 v64 v65 v66 v67 v68 v69 v70 v71 v72 v73 v74 v75 v76 v77 v78 v79 v80 v81 v82 v83 v84 v85 v86 v87 v88 v89 v90 v91 v92 v93 v94 v95 v96 v97 v98 v99 v100 v101 v102 v103 v104 v105 v106 v107 v108 v109 v110 v111 v112 v113 v114 v115 v116 v117 v118 v119 v120 v121 v122 v123 v124 v125 v126 v127 v128 v129 v130 v131 v132 v133 v134 v135 v136 v137 v138 v139 v140 v141 v142 v143 v144 v145 v146 v147 v148 v149 v150 v151 v152 v153 v154 v155 v156 v157 v158 v159 v160 v161 v162 v163 v164 v165 v166 v167 v168 : Value) (pb : Bool) (w' : World), LI w0 w' Pl S g Wv Ou P D n (i + 1) len tl nx pb → Q (.exit 1) ⟨#[.int .i64 (D : Int), .slice a1 len cap, undef, undef, .pointer (some ⟨Rz, 0, none⟩), .pointer (some ⟨Pl, 0, none⟩), .pointer (some ⟨S, 0, none⟩), .slice (some ⟨Wv, 0, none⟩) 4 4, .pointer (some ⟨Ou, 0, none⟩), .int .i64 tl, .int .i64 (nx : Int), .bool pb, .int .i64 (i : Int), .int .i64 (k : Int), v14, v15, v16, v17, u18, u19, u20, u21, u22, u23, u24, u25, u26, u27, u28, u29, u30, u31, u32, u33, u34, u35, u36, u37, u38, u39, u40, u41, u42, u43, u44, u45, v46, v47, v48, v49, v50, v51, v52, v53, v54, v55, v56, v57, v58, v59, v60, v61, v62, v63, v64, v65, v66, v67, v68, v69, v70, v71, v72, v73, v74, v75, v76, v77, v78, v79, v80, v81, v82, v83, v84, v85, v86, v87, v88, v89, v90, v91, v92, v93, v94, v95, v96, v97, v98, v99, v100, v101, v102, v103, v104, v105, v106, v107, v108, v109, v110, v111, v112, v113, v114, v115, v116, v117, v118, v119, v120, v121, v122, v123, v124, v125, v126, v127, v128, v129, v130, v131, v132, v133, v134, v135, v136, v137, v138, v139, v140, v141, v142, v143, v144, v145, v146, v147, v148, v149, v150, v151, v152, v153, v154, v155, v156, v157, v158, v159, v160, v161, v162, v163, v164, v165, v166, v167, v168, u169, u170, u171, u172, u173, u174, u175, u176, u177, u178, u179, u180, u181, u182, u183], []⟩ w')
    (hN : ∀ (v14 v15 v16 v17 v46 v47 v48 v49 v50 v51 v52 v53 v54 v55 v56 v57 v58 v59 v60 v61 v62 v63 v64 v65 v66 v67 v68 v69 v70 v71 v72 v73 v74 v75 v76 v77 v78 v79 v80 v81 v82 v83 v84 v85 v86 v87 v88 v89 v90 v91 v92 v93 v94 v95 v96 v97 v98 v99 v100 v101 v102 v103 v104 v105 v106 v107 v108 v109 v110 v111 v112 v113 v114 v115 v116 v117 v118 v119 v120 v121 v122 v123 v124 v125 v126 v127 v128 v129 v130 v131 v132 v133 v134 v135 v136 v137 v138 v139 v140 v141 v142 v143 v144 v145 v146 v147 v148 v149 v150 v151 v152 v153 v154 v155 v156 v157 v158 v159 v160 v161 v162 v163 v164 v165 v166 v167 v168 : Value) (pb : Bool) (tl' : Int) (nx' : Nat) (w' : World), LI w0 w' Pl S g Wv Ou P D n (i + 1) len tl' nx' pb → Q .normal ⟨#[.int .i64 (D : Int), .slice a1 len cap, undef, undef, .pointer (some ⟨Rz, 0, none⟩), .pointer (some ⟨Pl, 0, none⟩), .pointer (some ⟨S, 0, none⟩), .slice (some ⟨Wv, 0, none⟩) 4 4, .pointer (some ⟨Ou, 0, none⟩), .int .i64 tl', .int .i64 (nx' : Int), .bool pb, .int .i64 (i : Int), .int .i64 (k : Int), v14, v15, v16, v17, u18, u19, u20, u21, u22, u23, u24, u25, u26, u27, u28, u29, u30, u31, u32, u33, u34, u35, u36, u37, u38, u39, u40, u41, u42, u43, u44, u45, v46, v47, v48, v49, v50, v51, v52, v53, v54, v55, v56, v57, v58, v59, v60, v61, v62, v63, v64, v65, v66, v67, v68, v69, v70, v71, v72, v73, v74, v75, v76, v77, v78, v79, v80, v81, v82, v83, v84, v85, v86, v87, v88, v89, v90, v91, v92, v93, v94, v95, v96, v97, v98, v99, v100, v101, v102, v103, v104, v105, v106, v107, v108, v109, v110, v111, v112, v113, v114, v115, v116, v117, v118, v119, v120, v121, v122, v123, v124, v125, v126, v127, v128, v129, v130, v131, v132, v133, v134, v135, v136, v137, v138, v139, v140, v141, v142, v143, v144, v145, v146, v147, v148, v149, v150, v151, v152, v153, v154, v155, v156, v157, v158, v159, v160, v161, v162, v163, v164, v165, v166, v167, v168, u169, u170, u171, u172, u173, u174, u175, u176, u177, u178, u179, u180, u181, u182, u183], []⟩ w') :
    Code.wp Try.prog (.seq p13 (.seq p14 (.seq p24 (.seq p25 t26)))) Q ⟨#[.int .i64 (D : Int), .slice a1 len cap, undef, undef, .pointer (some ⟨Rz, 0, none⟩), .pointer (some ⟨Pl, 0, none⟩), .pointer (some ⟨S, 0, none⟩), .slice (some ⟨Wv, 0, none⟩) 4 4, .pointer (some ⟨Ou, 0, none⟩), .int .i64 tl, .int .i64 (nx : Int), .bool ps, .int .i64 (i : Int), .int .i64 (k : Int), u14, u15, u16, u17, u18, u19, u20, u21, u22, u23, u24, u25, u26, u27, u28, u29, u30, u31, u32, u33, u34, u35, u36, u37, u38, u39, u40, u41, u42, u43, u44, u45, u46, u47, u48, u49, u50, u51, u52, u53, u54, u55, u56, u57, u58, u59, u60, u61, u62, u63, u64, u65, u66, u67, u68, u69, u70, u71, u72, u73, u74, u75, u76, u77, u78, u79, u80, u81, u82, u83, u84, u85, u86, u87, u88, u89, u90, u91, u92, u93, u94, u95, u96, u97, u98, u99, u100, u101, u102, u103, u104, u105, u106, u107, u108, u109, u110, u111, u112, u113, u114, u115, u116, u117, u118, u119, u120, u121, u122, u123, u124, u125, u126, u127, u128, u129, u130, u131, u132, u133, u134, u135, u136, u137, u138, u139, u140, u141, u142, u143, u144, u145, u146, u147, u148, u149, u150, u151, u152, u153, u154, u155, u156, u157, u158, u159, u160, u161, u162, u163, u164, u165, u166, u167, u168, u169, u170, u171, u172, u173, u174, u175, u176, u177, u178, u179, u180, u181, u182, u183], []⟩ w := by
  obtain ⟨ρ, ag, ps0, vs, ls, xs, m, p, h⟩ := hL
  refine wp_seq ?_
  refine p13_of hk (h.os.ptr k hk) ?_
  intro v46 v47 v48 v49 w1 hw1
  rw [hw1]
  change Code.wp Try.prog (.seq p14 (.seq p24 (.seq p25 t26))) Q _ _
  refine wp_seq ?_
  cases hp : ps0 k with
  | none =>
    have hidle : (ag k).pc = .idle := by
      rcases h.os.on k hk trivial with ⟨_, e⟩ | ⟨A, o, e, _⟩
      · exact e
      · rw [hp] at e; cases e
    rw [p14_eq]
    refine wp_seq ?_
    refine r14_nil ?_
    intro v50 w2 hw2
    rw [hw2]
    change Code.wp Try.prog (.cond (.tmp 51) bg .skip) _ _ _
    refine wp_cond_true rfl ?_
    by_cases hi : i < len
    · obtain ⟨b, off, y0, y, ha, hbl, _, _, _, hz1, hy0, hy1⟩ := ho i hi
      refine bg_of hD2 hD8 hi9 hl hi ha hbl hz1 hy0 hy1 hk h hidle ?_
      intro v52 v53 v54 v55 v56 v57 v58 v59 v60 v61 v62 v63 v64 v65 v66 v67 v68 v69 v70 v71 v72 v73 v74 v75 v76 v77 v78 v79 v80 A pb w3 hM
      change Code.wp Try.prog (.seq p24 (.seq p25 t26)) Q _ _
      refine rest_of hD2 hD8 hP hn hi9 hk hkk hi2 hl hM ?_ ?_
      · intro v15 v16 v17 v81 v82 v83 v84 v85 v86 v87 v88 v89 v90 v91 v92 v93 v94 v95 v96 v97 v98 v99 v100 v101 v102 v103 v104 v105 v106 v107 v108 v109 v110 v111 v112 v113 v114 v115 v116 v117 v118 v119 v120 v121 v122 v123 v124 v125 v126 v127 v128 v129 v130 v131 v132 v133 v134 v135 v136 v137 v138 v139 v140 v141 v142 v143 v144 v145 v146 v147 v148 v149 v150 v151 v152 v153 v154 v155 v156 v157 v158 v159 v160 v161 v162 v163 v164 v165 v166 v167 v168 w5 h5
        exact hX _ _ _ _ _ _ _ _ _ _ _ _ _ _ _ _ _ _ _ _ _ _ _ _ _ _ _ _ _ _ _ _ _ _ _ _ _ _ _ _ _ _ _ _ _ _ _ _ _ _ _ _ _ _ _ _ _ _ _ _ _ _ _ _ _ _ _ _ _ _ _ _ _ _ _ _ _ _ _ _ _ _ _ _ _ _ _ _ _ _ _ _ _ _ _ _ _ _ _ _ _ _ _ _ _ _ _ _ _ _ _ _ _ _ _ _ _ _ _ _ _ _ _ _ _ _ _ _ w5 h5
      · intro v15 v16 v17 v81 v82 v83 v84 v85 v86 v87 v88 v89 v90 v91 v92 v93 v94 v95 v96 v97 v98 v99 v100 v101 v102 v103 v104 v105 v106 v107 v108 v109 v110 v111 v112 v113 v114 v115 v116 v117 v118 v119 v120 v121 v122 v123 v124 v125 v126 v127 v128 v129 v130 v131 v132 v133 v134 v135 v136 v137 v138 v139 v140 v141 v142 v143 v144 v145 v146 v147 v148 v149 v150 v151 v152 v153 v154 v155 v156 v157 v158 v159 v160 v161 v162 v163 v164 v165 v166 v167 v168 tl' nx' w5 h5
        exact hN _ _ _ _ _ _ _ _ _ _ _ _ _ _ _ _ _ _ _ _ _ _ _ _ _ _ _ _ _ _ _ _ _ _ _ _ _ _ _ _ _ _ _ _ _ _ _ _ _ _ _ _ _ _ _ _ _ _ _ _ _ _ _ _ _ _ _ _ _ _ _ _ _ _ _ _ _ _ _ _ _ _ _ _ _ _ _ _ _ _ _ _ _ _ _ _ _ _ _ _ _ _ _ _ _ _ _ _ _ _ _ _ _ _ _ _ _ _ _ _ _ _ _ _ _ _ _ _ tl' nx' w5 h5
    · rw [bg_eq]
      refine wp_seq ?_
      refine wp_block ?_
      refine wp_seq ?_
      refine r17_yes (by omega) hl (by omega) ?_
      intro v56 v57 v58 v59 w3 hw3
      rw [hw3]
      refine wp_cond_true rfl ?_
      refine wp_exit ?_
      change Q (.exit 1) _ _
      have hk2 := hkk (by omega)
      exact hX _ _ _ _ _ _ _ _ _ _ _ _ _ _ _ _ _ _ _ _ _ _ _ _ _ _ _ _ _ _ _ _ _ _ _ _ _ _ _ _ _ _ _ _ _ _ _ _ _ _ _ _ _ _ _ _ _ _ _ _ _ _ _ _ _ _ _ _ _ _ _ _ _ _ _ _ _ _ _ _ _ _ _ _ _ _ _ _ _ _ _ _ _ _ _ _ _ _ _ _ _ _ _ _ _ _ _ _ _ _ _ _ _ _ _ _ _ _ _ _ _ _ _ _ _ _ _ _ _ ⟨_, _, _, _, _, _, _, _, h.skip (by omega) hi2 (fun hm => hm.1 (by rw [← hk2]; exact hidle))⟩
  | some A =>
    refine p14_at ?_
    intro v50 v51 w2 hw2
    rw [hw2]
    have hM : MI w0 w Pl S g Wv Ou P D n i len tl nx ps k A := ⟨_, _, _, _, _, _, _, _, h, hp⟩
    change Code.wp Try.prog (.seq p24 (.seq p25 t26)) Q _ _
    refine rest_of hD2 hD8 hP hn hi9 hk hkk hi2 hl hM ?_ ?_
    · intro v15 v16 v17 v81 v82 v83 v84 v85 v86 v87 v88 v89 v90 v91 v92 v93 v94 v95 v96 v97 v98 v99 v100 v101 v102 v103 v104 v105 v106 v107 v108 v109 v110 v111 v112 v113 v114 v115 v116 v117 v118 v119 v120 v121 v122 v123 v124 v125 v126 v127 v128 v129 v130 v131 v132 v133 v134 v135 v136 v137 v138 v139 v140 v141 v142 v143 v144 v145 v146 v147 v148 v149 v150 v151 v152 v153 v154 v155 v156 v157 v158 v159 v160 v161 v162 v163 v164 v165 v166 v167 v168 w5 h5
      exact hX _ _ _ _ _ _ _ _ _ _ _ _ _ _ _ _ _ _ _ _ _ _ _ _ _ _ _ _ _ _ _ _ _ _ _ _ _ _ _ _ _ _ _ _ _ _ _ _ _ _ _ _ _ _ _ _ _ _ _ _ _ _ _ _ _ _ _ _ _ _ _ _ _ _ _ _ _ _ _ _ _ _ _ _ _ _ _ _ _ _ _ _ _ _ _ _ _ _ _ _ _ _ _ _ _ _ _ _ _ _ _ _ _ _ _ _ _ _ _ _ _ _ _ _ _ _ _ _ w5 h5
    · intro v15 v16 v17 v81 v82 v83 v84 v85 v86 v87 v88 v89 v90 v91 v92 v93 v94 v95 v96 v97 v98 v99 v100 v101 v102 v103 v104 v105 v106 v107 v108 v109 v110 v111 v112 v113 v114 v115 v116 v117 v118 v119 v120 v121 v122 v123 v124 v125 v126 v127 v128 v129 v130 v131 v132 v133 v134 v135 v136 v137 v138 v139 v140 v141 v142 v143 v144 v145 v146 v147 v148 v149 v150 v151 v152 v153 v154 v155 v156 v157 v158 v159 v160 v161 v162 v163 v164 v165 v166 v167 v168 tl' nx' w5 h5
      exact hN _ _ _ _ _ _ _ _ _ _ _ _ _ _ _ _ _ _ _ _ _ _ _ _ _ _ _ _ _ _ _ _ _ _ _ _ _ _ _ _ _ _ _ _ _ _ _ _ _ _ _ _ _ _ _ _ _ _ _ _ _ _ _ _ _ _ _ _ _ _ _ _ _ _ _ _ _ _ _ _ _ _ _ _ _ _ _ _ _ _ _ _ _ _ _ _ _ _ _ _ _ _ _ _ _ _ _ _ _ _ _ _ _ _ _ _ _ _ _ _ _ _ _ _ _ _ _ _ tl' nx' w5 h5
set_option maxRecDepth 20000 in
set_option maxHeartbeats 4000000 in
theorem round_of {D len cap Rz Pl S Wv Ou nx i : Nat} {a1 : Option Addr} {tl : Int} {ps : Bool} {w0 : World} {g P n : Nat}  {u13 u14 u15 u16 u17 u18 u19 u20 u21 u22 u23 u24 u25 u26 u27 u28 u29 u30 u31 u32 u33 u34 u35 u36 u37 u38 u39 u40 u41 u42 u43 u44 u45 u46 u47 u48 u49 u50 u51 u52 u53 u54 u55 u56 u57 u58 u59 u60 u61 u62 u63 u64 u65 u66 u67 u68 u69 u70 u71 u72 u73 u74 u75 u76 u77 u78 u79 u80 u81 u82 u83 u84 u85 u86 u87 u88 u89 u90 u91 u92 u93 u94 u95 u96 u97 u98 u99 u100 u101 u102 u103 u104 u105 u106 u107 u108 u109 u110 u111 u112 u113 u114 u115 u116 u117 u118 u119 u120 u121 u122 u123 u124 u125 u126 u127 u128 u129 u130 u131 u132 u133 u134 u135 u136 u137 u138 u139 u140 u141 u142 u143 u144 u145 u146 u147 u148 u149 u150 u151 u152 u153 u154 u155 u156 u157 u158 u159 u160 u161 u162 u163 u164 u165 u166 u167 u168 u169 u170 u171 u172 u173 u174 u175 u176 u177 u178 u179 u180 u181 u182 u183 : Value} {Q : Exit → Act → World → Prop} {w : World}
    (hD2 : 2 ≤ D) (hD8 : D ≤ 8) (hP : 4 + D = P) (hn : 2 * (4 + D) + 10 = n) (hi2 : i < len + 400) (hl : len ≤ 300) (ho : Ops w0 a1 len) (hL : LI w0 w Pl S g Wv Ou P D n i len tl nx ps)
    (hN : ∀ (v13 v14 v15 v16 v17 v26 v27 v28 v29 v30 v31 v32 v33 v34 v35 v36 v37 v38 v39 v40 v41 v42 v43 v44 v45 v46 v47 v48 v49 v50 v51 v52 v53 v54 v55 v56 v57 v58 v59 v60 v61 v62 v63 v64 v65 v66 v67 v68 v69 v70 v71 v72 v73 v74 v75 v76 v77 v78 v79 v80 v81 v82 v83 v84 v85 v86 v87 v88 v89 v90 v91 v92 v93 v94 v95 v96 v97 v98 v99 v100 v101 v102 v103 v104 v105 v106 v107 v108 v109 v110 v111 v112 v113 v114 v115 v116 v117 v118 v119 v120 v121 v122 v123 v124 v125 v126 v127 v128 v129 v130 v131 v132 v133 v134 v135 v136 v137 v138 v139 v140 v141 v142 v143 v144 v145 v146 v147 v148 v149 v150 v151 v152 v153 v154 v155 v156 v157 v158 v159 v160 v161 v162 v163 v164 v165 v166 v167 v168 : Value) (pb : Bool) (tl' : Int) (nx' : Nat) (w' : World), LI w0 w' Pl S g Wv Ou P D n (i + 1) len tl' nx' pb → Q .normal ⟨#[.int .i64 (D : Int), .slice a1 len cap, undef, undef, .pointer (some ⟨Rz, 0, none⟩), .pointer (some ⟨Pl, 0, none⟩), .pointer (some ⟨S, 0, none⟩), .slice (some ⟨Wv, 0, none⟩) 4 4, .pointer (some ⟨Ou, 0, none⟩), .int .i64 tl', .int .i64 (nx' : Int), .bool pb, .int .i64 ((i + 1 : Nat) : Int), v13, v14, v15, v16, v17, u18, u19, u20, u21, u22, u23, u24, u25, v26, v27, v28, v29, v30, v31, v32, v33, v34, v35, v36, v37, v38, v39, v40, v41, v42, v43, v44, v45, v46, v47, v48, v49, v50, v51, v52, v53, v54, v55, v56, v57, v58, v59, v60, v61, v62, v63, v64, v65, v66, v67, v68, v69, v70, v71, v72, v73, v74, v75, v76, v77, v78, v79, v80, v81, v82, v83, v84, v85, v86, v87, v88, v89, v90, v91, v92, v93, v94, v95, v96, v97, v98, v99, v100, v101, v102, v103, v104, v105, v106, v107, v108, v109, v110, v111, v112, v113, v114, v115, v116, v117, v118, v119, v120, v121, v122, v123, v124, v125, v126, v127, v128, v129, v130, v131, v132, v133, v134, v135, v136, v137, v138, v139, v140, v141, v142, v143, v144, v145, v146, v147, v148, v149, v150, v151, v152, v153, v154, v155, v156, v157, v158, v159, v160, v161, v162, v163, v164, v165, v166, v167, v168, u169, u170, u171, u172, u173, u174, u175, u176, u177, u178, u179, u180, u181, u182, u183], []⟩ w') :
    Code.wp Try.prog rbody Q ⟨#[.int .i64 (D : Int), .slice a1 len cap, undef, undef, .pointer (some ⟨Rz, 0, none⟩), .pointer (some ⟨Pl, 0, none⟩), .pointer (some ⟨S, 0, none⟩), .slice (some ⟨Wv, 0, none⟩) 4 4, .pointer (some ⟨Ou, 0, none⟩), .int .i64 tl, .int .i64 (nx : Int), .bool ps, .int .i64 (i : Int), u13, u14, u15, u16, u17, u18, u19, u20, u21, u22, u23, u24, u25, u26, u27, u28, u29, u30, u31, u32, u33, u34, u35, u36, u37, u38, u39, u40, u41, u42, u43, u44, u45, u46, u47, u48, u49, u50, u51, u52, u53, u54, u55, u56, u57, u58, u59, u60, u61, u62, u63, u64, u65, u66, u67, u68, u69, u70, u71, u72, u73, u74, u75, u76, u77, u78, u79, u80, u81, u82, u83, u84, u85, u86, u87, u88, u89, u90, u91, u92, u93, u94, u95, u96, u97, u98, u99, u100, u101, u102, u103, u104, u105, u106, u107, u108, u109, u110, u111, u112, u113, u114, u115, u116, u117, u118, u119, u120, u121, u122, u123, u124, u125, u126, u127, u128, u129, u130, u131, u132, u133, u134, u135, u136, u137, u138, u139, u140, u141, u142, u143, u144, u145, u146, u147, u148, u149, u150, u151, u152, u153, u154, u155, u156, u157, u158, u159, u160, u161, u162, u163, u164, u165, u166, u167, u168, u169, u170, u171, u172, u173, u174, u175, u176, u177, u178, u179, u180, u181, u182, u183], []⟩ w := by
  have hi9 : i ≤ 800 := by omega
  rw [rbody_eq]
  refine wp_seq ?_
  refine p8_in hi2 hl ?_
  intro v26 v27 v28 v29 v30 w1 hw1
  rw [hw1]
  change Code.wp Try.prog (.seq (.block 1 inr) p9) Q _ _
  refine wp_seq ?_
  refine wp_block ?_
  rw [inr_eq]
  refine wp_seq ?_
  refine p10_of (k := i % 4) rfl ?_
  intro v33 v34 w2 hw2
  rw [hw2]
  change Code.wp Try.prog (.seq p11 (.seq p13 (.seq p14 (.seq p24 (.seq p25 t26))))) _ _ _
  refine wp_seq ?_
  by_cases hi : i < len
  · obtain ⟨b, off, y, z, ha, hbl, hz0, hy0, hy1, _⟩ := ho i hi
    obtain ⟨ρ, ag, ps0, vs, ls, xs, m, p, h⟩ := id hL
    refine p11_yes (k := y.toNat % 4) hi ha ((h.os.b.cell (p := ⟨b, off + i * 3, none⟩) hbl).trans hz0) hy0 hy1 rfl ?_
    intro v35 v36 v37 v38 v39 v40 v41 v42 v43 v44 v45 w3 hw3
    rw [hw3]
    change Code.wp Try.prog (.seq p13 (.seq p14 (.seq p24 (.seq p25 t26)))) _ _ _
    refine mid_of hD2 hD8 hP hn hi9 (by omega) (fun e => by omega) hi2 hl ho hL ?_ ?_
    · intro v14 v15 v16 v17 v46 v47 v48 v49 v50 v51 v52 v53 v54 v55 v56 v57 v58 v59 v60 v61 v62 v63 v64 v65 v66 v67 v68 v69 v70 v71 v72 v73 v74 v75 v76 v77 v78 v79 v80 v81 v82 v83 v84 v85 v86 v87 v88 v89 v90 v91 v92 v93 v94 v95 v96 v97 v98 v99 v100 v101 v102 v103 v104 v105 v106 v107 v108 v109 v110 v111 v112 v113 v114 v115 v116 v117 v118 v119 v120 v121 v122 v123 v124 v125 v126 v127 v128 v129 v130 v131 v132 v133 v134 v135 v136 v137 v138 v139 v140 v141 v142 v143 v144 v145 v146 v147 v148 v149 v150 v151 v152 v153 v154 v155 v156 v157 v158 v159 v160 v161 v162 v163 v164 v165 v166 v167 v168 pb w4 h4
      refine inblock_exit ?_
      change Code.wp Try.prog p9 Q _ _
      refine p9_of (by omega) ?_
      intro v31 v32 w6 hw6
      rw [hw6]
      exact hN _ _ _ _ _ _ _ _ _ _ _ _ _ _ _ _ _ _ _ _ _ _ _ _ _ _ _ _ _ _ _ _ _ _ _ _ _ _ _ _ _ _ _ _ _ _ _ _ _ _ _ _ _ _ _ _ _ _ _ _ _ _ _ _ _ _ _ _ _ _ _ _ _ _ _ _ _ _ _ _ _ _ _ _ _ _ _ _ _ _ _ _ _ _ _ _ _ _ _ _ _ _ _ _ _ _ _ _ _ _ _ _ _ _ _ _ _ _ _ _ _ _ _ _ _ _ _ _ _ _ _ _ _ _ _ _ _ _ _ _ _ _ _ _ _ _ _ _ _ _ _ _ h4
    · intro v14 v15 v16 v17 v46 v47 v48 v49 v50 v51 v52 v53 v54 v55 v56 v57 v58 v59 v60 v61 v62 v63 v64 v65 v66 v67 v68 v69 v70 v71 v72 v73 v74 v75 v76 v77 v78 v79 v80 v81 v82 v83 v84 v85 v86 v87 v88 v89 v90 v91 v92 v93 v94 v95 v96 v97 v98 v99 v100 v101 v102 v103 v104 v105 v106 v107 v108 v109 v110 v111 v112 v113 v114 v115 v116 v117 v118 v119 v120 v121 v122 v123 v124 v125 v126 v127 v128 v129 v130 v131 v132 v133 v134 v135 v136 v137 v138 v139 v140 v141 v142 v143 v144 v145 v146 v147 v148 v149 v150 v151 v152 v153 v154 v155 v156 v157 v158 v159 v160 v161 v162 v163 v164 v165 v166 v167 v168 pb tl' nx' w4 h4
      change Code.wp Try.prog p9 Q _ _
      refine p9_of (by omega) ?_
      intro v31 v32 w6 hw6
      rw [hw6]
      exact hN _ _ _ _ _ _ _ _ _ _ _ _ _ _ _ _ _ _ _ _ _ _ _ _ _ _ _ _ _ _ _ _ _ _ _ _ _ _ _ _ _ _ _ _ _ _ _ _ _ _ _ _ _ _ _ _ _ _ _ _ _ _ _ _ _ _ _ _ _ _ _ _ _ _ _ _ _ _ _ _ _ _ _ _ _ _ _ _ _ _ _ _ _ _ _ _ _ _ _ _ _ _ _ _ _ _ _ _ _ _ _ _ _ _ _ _ _ _ _ _ _ _ _ _ _ _ _ _ _ _ _ _ _ _ _ _ _ _ _ _ _ _ _ _ _ _ _ _ _ _ _ _ h4
  · refine p11_no hi hl ?_
    intro v35 v36 v37 v38 w3 hw3
    rw [hw3]
    change Code.wp Try.prog (.seq p13 (.seq p14 (.seq p24 (.seq p25 t26)))) _ _ _
    refine mid_of hD2 hD8 hP hn hi9 (by omega) (fun _ => rfl) hi2 hl ho hL ?_ ?_
    · intro v14 v15 v16 v17 v46 v47 v48 v49 v50 v51 v52 v53 v54 v55 v56 v57 v58 v59 v60 v61 v62 v63 v64 v65 v66 v67 v68 v69 v70 v71 v72 v73 v74 v75 v76 v77 v78 v79 v80 v81 v82 v83 v84 v85 v86 v87 v88 v89 v90 v91 v92 v93 v94 v95 v96 v97 v98 v99 v100 v101 v102 v103 v104 v105 v106 v107 v108 v109 v110 v111 v112 v113 v114 v115 v116 v117 v118 v119 v120 v121 v122 v123 v124 v125 v126 v127 v128 v129 v130 v131 v132 v133 v134 v135 v136 v137 v138 v139 v140 v141 v142 v143 v144 v145 v146 v147 v148 v149 v150 v151 v152 v153 v154 v155 v156 v157 v158 v159 v160 v161 v162 v163 v164 v165 v166 v167 v168 pb w4 h4
      refine inblock_exit ?_
      change Code.wp Try.prog p9 Q _ _
      refine p9_of (by omega) ?_
      intro v31 v32 w6 hw6
      rw [hw6]
      exact hN _ _ _ _ _ _ _ _ _ _ _ _ _ _ _ _ _ _ _ _ _ _ _ _ _ _ _ _ _ _ _ _ _ _ _ _ _ _ _ _ _ _ _ _ _ _ _ _ _ _ _ _ _ _ _ _ _ _ _ _ _ _ _ _ _ _ _ _ _ _ _ _ _ _ _ _ _ _ _ _ _ _ _ _ _ _ _ _ _ _ _ _ _ _ _ _ _ _ _ _ _ _ _ _ _ _ _ _ _ _ _ _ _ _ _ _ _ _ _ _ _ _ _ _ _ _ _ _ _ _ _ _ _ _ _ _ _ _ _ _ _ _ _ _ _ _ _ _ _ _ _ _ h4
    · intro v14 v15 v16 v17 v46 v47 v48 v49 v50 v51 v52 v53 v54 v55 v56 v57 v58 v59 v60 v61 v62 v63 v64 v65 v66 v67 v68 v69 v70 v71 v72 v73 v74 v75 v76 v77 v78 v79 v80 v81 v82 v83 v84 v85 v86 v87 v88 v89 v90 v91 v92 v93 v94 v95 v96 v97 v98 v99 v100 v101 v102 v103 v104 v105 v106 v107 v108 v109 v110 v111 v112 v113 v114 v115 v116 v117 v118 v119 v120 v121 v122 v123 v124 v125 v126 v127 v128 v129 v130 v131 v132 v133 v134 v135 v136 v137 v138 v139 v140 v141 v142 v143 v144 v145 v146 v147 v148 v149 v150 v151 v152 v153 v154 v155 v156 v157 v158 v159 v160 v161 v162 v163 v164 v165 v166 v167 v168 pb tl' nx' w4 h4
      change Code.wp Try.prog p9 Q _ _
      refine p9_of (by omega) ?_
      intro v31 v32 w6 hw6
      rw [hw6]
      exact hN _ _ _ _ _ _ _ _ _ _ _ _ _ _ _ _ _ _ _ _ _ _ _ _ _ _ _ _ _ _ _ _ _ _ _ _ _ _ _ _ _ _ _ _ _ _ _ _ _ _ _ _ _ _ _ _ _ _ _ _ _ _ _ _ _ _ _ _ _ _ _ _ _ _ _ _ _ _ _ _ _ _ _ _ _ _ _ _ _ _ _ _ _ _ _ _ _ _ _ _ _ _ _ _ _ _ _ _ _ _ _ _ _ _ _ _ _ _ _ _ _ _ _ _ _ _ _ _ _ _ _ _ _ _ _ _ _ _ _ _ _ _ _ _ _ _ _ _ _ _ _ _ h4
end Go.Proofs.Ytegbifphekhgkaa.dqo
