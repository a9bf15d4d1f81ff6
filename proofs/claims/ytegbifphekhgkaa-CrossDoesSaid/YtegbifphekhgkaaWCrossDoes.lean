/- Whatever walks of any loops do, in whatever order they step, and whatever else is told meanwhile: all words are, and the walks tell, as the document's own do: the law CrossDoes answers true. No condition. -/
import Derived.Test.YtegbifphekhgkaaCdH
import Derived.Test.YtegbifphekhgkaaCrV
import Derived.Test.YtegbifphekhgkaaGrids
import Derived.Deep.CutBlock
namespace Go.Proofs.Ytegbifphekhgkaa.crossDoes
open Go.ChangeShapes Go.WideShapes Go.ChangeAt Go.RowKit
open Go.Proofs.Ytegbifphekhgkaa.cd
attribute [local go_sem ↓] Go.wp_at_zero Go.wp_at_succ
set_option linter.unusedVariables false
set_option linter.unusedSimpArgs false
theorem four_boxes (w : World) (o1 o2 o3 o4 : Obj) : (((((w.alloc o1).alloc o2).alloc o3).alloc o4).drew).heap[w.heap.size]? = some o1 ∧ (((((w.alloc o1).alloc o2).alloc o3).alloc o4).drew).heap[w.heap.size + 1]? = some o2 ∧ (((((w.alloc o1).alloc o2).alloc o3).alloc o4).drew).heap[w.heap.size + 1 + 1]? = some o3 ∧ (((((w.alloc o1).alloc o2).alloc o3).alloc o4).drew).heap[w.heap.size + 1 + 1 + 1]? = some o4 ∧ Below w.heap.size w (((((w.alloc o1).alloc o2).alloc o3).alloc o4).drew) := by
  refine ⟨?_, ?_, ?_, ?_, below_drewN (n := 1) (by go_grown) ⟩
  · show ((((w.heap.push _).push _).push _).push _)[w.heap.size]? = _
    simp only [Array.getElem?_push, Array.size_push]
    rw [if_neg (by omega), if_neg (by omega), if_neg (by omega), if_pos trivial]
  · show ((((w.heap.push _).push _).push _).push _)[w.heap.size + 1]? = _
    simp only [Array.getElem?_push, Array.size_push]
    rw [if_neg (by omega), if_neg (by omega), if_pos trivial]
  · show ((((w.heap.push _).push _).push _).push _)[w.heap.size + 1 + 1]? = _
    simp only [Array.getElem?_push, Array.size_push]
    rw [if_neg (by omega), if_pos trivial]
  · show ((((w.heap.push _).push _).push _).push _)[w.heap.size + 1 + 1 + 1]? = _
    simp only [Array.getElem?_push, Array.size_push]
    rw [if_pos trivial]
theorem two_boxes1 {w W : World} {o1 o2 : Obj} (h : (w.alloc o1).alloc o2 = W) : W.heap[w.heap.size]? = some o1 ∧ W.heap[w.heap.size + 1]? = some o2 ∧ Below w.heap.size w W := by
  rw [← h]
  refine ⟨?_, ?_, by go_grown⟩
  · show ((w.heap.push _).push _)[w.heap.size]? = _
    rw [Array.getElem?_push, Array.getElem?_push]
    simp
  · show ((w.heap.push _).push _)[w.heap.size + 1]? = _
    rw [Array.getElem?_push]
    simp
set_option maxRecDepth 20000 in
set_option maxHeartbeats 4000000 in
theorem core (len cap : Nat) (a0 : Option Addr) (w : World) (hlen : len ≤ 200) (ho : Ops w a0 len) :
    Calls Try.prog 8 #[.slice a0 len cap] w fun e w' => e = .returned (.bool true) ∧ Below w.heap.size w w' := by
  have hd5 : decide (200 < len) = false := by simp; omega
  have hd6 : ¬ (200 : Int) < (len : Int) := by omega
  have hmk1 : ∀ w, (Instr.makeSlice 30 (.int .i64 61) (.int .i64 61)).run Try.prog w = _ := fun w => dqo.run_make_cells1 Try.prog 30 3 (.int .i64 0) 1 8 Try.underlying30 (by kernel_rfl) .i64 .i64 61 (by omega) (by omega) w
  have hmk2 : ∀ w, (Instr.makeSlice 62 (.int .i64 3) (.int .i64 3)).run Try.prog w = _ := fun w => dqo.run_make_cells1 Try.prog 62 71 (.pointer none) 1 8 Try.underlying62 (by kernel_rfl) .i64 .i64 3 (by omega) (by omega) w
  have hmk3 : ∀ w, (Instr.makeSlice 63 (.int .i64 3) (.int .i64 3)).run Try.prog w = _ := fun w => dqo.run_make_cells1 Try.prog 63 72 (.pointer none) 1 8 Try.underlying63 (by kernel_rfl) .i64 .i64 3 (by omega) (by omega) w
  have hmk4 : ∀ w, (Instr.makeSlice 64 (.int .i64 3) (.int .i64 3)).run Try.prog w = _ := fun w => dqo.run_make_cells1 Try.prog 64 74 (.agg #[.bool false, .int .i64 0, .int .i64 0, .int .i64 0, .int .i64 0, .int .i64 0, .int .i64 0, .int .i64 0, .bool false]) 9 72 Try.underlying64 (by kernel_rfl) .i64 .i64 3 (by omega) (by omega) w
  have HLEN := Lib.hid hlen
  have HO := Lib.hid ho
  clear hlen ho
  go_enter Try.func8, Try.ntmps8
  go_wp2_with fail
  refine (works19 w).mono ?_
  rintro e wk ⟨rfl, hbk⟩
  go_wp2_with fail
  refine (plan17 wk).mono ?_
  rintro e w1 ⟨rfl, hb1⟩
  have HBK := Lib.hid (btr hbk hb1)
  have HP1 := Lib.hid (btr hbk hb1).size
  clear hbk hb1
  go_wp2_with fail
  obtain ⟨W, hW⟩ : ∃ W, W = (w1.alloc (Obj.cells #[Value.int .i64 1, .int .i64 3, .int .i64 3, .int .i64 3] 25)).alloc (Obj.cells #[Value.int .i64 1, .int .i64 3, .int .i64 3, .int .i64 3] 61) := ⟨_, rfl⟩
  obtain ⟨Pl, hPl⟩ : ∃ Pl, w1.heap.size = Pl := ⟨_, rfl⟩
  have HP2 : Hid (W.heap[Pl]? = some (.cells #[.int .i64 1, .int .i64 3, .int .i64 3, .int .i64 3] 25 (0, 0)) ∧ W.heap[Pl + 1]? = some (.cells #[.int .i64 1, .int .i64 3, .int .i64 3, .int .i64 3] 61 (0, 0)) ∧ Below w.heap.size w W ∧ w.heap.size ≤ Pl) := Lib.hid (by
    obtain ⟨x1, x2, x3⟩ := two_boxes1 hW.symm
    rw [hPl] at x1 x2
    exact ⟨x1, x2, btr HBK.out x3, by rw [← hPl]; exact HP1.out⟩)
  rw [← hW, hPl]
  clear hW hPl HBK HP1
  have q0 : W.cell? ⟨Pl, 0, none⟩ = some (.int .i64 1) := ro.cel HP2.out.1 0
  have q1 : W.cell? ⟨Pl, 1, none⟩ = some (.int .i64 3) := ro.cel HP2.out.1 1
  have q2 : W.cell? ⟨Pl, 2, none⟩ = some (.int .i64 3) := ro.cel HP2.out.1 2
  have q3 : W.cell? ⟨Pl, 3, none⟩ = some (.int .i64 3) := ro.cel HP2.out.1 3
  refine (size_of 1 3 3 3 7 54 _ okay17 (Lib.hid (by decide)) (Lib.hid (by decide))).mono ?_
  rintro e w2 ⟨rfl, hb2⟩
  have HP3 := Lib.hid (show w2.heap[Pl]? = _ ∧ w2.heap[Pl + 1]? = _ ∧ Below w.heap.size w w2 from ⟨(hb2.block _ (lt_of_heap HP2.out.1)).trans HP2.out.1, (hb2.block _ (lt_of_heap HP2.out.2.1)).trans HP2.out.2.1, btr HP2.out.2.2.1 hb2⟩)
  clear hb2 q0 q1 q2 q3
  go_wp2_with fail
  refine (new_n 61 w2 (by decide)).mono ?_
  rintro e w3 ⟨rfl, hs, hb3⟩
  have HNUM := Lib.hid (show w.heap.size ≤ Pl ∧ Pl + 1 < w2.heap.size ∧ w.heap.size ≤ w2.heap.size from ⟨HP2.out.2.2.2, lt_of_heap HP3.out.2.1, HP3.out.2.2.size⟩)
  have HP4 := Lib.hid (show w3.heap[Pl]? = _ ∧ w3.heap[Pl + 1]? = _ ∧ Below w.heap.size w w3 from ⟨(hb3.block _ (lt_of_heap HP3.out.1)).trans HP3.out.1, (hb3.block _ (lt_of_heap HP3.out.2.1)).trans HP3.out.2.1, btr HP3.out.2.2 hb3⟩)
  have HST := Lib.hid hs
  clear hb3 hs HP3 HP2
  generalize w2.heap.size = g at *
  obtain ⟨S, hSS⟩ : ∃ S, g + 1 = S := ⟨_, rfl⟩
  rw [hSS] at HST ⊢
  have HSS := Lib.hid hSS
  clear hSS
  have q0 : w3.cell? ⟨Pl, 0, none⟩ = some (.int .i64 1) := ro.cel HP4.out.1 0
  have q1 : w3.cell? ⟨Pl, 1, none⟩ = some (.int .i64 3) := ro.cel HP4.out.1 1
  have q2 : w3.cell? ⟨Pl, 2, none⟩ = some (.int .i64 3) := ro.cel HP4.out.1 2
  have q3 : w3.cell? ⟨Pl, 3, none⟩ = some (.int .i64 3) := ro.cel HP4.out.1 3
  go_wp2_with fail
  refine (size_of 1 3 3 3 7 54 _ okay17 (Lib.hid (by decide)) (Lib.hid (by decide))).mono ?_
  rintro e w4 ⟨rfl, hb4⟩
  have HP5 := Lib.hid (show w4.heap[Pl]? = _ ∧ w4.heap[Pl + 1]? = _ ∧ Below w.heap.size w w4 from ⟨(hb4.block _ (lt_of_heap HP4.out.1)).trans HP4.out.1, (hb4.block _ (lt_of_heap HP4.out.2.1)).trans HP4.out.2.1, btr HP4.out.2.2 hb4⟩)
  have HST4 := Lib.hid (HST.out.below hb4)
  clear hb4 q0 q1 q2 q3 HP4 HST
  go_wp2_with fail
  go_region
  all_goals
    go_upto_block 0 with (fail)
    refine loop_of (w0 := w) (g := g) (i := 0) (Nat.zero_le _) HLEN.out HO.out ?hL ?hX ?hN
    case hL =>
      obtain ⟨e0, e1, e2, e3, eb⟩ := four_boxes w4 (.cells (madeCells #[.int .i64 0] 61) 3) _ _ (.cells (madeCells #[.bool false, .int .i64 0, .int .i64 0, .int .i64 0, .int .i64 0, .int .i64 0, .int .i64 0, .int .i64 0, .bool false] 27) 74)
      have hSl : S < w4.heap.size := lt_of_heap HST4.out.1
      first
        | exact cd.start HP5.out.2.2 HST4.out HNUM.out.2.2 (Nat.lt_succ_self _) HNUM.out.2.1 (by have := HSS.out; omega) hSl HNUM.out.1 rfl HP5.out.1 HP5.out.2.1 eb e0 (by omega) (by omega) (by omega) (by omega) (by omega) (by omega) e1 e2 e3
        | exact cd.start HP5.out.2.2 HST4.out HNUM.out.2.2 (Nat.lt_succ_self _) HNUM.out.2.1 (by have := HSS.out; omega) hSl HNUM.out.1 rfl HP5.out.1 HP5.out.2.1 eb e0 (by omega) (by omega) (by omega) (by omega) (by omega) (by omega) e2 e1 e3
    case hX =>
      intro v11 v12 v13 v14 v15 v16 v17 v18 v19 v20 v21 v22 v23 v24 v25 v26 v27 v28 v29 v30 v31 v32 v33 v34 v35 v36 v37 v38 v39 v40 v41 v42 v43 v44 v45 v46 v47 v48 v49 v50 v51 v52 v53 v54 v55 v56 v57 v58 v59 v60 v61 v62 v63 v64 v65 v66 v67 v68 v69 v70 v71 v72 v73 v74 v75 v76 v77 v78 v79 v80 v81 v82 v83 v84 v85 v86 v87 v88 v89 v90 v91 v92 v93 v94 v95 v96 v97 v98 v99 v100 v101 v102 v103 v104 v105 v106 v107 v108 v109 v110 v111 v112 v113 v114 v115 v116 v117 v118 v119 v120 v121 v122 v123 v124 v125 v126 v127 v128 v129 v130 v131 v132 v133 v134 v135 v136 v137 v138 v139 v140 v141 v142 v143 v144 v145 v146 v147 v148 v149 v150 v151 v152 v153 v154 v155 v156 v157 v158 v159 v160 v161 v162 v163 v164 v165 v166 v167 v168 v169 v170 v171 v172 v173 v174 v175 v176 v177 v178 v179 v180 v181 v182 v183 v184 v185 v186 v187 v188 v189 v190 v191 v192 v193 v194 v195 v196 v197 v198 v199 v200 v201 v202 v203 v204 v205 v206 v207 v208 v209 v210 v211 v212 v213 v214 v215 v216 v217 v218 v219 v220 v221 v222 v223 v224 v225 v226 v227 v228 v229 v230 v231 v232 v233 v234 v235 v236 v237 v238 v239 v240 v241 v242 v243 v244 v245 v246 v247 v248 v249 v250 v251 v252 v253 v254 v255 v256 v257 v258 v259 v260 v261 v262 v263 v264 v265 v266 v267 v268 v269 v270 i1 G1 cp1 w' hB
      have HB := Lib.hid hB
      clear hB
      go_wp2_with fail
      go_ret
      exact ⟨rfl, HB.out⟩
    case hN =>
      intro v11 v12 v13 v14 v15 v16 v17 v18 v19 v20 v21 v22 v23 v24 v25 v26 v27 v28 v29 v30 v31 v32 v33 v34 v35 v36 v37 v38 v39 v40 v41 v42 v43 v44 v45 v46 v47 v48 v49 v50 v51 v52 v53 v54 v55 v56 v57 v58 v59 v60 v61 v62 v63 v64 v65 v66 v67 v68 v69 v70 v71 v72 v73 v74 v75 v76 v77 v78 v79 v80 v81 v82 v83 v84 v85 v86 v87 v88 v89 v90 v91 v92 v93 v94 v95 v96 v97 v98 v99 v100 v101 v102 v103 v104 v105 v106 v107 v108 v109 v110 v111 v112 v113 v114 v115 v116 v117 v118 v119 v120 v121 v122 v123 v124 v125 v126 v127 v128 v129 v130 v131 v132 v133 v134 v135 v136 v137 v138 v139 v140 v141 v142 v143 v144 v145 v146 v147 v148 v149 v150 v151 v152 v153 v154 v155 v156 v157 v158 v159 v160 v161 v162 v163 v164 v165 v166 v167 v168 v169 v170 v171 v172 v173 v174 v175 v176 v177 v178 v179 v180 v181 v182 v183 v184 v185 v186 v187 v188 v189 v190 v191 v192 v193 v194 v195 v196 v197 v198 v199 v200 v201 v202 v203 v204 v205 v206 v207 v208 v209 v210 v211 v212 v213 v214 v215 v216 v217 v218 v219 v220 v221 v222 v223 v224 v225 v226 v227 v228 v229 v230 v231 v232 v233 v234 v235 v236 v237 v238 v239 v240 v241 v242 v243 v244 v245 v246 v247 v248 v249 v250 v251 v252 v253 v254 v255 v256 v257 v258 v259 v260 v261 v262 v263 v264 v265 v266 v267 v268 v269 v270 G1 cp1 w' hL
      have HB : Hid (Below w.heap.size w w') := Lib.hid (by obtain ⟨_, _, _, _, _, h⟩ := hL; exact h.b)
      clear hL
      go_wp2_with (first
        | (go_at_call 40; refine (rgot_nil _).mono ?_; rintro e w8 ⟨rfl, m, rfl⟩)
        | (go_at_call 39; refine (rstep_nil S _).mono ?_; rintro e w9 ⟨rfl, rfl⟩)
        | (go_at_call 41; refine (pstep_nil S _).mono ?_; rintro e w9 ⟨rfl, rfl⟩)
        | (go_at_call 42; refine (pback_nil _).mono ?_; rintro e w9 ⟨rfl, rfl⟩))
      go_ret
      exact ⟨rfl, below_drewN HB.out m⟩
set_option maxRecDepth 20000 in
theorem walk (a0 : Option Addr) (len0 cap0 : Nat) (z0 : Nat → Nat → Int) (w : World) (w0 : IsGrid [.i64, .i64, .i64, .i64, .i64] w a0 len0 cap0 z0) :
    Calls Try.prog 8 #[.slice a0 len0 cap0] w fun e w' => e = .returned (.bool true) ∧ Below w.heap.size w w' := by
  by_cases hl : len0 ≤ 200
  · refine core len0 cap0 a0 w hl fun k hk => ?_
    rcases w0.split (by decide) with h | ⟨b, off, rfl, hb, hle, hm, hc⟩
    · omega
    · have c0 := hc k (by omega) 0 .i64 rfl
      have c1 := hc k (by omega) 1 .i64 rfl
      have c2 := hc k (by omega) 2 .i64 rfl
      have c3 := hc k (by omega) 3 .i64 rfl
      have c4 := hc k (by omega) 4 .i64 rfl
      exact ⟨b, off, _, _, _, _, _, rfl, hb, c0.1, by rw [Nat.add_assoc]; exact c1.1, by rw [Nat.add_assoc]; exact c2.1, by rw [Nat.add_assoc]; exact c3.1, by rw [Nat.add_assoc]; exact c4.1⟩
  · have hd5 : decide (200 < len0) = true := by simp; omega
    have hd6 : (200 : Int) < (len0 : Int) := by omega
    go_enter Try.func8, Try.ntmps8
    go_wp2_with fail
    refine (works19 w).mono ?_
    rintro e wk ⟨rfl, hbk⟩
    go_wp2_with fail
    go_ret
    exact ⟨rfl, hbk⟩
end Go.Proofs.Ytegbifphekhgkaa.crossDoes
