/- The play of DequeOnce, whole (layer 13). -/
import Derived.Test.YtegbifphekhgkaaDqPG
import Derived.Deep.CutBlock
namespace Go.Proofs.Ytegbifphekhgkaa.dqo
open Go.Proofs.Ytegbifphekhgkaa.ro (Ro KX ext)
open Go.Proofs.Ytegbifphekhgkaa.DO
open Go.ChangeShapes Go.WideShapes Go.ChangeAt Go.RowKit

attribute [local go_sem ↓] Go.wp_at_zero Go.wp_at_succ
set_option linter.unusedVariables false
set_option linter.unusedSimpArgs false
set_option maxRecDepth 20000 in
set_option maxHeartbeats 4000000 in
theorem play_of (D n len cap : Nat) (a1 : Option Addr) (w : World) (hD2 : 2 ≤ D) (hD8 : D ≤ 8) (hn : 2 * (4 + D) + 10 = n) (hl : len ≤ 300) (ho : Ops w a1 len) :
    Calls Try.prog 27 #[.int .i64 (D : Int), .slice a1 len cap] w fun e w' => ∃ (vs : Nat → Value) (ls : Nat → List Int), e = .returned (.agg #[vs 0, vs 1, vs 2, vs 3, .bool true]) ∧ Came ls ∧ Below w.heap.size w w' ∧ (∀ j, j < 4 → OI w' w.heap.size (vs j) (ls j)) := by
  have hDn := Lib.hid hn
  have HO := Lib.hid ho
  have HL := Lib.hid hl
  have hnl : n ≤ 34 := by omega
  have hmk2 : ∀ w, (Instr.makeSlice 31 (.int .i64 4) (.int .i64 4)).run Try.prog w = _ := fun w => run_make_cells1 Try.prog 31 35 (.pointer none) 1 8 Try.underlying31 (by kernel_rfl) .i64 .i64 4 (by omega) (by omega) w
  clear hn ho hl
  go_enter Try.func27, Try.ntmps27
  go_wp2_with fail
  obtain ⟨w0, hw0⟩ : ∃ w0, w0 = w.alloc (Obj.cells #[Value.slice none 0 0, Value.slice none 0 0, Value.slice none 0 0, Value.slice none 0 0, Value.bool false] 52) := ⟨_, rfl⟩
  obtain ⟨Rz, hRz⟩ : ∃ Rz, w.heap.size = Rz := ⟨_, rfl⟩
  have hs0 : w0.heap.size = Rz + 1 := by rw [hw0, ← hRz]; show (w.heap.push _).size = _; simp
  have hR0 : w0.heap[Rz]? = some (.cells #[Value.slice none 0 0, Value.slice none 0 0, Value.slice none 0 0, Value.slice none 0 0, Value.bool false] 52 (0, 0)) := by rw [hw0, ← hRz]; exact heap_alloc_new _ _
  have hbz : Below w.heap.size w w0 := by rw [hw0]; go_grown
  have HO0 : Hid (Ops w0 a1 len) := Lib.hid (fun i hi => by
    obtain ⟨b, off, y, z, h1, h2, h3, h4, h5, h6, h7, h8⟩ := HO.out i hi
    exact ⟨b, off, y, z, h1, by have := hbz.size; omega, (hbz.cell (p := ⟨b, off + i * 3, none⟩) h2).trans h3, h4, h5, (hbz.cell (p := ⟨b, off + i * 3 + 1, none⟩) h2).trans h6, h7, h8⟩)
  rw [← hw0, hRz]
  have HZ := Lib.hid (show w0.heap.size = Rz + 1 ∧ w0.heap[Rz]? = some (.cells #[Value.slice none 0 0, Value.slice none 0 0, Value.slice none 0 0, Value.slice none 0 0, Value.bool false] 52 (0, 0)) ∧ Below Rz w w0 from ⟨hs0, hR0, by rw [← hRz]; exact hbz⟩)
  have HRz := Lib.hid hRz
  clear hw0 hR0 hbz HO hs0 hRz
  refine (plan13 (D : Int) w0).mono ?_
  rintro e w1 ⟨rfl, hb1⟩
  go_wp2_with fail
  obtain ⟨W, hW⟩ : ∃ W, W = w1.alloc (Obj.cells #[Value.int .i64 2, .int .i64 1, .int .i64 1, .int .i64 (D : Int)] 25) := ⟨_, rfl⟩
  have hp : W.heap[w1.heap.size]? = some (.cells #[Value.int .i64 2, .int .i64 1, .int .i64 1, .int .i64 (D : Int)] 25 (0, 0)) := by rw [hW]; exact heap_alloc_new _ _
  have hb : Below w0.heap.size w0 W := by rw [hW]; exact btr hb1 (by go_grown)
  have hPg : w0.heap.size ≤ w1.heap.size := hb1.size
  rw [← hW]
  clear hW hb1
  generalize w1.heap.size = Pl at *
  refine (size13 D n _ (by omega) (by omega) hDn.out).mono ?_
  rintro e w2 ⟨rfl, hb2⟩
  have hp2 := (hb2.block Pl (lt_of_heap hp)).trans hp
  have hbw2 := btr hb hb2
  clear hb hb2 hp
  go_wp2_with fail
  refine (new_n n _ (by omega)).mono ?_
  rintro e w3 ⟨rfl, hs, hb3⟩
  have hg : Pl < w2.heap.size := lt_of_heap hp2
  have hp3 := (hb3.block Pl hg).trans hp2
  have hgw : w0.heap.size ≤ w2.heap.size := hbw2.size
  have hbw3 := btr hbw2 hb3
  obtain ⟨g, hgg⟩ : ∃ g, w2.heap.size = g := ⟨_, rfl⟩
  obtain ⟨S, hSS⟩ : ∃ S, w2.heap.size + 1 = S := ⟨_, rfl⟩
  rw [hSS]
  rw [hSS, hgg] at hs
  have hgS : g < S := by omega
  rw [hgg] at hg hgw
  clear hb3 hbw2 hp2 hgg hSS
  have HST := Lib.hid hs
  have HP4 := Lib.hid hp3
  have HB4 := Lib.hid hbw3
  have HNUM := Lib.hid (show w0.heap.size ≤ Pl ∧ Pl < g ∧ g < S ∧ w0.heap.size ≤ g from ⟨hPg, hg, hgS, hgw⟩)
  clear hp3 hs hbw3 hPg hg hgS hgw
  go_upto_block 0 with (fail)
  obtain ⟨w7, hw7⟩ : ∃ w7, w7 = ((w3.alloc (Obj.cells (madeCells #[Value.pointer none] 4) 35)).alloc (Obj.cells #[Value.slice none 0 0, Value.slice none 0 0, Value.slice none 0 0, Value.slice none 0 0, Value.bool true] 52)) := ⟨_, rfl⟩
  have HI0 : Hid (LI w0 w7 Pl S g w3.heap.size (w3.heap.size + 1) (4 + D) D n 0 len 0 1 false) := Lib.hid (by
    have hb7 : Below w3.heap.size w3 w7 := by rw [hw7]; go_grown
    obtain ⟨x0, x1⟩ : w7.heap[w3.heap.size]? = some (.cells (madeCells #[.pointer none] 4) 35 (0, 0)) ∧ w7.heap[w3.heap.size + 1]? = some (.cells #[.slice none 0 0, .slice none 0 0, .slice none 0 0, .slice none 0 0, .bool true] 52 (0, 0)) := by
      rw [hw7]
      constructor
      · show ((w3.heap.push _).push _)[w3.heap.size]? = _
        rw [Array.getElem?_push, Array.getElem?_push]
        simp
      · have hsz : (w3.alloc (Obj.cells (madeCells #[Value.pointer none] 4) 35)).heap.size = w3.heap.size + 1 := by
          show (w3.heap.push _).size = _
          simp
        rw [← hsz]
        exact heap_alloc_new _ _
    exact start hD2 hD8 rfl hDn.out HL.out HB4.out HST.out HNUM.out.2.2.2 HNUM.out.1 HNUM.out.2.1 HNUM.out.2.2.1 HST.out.facts.2.2.2.2.1 rfl HP4.out hb7 x0 x1)
  rw [← hw7]
  generalize w3.heap.size = M at *
  clear hw7 HST HP4 HB4 HNUM hmk2
  refine loop1_of (n := n) (P := 4 + D) (g := g) (w0 := w0) (i := 0) (nx := 1) hD2 hD8 rfl hDn.out (by omega) HL.out HO0.out HI0.out ?_
  clear HI0
  intro v13 v14 v15 v16 v17 v26 v27 v28 v29 v30 v31 v32 v33 v34 v35 v36 v37 v38 v39 v40 v41 v42 v43 v44 v45 v46 v47 v48 v49 v50 v51 v52 v53 v54 v55 v56 v57 v58 v59 v60 v61 v62 v63 v64 v65 v66 v67 v68 v69 v70 v71 v72 v73 v74 v75 v76 v77 v78 v79 v80 v81 v82 v83 v84 v85 v86 v87 v88 v89 v90 v91 v92 v93 v94 v95 v96 v97 v98 v99 v100 v101 v102 v103 v104 v105 v106 v107 v108 v109 v110 v111 v112 v113 v114 v115 v116 v117 v118 v119 v120 v121 v122 v123 v124 v125 v126 v127 v128 v129 v130 v131 v132 v133 v134 v135 v136 v137 v138 v139 v140 v141 v142 v143 v144 v145 v146 v147 v148 v149 v150 v151 v152 v153 v154 v155 v156 v157 v158 v159 v160 v161 v162 v163 v164 v165 v166 v167 v168 pb1 tl1 nx1 wA hA
  have HE := Lib.hid hA.ended
  clear hA
  go_upto_block 4 with (fail)
  refine loop2_of HE.out ?_
  clear HE
  intro v169 v170 v171 v172 v173 v174 v175 v176 v177 v178 v179 v180 v181 v182 wB hB
  obtain ⟨vs, ls, hC, hBB, hrow, hout, hrt, hOu⟩ := hB.came (by have := HL.out; omega)
  obtain ⟨s0, p0, e0, _⟩ := (hrow 0 (by omega)).form
  obtain ⟨s1, p1, e1, _⟩ := (hrow 1 (by omega)).form
  obtain ⟨s2, p2, e2, _⟩ := (hrow 2 (by omega)).form
  obtain ⟨s3, p3, e3, _⟩ := (hrow 3 (by omega)).form
  have c0 := hout 0 (by omega)
  have c1 := hout 1 (by omega)
  have c2 := hout 2 (by omega)
  have c3 := hout 3 (by omega)
  rw [e0] at c0
  rw [e1] at c1
  rw [e2] at c2
  rw [e3] at c3
  have hRz := (hBB.block Rz (by have := HZ.out.1; omega)).trans HZ.out.2.1
  have HV := Lib.hid (show vs 0 = _ ∧ vs 1 = _ ∧ vs 2 = _ ∧ vs 3 = _ from ⟨e0, e1, e2, e3⟩)
  have HC := Lib.hid hC
  have HW := Lib.hid (HZ.out.2.2.trans (hBB.mono (by rw [HZ.out.1]; omega)))
  have HR := Lib.hid hrow
  have HOu := Lib.hid (show Rz + 1 ≤ M + 1 by rw [← HZ.out.1]; exact hOu)
  clear hout e0 e1 e2 e3 hrow hBB hC hOu hB
  go_upto_region 46 with (fail)
  refine q46_of c0 c1 c2 c3 hrt (by simp [World.cell?, hRz]; rfl) (by simp [World.cell?, hRz]; rfl) (by simp [World.cell?, hRz]; rfl) (by simp [World.cell?, hRz]; rfl) (by simp [World.cell?, hRz]; rfl) (fun j => by simp [World.frozen?, hRz]) ?_
  intro v183 wC hwC
  go_wp2_with fail
  refine bodyPost_ret (v := .agg #[vs 0, vs 1, vs 2, vs 3, .bool true]) ?_ rfl ⟨vs, ls, rfl, HC.out, ?_, ?_⟩
  · rw [HV.out.1, HV.out.2.1, HV.out.2.2.1, HV.out.2.2.2]
    have hC5 : wC.heap[Rz]? = some (.cells #[Value.slice s0 (ls 0).length p0, Value.slice s1 (ls 1).length p1, Value.slice s2 (ls 2).length p2, Value.slice s3 (ls 3).length p3, Value.bool true] 52 (0, 0)) := by
      rw [hwC]
      exact ro.set_blk _ _ _ _ (ro.set_blk _ _ _ _ (ro.set_blk _ _ _ _ (ro.set_blk _ _ _ _ (ro.set_blk _ _ _ _ hRz))))
    have d0 : wC.cell? ⟨Rz, 0, none⟩ = some (Value.slice s0 (ls 0).length p0) := ro.cel hC5 0
    have d1 : wC.cell? ⟨Rz, 1, none⟩ = some (Value.slice s1 (ls 1).length p1) := ro.cel hC5 1
    have d2 : wC.cell? ⟨Rz, 2, none⟩ = some (Value.slice s2 (ls 2).length p2) := ro.cel hC5 2
    have d3 : wC.cell? ⟨Rz, 3, none⟩ = some (Value.slice s3 (ls 3).length p3) := ro.cel hC5 3
    have d4 : wC.cell? ⟨Rz, 4, none⟩ = some (Value.bool true) := ro.cel hC5 4
    simp [results, Try.results27, go_sem, d0, d1, d2, d3, d4]
  · rw [hwC, HRz.out]
    exact ((((HW.out.setCell (Nat.le_refl _) _).setCell (Nat.le_refl _) _).setCell (Nat.le_refl _) _).setCell (Nat.le_refl _) _).setCell (Nat.le_refl _) _
  · intro j hj
    refine keepOI (OI.base (HR.out j hj) (by have := HOu.out; have := HRz.out; omega)) fun q hq => ?_
    have hq1 := (own_ltI (HR.out j hj) q hq).1
    have hne : q ≠ Rz := by have := HOu.out; omega
    rw [hwC]
    simp only [ro.set_oth _ _ _ _ _ hne]
end Go.Proofs.Ytegbifphekhgkaa.dqo
