/- The play of DequeOnce: behind a walk that has ended: the owner (layer 13). -/
import Derived.Test.YtegbifphekhgkaaDqP9
namespace Go.Proofs.Ytegbifphekhgkaa.dqo
open Go.Proofs.Ytegbifphekhgkaa.ro (Ro KX ext)
open Go.Proofs.Ytegbifphekhgkaa.DO
open Go.ChangeShapes Go.WideShapes Go.ChangeAt Go.RowKit

attribute [local go_sem ↓] Go.wp_at_zero Go.wp_at_succ
set_option linter.unusedVariables false
set_option linter.unusedSimpArgs false
theorem lens {p : Ps} (h : Ls p) : p.stack.length ≤ p.T ∧ p.pushed.length = p.nx - 1 ∧ p.popped.length ≤ p.nx := by
  have := h.cnt
  refine ⟨by rw [h.st]; simp, by rw [h.pu]; simp, by omega⟩
theorem OS.setRight {w0 w : World} {ρ : Ro} {Pl S g Wv Ou P D n : Nat} {ag : Nat → Ag} {ps : Nat → Option Nat} {E : Nat → Prop} {vs : Nat → Value} {ls : Nat → List Int} {xs : List Int} (h : OS w0 w ρ Pl S g Wv Ou P D n ag ps E vs ls xs) : OS w0 (w.setCell ⟨Ou, 4, none⟩ (.bool true)) ρ Pl S g Wv Ou P D n ag ps E vs ls xs := by
  have hx := KX.set (w := w) Ou 4 (.bool true) h.ro
  have hz := hx.bel (by omega) h.z h.b.size
  have e1 := hx.blk h.st.1 h.rS (by omega)
  have e2 := hx.blk h.st.2.1 h.rg (by omega)
  have e3 := hx.blk h.pl h.rp (by omega)
  have e4 := hx.blk h.wv h.rw' (by omega)
  refine ⟨h.z, h.b.trans hz.1, ⟨e1.1, e2.1, h.st.2.2⟩, h.g0, h.rS, h.rg, e3.1, h.rp, e4.1, h.rw', ?_, h.ro, fun j hj => ⟨keepOI (h.row j hj).1 fun q hq2 => (hx.k (20 + j) (by omega) q (own_ltI (h.row j hj).1 q hq2).2 ((h.row j hj).2 q hq2)).2, (h.row j hj).2⟩, fun q hq4 hq => (h.on q hq4 hq).keep hx (by omega), h.ln⟩
  rw [ro.set_blk w Ou 4 (.bool true) h.ou]
  rfl
theorem t30_eq : t30 = .seq p30 (.seq p31 (.block 3 (.seq r32 (.cond (.tmp 107) (.seq r33 (.seq r34 r35)) (.seq r36 (.cond (.tmp 131) (.seq r37 (.seq r38 r39)) (.seq r40 (.cond (.tmp 166) r41 .skip)))))))) := by kernel_rfl
set_option maxRecDepth 20000 in
set_option maxHeartbeats 4000000 in
theorem owner_of {D len cap Rz Pl S Wv Ou nx i : Nat} {a1 : Option Addr} {tl : Int} {ps : Bool} {w0 : World} {g P n k A : Nat} {ρ : Ro} {ag : Nat → Ag} {ps0 : Nat → Option Nat} {vs : Nat → Value} {ls : Nat → List Int} {xs : List Int} {m : Mem} {l : Lv} {p : Ps} {a : Ag} {o : Wk} {u15 u16 u17 u18 u19 u20 u21 u22 u23 u24 u25 u26 u27 u28 u29 u30 u31 u32 u33 u34 u35 u36 u37 u38 u39 u40 u41 u42 u43 u44 u45 u46 u47 u48 u49 u50 u51 u52 u53 u54 u55 u56 u57 u58 u59 u60 u61 u62 u63 u64 u65 u66 u67 u68 u69 u70 u71 u72 u73 u74 u75 u76 u77 u78 u79 u80 u81 u82 u83 u84 u85 u86 u87 u88 u89 u90 u91 u92 u93 u94 u95 u96 u97 u98 u99 u100 u101 u102 u103 u104 u105 u106 u107 u108 u109 u110 u111 u112 u113 u114 u115 u116 u117 u118 u119 u120 u121 u122 u123 u124 u125 u126 u127 u128 u129 u130 u131 u132 u133 u134 u135 u136 u137 u138 u139 u140 u141 u142 u143 u144 u145 u146 u147 u148 u149 u150 u151 u152 u153 u154 u155 u156 u157 u158 u159 u160 u161 u162 u163 u164 u165 u166 u167 u168 u169 u170 u171 u172 u173 u174 u175 u176 u177 u178 u179 u180 u181 u182 u183 : Value} {Q : Exit → Act → World → Prop} {w : World}
    (hi9 : i ≤ 800) (hk0 : k = 0) (h : PE w0 w ρ Pl S g Wv Ou P D n i len tl nx ps k A ag ps0 vs ls xs m l p a o (fun _ => True))
    (hN : ∀ (v15 v16 v17 v88 v89 v90 v91 v92 v93 v94 v95 v96 v97 v98 v99 v100 v101 v102 v103 v104 v105 v106 v107 v108 v109 v110 v111 v112 v113 v114 v115 v116 v117 v118 v119 v120 v121 v122 v123 v124 v125 v126 v127 v128 v129 v130 v131 v132 v133 v134 v135 v136 v137 v138 v139 v140 v141 v142 v143 v144 v145 v146 v147 v148 v149 v150 v151 v152 v153 v154 v155 v156 v157 v158 v159 v160 v161 v162 v163 v164 v165 v166 v167 v168 : Value) (tl' : Int) (nx' : Nat) (w' : World), LI w0 w' Pl S g Wv Ou P D n (i + 1) len tl' nx' ps → Q .normal ⟨#[.int .i64 (D : Int), .slice a1 len cap, undef, undef, .pointer (some ⟨Rz, 0, none⟩), .pointer (some ⟨Pl, 0, none⟩), .pointer (some ⟨S, 0, none⟩), .slice (some ⟨Wv, 0, none⟩) 4 4, .pointer (some ⟨Ou, 0, none⟩), .int .i64 tl', .int .i64 (nx' : Int), .bool ps, .int .i64 (i : Int), .int .i64 (k : Int), .pointer (some ⟨A, 0, none⟩), v15, v16, v17, u18, u19, u20, u21, u22, u23, u24, u25, u26, u27, u28, u29, u30, u31, u32, u33, u34, u35, u36, u37, u38, u39, u40, u41, u42, u43, u44, u45, u46, u47, u48, u49, u50, u51, u52, u53, u54, u55, u56, u57, u58, u59, u60, u61, u62, u63, u64, u65, u66, u67, u68, u69, u70, u71, u72, u73, u74, u75, u76, u77, u78, u79, u80, u81, u82, u83, u84, u85, u86, u87, v88, v89, v90, v91, v92, v93, v94, v95, v96, v97, v98, v99, v100, v101, v102, v103, v104, v105, v106, v107, v108, v109, v110, v111, v112, v113, v114, v115, v116, v117, v118, v119, v120, v121, v122, v123, v124, v125, v126, v127, v128, v129, v130, v131, v132, v133, v134, v135, v136, v137, v138, v139, v140, v141, v142, v143, v144, v145, v146, v147, v148, v149, v150, v151, v152, v153, v154, v155, v156, v157, v158, v159, v160, v161, v162, v163, v164, v165, v166, v167, v168, u169, u170, u171, u172, u173, u174, u175, u176, u177, u178, u179, u180, u181, u182, u183], []⟩ w') :
    Code.wp Try.prog t26 Q ⟨#[.int .i64 (D : Int), .slice a1 len cap, undef, undef, .pointer (some ⟨Rz, 0, none⟩), .pointer (some ⟨Pl, 0, none⟩), .pointer (some ⟨S, 0, none⟩), .slice (some ⟨Wv, 0, none⟩) 4 4, .pointer (some ⟨Ou, 0, none⟩), .int .i64 tl, .int .i64 (nx : Int), .bool ps, .int .i64 (i : Int), .int .i64 (k : Int), .pointer (some ⟨A, 0, none⟩), u15, u16, u17, u18, u19, u20, u21, u22, u23, u24, u25, u26, u27, u28, u29, u30, u31, u32, u33, u34, u35, u36, u37, u38, u39, u40, u41, u42, u43, u44, u45, u46, u47, u48, u49, u50, u51, u52, u53, u54, u55, u56, u57, u58, u59, u60, u61, u62, u63, u64, u65, u66, u67, u68, u69, u70, u71, u72, u73, u74, u75, u76, u77, u78, u79, u80, u81, u82, u83, u84, u85, u86, u87, u88, u89, u90, u91, u92, u93, u94, u95, u96, u97, u98, u99, u100, u101, u102, u103, u104, u105, u106, u107, u108, u109, u110, u111, u112, u113, u114, u115, u116, u117, u118, u119, u120, u121, u122, u123, u124, u125, u126, u127, u128, u129, u130, u131, u132, u133, u134, u135, u136, u137, u138, u139, u140, u141, u142, u143, u144, u145, u146, u147, u148, u149, u150, u151, u152, u153, u154, u155, u156, u157, u158, u159, u160, u161, u162, u163, u164, u165, u166, u167, u168, u169, u170, u171, u172, u173, u174, u175, u176, u177, u178, u179, u180, u181, u182, u183], []⟩ w := by
  rw [t26_eq]
  refine wp_seq ?_
  refine p26_of (Lib.hid h.got) ?_
  intro v88 v89 v90 v91 v92 w1 hw1
  rw [hw1]
  change Code.wp Try.prog (.seq (.seq r27 (.cond (.tmp 94) (.seq (.seq r28 (.cond (.tmp 95) r29 .skip)) (.exit 1)) .skip)) t30) Q _ _
  refine wp_seq ?_
  refine wp_seq ?_
  refine r27_no hk0 ?_
  intro v93 w2 hw2
  rw [hw2]
  change Code.wp Try.prog (.cond (.tmp 94) (.seq (.seq r28 (.cond (.tmp 95) r29 .skip)) (.exit 1)) .skip) _ _ _
  refine wp_cond_false rfl ?_
  refine wp_skip ?_
  change Code.wp Try.prog t30 Q _ _
  rw [t30_eq]
  refine wp_seq ?_
  refine p30_of (Lib.hid (tail_of A o w h.ob)) ?_
  intro v102 v103 w3 hw3
  rw [hw3]
  obtain ⟨sa, cp, hv3, hf3⟩ := OI.form (h.os.row 3 (by omega)).1
  have hc3 : w.cell? ⟨Ou, 3, none⟩ = some (.slice sa (ls 3).length cp) := (h.os.out 3 (by omega)).trans (by rw [hv3])
  have hll := lens h.iv.ls
  have htb := h.tb
  have hxb := h.xb
  change Code.wp Try.prog (.seq p31 (.block 3 (.seq r32 (.cond (.tmp 107) (.seq r33 (.seq r34 r35)) (.seq r36 (.cond (.tmp 131) (.seq r37 (.seq r38 r39)) (.seq r40 (.cond (.tmp 166) r41 .skip)))))))) Q _ _
  refine wp_seq ?_
  refine p31_of hc3 ?_
  intro v104 v105 v106 w9 hw9
  rw [hw9]
  change Code.wp Try.prog (.block 3 (.seq r32 (.cond (.tmp 107) (.seq r33 (.seq r34 r35)) (.seq r36 (.cond (.tmp 131) (.seq r37 (.seq r38 r39)) (.seq r40 (.cond (.tmp 166) r41 .skip))))))) Q _ _
  refine wp_block ?_
  refine wp_seq ?_
  rcases h.out with ⟨e, _⟩ | ⟨_, e, _⟩ | ⟨_, e, _⟩ | ⟨_, _, htl, ⟨hpp, hfl, hl⟩ | ⟨hpp, hfl, hl⟩ | ⟨hpp, hhs, hlen, hx, hT1, hl⟩ | ⟨hpp, hhs, hl⟩⟩
  · exact absurd h.en e
  · exact absurd hk0 e
  · exact absurd hk0 e
  · have q1 : p.T = l.T := congrArg Lv.T hl
    have q2 : p.nx = l.nx := congrArg Lv.nx hl
    have q3 : p.pops = l.pops := congrArg Lv.pops hl
    have q4 : p.pushed = l.pushed := congrArg Lv.pushed hl
    have q5 : p.popped = l.popped := congrArg Lv.popped hl
    have q6 : p.stolen = l.stolen := congrArg Lv.stolen hl
    have q7 : p.stack = l.stack := congrArg Lv.stack hl
    obtain rfl : ps = false := h.e3.trans hpp
    have hF := Lib.hid ((full_of A o w h.ob).mono fun e w' hh => (⟨by rw [hh.1, h.ar.fl, hfl], hh.2⟩ : e = .returned (.bool true) ∧ w' = w))
    refine r32_full (ps := true) hF ?_
    intro v108 v109 v110 v111 v112 v113 v114 w4 hw4
    rw [hw4]
    refine wp_cond_false rfl ?_
    refine wp_seq ?_
    refine r36_no (ps := true) ?_
    intro v132 v133 v134 v135 w5 hw5
    rw [hw5]
    refine wp_cond_false rfl ?_
    refine wp_seq ?_
    refine r40_of ?_
    intro v167 w6 hw6
    rw [hw6]
    refine wp_cond_false rfl ?_
    refine wp_skip ?_
    exact hN _ _ _ _ _ _ _ _ _ _ _ _ _ _ _ _ _ _ _ _ _ _ _ _ _ _ _ _ _ _ _ _ _ _ _ _ _ _ _ _ _ _ _ _ _ _ _ _ _ _ _ _ _ _ _ _ _ _ _ _ _ _ _ _ _ _ _ _ _ _ _ _ _ _ _ _ _ _ _ _ _ _ _ _ _ _ _ (h.next h.os (by rw [h.ar.tl]; exact htl) (by rw [h.e2, q2]) (by rw [h.e3, q3]) (by rw [h.l0, q4]) (by rw [h.l1, q5]) (by rw [h.l2, q6]) (by rw [h.l3, q7]))
  · have q1 : p.T = l.T + 1 := congrArg Lv.T hl
    have q2 : p.nx = l.nx + 1 := congrArg Lv.nx hl
    have q3 : p.pops = l.pops := congrArg Lv.pops hl
    have q4 : p.pushed = l.pushed ++ [(l.nx : Int)] := congrArg Lv.pushed hl
    have q5 : p.popped = l.popped := congrArg Lv.popped hl
    have q6 : p.stolen = l.stolen := congrArg Lv.stolen hl
    have q7 : p.stack = l.stack ++ [(l.nx : Int)] := congrArg Lv.stack hl
    obtain rfl : ps = false := h.e3.trans hpp
    have z4 := congrArg List.length q4
    have z7 := congrArg List.length q7
    simp only [List.length_append, List.length_singleton] at z4 z7
    have hF := Lib.hid ((full_of A o w h.ob).mono fun e w' hh => (⟨by rw [hh.1, h.ar.fl, hfl], hh.2⟩ : e = .returned (.bool false) ∧ w' = w))
    refine r32_push (ps := true) hF ?_
    intro v108 v109 v110 v111 v112 v113 v114 w4 hw4
    rw [hw4]
    refine wp_cond_true rfl ?_
    refine wp_seq ?_
    refine r33_of (n0 := 0) (h.os.row 0 (by omega)).1 (lt_of_heap h.os.ou) (lt_of_heap h.os.ou) (h.os.out 0 (by omega)) (h.os.frzO 0) (by rw [h.l0]; omega) ?_
    intro v115 v116 v117 v118 v119 v120 W vv w5 ⟨hap, hw5⟩
    have o1 := h.os.app 0 (by omega) W vv _ hap
    rw [← hw5] at o1
    refine wp_seq ?_
    refine r34_of (o1.row 3 (by omega)).1 (lt_of_heap o1.ou) (o1.out 3 (by omega)) (o1.frzO 3) (by show (ls 3).length ≤ 1000; rw [h.l3]; omega) ?_
    intro v121 v122 v123 v124 v125 v126 v127 v128 W2 vv2 w6 ⟨hr2, hb2, hw6⟩
    have o2 := o1.fresh 3 (by omega) W2 vv2 _ hr2 hb2
    rw [← hw6] at o2
    refine r35_of (by have := h.e2; have := h.xb; omega) ?_
    intro v129 v130 w7 hw7
    rw [hw7]
    refine hN _ _ _ _ _ _ _ _ _ _ _ _ _ _ _ _ _ _ _ _ _ _ _ _ _ _ _ _ _ _ _ _ _ _ _ _ _ _ _ _ _ _ _ _ _ _ _ _ _ _ _ _ _ _ _ _ _ _ _ _ _ _ _ _ _ _ _ _ _ _ _ _ _ _ _ _ _ _ _ _ _ _ _ _ _ _ _ (h.next o2 (by rw [h.ar.tl]; exact htl) (by rw [h.e2, q2]) (by rw [h.e3, q3]) ?_ ?_ ?_ ?_)
    · simp [h.l0, q4, h.e2]
    · simp [h.l1, q5]
    · simp [h.l2, q6]
    · simp [h.l3, q7, h.e2]
  · have q1 : p.T = l.T - 1 := congrArg Lv.T hl
    have q2 : p.nx = l.nx := congrArg Lv.nx hl
    have q3 : p.pops = l.pops := congrArg Lv.pops hl
    have q4 : p.pushed = l.pushed := congrArg Lv.pushed hl
    have q5 : p.popped = l.popped ++ [a.gt] := congrArg Lv.popped hl
    have q6 : p.stolen = l.stolen := congrArg Lv.stolen hl
    have q7 : p.stack = l.stack.take (l.stack.length - 1) := congrArg Lv.stack hl
    obtain rfl : ps = true := h.e3.trans hpp
    have z5 := congrArg List.length q5
    have z7 := congrArg List.length q7
    simp only [List.length_append, List.length_singleton, List.length_take] at z5 z7
    refine r32_pop (ps := true) (fl := false) ?_
    intro v108 v109 v110 v111 v112 v113 v114 w4 hw4
    rw [hw4]
    refine wp_cond_false rfl ?_
    refine wp_seq ?_
    refine r36_yes (ps := true) ?_
    intro v132 v133 v134 v135 w5 hw5
    rw [hw5]
    refine wp_cond_true (show Value.bool a.hs = _ by rw [hhs]) ?_
    refine wp_seq ?_
    obtain ⟨gs, hg⟩ : ∃ gs, sa = some ⟨gs, 0, none⟩ ∧ w.cell? ⟨gs, (ls 3).length - 1, none⟩ = some (.int .i64 (if a.hs = true then a.gt else 0)) := by
      cases hsa : sa with
      | none => have := (hf3.1 hsa).1; rw [h.l3] at this; rw [this] at hlen; simp at hlen
      | some ad =>
        obtain ⟨gs, e, _, _, hc⟩ := hf3.2.2.2 ad hsa
        refine ⟨gs, by rw [e], ?_⟩
        have := hc ((ls 3).length - 1) (by rw [h.l3]; omega)
        rw [Nat.zero_add] at this
        rw [this, if_pos hhs, ← hx, h.l3]
    refine r37_of (g := gs) (cp := cp) (by rw [h.l3]; exact hlen) h.os.right (h.os.frzO 4) (hc3.trans (by rw [hg.1])) hg.2 (by rw [h.l3]; omega) ?_
    intro v136 v137 v138 v139 v140 v141 v142 v143 v144 v145 v146 v147 v148 v149 v150 v151 v152 w6 hw6
    have o1 := h.os.setRight
    rw [← hw6] at o1
    refine wp_seq ?_
    refine r38_of (n0 := 0) (o1.row 1 (by omega)).1 (lt_of_heap o1.ou) (lt_of_heap o1.ou) (o1.out 1 (by omega)) (o1.frzO 1) (by rw [h.l1]; omega) ?_
    intro v153 v154 v155 v156 v157 v158 W vv w7 ⟨hap, hw7⟩
    have o2 := o1.app 1 (by omega) W vv _ hap
    rw [← hw7] at o2
    refine r39_of (m := (ls 3).length - 1) (sa := sa) (cp := cp) (by rw [h.l3]; omega) ((o2.out 3 (by omega)).trans (by simp [hv3])) (o2.frzO 3) (by rw [h.l3]; omega) hf3.2.2.1 ?_
    intro v159 v160 v161 v162 v163 v164 v165 w8 hw8
    have o3 := o2.cut (sa := sa) (cp := cp) 3 ((ls 3).length - 1) (by omega) (by simp [hv3]) (by simp)
    rw [← hw8] at o3
    refine hN _ _ _ _ _ _ _ _ _ _ _ _ _ _ _ _ _ _ _ _ _ _ _ _ _ _ _ _ _ _ _ _ _ _ _ _ _ _ _ _ _ _ _ _ _ _ _ _ _ _ _ _ _ _ _ _ _ _ _ _ _ _ _ _ _ _ _ _ _ _ _ _ _ _ _ _ _ _ _ _ _ _ _ _ _ _ _ (h.next o3 (by rw [h.ar.tl]; exact htl) (by rw [h.e2, q2]) (by rw [h.e3, q3]) ?_ ?_ ?_ ?_)
    · simp [h.l0, q4]
    · simp [h.l1, q5, hhs]
    · simp [h.l2, q6]
    · simp [h.l3, q7]
  · have q1 : p.T = l.T := congrArg Lv.T hl
    have q2 : p.nx = l.nx := congrArg Lv.nx hl
    have q3 : p.pops = l.pops := congrArg Lv.pops hl
    have q4 : p.pushed = l.pushed := congrArg Lv.pushed hl
    have q5 : p.popped = l.popped := congrArg Lv.popped hl
    have q6 : p.stolen = l.stolen := congrArg Lv.stolen hl
    have q7 : p.stack = [] := congrArg Lv.stack hl
    obtain rfl : ps = true := h.e3.trans hpp
    refine r32_pop (ps := true) (fl := false) ?_
    intro v108 v109 v110 v111 v112 v113 v114 w4 hw4
    rw [hw4]
    refine wp_cond_false rfl ?_
    refine wp_seq ?_
    refine r36_yes (ps := true) ?_
    intro v132 v133 v134 v135 w5 hw5
    rw [hw5]
    refine wp_cond_false (show Value.bool a.hs = _ by rw [hhs]) ?_
    refine wp_seq ?_
    refine r40_of ?_
    intro v167 w6 hw6
    rw [hw6]
    refine wp_cond_true rfl ?_
    refine r41_of (h.os.out 3 (by omega)) (h.os.frzO 3) ?_
    intro v168 w7 hw7
    have o1 := h.os.clear 3 (by omega)
    rw [← hw7] at o1
    refine hN _ _ _ _ _ _ _ _ _ _ _ _ _ _ _ _ _ _ _ _ _ _ _ _ _ _ _ _ _ _ _ _ _ _ _ _ _ _ _ _ _ _ _ _ _ _ _ _ _ _ _ _ _ _ _ _ _ _ _ _ _ _ _ _ _ _ _ _ _ _ _ _ _ _ _ _ _ _ _ _ _ _ _ _ _ _ _ (h.next o1 (by rw [h.ar.tl]; exact htl) (by rw [h.e2, q2]) (by rw [h.e3, q3]) ?_ ?_ ?_ ?_)
    · simp [h.l0, q4]
    · simp [h.l1, q5]
    · simp [h.l2, q6]
    · simp [q7]
end Go.Proofs.Ytegbifphekhgkaa.dqo
