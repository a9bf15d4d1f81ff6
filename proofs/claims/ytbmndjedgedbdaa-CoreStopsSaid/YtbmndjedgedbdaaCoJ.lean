/- CoreStops: the last test (layer 25). -/
import Derived.Test.YtbmndjedgedbdaaCoI
import Derived.Deep.RegionHeld3
namespace Go.Proofs.Ytbmndjedgedbdaa.co
open Go.ChangeShapes Go.WideShapes Go.ChangeAt Go.RowKit
open Go.Proofs.Ytbmndjedgedbdaa.pr
attribute [local go_sem ↓] Go.wp_at_zero Go.wp_at_succ
attribute [local go_sem] Oper.semAt_some
set_option linter.unusedVariables false
set_option linter.unusedSimpArgs false
theorem ins_same (a b c d : Int) (w : World) : (binOp .eql 68 (.agg #[.int .i64 a, .int .i64 b, .int .i64 c, .int .i64 d]) (.agg #[.int .i64 a, .int .i64 b, .int .i64 c, .int .i64 d])).run Try.prog w = .ok (.bool true) w := by
  have h : (Op.equalIn 10000 68 (.agg #[.int .i64 a, .int .i64 b, .int .i64 c, .int .i64 d]) (.agg #[.int .i64 a, .int .i64 b, .int .i64 c, .int .i64 d])).run Try.prog w = .ok true w := by
    rw [show (10000 : Nat) = 9999 + 1 from rfl, run_equalIn_struct w 9999 68 _ _ (by kernel_rfl) (by kernel_rfl)]
    simp [go_sem, Try.underlying68]
  simp only [binOp]
  simp [Op.equal, Op.maxDepth, h]
theorem par_same (w : World) : (binOp .eql 27 (.agg #[.int .i64 0, .int .i64 0, .int .i64 0, .int .i64 0, .int .i64 0, .bool false, .bool false]) (.agg #[.int .i64 0, .int .i64 0, .int .i64 0, .int .i64 0, .int .i64 0, .bool false, .bool false])).run Try.prog w = .ok (.bool true) w := by kernel_rfl
noncomputable def sb : Code := (Try.f5.body).getD .skip
noncomputable def s9 : Code := rgt (rgt (rgt (rgt (rgt (rgt sb)))))
noncomputable def s30 : Code := lft (rgt (rgt (rgt (rgt (rgt (rgt s9))))))
theorem s4b {Bx : Nat} {i0 i1 i2 i3 : Int} {w w' : World} (h : w.cell? ⟨Bx, 0, none⟩ = some (.int .i64 i0) ∧ w.cell? ⟨Bx, 1, none⟩ = some (.int .i64 i1) ∧ w.cell? ⟨Bx, 2, none⟩ = some (.int .i64 i2) ∧ w.cell? ⟨Bx, 3, none⟩ = some (.int .i64 i3)) (hb : Below w.heap.size w w') : w'.cell? ⟨Bx, 0, none⟩ = some (.int .i64 i0) ∧ w'.cell? ⟨Bx, 1, none⟩ = some (.int .i64 i1) ∧ w'.cell? ⟨Bx, 2, none⟩ = some (.int .i64 i2) ∧ w'.cell? ⟨Bx, 3, none⟩ = some (.int .i64 i3) := by
  obtain ⟨h0, h1, h2, h3⟩ := h
  exact ⟨kc h0 hb, kc h1 hb, kc h2 hb, kc h3 hb⟩
set_option maxRecDepth 20000 in
set_option maxHeartbeats 4000000 in
theorem s30_of {C Bx : Nat} {fn pc i0 i1 i2 i3 : Int} {u0 u3 u4 u5 u6 u7 u9 u10 u11 u13 u14 u15 u19 u20 u21 u22 u23 u24 u25 u26 u27 u28 u29 u30 u31 u32 u33 u34 u35 u36 u37 u38 u39 u40 u41 u42 u43 u44 u45 u46 u47 u48 u49 u50 u51 u52 u53 u54 u55 u56 u57 u58 u59 u60 u61 u62 u63 u64 u65 u66 u67 u68 u69 u70 u71 u72 u73 u74 u75 u76 u77 u78 u79 u80 u81 u82 u83 u84 u85 u86 u87 u88 u89 u90 u91 u92 u93 u94 u95 u96 u97 u98 u99 u100 u101 u102 u103 u104 u105 u106 u107 u108 u109 u110 u111 u112 u113 u114 u115 u116 u117 u118 u119 u120 u121 u122 u123 u124 u125 u126 u127 u128 u129 u130 u131 u132 u133 u134 u135 u136 u137 u138 u139 u140 u141 u142 u143 u144 u145 u146 u147 u148 u149 u150 u151 u152 u153 u154 u155 u156 u157 u158 u159 u160 u161 u162 u163 u164 u165 u166 u167 u168 u169 u170 u171 u172 u173 u174 u175 u176 u177 u178 u179 u180 u181 u182 u183 u184 u185 u186 u187 u188 u189 u190 u191 u192 u193 u194 u195 u196 u197 u198 u199 u200 u201 u202 : Value} {Q : Exit → Act → World → Prop} {w : World}
    (hC : ∀ V, Below w.heap.size w V → Calls Try.prog 34 #[.pointer (some ⟨C, 0, none⟩), .int .i64 fn, .int .i64 pc] V fun e V' => e = .returned (.agg #[.int .i64 i0, .int .i64 i1, .int .i64 i2, .int .i64 i3]) ∧ Below V.heap.size V V')
    (hS : w.cell? ⟨Bx, 0, none⟩ = some (.int .i64 i0) ∧ w.cell? ⟨Bx, 1, none⟩ = some (.int .i64 i1) ∧ w.cell? ⟨Bx, 2, none⟩ = some (.int .i64 i2) ∧ w.cell? ⟨Bx, 3, none⟩ = some (.int .i64 i3))
    (hN : ∀ (v144 v145 v146 v147 v148 v149 v150 v151 v152 v153 v154 v155 v156 v157 v158 v159 v160 v161 v162 v163 v164 v165 v166 v167 v168 v169 v170 v171 v172 v173 v174 v175 v176 v177 v178 v179 v180 v181 v182 v183 v184 v185 v186 v187 v188 v189 v190 v191 v192 v193 v194 v195 v196 v197 v198 v199 v200 v201 v202 : Value) (W : World), Below w.heap.size w W → Q .normal ⟨List.toArray (u0 :: .int .i64 fn :: .int .i64 pc :: u3 :: u4 :: u5 :: .bool true :: u7 :: .pointer (some ⟨C, 0, none⟩) :: u9 :: u10 :: u11 :: .pointer none :: u13 :: u14 :: u15 :: .pointer (some ⟨Bx, 0, none⟩) :: .int .i64 0 :: .int .i64 0 :: u19 :: u20 :: u21 :: u22 :: u23 :: u24 :: u25 :: u26 :: u27 :: u28 :: u29 :: u30 :: u31 :: u32 :: u33 :: u34 :: u35 :: u36 :: u37 :: u38 :: u39 :: u40 :: u41 :: u42 :: u43 :: u44 :: u45 :: u46 :: u47 :: u48 :: u49 :: u50 :: u51 :: u52 :: u53 :: u54 :: u55 :: u56 :: u57 :: u58 :: u59 :: u60 :: u61 :: u62 :: u63 :: u64 :: u65 :: u66 :: u67 :: u68 :: u69 :: u70 :: u71 :: u72 :: u73 :: u74 :: u75 :: u76 :: u77 :: u78 :: u79 :: u80 :: u81 :: u82 :: u83 :: u84 :: u85 :: u86 :: u87 :: u88 :: u89 :: u90 :: u91 :: u92 :: u93 :: u94 :: u95 :: u96 :: u97 :: u98 :: u99 :: u100 :: u101 :: u102 :: u103 :: u104 :: u105 :: u106 :: u107 :: u108 :: u109 :: u110 :: u111 :: u112 :: u113 :: u114 :: u115 :: u116 :: u117 :: u118 :: u119 :: u120 :: u121 :: u122 :: u123 :: u124 :: u125 :: u126 :: u127 :: u128 :: u129 :: u130 :: u131 :: u132 :: u133 :: u134 :: u135 :: u136 :: u137 :: u138 :: u139 :: u140 :: u141 :: u142 :: u143 :: v144 :: v145 :: v146 :: v147 :: v148 :: v149 :: v150 :: v151 :: v152 :: v153 :: v154 :: v155 :: v156 :: v157 :: v158 :: v159 :: v160 :: v161 :: v162 :: v163 :: v164 :: v165 :: v166 :: v167 :: v168 :: v169 :: v170 :: v171 :: v172 :: v173 :: v174 :: v175 :: v176 :: v177 :: v178 :: v179 :: v180 :: v181 :: v182 :: v183 :: v184 :: v185 :: v186 :: v187 :: v188 :: v189 :: v190 :: v191 :: v192 :: v193 :: v194 :: v195 :: v196 :: v197 :: v198 :: v199 :: v200 :: v201 :: v202 :: []), []⟩ W) : Code.wp Try.prog s30 Q ⟨List.toArray (u0 :: .int .i64 fn :: .int .i64 pc :: u3 :: u4 :: u5 :: u6 :: u7 :: .pointer (some ⟨C, 0, none⟩) :: u9 :: u10 :: u11 :: .pointer none :: u13 :: u14 :: u15 :: .pointer (some ⟨Bx, 0, none⟩) :: .int .i64 0 :: .int .i64 0 :: u19 :: u20 :: u21 :: u22 :: u23 :: u24 :: u25 :: u26 :: u27 :: u28 :: u29 :: u30 :: u31 :: u32 :: u33 :: u34 :: u35 :: u36 :: u37 :: u38 :: u39 :: u40 :: u41 :: u42 :: u43 :: u44 :: u45 :: u46 :: u47 :: u48 :: u49 :: u50 :: u51 :: u52 :: u53 :: u54 :: u55 :: u56 :: u57 :: u58 :: u59 :: u60 :: u61 :: u62 :: u63 :: u64 :: u65 :: u66 :: u67 :: u68 :: u69 :: u70 :: u71 :: u72 :: u73 :: u74 :: u75 :: u76 :: u77 :: u78 :: u79 :: u80 :: u81 :: u82 :: u83 :: u84 :: u85 :: u86 :: u87 :: u88 :: u89 :: u90 :: u91 :: u92 :: u93 :: u94 :: u95 :: u96 :: u97 :: u98 :: u99 :: u100 :: u101 :: u102 :: u103 :: u104 :: u105 :: u106 :: u107 :: u108 :: u109 :: u110 :: u111 :: u112 :: u113 :: u114 :: u115 :: u116 :: u117 :: u118 :: u119 :: u120 :: u121 :: u122 :: u123 :: u124 :: u125 :: u126 :: u127 :: u128 :: u129 :: u130 :: u131 :: u132 :: u133 :: u134 :: u135 :: u136 :: u137 :: u138 :: u139 :: u140 :: u141 :: u142 :: u143 :: u144 :: u145 :: u146 :: u147 :: u148 :: u149 :: u150 :: u151 :: u152 :: u153 :: u154 :: u155 :: u156 :: u157 :: u158 :: u159 :: u160 :: u161 :: u162 :: u163 :: u164 :: u165 :: u166 :: u167 :: u168 :: u169 :: u170 :: u171 :: u172 :: u173 :: u174 :: u175 :: u176 :: u177 :: u178 :: u179 :: u180 :: u181 :: u182 :: u183 :: u184 :: u185 :: u186 :: u187 :: u188 :: u189 :: u190 :: u191 :: u192 :: u193 :: u194 :: u195 :: u196 :: u197 :: u198 :: u199 :: u200 :: u201 :: u202 :: []), []⟩ w := by
  have HN := Lib.hid hN
  have HC := Lib.hid hC
  have hS0 : w.drew.cell? ⟨Bx, 0, none⟩ = some (.int .i64 i0) ∧ w.drew.cell? ⟨Bx, 1, none⟩ = some (.int .i64 i1) ∧ w.drew.cell? ⟨Bx, 2, none⟩ = some (.int .i64 i2) ∧ w.drew.cell? ⟨Bx, 3, none⟩ = some (.int .i64 i3) := hS
  have HB0 : Hid (Below w.heap.size w w.drew) := Lib.hid (ghd (Below.refl _ _))
  have e1 := ins_same i0 i1 i2 i3
  have e2 := ins_same 0 0 0 0
  have e3 := par_same
  clear hN hC hS
  conv => arg 2; whnf
  go_region_held3 (fun w' => w'.cell? ⟨Bx, 0, none⟩ = some (.int .i64 i0) ∧ w'.cell? ⟨Bx, 1, none⟩ = some (.int .i64 i1) ∧ w'.cell? ⟨Bx, 2, none⟩ = some (.int .i64 i2) ∧ w'.cell? ⟨Bx, 3, none⟩ = some (.int .i64 i3)) (first | (with_reducible assumption) | (with_reducible exact hS0) | (with_reducible exact hS1) | (with_reducible exact hS2) | (with_reducible exact hS3))
    (first
      | (go_at_call 34; (with_reducible refine (HC.out _ HB0.out).mono ?_); rintro e w1 ⟨rfl, hb1⟩; have hS1 := s4b hS0 hb1)
      | (go_at_call 34; (with_reducible refine (code_nil fn pc).mono ?_); rintro e w2 ⟨rfl, hb2⟩; have hS2 := s4b hS1 hb2)
      | (go_at_call 33; (with_reducible refine serial_nil.mono ?_); rintro e w3 ⟨rfl, rfl⟩)
      | (go_at_call 13; (with_reducible refine words_nil.mono ?_); rintro e w3 ⟨rfl, rfl⟩)
      | (go_at_call 22; (with_reducible refine data_nil.mono ?_); rintro e w3 ⟨rfl, rfl⟩)
      | (go_at_call 17; (with_reducible refine frames_nil.mono ?_); rintro e w3 ⟨rfl, rfl⟩)
      | (go_at_call 24; (with_reducible refine out_nil.mono ?_); rintro e w3 ⟨rfl, rfl⟩)
      | (go_at_call 26; (with_reducible refine log_nil.mono ?_); rintro e w3 ⟨rfl, rfl⟩)
      | (go_at_call 28; (with_reducible refine stats_nil.mono ?_); rintro e w3 ⟨rfl, rfl⟩)
      | (go_at_call 23; (with_reducible refine params_nil.mono ?_); rintro e w4 ⟨rfl, hb4⟩; have hS3 := s4b hS2 hb4))
  all_goals exact HN.out _ _ _ _ _ _ _ _ _ _ _ _ _ _ _ _ _ _ _ _ _ _ _ _ _ _ _ _ _ _ _ _ _ _ _ _ _ _ _ _ _ _ _ _ _ _ _ _ _ _ _ _ _ _ _ _ _ _ _ _ (bl_tr (bl_tr (bl_tr HB0.out hb1) hb2) hb4)
end Go.Proofs.Ytbmndjedgedbdaa.co
