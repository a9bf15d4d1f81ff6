/- The play of DequeOnce: its second loop (layer 13). -/
import Derived.Test.YtegbifphekhgkaaDqPC
import Derived.Test.YtegbifphekhgkaaDqPD
namespace Go.Proofs.Ytegbifphekhgkaa.dqo
open Go.Proofs.Ytegbifphekhgkaa.ro (Ro KX ext)
open Go.Proofs.Ytegbifphekhgkaa.DO
open Go.ChangeShapes Go.WideShapes Go.ChangeAt Go.RowKit

attribute [local go_sem ↓] Go.wp_at_zero Go.wp_at_succ
set_option linter.unusedVariables false
set_option linter.unusedSimpArgs false
theorem body2_eq : body2 = .seq q43 (.seq (.block 5 q45) q44) := by kernel_rfl
/-- all have ended. -/
def EI (w0 w : World) (Pl S g Wv Ou P D n i len : Nat) (tl : Int) (nx : Nat) (pb : Bool) : Prop :=
  ∃ ρ ag ps vs ls xs m p, PL w0 w ρ Pl S g Wv Ou P D n i len tl nx pb ag ps vs ls xs m p ∧ (∀ k, k < 4 → (ag k).pc = .idle) ∧ ∀ k, k < 4 → ps k = none
theorem LI.ended {w0 w : World} {Pl S g Wv Ou P D n len nx : Nat} {tl : Int} {pb : Bool} (h : LI w0 w Pl S g Wv Ou P D n (len + 400) len tl nx pb) : EI w0 w Pl S g Wv Ou P D n (len + 400) len tl nx pb := by
  obtain ⟨ρ, ag, ps, vs, ls, xs, m, p, h⟩ := h
  have hb := h.bd (by omega)
  rw [Nat.sub_self] at hb
  have hi := bud_end hb
  refine ⟨ρ, ag, ps, vs, ls, xs, m, p, h, hi, fun k hk => ?_⟩
  rcases h.os.on k hk trivial with ⟨e, _⟩ | ⟨A, o, _, e, _⟩
  · exact e
  · exact absurd (hi k hk) e
set_option maxRecDepth 20000 in
set_option maxHeartbeats 4000000 in
theorem loop2_of {D len cap Rz Pl S Wv Ou nx i : Nat} {a1 : Option Addr} {tl : Int} {ps : Bool} {w0 : World} {g P n : Nat}  {u13 u14 u15 u16 u17 u19 u20 u21 u22 u23 u24 u25 u26 u27 u28 u29 u30 u31 u32 u33 u34 u35 u36 u37 u38 u39 u40 u41 u42 u43 u44 u45 u46 u47 u48 u49 u50 u51 u52 u53 u54 u55 u56 u57 u58 u59 u60 u61 u62 u63 u64 u65 u66 u67 u68 u69 u70 u71 u72 u73 u74 u75 u76 u77 u78 u79 u80 u81 u82 u83 u84 u85 u86 u87 u88 u89 u90 u91 u92 u93 u94 u95 u96 u97 u98 u99 u100 u101 u102 u103 u104 u105 u106 u107 u108 u109 u110 u111 u112 u113 u114 u115 u116 u117 u118 u119 u120 u121 u122 u123 u124 u125 u126 u127 u128 u129 u130 u131 u132 u133 u134 u135 u136 u137 u138 u139 u140 u141 u142 u143 u144 u145 u146 u147 u148 u149 u150 u151 u152 u153 u154 u155 u156 u157 u158 u159 u160 u161 u162 u163 u164 u165 u166 u167 u168 u169 u170 u171 u172 u173 u174 u175 u176 u177 u178 u179 u180 u181 u182 u183 : Value} {Q : Exit → Act → World → Prop} {w : World}
    (hE : EI w0 w Pl S g Wv Ou P D n i len tl nx ps)
    (hN : ∀ (v169 v170 v171 v172 v173 v174 v175 v176 v177 v178 v179 v180 v181 v182 : Value)  (w' : World), EI w0 w' Pl S g Wv Ou P D n i len tl nx ps → Q .normal ⟨#[.int .i64 (D : Int), .slice a1 len cap, undef, undef, .pointer (some ⟨Rz, 0, none⟩), .pointer (some ⟨Pl, 0, none⟩), .pointer (some ⟨S, 0, none⟩), .slice (some ⟨Wv, 0, none⟩) 4 4, .pointer (some ⟨Ou, 0, none⟩), .int .i64 tl, .int .i64 (nx : Int), .bool ps, .int .i64 (i : Int), u13, u14, u15, u16, u17, .int .i64 4, u19, u20, u21, u22, u23, u24, u25, u26, u27, u28, u29, u30, u31, u32, u33, u34, u35, u36, u37, u38, u39, u40, u41, u42, u43, u44, u45, u46, u47, u48, u49, u50, u51, u52, u53, u54, u55, u56, u57, u58, u59, u60, u61, u62, u63, u64, u65, u66, u67, u68, u69, u70, u71, u72, u73, u74, u75, u76, u77, u78, u79, u80, u81, u82, u83, u84, u85, u86, u87, u88, u89, u90, u91, u92, u93, u94, u95, u96, u97, u98, u99, u100, u101, u102, u103, u104, u105, u106, u107, u108, u109, u110, u111, u112, u113, u114, u115, u116, u117, u118, u119, u120, u121, u122, u123, u124, u125, u126, u127, u128, u129, u130, u131, u132, u133, u134, u135, u136, u137, u138, u139, u140, u141, u142, u143, u144, u145, u146, u147, u148, u149, u150, u151, u152, u153, u154, u155, u156, u157, u158, u159, u160, u161, u162, u163, u164, u165, u166, u167, u168, v169, v170, v171, v172, v173, v174, v175, v176, v177, v178, v179, v180, v181, v182, u183], []⟩ w') :
    Code.wp Try.prog (.block 4 (.loop body2)) Q ⟨#[.int .i64 (D : Int), .slice a1 len cap, undef, undef, .pointer (some ⟨Rz, 0, none⟩), .pointer (some ⟨Pl, 0, none⟩), .pointer (some ⟨S, 0, none⟩), .slice (some ⟨Wv, 0, none⟩) 4 4, .pointer (some ⟨Ou, 0, none⟩), .int .i64 tl, .int .i64 (nx : Int), .bool ps, .int .i64 (i : Int), u13, u14, u15, u16, u17, .int .i64 0, u19, u20, u21, u22, u23, u24, u25, u26, u27, u28, u29, u30, u31, u32, u33, u34, u35, u36, u37, u38, u39, u40, u41, u42, u43, u44, u45, u46, u47, u48, u49, u50, u51, u52, u53, u54, u55, u56, u57, u58, u59, u60, u61, u62, u63, u64, u65, u66, u67, u68, u69, u70, u71, u72, u73, u74, u75, u76, u77, u78, u79, u80, u81, u82, u83, u84, u85, u86, u87, u88, u89, u90, u91, u92, u93, u94, u95, u96, u97, u98, u99, u100, u101, u102, u103, u104, u105, u106, u107, u108, u109, u110, u111, u112, u113, u114, u115, u116, u117, u118, u119, u120, u121, u122, u123, u124, u125, u126, u127, u128, u129, u130, u131, u132, u133, u134, u135, u136, u137, u138, u139, u140, u141, u142, u143, u144, u145, u146, u147, u148, u149, u150, u151, u152, u153, u154, u155, u156, u157, u158, u159, u160, u161, u162, u163, u164, u165, u166, u167, u168, u169, u170, u171, u172, u173, u174, u175, u176, u177, u178, u179, u180, u181, u182, u183], []⟩ w := by
  refine wp_block ?_
  refine wp_loop (fun a w' => ∃ (j : Nat) (f : Nat → Value), j ≤ 4 ∧ a = ⟨#[.int .i64 (D : Int), .slice a1 len cap, undef, undef, .pointer (some ⟨Rz, 0, none⟩), .pointer (some ⟨Pl, 0, none⟩), .pointer (some ⟨S, 0, none⟩), .slice (some ⟨Wv, 0, none⟩) 4 4, .pointer (some ⟨Ou, 0, none⟩), .int .i64 tl, .int .i64 (nx : Int), .bool ps, .int .i64 (i : Int), u13, u14, u15, u16, u17, .int .i64 (j : Int), u19, u20, u21, u22, u23, u24, u25, u26, u27, u28, u29, u30, u31, u32, u33, u34, u35, u36, u37, u38, u39, u40, u41, u42, u43, u44, u45, u46, u47, u48, u49, u50, u51, u52, u53, u54, u55, u56, u57, u58, u59, u60, u61, u62, u63, u64, u65, u66, u67, u68, u69, u70, u71, u72, u73, u74, u75, u76, u77, u78, u79, u80, u81, u82, u83, u84, u85, u86, u87, u88, u89, u90, u91, u92, u93, u94, u95, u96, u97, u98, u99, u100, u101, u102, u103, u104, u105, u106, u107, u108, u109, u110, u111, u112, u113, u114, u115, u116, u117, u118, u119, u120, u121, u122, u123, u124, u125, u126, u127, u128, u129, u130, u131, u132, u133, u134, u135, u136, u137, u138, u139, u140, u141, u142, u143, u144, u145, u146, u147, u148, u149, u150, u151, u152, u153, u154, u155, u156, u157, u158, u159, u160, u161, u162, u163, u164, u165, u166, u167, u168, (f 169), (f 170), (f 171), (f 172), (f 173), (f 174), (f 175), (f 176), (f 177), (f 178), (f 179), (f 180), (f 181), (f 182), u183], []⟩ ∧ EI w0 w' Pl S g Wv Ou P D n i len tl nx ps) (fun a _ => 5 - (RowKit.intOf (a.tmps.getD 18 undef)).toNat) ⟨0, fun q => (#[.int .i64 (D : Int), .slice a1 len cap, undef, undef, .pointer (some ⟨Rz, 0, none⟩), .pointer (some ⟨Pl, 0, none⟩), .pointer (some ⟨S, 0, none⟩), .slice (some ⟨Wv, 0, none⟩) 4 4, .pointer (some ⟨Ou, 0, none⟩), .int .i64 tl, .int .i64 (nx : Int), .bool ps, .int .i64 (i : Int), u13, u14, u15, u16, u17, .int .i64 0, u19, u20, u21, u22, u23, u24, u25, u26, u27, u28, u29, u30, u31, u32, u33, u34, u35, u36, u37, u38, u39, u40, u41, u42, u43, u44, u45, u46, u47, u48, u49, u50, u51, u52, u53, u54, u55, u56, u57, u58, u59, u60, u61, u62, u63, u64, u65, u66, u67, u68, u69, u70, u71, u72, u73, u74, u75, u76, u77, u78, u79, u80, u81, u82, u83, u84, u85, u86, u87, u88, u89, u90, u91, u92, u93, u94, u95, u96, u97, u98, u99, u100, u101, u102, u103, u104, u105, u106, u107, u108, u109, u110, u111, u112, u113, u114, u115, u116, u117, u118, u119, u120, u121, u122, u123, u124, u125, u126, u127, u128, u129, u130, u131, u132, u133, u134, u135, u136, u137, u138, u139, u140, u141, u142, u143, u144, u145, u146, u147, u148, u149, u150, u151, u152, u153, u154, u155, u156, u157, u158, u159, u160, u161, u162, u163, u164, u165, u166, u167, u168, u169, u170, u171, u172, u173, u174, u175, u176, u177, u178, u179, u180, u181, u182, u183] : Array Value).getD q undef, by omega, rfl, hE⟩ ?_
  rintro a w' ⟨j, f, hj, rfl, hE⟩
  rw [body2_eq]
  refine wp_seq ?_
  by_cases hj4 : j < 4
  · refine q43_in hj4 ?_
    intro v169 v170 w2 hw2
    rw [hw2]
    change Code.wp Try.prog (.seq (.block 5 q45) q44) _ _ _
    refine wp_seq ?_
    refine wp_block ?_
    obtain ⟨ρ, ag, ps0, vs, ls, xs, m, p, h, hi, hps⟩ := hE
    refine q45_of hj4 h.os.right (h.os.frzO 4) ((h.os.ptr j hj4).trans (by rw [hps j hj4]; rfl)) ?_
    intro v173 v174 v175 v176 v177 v178 v179 v180 v181 v182 w3 hw3
    change Code.wp Try.prog q44 _ _ _
    refine q44_of hj4 ?_
    intro v171 v172 w4 hw4
    rw [hw4, hw3]
    refine ⟨⟨j + 1, fun q => (#[.int .i64 (D : Int), .slice a1 len cap, undef, undef, .pointer (some ⟨Rz, 0, none⟩), .pointer (some ⟨Pl, 0, none⟩), .pointer (some ⟨S, 0, none⟩), .slice (some ⟨Wv, 0, none⟩) 4 4, .pointer (some ⟨Ou, 0, none⟩), .int .i64 tl, .int .i64 (nx : Int), .bool ps, .int .i64 (i : Int), u13, u14, u15, u16, u17, .int .i64 ((j + 1 : Nat) : Int), u19, u20, u21, u22, u23, u24, u25, u26, u27, u28, u29, u30, u31, u32, u33, u34, u35, u36, u37, u38, u39, u40, u41, u42, u43, u44, u45, u46, u47, u48, u49, u50, u51, u52, u53, u54, u55, u56, u57, u58, u59, u60, u61, u62, u63, u64, u65, u66, u67, u68, u69, u70, u71, u72, u73, u74, u75, u76, u77, u78, u79, u80, u81, u82, u83, u84, u85, u86, u87, u88, u89, u90, u91, u92, u93, u94, u95, u96, u97, u98, u99, u100, u101, u102, u103, u104, u105, u106, u107, u108, u109, u110, u111, u112, u113, u114, u115, u116, u117, u118, u119, u120, u121, u122, u123, u124, u125, u126, u127, u128, u129, u130, u131, u132, u133, u134, u135, u136, u137, u138, u139, u140, u141, u142, u143, u144, u145, u146, u147, u148, u149, u150, u151, u152, u153, u154, u155, u156, u157, u158, u159, u160, u161, u162, u163, u164, u165, u166, u167, u168, v169, v170, v171, v172, v173, v174, v175, v176, v177, v178, v179, v180, v181, v182, u183] : Array Value).getD q undef, by omega, rfl, ⟨ρ, ag, ps0, vs, ls, xs, m, p, { h with os := h.os.setRight }, hi, hps⟩⟩, ?_⟩
    show 5 - (RowKit.intOf (.int .i64 ((j + 1 : Nat) : Int))).toNat < 5 - (RowKit.intOf (.int .i64 (j : Int))).toNat
    simp [RowKit.intOf]
    omega
  · obtain rfl : j = 4 := by omega
    refine q43_out hj4 (by omega) ?_
    intro v169 v170 w2 hw2
    rw [hw2]
    change Exit.inBlock 4 Q (.exit 4) _ _
    refine inblock_exit ?_
    exact hN _ _ _ _ _ _ _ _ _ _ _ _ _ _ _ hE
end Go.Proofs.Ytegbifphekhgkaa.dqo
