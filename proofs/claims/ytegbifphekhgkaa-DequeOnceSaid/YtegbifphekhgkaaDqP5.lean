/- The play of DequeOnce, cut into pieces: a copy and one more (layer 13). -/
import Derived.Test.YtegbifphekhgkaaDqP4
import Derived.Test.YtegbifphekhgkaaDqR
import Derived.Deep.RegionLaw
namespace Go.Proofs.Ytegbifphekhgkaa.dqo
open Go.ChangeShapes Go.WideShapes Go.ChangeAt Go.RowKit

attribute [local go_sem ↓] Go.wp_at_zero Go.wp_at_succ
set_option linter.unusedVariables false
set_option linter.unusedSimpArgs false
set_option maxRecDepth 20000 in
set_option maxHeartbeats 4000000 in
theorem r34_of {D len cap Rz Pl S Wv Ou nx i : Nat} {a1 : Option Addr} {tl : Int} {ps : Bool} {k A : Nat} {x : Int} {ok : Bool} {n : Nat} {v : Value} {xs : List Int} {u18 u19 u20 u21 u22 u23 u24 u25 u26 u27 u28 u29 u30 u31 u32 u33 u34 u35 u36 u37 u38 u39 u40 u41 u42 u43 u44 u45 u46 u47 u48 u49 u50 u51 u52 u53 u54 u55 u56 u57 u58 u59 u60 u61 u62 u63 u64 u65 u66 u67 u68 u69 u70 u71 u72 u73 u74 u75 u76 u77 u78 u79 u80 u81 u82 u83 u84 u85 u86 u87 u88 u89 u90 u91 u92 u93 u94 u95 u96 u97 u98 u99 u100 u101 u102 u103 u104 u105 u106 u107 u108 u109 u110 u111 u112 u113 u114 u115 u116 u117 u118 u119 u120 u121 u122 u123 u124 u125 u126 u127 u128 u129 u130 u131 u132 u133 u134 u135 u136 u137 u138 u139 u140 u141 u142 u143 u144 u145 u146 u147 u148 u149 u150 u151 u152 u153 u154 u155 u156 u157 u158 u159 u160 u161 u162 u163 u164 u165 u166 u167 u168 u169 u170 u171 u172 u173 u174 u175 u176 u177 u178 u179 u180 u181 u182 u183 : Value} {Q : Exit → Act → World → Prop} {w : World}
    (h : OI w (Ou + 1) v xs) (hOu : Ou < w.heap.size) (hc : w.cell? ⟨Ou, 3, none⟩ = some v) (hf : w.frozen? ⟨Ou, 3, none⟩ = false) (hsm : xs.length ≤ 1000)
    (hN : ∀ (v121 v122 v123 v124 v125 v126 v127 v128 : Value) (W : World) (vv : Value) (w' : World), OI W w.heap.size vv (xs ++ [(nx : Int)]) ∧ Below w.heap.size w W ∧ w' = W.setCell ⟨Ou, 3, none⟩ vv → Q .normal ⟨#[.int .i64 (D : Int), .slice a1 len cap, undef, undef, .pointer (some ⟨Rz, 0, none⟩), .pointer (some ⟨Pl, 0, none⟩), .pointer (some ⟨S, 0, none⟩), .slice (some ⟨Wv, 0, none⟩) 4 4, .pointer (some ⟨Ou, 0, none⟩), .int .i64 tl, .int .i64 (nx : Int), .bool ps, .int .i64 (i : Int), .int .i64 (k : Int), .pointer (some ⟨A, 0, none⟩), .int .i64 x, .bool ok, .int .i64 (n : Int), u18, u19, u20, u21, u22, u23, u24, u25, u26, u27, u28, u29, u30, u31, u32, u33, u34, u35, u36, u37, u38, u39, u40, u41, u42, u43, u44, u45, u46, u47, u48, u49, u50, u51, u52, u53, u54, u55, u56, u57, u58, u59, u60, u61, u62, u63, u64, u65, u66, u67, u68, u69, u70, u71, u72, u73, u74, u75, u76, u77, u78, u79, u80, u81, u82, u83, u84, u85, u86, u87, u88, u89, u90, u91, u92, u93, u94, u95, u96, u97, u98, u99, u100, u101, u102, u103, u104, u105, u106, u107, u108, u109, u110, u111, u112, u113, u114, u115, u116, u117, u118, u119, u120, v121, v122, v123, v124, v125, v126, v127, v128, u129, u130, u131, u132, u133, u134, u135, u136, u137, u138, u139, u140, u141, u142, u143, u144, u145, u146, u147, u148, u149, u150, u151, u152, u153, u154, u155, u156, u157, u158, u159, u160, u161, u162, u163, u164, u165, u166, u167, u168, u169, u170, u171, u172, u173, u174, u175, u176, u177, u178, u179, u180, u181, u182, u183], []⟩ w') :
    Code.wp Try.prog r34 Q ⟨#[.int .i64 (D : Int), .slice a1 len cap, undef, undef, .pointer (some ⟨Rz, 0, none⟩), .pointer (some ⟨Pl, 0, none⟩), .pointer (some ⟨S, 0, none⟩), .slice (some ⟨Wv, 0, none⟩) 4 4, .pointer (some ⟨Ou, 0, none⟩), .int .i64 tl, .int .i64 (nx : Int), .bool ps, .int .i64 (i : Int), .int .i64 (k : Int), .pointer (some ⟨A, 0, none⟩), .int .i64 x, .bool ok, .int .i64 (n : Int), u18, u19, u20, u21, u22, u23, u24, u25, u26, u27, u28, u29, u30, u31, u32, u33, u34, u35, u36, u37, u38, u39, u40, u41, u42, u43, u44, u45, u46, u47, u48, u49, u50, u51, u52, u53, u54, u55, u56, u57, u58, u59, u60, u61, u62, u63, u64, u65, u66, u67, u68, u69, u70, u71, u72, u73, u74, u75, u76, u77, u78, u79, u80, u81, u82, u83, u84, u85, u86, u87, u88, u89, u90, u91, u92, u93, u94, u95, u96, u97, u98, u99, u100, u101, u102, u103, u104, u105, u106, u107, u108, u109, u110, u111, u112, u113, u114, u115, u116, u117, u118, u119, u120, u121, u122, u123, u124, u125, u126, u127, u128, u129, u130, u131, u132, u133, u134, u135, u136, u137, u138, u139, u140, u141, u142, u143, u144, u145, u146, u147, u148, u149, u150, u151, u152, u153, u154, u155, u156, u157, u158, u159, u160, u161, u162, u163, u164, u165, u166, u167, u168, u169, u170, u171, u172, u173, u174, u175, u176, u177, u178, u179, u180, u181, u182, u183], []⟩ w := by
  have hN' := Lib.hid hN
  clear hN
  obtain ⟨sa, cp, rfl, _⟩ := OI.form h
  obtain ⟨T, hT⟩ : ∃ T, xs.length = T := ⟨_, rfl⟩
  rw [hT] at h hc hsm
  have HV : Hid (View w (.slice sa T cp) xs) := Lib.hid (view_of_own h)
  have HK : Hid (∀ w', Below w.heap.size w w' → w'.cell? ⟨Ou, 3, none⟩ = some (.slice sa T cp) ∧ w'.frozen? ⟨Ou, 3, none⟩ = false) := Lib.hid fun w' hb => ⟨keepc hc hb, by rw [← hf]; simp only [World.frozen?, hb.block Ou hOu]⟩
  clear h
  have HT := Lib.hid hT
  conv => arg 2; whnf
  go_wp2_with (at_builtin; refine wpList_copy_row rfl _ _ rfl w.heap.size w.heap.size rfl ?o1 (Nat.le_refl _) xs ?v1 (by have := HT.out; omega) ?_)
  case o1 => first | exact heap_made w _ | (show (w.heap.push _)[w.heap.size] = _; simp)
  case v1 => exact HV.out.below ((Below.refl _ _).alloc (Nat.le_refl _) _)
  intro v' w6 hrow0 hb
  have hrow : OI w6 w.heap.size v' xs := by first | exact hrow0 | (unfold OI; first | exact hrow0 | (rw [HT.out]; exact hrow0))
  clear hrow0
  have hb6 : Below w.heap.size w w6 := ((Below.refl _ w).alloc (Nat.le_refl _) _).trans hb
  clear hb
  obtain ⟨ad2, cp2, rfl, _⟩ := OI.form hrow
  rw [HT.out] at hrow ⊢
  have c6 := (HK.out _ hb6).1
  have f6 := (HK.out _ hb6).2
  have hn1 : Below w6.heap.size w6 (w6.alloc (.cells #[.int .i64 (nx : Int)] 3)) := by go_grown
  have R1 := Lib.hid (hrow.below hn1)
  have R6 := Lib.hid hrow
  have B6 := Lib.hid hb6
  have N1 := Lib.hid hn1
  have hsz2 : w.heap.size ≤ (w6.alloc (.cells #[.int .i64 (nx : Int)] 3)).heap.size := by have := hb6.size; simp; omega
  clear hrow hb6 hn1 hc hf HV
  go_wp2_with ((at_builtin; refine wpList_app1 rfl _ _ rfl w.heap.size (.slice ad2 T cp2) xs rfl ⟨w6.heap.size, 0, none⟩ 1 rfl (nx : Int) R1.out (by go_simp) rfl (by have := HT.out; omega) hsz2 ?_))
  intro v7 w7 hr2 hg2 ho2
  have A1 : App w.heap.size w6 w7 (.slice ad2 T cp2) v7 (xs ++ [(nx : Int)]) := app_of (x := (nx : Int)) R6.out B6.out.size N1.out (by simp) (by simpa [HT.out] using hr2) hg2 (by simpa using ho2)
  have hb7 : Below w.heap.size w w7 := B6.out.trans A1.b
  have c7 := (HK.out _ hb7).1
  have f7 := (HK.out _ hb7).2
  obtain ⟨o', cap', rfl, _⟩ := OI.form A1.r
  have FIN := Lib.hid A1.r
  have FB := Lib.hid hb7
  clear hr2 hg2 ho2 A1 hb7 c6 f6
  generalize (xs ++ [(nx : Int)]).length = L at *
  go_wp2_with fail
  exact hN'.out _ _ _ _ _ _ _ _ _ _ _ ⟨FIN.out, FB.out, rfl⟩
end Go.Proofs.Ytegbifphekhgkaa.dqo
