/- The play of DequeOnce, cut into pieces: one more at a row of its own (layer 13). -/
import Derived.Test.YtegbifphekhgkaaDqP3
import Derived.Test.YtegbifphekhgkaaIntR
namespace Go.Proofs.Ytegbifphekhgkaa.dqo
open Go.ChangeShapes Go.WideShapes Go.ChangeAt Go.RowKit

attribute [local go_sem ↓] Go.wp_at_zero Go.wp_at_succ
set_option linter.unusedVariables false
set_option linter.unusedSimpArgs false
/-- A row of numbers and one more: what it leaves. -/
structure App (B : Nat) (w W : World) (v v' : Value) (ys : List Int) : Prop where
  r : OI W B v' ys
  sz : w.heap.size ≤ W.heap.size
  k : ∀ k, k < w.heap.size → v.ownBlock ≠ some k → W.heap[k]? = w.heap[k]?
  o : v'.ownBlock = v.ownBlock ∨ ∀ k, v'.ownBlock = some k → w.heap.size ≤ k
  b : Below B w W
theorem app_of {B : Nat} {w W1 W2 : World} {v v' : Value} {xs : List Int} {x : Int} (h : OI w B v xs) (hB : B ≤ w.heap.size) (hb1 : Below w.heap.size w W1) (hs1 : W1.heap.size = w.heap.size + 1)
    (h1 : W2.ownsRow B 3 1 v' (xs ++ [x]).length ((xs ++ [x]).map (Value.int .i64))) (hg : W1.grownBy W2 v.ownBlock) (ho : v'.ownBlock = v.ownBlock ∨ v'.ownBlock = some W1.heap.size) : App B w W2 v v' (xs ++ [x]) := by
  have hne : ∀ k, v.ownBlock = some k → B ≤ k := fun k e => (h.lt k e).1
  have hsz := hg.size
  refine ⟨by unfold OI; exact h1, by omega, fun k hk hn => ?_, ?_, ?_⟩
  · exact (hg.block k (by omega) (fun e => hn e.symm)).trans (hb1.block k hk)
  · rcases ho with ho | ho
    · exact Or.inl ho
    · refine Or.inr fun k e => ?_
      rw [ho] at e; cases e; omega
  · exact (hb1.mono hB).grown hg (by omega) (fun k e => hne k e)
set_option maxRecDepth 20000 in
set_option maxHeartbeats 4000000 in
theorem r29_of {D len cap Rz Pl S Wv Ou nx i : Nat} {a1 : Option Addr} {tl : Int} {ps : Bool} {k A : Nat} {x : Int} {ok : Bool} {n0 : Nat} {v : Value} {xs : List Int} {u17 u18 u19 u20 u21 u22 u23 u24 u25 u26 u27 u28 u29 u30 u31 u32 u33 u34 u35 u36 u37 u38 u39 u40 u41 u42 u43 u44 u45 u46 u47 u48 u49 u50 u51 u52 u53 u54 u55 u56 u57 u58 u59 u60 u61 u62 u63 u64 u65 u66 u67 u68 u69 u70 u71 u72 u73 u74 u75 u76 u77 u78 u79 u80 u81 u82 u83 u84 u85 u86 u87 u88 u89 u90 u91 u92 u93 u94 u95 u96 u97 u98 u99 u100 u101 u102 u103 u104 u105 u106 u107 u108 u109 u110 u111 u112 u113 u114 u115 u116 u117 u118 u119 u120 u121 u122 u123 u124 u125 u126 u127 u128 u129 u130 u131 u132 u133 u134 u135 u136 u137 u138 u139 u140 u141 u142 u143 u144 u145 u146 u147 u148 u149 u150 u151 u152 u153 u154 u155 u156 u157 u158 u159 u160 u161 u162 u163 u164 u165 u166 u167 u168 u169 u170 u171 u172 u173 u174 u175 u176 u177 u178 u179 u180 u181 u182 u183 : Value} {Q : Exit → Act → World → Prop} {w : World}
    (h : OI w (Ou + 1) v xs) (hB : Ou + 1 ≤ w.heap.size) (hOu : Ou < w.heap.size) (hc : w.cell? ⟨Ou, 2, none⟩ = some v) (hf : w.frozen? ⟨Ou, 2, none⟩ = false) (hsm : xs.length ≤ 1000)
    (hN : ∀ (v96 v97 v98 v99 v100 v101 : Value) (W : World) (vv : Value) (w' : World), App (Ou + 1) w W v vv (xs ++ [x]) ∧ w' = W.setCell ⟨Ou, 2, none⟩ vv → Q .normal ⟨#[.int .i64 (D : Int), .slice a1 len cap, undef, undef, .pointer (some ⟨Rz, 0, none⟩), .pointer (some ⟨Pl, 0, none⟩), .pointer (some ⟨S, 0, none⟩), .slice (some ⟨Wv, 0, none⟩) 4 4, .pointer (some ⟨Ou, 0, none⟩), .int .i64 tl, .int .i64 (nx : Int), .bool ps, .int .i64 (i : Int), .int .i64 (k : Int), .pointer (some ⟨A, 0, none⟩), .int .i64 x, .bool ok, u17, u18, u19, u20, u21, u22, u23, u24, u25, u26, u27, u28, u29, u30, u31, u32, u33, u34, u35, u36, u37, u38, u39, u40, u41, u42, u43, u44, u45, u46, u47, u48, u49, u50, u51, u52, u53, u54, u55, u56, u57, u58, u59, u60, u61, u62, u63, u64, u65, u66, u67, u68, u69, u70, u71, u72, u73, u74, u75, u76, u77, u78, u79, u80, u81, u82, u83, u84, u85, u86, u87, u88, u89, u90, u91, u92, u93, u94, u95, v96, v97, v98, v99, v100, v101, u102, u103, u104, u105, u106, u107, u108, u109, u110, u111, u112, u113, u114, u115, u116, u117, u118, u119, u120, u121, u122, u123, u124, u125, u126, u127, u128, u129, u130, u131, u132, u133, u134, u135, u136, u137, u138, u139, u140, u141, u142, u143, u144, u145, u146, u147, u148, u149, u150, u151, u152, u153, u154, u155, u156, u157, u158, u159, u160, u161, u162, u163, u164, u165, u166, u167, u168, u169, u170, u171, u172, u173, u174, u175, u176, u177, u178, u179, u180, u181, u182, u183], []⟩ w') :
    Code.wp Try.prog r29 Q ⟨#[.int .i64 (D : Int), .slice a1 len cap, undef, undef, .pointer (some ⟨Rz, 0, none⟩), .pointer (some ⟨Pl, 0, none⟩), .pointer (some ⟨S, 0, none⟩), .slice (some ⟨Wv, 0, none⟩) 4 4, .pointer (some ⟨Ou, 0, none⟩), .int .i64 tl, .int .i64 (nx : Int), .bool ps, .int .i64 (i : Int), .int .i64 (k : Int), .pointer (some ⟨A, 0, none⟩), .int .i64 x, .bool ok, u17, u18, u19, u20, u21, u22, u23, u24, u25, u26, u27, u28, u29, u30, u31, u32, u33, u34, u35, u36, u37, u38, u39, u40, u41, u42, u43, u44, u45, u46, u47, u48, u49, u50, u51, u52, u53, u54, u55, u56, u57, u58, u59, u60, u61, u62, u63, u64, u65, u66, u67, u68, u69, u70, u71, u72, u73, u74, u75, u76, u77, u78, u79, u80, u81, u82, u83, u84, u85, u86, u87, u88, u89, u90, u91, u92, u93, u94, u95, u96, u97, u98, u99, u100, u101, u102, u103, u104, u105, u106, u107, u108, u109, u110, u111, u112, u113, u114, u115, u116, u117, u118, u119, u120, u121, u122, u123, u124, u125, u126, u127, u128, u129, u130, u131, u132, u133, u134, u135, u136, u137, u138, u139, u140, u141, u142, u143, u144, u145, u146, u147, u148, u149, u150, u151, u152, u153, u154, u155, u156, u157, u158, u159, u160, u161, u162, u163, u164, u165, u166, u167, u168, u169, u170, u171, u172, u173, u174, u175, u176, u177, u178, u179, u180, u181, u182, u183], []⟩ w := by
  have hN' := Lib.hid hN
  clear hN
  obtain ⟨sa, cp, rfl, _⟩ := OI.form h
  have hn1 : Below w.heap.size w (w.alloc (.cells #[.int .i64 x] 3)) := by go_grown
  have HN := Lib.hid hn1
  have H := Lib.hid h
  have HB := Lib.hid hB
  have HO := Lib.hid hOu
  have F0 := Lib.hid hf
  have C0 := Lib.hid hc
  have R1 := Lib.hid (h.below hn1)
  have hsz2 : Ou + 1 ≤ (w.alloc (.cells #[.int .i64 x] 3)).heap.size := by simp; omega
  clear h hn1 hB hOu hf
  generalize hL : xs.length = n1 at *
  have HL := Lib.hid hL
  clear hL
  conv => arg 2; whnf
  go_wp2_with ((at_builtin; refine wpList_app1 rfl _ _ rfl (Ou + 1) (.slice sa n1 cp) xs rfl ⟨w.heap.size, 0, none⟩ 1 rfl x R1.out (by go_simp) rfl (by have := HL.out; omega) hsz2 ?_))
  intro v' W2 hr2 hg2 ho2
  have A1 : App (Ou + 1) w W2 (.slice sa n1 cp) v' (xs ++ [x]) := app_of (x := x) H.out HB.out HN.out (by simp) (by simpa using hr2) hg2 (by simpa using ho2)
  have e2 : W2.heap[Ou]? = w.heap[Ou]? := A1.k Ou HO.out (fun e => by have := (H.out.lt Ou e).1; omega)
  have c1 : W2.cell? ⟨Ou, 2, none⟩ = some (.slice sa n1 cp) := by rw [← C0.out]; simp only [World.cell?, e2]
  have f1 : W2.frozen? ⟨Ou, 2, none⟩ = false := by rw [← F0.out]; simp only [World.frozen?, e2]
  obtain ⟨o', cap', rfl, _⟩ := OI.form A1.r
  have FIN := Lib.hid A1
  clear hr2 hg2 ho2 e2 A1 hc
  generalize (xs ++ [x]).length = L at *
  go_wp2_with fail
  exact hN'.out _ _ _ _ _ _ _ _ _ ⟨FIN.out, rfl⟩
set_option maxRecDepth 20000 in
set_option maxHeartbeats 4000000 in
theorem r33_of {D len cap Rz Pl S Wv Ou nx i : Nat} {a1 : Option Addr} {tl : Int} {ps : Bool} {k A : Nat} {x : Int} {ok : Bool} {n : Nat} {n0 : Nat} {v : Value} {xs : List Int} {u18 u19 u20 u21 u22 u23 u24 u25 u26 u27 u28 u29 u30 u31 u32 u33 u34 u35 u36 u37 u38 u39 u40 u41 u42 u43 u44 u45 u46 u47 u48 u49 u50 u51 u52 u53 u54 u55 u56 u57 u58 u59 u60 u61 u62 u63 u64 u65 u66 u67 u68 u69 u70 u71 u72 u73 u74 u75 u76 u77 u78 u79 u80 u81 u82 u83 u84 u85 u86 u87 u88 u89 u90 u91 u92 u93 u94 u95 u96 u97 u98 u99 u100 u101 u102 u103 u104 u105 u106 u107 u108 u109 u110 u111 u112 u113 u114 u115 u116 u117 u118 u119 u120 u121 u122 u123 u124 u125 u126 u127 u128 u129 u130 u131 u132 u133 u134 u135 u136 u137 u138 u139 u140 u141 u142 u143 u144 u145 u146 u147 u148 u149 u150 u151 u152 u153 u154 u155 u156 u157 u158 u159 u160 u161 u162 u163 u164 u165 u166 u167 u168 u169 u170 u171 u172 u173 u174 u175 u176 u177 u178 u179 u180 u181 u182 u183 : Value} {Q : Exit → Act → World → Prop} {w : World}
    (h : OI w (Ou + 1) v xs) (hB : Ou + 1 ≤ w.heap.size) (hOu : Ou < w.heap.size) (hc : w.cell? ⟨Ou, 0, none⟩ = some v) (hf : w.frozen? ⟨Ou, 0, none⟩ = false) (hsm : xs.length ≤ 1000)
    (hN : ∀ (v115 v116 v117 v118 v119 v120 : Value) (W : World) (vv : Value) (w' : World), App (Ou + 1) w W v vv (xs ++ [(nx : Int)]) ∧ w' = W.setCell ⟨Ou, 0, none⟩ vv → Q .normal ⟨#[.int .i64 (D : Int), .slice a1 len cap, undef, undef, .pointer (some ⟨Rz, 0, none⟩), .pointer (some ⟨Pl, 0, none⟩), .pointer (some ⟨S, 0, none⟩), .slice (some ⟨Wv, 0, none⟩) 4 4, .pointer (some ⟨Ou, 0, none⟩), .int .i64 tl, .int .i64 (nx : Int), .bool ps, .int .i64 (i : Int), .int .i64 (k : Int), .pointer (some ⟨A, 0, none⟩), .int .i64 x, .bool ok, .int .i64 (n : Int), u18, u19, u20, u21, u22, u23, u24, u25, u26, u27, u28, u29, u30, u31, u32, u33, u34, u35, u36, u37, u38, u39, u40, u41, u42, u43, u44, u45, u46, u47, u48, u49, u50, u51, u52, u53, u54, u55, u56, u57, u58, u59, u60, u61, u62, u63, u64, u65, u66, u67, u68, u69, u70, u71, u72, u73, u74, u75, u76, u77, u78, u79, u80, u81, u82, u83, u84, u85, u86, u87, u88, u89, u90, u91, u92, u93, u94, u95, u96, u97, u98, u99, u100, u101, u102, u103, u104, u105, u106, u107, u108, u109, u110, u111, u112, u113, u114, v115, v116, v117, v118, v119, v120, u121, u122, u123, u124, u125, u126, u127, u128, u129, u130, u131, u132, u133, u134, u135, u136, u137, u138, u139, u140, u141, u142, u143, u144, u145, u146, u147, u148, u149, u150, u151, u152, u153, u154, u155, u156, u157, u158, u159, u160, u161, u162, u163, u164, u165, u166, u167, u168, u169, u170, u171, u172, u173, u174, u175, u176, u177, u178, u179, u180, u181, u182, u183], []⟩ w') :
    Code.wp Try.prog r33 Q ⟨#[.int .i64 (D : Int), .slice a1 len cap, undef, undef, .pointer (some ⟨Rz, 0, none⟩), .pointer (some ⟨Pl, 0, none⟩), .pointer (some ⟨S, 0, none⟩), .slice (some ⟨Wv, 0, none⟩) 4 4, .pointer (some ⟨Ou, 0, none⟩), .int .i64 tl, .int .i64 (nx : Int), .bool ps, .int .i64 (i : Int), .int .i64 (k : Int), .pointer (some ⟨A, 0, none⟩), .int .i64 x, .bool ok, .int .i64 (n : Int), u18, u19, u20, u21, u22, u23, u24, u25, u26, u27, u28, u29, u30, u31, u32, u33, u34, u35, u36, u37, u38, u39, u40, u41, u42, u43, u44, u45, u46, u47, u48, u49, u50, u51, u52, u53, u54, u55, u56, u57, u58, u59, u60, u61, u62, u63, u64, u65, u66, u67, u68, u69, u70, u71, u72, u73, u74, u75, u76, u77, u78, u79, u80, u81, u82, u83, u84, u85, u86, u87, u88, u89, u90, u91, u92, u93, u94, u95, u96, u97, u98, u99, u100, u101, u102, u103, u104, u105, u106, u107, u108, u109, u110, u111, u112, u113, u114, u115, u116, u117, u118, u119, u120, u121, u122, u123, u124, u125, u126, u127, u128, u129, u130, u131, u132, u133, u134, u135, u136, u137, u138, u139, u140, u141, u142, u143, u144, u145, u146, u147, u148, u149, u150, u151, u152, u153, u154, u155, u156, u157, u158, u159, u160, u161, u162, u163, u164, u165, u166, u167, u168, u169, u170, u171, u172, u173, u174, u175, u176, u177, u178, u179, u180, u181, u182, u183], []⟩ w := by
  have hN' := Lib.hid hN
  clear hN
  obtain ⟨sa, cp, rfl, _⟩ := OI.form h
  have hn1 : Below w.heap.size w (w.alloc (.cells #[.int .i64 (nx : Int)] 3)) := by go_grown
  have HN := Lib.hid hn1
  have H := Lib.hid h
  have HB := Lib.hid hB
  have HO := Lib.hid hOu
  have F0 := Lib.hid hf
  have C0 := Lib.hid hc
  have R1 := Lib.hid (h.below hn1)
  have hsz2 : Ou + 1 ≤ (w.alloc (.cells #[.int .i64 (nx : Int)] 3)).heap.size := by simp; omega
  clear h hn1 hB hOu hf
  generalize hL : xs.length = n1 at *
  have HL := Lib.hid hL
  clear hL
  conv => arg 2; whnf
  go_wp2_with ((at_builtin; refine wpList_app1 rfl _ _ rfl (Ou + 1) (.slice sa n1 cp) xs rfl ⟨w.heap.size, 0, none⟩ 1 rfl (nx : Int) R1.out (by go_simp) rfl (by have := HL.out; omega) hsz2 ?_))
  intro v' W2 hr2 hg2 ho2
  have A1 : App (Ou + 1) w W2 (.slice sa n1 cp) v' (xs ++ [(nx : Int)]) := app_of (x := (nx : Int)) H.out HB.out HN.out (by simp) (by simpa using hr2) hg2 (by simpa using ho2)
  have e2 : W2.heap[Ou]? = w.heap[Ou]? := A1.k Ou HO.out (fun e => by have := (H.out.lt Ou e).1; omega)
  have c1 : W2.cell? ⟨Ou, 0, none⟩ = some (.slice sa n1 cp) := by rw [← C0.out]; simp only [World.cell?, e2]
  have f1 : W2.frozen? ⟨Ou, 0, none⟩ = false := by rw [← F0.out]; simp only [World.frozen?, e2]
  obtain ⟨o', cap', rfl, _⟩ := OI.form A1.r
  have FIN := Lib.hid A1
  clear hr2 hg2 ho2 e2 A1 hc
  generalize (xs ++ [(nx : Int)]).length = L at *
  go_wp2_with fail
  exact hN'.out _ _ _ _ _ _ _ _ _ ⟨FIN.out, rfl⟩
set_option maxRecDepth 20000 in
set_option maxHeartbeats 4000000 in
theorem r38_of {D len cap Rz Pl S Wv Ou nx i : Nat} {a1 : Option Addr} {tl : Int} {ps : Bool} {k A : Nat} {x : Int} {ok : Bool} {n : Nat} {n0 : Nat} {v : Value} {xs : List Int} {u18 u19 u20 u21 u22 u23 u24 u25 u26 u27 u28 u29 u30 u31 u32 u33 u34 u35 u36 u37 u38 u39 u40 u41 u42 u43 u44 u45 u46 u47 u48 u49 u50 u51 u52 u53 u54 u55 u56 u57 u58 u59 u60 u61 u62 u63 u64 u65 u66 u67 u68 u69 u70 u71 u72 u73 u74 u75 u76 u77 u78 u79 u80 u81 u82 u83 u84 u85 u86 u87 u88 u89 u90 u91 u92 u93 u94 u95 u96 u97 u98 u99 u100 u101 u102 u103 u104 u105 u106 u107 u108 u109 u110 u111 u112 u113 u114 u115 u116 u117 u118 u119 u120 u121 u122 u123 u124 u125 u126 u127 u128 u129 u130 u131 u132 u133 u134 u135 u136 u137 u138 u139 u140 u141 u142 u143 u144 u145 u146 u147 u148 u149 u150 u151 u152 u153 u154 u155 u156 u157 u158 u159 u160 u161 u162 u163 u164 u165 u166 u167 u168 u169 u170 u171 u172 u173 u174 u175 u176 u177 u178 u179 u180 u181 u182 u183 : Value} {Q : Exit → Act → World → Prop} {w : World}
    (h : OI w (Ou + 1) v xs) (hB : Ou + 1 ≤ w.heap.size) (hOu : Ou < w.heap.size) (hc : w.cell? ⟨Ou, 1, none⟩ = some v) (hf : w.frozen? ⟨Ou, 1, none⟩ = false) (hsm : xs.length ≤ 1000)
    (hN : ∀ (v153 v154 v155 v156 v157 v158 : Value) (W : World) (vv : Value) (w' : World), App (Ou + 1) w W v vv (xs ++ [x]) ∧ w' = W.setCell ⟨Ou, 1, none⟩ vv → Q .normal ⟨#[.int .i64 (D : Int), .slice a1 len cap, undef, undef, .pointer (some ⟨Rz, 0, none⟩), .pointer (some ⟨Pl, 0, none⟩), .pointer (some ⟨S, 0, none⟩), .slice (some ⟨Wv, 0, none⟩) 4 4, .pointer (some ⟨Ou, 0, none⟩), .int .i64 tl, .int .i64 (nx : Int), .bool ps, .int .i64 (i : Int), .int .i64 (k : Int), .pointer (some ⟨A, 0, none⟩), .int .i64 x, .bool ok, .int .i64 (n : Int), u18, u19, u20, u21, u22, u23, u24, u25, u26, u27, u28, u29, u30, u31, u32, u33, u34, u35, u36, u37, u38, u39, u40, u41, u42, u43, u44, u45, u46, u47, u48, u49, u50, u51, u52, u53, u54, u55, u56, u57, u58, u59, u60, u61, u62, u63, u64, u65, u66, u67, u68, u69, u70, u71, u72, u73, u74, u75, u76, u77, u78, u79, u80, u81, u82, u83, u84, u85, u86, u87, u88, u89, u90, u91, u92, u93, u94, u95, u96, u97, u98, u99, u100, u101, u102, u103, u104, u105, u106, u107, u108, u109, u110, u111, u112, u113, u114, u115, u116, u117, u118, u119, u120, u121, u122, u123, u124, u125, u126, u127, u128, u129, u130, u131, u132, u133, u134, u135, u136, u137, u138, u139, u140, u141, u142, u143, u144, u145, u146, u147, u148, u149, u150, u151, u152, v153, v154, v155, v156, v157, v158, u159, u160, u161, u162, u163, u164, u165, u166, u167, u168, u169, u170, u171, u172, u173, u174, u175, u176, u177, u178, u179, u180, u181, u182, u183], []⟩ w') :
    Code.wp Try.prog r38 Q ⟨#[.int .i64 (D : Int), .slice a1 len cap, undef, undef, .pointer (some ⟨Rz, 0, none⟩), .pointer (some ⟨Pl, 0, none⟩), .pointer (some ⟨S, 0, none⟩), .slice (some ⟨Wv, 0, none⟩) 4 4, .pointer (some ⟨Ou, 0, none⟩), .int .i64 tl, .int .i64 (nx : Int), .bool ps, .int .i64 (i : Int), .int .i64 (k : Int), .pointer (some ⟨A, 0, none⟩), .int .i64 x, .bool ok, .int .i64 (n : Int), u18, u19, u20, u21, u22, u23, u24, u25, u26, u27, u28, u29, u30, u31, u32, u33, u34, u35, u36, u37, u38, u39, u40, u41, u42, u43, u44, u45, u46, u47, u48, u49, u50, u51, u52, u53, u54, u55, u56, u57, u58, u59, u60, u61, u62, u63, u64, u65, u66, u67, u68, u69, u70, u71, u72, u73, u74, u75, u76, u77, u78, u79, u80, u81, u82, u83, u84, u85, u86, u87, u88, u89, u90, u91, u92, u93, u94, u95, u96, u97, u98, u99, u100, u101, u102, u103, u104, u105, u106, u107, u108, u109, u110, u111, u112, u113, u114, u115, u116, u117, u118, u119, u120, u121, u122, u123, u124, u125, u126, u127, u128, u129, u130, u131, u132, u133, u134, u135, u136, u137, u138, u139, u140, u141, u142, u143, u144, u145, u146, u147, u148, u149, u150, u151, u152, u153, u154, u155, u156, u157, u158, u159, u160, u161, u162, u163, u164, u165, u166, u167, u168, u169, u170, u171, u172, u173, u174, u175, u176, u177, u178, u179, u180, u181, u182, u183], []⟩ w := by
  have hN' := Lib.hid hN
  clear hN
  obtain ⟨sa, cp, rfl, _⟩ := OI.form h
  have hn1 : Below w.heap.size w (w.alloc (.cells #[.int .i64 x] 3)) := by go_grown
  have HN := Lib.hid hn1
  have H := Lib.hid h
  have HB := Lib.hid hB
  have HO := Lib.hid hOu
  have F0 := Lib.hid hf
  have C0 := Lib.hid hc
  have R1 := Lib.hid (h.below hn1)
  have hsz2 : Ou + 1 ≤ (w.alloc (.cells #[.int .i64 x] 3)).heap.size := by simp; omega
  clear h hn1 hB hOu hf
  generalize hL : xs.length = n1 at *
  have HL := Lib.hid hL
  clear hL
  conv => arg 2; whnf
  go_wp2_with ((at_builtin; refine wpList_app1 rfl _ _ rfl (Ou + 1) (.slice sa n1 cp) xs rfl ⟨w.heap.size, 0, none⟩ 1 rfl x R1.out (by go_simp) rfl (by have := HL.out; omega) hsz2 ?_))
  intro v' W2 hr2 hg2 ho2
  have A1 : App (Ou + 1) w W2 (.slice sa n1 cp) v' (xs ++ [x]) := app_of (x := x) H.out HB.out HN.out (by simp) (by simpa using hr2) hg2 (by simpa using ho2)
  have e2 : W2.heap[Ou]? = w.heap[Ou]? := A1.k Ou HO.out (fun e => by have := (H.out.lt Ou e).1; omega)
  have c1 : W2.cell? ⟨Ou, 1, none⟩ = some (.slice sa n1 cp) := by rw [← C0.out]; simp only [World.cell?, e2]
  have f1 : W2.frozen? ⟨Ou, 1, none⟩ = false := by rw [← F0.out]; simp only [World.frozen?, e2]
  obtain ⟨o', cap', rfl, _⟩ := OI.form A1.r
  have FIN := Lib.hid A1
  clear hr2 hg2 ho2 e2 A1 hc
  generalize (xs ++ [x]).length = L at *
  go_wp2_with fail
  exact hN'.out _ _ _ _ _ _ _ _ _ ⟨FIN.out, rfl⟩
end Go.Proofs.Ytegbifphekhgkaa.dqo
