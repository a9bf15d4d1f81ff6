/- The document's builder: a frame ends, an access, children are met (layer 30). -/
import Derived.Test.YtgbaaemocnjaoaaDgG
import Derived.Test.YtgbaaemocnjaoaaSnJ
import Derived.Test.YtgbaaemocnjaoaaDgE
namespace Go.Proofs.Ytgbaaemocnjaoaa.dg
open Go.ChangeShapes Go.WideShapes Go.ChangeAt Go.RowKit
open Go.Proofs.Ytgbaaemocnjaoaa.ro Go.Proofs.Ytgbaaemocnjaoaa.sn
attribute [local go_sem ↓] Go.wp_at_zero Go.wp_at_succ
set_option linter.unusedVariables false
set_option linter.unusedSimpArgs false
set_option maxRecDepth 20000 in
set_option maxHeartbeats 4000000 in
theorem fr_r5 {w0 w wr : World} {r r1 : Ro} {b nb n cp β m0 : Nat} {a : Option Addr} {L : List Mk} {T : List Fm} {f : Fm} {x : Dx} {kk now k a1 c1 : Int} {vah n2 : Value} {va la : Option Addr} {vn vc ln lc : Nat} {u10 u13 u14 u15 u16 u17 u18 u19 u20 u21 u22 u23 u24 u25 u26 u27 u28 u29 u30 u31 u32 u33 u34 u35 u36 u37 u38 u39 u40 u41 u42 u43 u44 u45 u46 u47 u48 u49 u50 u51 u52 u53 u54 u55 u56 u57 u58 u59 u60 u61 u62 u63 u64 u65 u66 u67 u68 u69 u70 u71 u72 u73 u74 u75 u76 u77 u78 u79 u80 u81 u82 u83 u84 u85 u86 u87 u88 u89 u90 u91 u92 u93 u94 u95 u96 u97 u98 u99 u100 u101 u102 u103 u104 u105 u106 u107 u108 u109 u110 u111 u112 u113 u114 u115 u116 u117 u118 u119 u120 u121 u122 u123 u124 u125 u126 u127 u128 u129 u130 u131 u132 u133 u134 u135 u136 u137 u138 u139 u140 u141 u142 u143 u144 u145 u146 u147 u148 u149 u150 u151 u152 u153 u154 u155 u156 u157 u158 u159 u160 u161 u162 u163 u164 u165 u166 u167 u168 u169 u170 u171 u172 u173 u174 u175 u176 u177 u178 u179 u180 u181 u182 u183 u184 u185 u186 u187 u188 u189 u190 u191 u192 u193 u194 u195 u196 u197 u198 u199 u200 u201 u202 : Value} {Qn K : Act → World → Prop}
    (hβ : 8 ≤ β) (hv : RV 3 enN w0 (.slice a n cp) L) (hn : n ≤ 5000) (hnl : n = L.length) (HF : FH w0 w wr r r1 b (.slice a n cp) β nb vah x f (.slice va vn vc) (.slice la ln lc)) (HA : At L x (T ++ [f])) (hm : m0 ≤ x.at_)
    (hkk : (kk = 0 ∧ f.kd = 0) ∨ (kk = 1 ∧ f.kd = 1) ∨ (kk = 2 ∧ f.kd = 3)) (hfn : f.now = now) (hy : L[x.at_]? = some (5, a1, c1)) (h1 : f.kd = 1)
    (hN : NXF b nb 1 n2 vah (GF w0 w r b (.slice a n cp) L β nb T f.kd f.lp f.it f.ah vah m0 n (mu b n wr)) Qn) :
    Code.wp Try.prog fbody (Exit.then Qn (Exit.inBlock 0 (Exit.then K (bodyPost Try.prog Try.f15 (FrQ w0 w r b (.slice a n cp) L β T f.kd m0))))) ⟨#[.pointer (some ⟨b, 0, none⟩), .int .i64 1, n2, .int .i64 now, vah, undef, undef, .pointer (some ⟨nb, 0, none⟩), undef, undef, u10, .slice va vn vc, .slice la ln lc, u13, u14, u15, u16, u17, u18, u19, u20, u21, u22, u23, u24, u25, u26, u27, u28, u29, u30, u31, u32, u33, u34, u35, u36, u37, u38, u39, u40, u41, u42, u43, u44, u45, u46, u47, u48, u49, u50, u51, u52, u53, u54, u55, u56, u57, u58, u59, u60, u61, u62, u63, u64, u65, u66, u67, u68, u69, u70, u71, u72, u73, u74, u75, u76, u77, u78, u79, u80, u81, u82, u83, u84, u85, u86, u87, u88, u89, u90, u91, u92, u93, u94, u95, u96, u97, u98, u99, u100, u101, u102, u103, u104, u105, u106, u107, u108, u109, u110, u111, u112, u113, u114, u115, u116, u117, u118, u119, u120, u121, u122, u123, u124, u125, u126, u127, u128, u129, u130, u131, u132, u133, u134, u135, u136, u137, u138, u139, u140, u141, u142, u143, u144, u145, u146, u147, u148, u149, u150, u151, u152, u153, u154, u155, u156, u157, u158, u159, u160, u161, u162, u163, u164, u165, u166, u167, u168, u169, u170, u171, u172, u173, u174, u175, u176, u177, u178, u179, u180, u181, u182, u183, u184, u185, u186, u187, u188, u189, u190, u191, u192, u193, u194, u195, u196, u197, u198, u199, u200, u201, u202], []⟩ wr := by
  have hk1 : (1 : Int) ≤ 5 := by omega
  have hk2 : (5 : Int) ≤ 12 := by omega
  have hcan : canB 5 a1 f = true := by unfold canB; simp; omega
  obtain ⟨_, _, _, _, _, c5, _, _⟩ := HF.db.cells
  rw [HA.ov] at c5
  have CN0 := next_ok w0 wr r1 b a n cp x (5, a1, c1) L HF.db hv hn hy ⟨hk1, hk2⟩
  unfold ndMark at CN0
  dsimp only at CN0
  have CN := Lib.hid CN0
  have HFF := Lib.hid HF
  have HAA := Lib.hid HA
  have HY := Lib.hid hy
  have bw : b < wr.heap.size := lt_of HF.db.o
  clear CN0 HF HA hv hy
  conv => arg 2; whnf
  go_wp2_with fail
  refine CN.out.mono ?_
  rintro e w6 ⟨rfl, r6, hD6, hk6⟩
  have F6 := HFF.out.keep hβ hD6 hk6 (fun c hc => by omega)
  have d5 : w6.cell? ⟨b, 5, none⟩ = some (.bool false) := by
    have := hD6.cells.2.2.2.2.2.1
    rw [this]
    show some (Value.bool x.ov) = _
    rw [HAA.out.ov]
  have p0 : w6.cell? ⟨nb, 0, none⟩ = some (.int .i64 f.lp) := cel F6.bo 0
  have p1 : w6.cell? ⟨nb, 1, none⟩ = some (.int .i64 f.it) := cel F6.bo 1
  have p2 : w6.cell? ⟨nb, 2, none⟩ = some (.int .i64 f.sg) := cel F6.bo 2
  have b6 : b < w6.heap.size := lt_of hD6.o
  have nb6 : nb < w6.heap.size := lt_of F6.bo
  obtain ⟨W7, hW7⟩ : ∃ W7, w6.alloc (.cells #[.int .i64 5, .int .i64 a1, .int .i64 c1] 43) = W7 := ⟨_, rfl⟩
  have F7 := F6.below hβ (β + 4) (show Below w6.heap.size w6 W7 by rw [← hW7]; go_grown)
  have HW7 := Lib.hid hW7
  have H7 := Lib.hid F7
  clear CN hD6 hk6 F6 hW7 F7 c5
  have HSZ : Hid (W7.heap.size = w6.heap.size + 1) := Lib.hid (by rw [← HW7.out]; simp)
  have H8 := Lib.hid (H7.out.below hβ (β + 4) (show Below W7.heap.size W7 (W7.alloc (.cells #[.int .i64 0, .int .i64 now] 73)) by go_grown))
  have hpl : f.pa.length ≤ 1000000 := by have := HAA.out.um; omega
  go_wp2_with ((at_builtin; rw [HW7.out]; refine wpList_appR rfl _ _ 62 73 _ 16 rfl Try.underlying62 infG rfl (by decide) recP 0 (.slice va vn vc) f.pa rfl ⟨w6.heap.size + 1, 0, none⟩ 1 rfl (0, now) H8.out.row.o (rec_new HSZ.out rfl) hpl (Nat.zero_le _) ?_))
  intro v' w9 ho9 hg9 hor9
  obtain ⟨qa, qn, qc, rfl⟩ := form3 ho9
  obtain ⟨r9, hD9, hk9, hr9⟩ := H8.out.ret hβ hg9 ho9 (by simpa using hor9)
  have HX := Lib.hid (And.intro hD9 (And.intro hk9 hr9))
  clear ho9 hg9 hor9 hD9 hk9 hr9 H8 H7 HW7 HSZ p0 p1 p2 d5
  go_wp2_with fail
  go_ret
  refine ⟨r9, _, _, rfl, HX.out.1, HX.out.2.1, .inr ⟨x, f, (5, a1, c1), rfl, hm, HAA.out, HY.out, hcan, rfl, .inl ⟨h1, rfl, ?_⟩⟩⟩
  have e : f.pa = [] := HFF.out.p0 (by omega)
  have := HX.out.2.2
  rw [e] at this
  rw [hfn]
  exact this
set_option maxRecDepth 20000 in
set_option maxHeartbeats 4000000 in
theorem fr_r10 {w0 w wr : World} {r r1 : Ro} {b nb n cp β m0 : Nat} {a : Option Addr} {L : List Mk} {T : List Fm} {f : Fm} {x : Dx} {kk now k a1 c1 : Int} {vah n2 : Value} {va la : Option Addr} {vn vc ln lc : Nat} {u10 u13 u14 u15 u16 u17 u18 u19 u20 u21 u22 u23 u24 u25 u26 u27 u28 u29 u30 u31 u32 u33 u34 u35 u36 u37 u38 u39 u40 u41 u42 u43 u44 u45 u46 u47 u48 u49 u50 u51 u52 u53 u54 u55 u56 u57 u58 u59 u60 u61 u62 u63 u64 u65 u66 u67 u68 u69 u70 u71 u72 u73 u74 u75 u76 u77 u78 u79 u80 u81 u82 u83 u84 u85 u86 u87 u88 u89 u90 u91 u92 u93 u94 u95 u96 u97 u98 u99 u100 u101 u102 u103 u104 u105 u106 u107 u108 u109 u110 u111 u112 u113 u114 u115 u116 u117 u118 u119 u120 u121 u122 u123 u124 u125 u126 u127 u128 u129 u130 u131 u132 u133 u134 u135 u136 u137 u138 u139 u140 u141 u142 u143 u144 u145 u146 u147 u148 u149 u150 u151 u152 u153 u154 u155 u156 u157 u158 u159 u160 u161 u162 u163 u164 u165 u166 u167 u168 u169 u170 u171 u172 u173 u174 u175 u176 u177 u178 u179 u180 u181 u182 u183 u184 u185 u186 u187 u188 u189 u190 u191 u192 u193 u194 u195 u196 u197 u198 u199 u200 u201 u202 : Value} {Qn K : Act → World → Prop}
    (hβ : 8 ≤ β) (hv : RV 3 enN w0 (.slice a n cp) L) (hn : n ≤ 5000) (hnl : n = L.length) (HF : FH w0 w wr r r1 b (.slice a n cp) β nb vah x f (.slice va vn vc) (.slice la ln lc)) (HA : At L x (T ++ [f])) (hm : m0 ≤ x.at_)
    (hkk : (kk = 0 ∧ f.kd = 0) ∨ (kk = 1 ∧ f.kd = 1) ∨ (kk = 2 ∧ f.kd = 3)) (hfn : f.now = now) (hy : L[x.at_]? = some (10, a1, c1)) (h3 : f.kd = 3) (he : a1 = f.it)
    (hN : NXF b nb 2 n2 vah (GF w0 w r b (.slice a n cp) L β nb T f.kd f.lp f.it f.ah vah m0 n (mu b n wr)) Qn) :
    Code.wp Try.prog fbody (Exit.then Qn (Exit.inBlock 0 (Exit.then K (bodyPost Try.prog Try.f15 (FrQ w0 w r b (.slice a n cp) L β T f.kd m0))))) ⟨#[.pointer (some ⟨b, 0, none⟩), .int .i64 2, n2, .int .i64 now, vah, undef, undef, .pointer (some ⟨nb, 0, none⟩), undef, undef, u10, .slice va vn vc, .slice la ln lc, u13, u14, u15, u16, u17, u18, u19, u20, u21, u22, u23, u24, u25, u26, u27, u28, u29, u30, u31, u32, u33, u34, u35, u36, u37, u38, u39, u40, u41, u42, u43, u44, u45, u46, u47, u48, u49, u50, u51, u52, u53, u54, u55, u56, u57, u58, u59, u60, u61, u62, u63, u64, u65, u66, u67, u68, u69, u70, u71, u72, u73, u74, u75, u76, u77, u78, u79, u80, u81, u82, u83, u84, u85, u86, u87, u88, u89, u90, u91, u92, u93, u94, u95, u96, u97, u98, u99, u100, u101, u102, u103, u104, u105, u106, u107, u108, u109, u110, u111, u112, u113, u114, u115, u116, u117, u118, u119, u120, u121, u122, u123, u124, u125, u126, u127, u128, u129, u130, u131, u132, u133, u134, u135, u136, u137, u138, u139, u140, u141, u142, u143, u144, u145, u146, u147, u148, u149, u150, u151, u152, u153, u154, u155, u156, u157, u158, u159, u160, u161, u162, u163, u164, u165, u166, u167, u168, u169, u170, u171, u172, u173, u174, u175, u176, u177, u178, u179, u180, u181, u182, u183, u184, u185, u186, u187, u188, u189, u190, u191, u192, u193, u194, u195, u196, u197, u198, u199, u200, u201, u202], []⟩ wr := by
  have hk1 : (1 : Int) ≤ 10 := by omega
  have hk2 : (10 : Int) ≤ 12 := by omega
  have hcan : canB 10 a1 f = true := by unfold canB; simp; exact ⟨h3, he⟩
  have e2b : (a1 == f.it) = true := by rw [he]; simp
  clear he
  obtain ⟨_, _, _, _, _, c5, _, _⟩ := HF.db.cells
  rw [HA.ov] at c5
  have CN0 := next_ok w0 wr r1 b a n cp x (10, a1, c1) L HF.db hv hn hy ⟨hk1, hk2⟩
  unfold ndMark at CN0
  dsimp only at CN0
  have CN := Lib.hid CN0
  have HFF := Lib.hid HF
  have HAA := Lib.hid HA
  have HY := Lib.hid hy
  have bw : b < wr.heap.size := lt_of HF.db.o
  clear CN0 HF HA hv hy
  conv => arg 2; whnf
  go_wp2_with fail
  refine CN.out.mono ?_
  rintro e w6 ⟨rfl, r6, hD6, hk6⟩
  have F6 := HFF.out.keep hβ hD6 hk6 (fun c hc => by omega)
  have d5 : w6.cell? ⟨b, 5, none⟩ = some (.bool false) := by
    have := hD6.cells.2.2.2.2.2.1
    rw [this]
    show some (Value.bool x.ov) = _
    rw [HAA.out.ov]
  have p0 : w6.cell? ⟨nb, 0, none⟩ = some (.int .i64 f.lp) := cel F6.bo 0
  have p1 : w6.cell? ⟨nb, 1, none⟩ = some (.int .i64 f.it) := cel F6.bo 1
  have p2 : w6.cell? ⟨nb, 2, none⟩ = some (.int .i64 f.sg) := cel F6.bo 2
  have b6 : b < w6.heap.size := lt_of hD6.o
  have nb6 : nb < w6.heap.size := lt_of F6.bo
  obtain ⟨W7, hW7⟩ : ∃ W7, w6.alloc (.cells #[.int .i64 10, .int .i64 a1, .int .i64 c1] 43) = W7 := ⟨_, rfl⟩
  have F7 := F6.below hβ (β + 4) (show Below w6.heap.size w6 W7 by rw [← hW7]; go_grown)
  have HW7 := Lib.hid hW7
  have H7 := Lib.hid F7
  clear CN hD6 hk6 F6 hW7 F7 c5
  have HSZ : Hid (W7.heap.size = w6.heap.size + 1) := Lib.hid (by rw [← HW7.out]; simp)
  have H8 := Lib.hid (H7.out.below hβ (β + 4) (show Below W7.heap.size W7 (W7.alloc (.cells #[.int .i64 f.sg, .int .i64 now] 73)) by go_grown))
  have hpl : f.pa.length ≤ 1000000 := by have := HAA.out.um; omega
  go_wp2_with ((at_builtin; rw [HW7.out]; refine wpList_appR rfl _ _ 62 73 _ 16 rfl Try.underlying62 infG rfl (by decide) recP 0 (.slice va vn vc) f.pa rfl ⟨w6.heap.size + 1, 0, none⟩ 1 rfl (f.sg, now) H8.out.row.o (rec_new HSZ.out rfl) hpl (Nat.zero_le _) ?_))
  intro v' w9 ho9 hg9 hor9
  obtain ⟨qa, qn, qc, rfl⟩ := form3 ho9
  obtain ⟨r9, hD9, hk9, hr9⟩ := H8.out.ret hβ hg9 ho9 (by simpa using hor9)
  have HX := Lib.hid (And.intro hD9 (And.intro hk9 hr9))
  clear ho9 hg9 hor9 hD9 hk9 hr9 H8 H7 HW7 HSZ p0 p1 p2 d5
  go_wp2_with fail
  go_ret
  refine ⟨r9, _, _, rfl, HX.out.1, HX.out.2.1, .inr ⟨x, f, (10, a1, c1), rfl, hm, HAA.out, HY.out, hcan, rfl, .inr ⟨h3, rfl, ?_⟩⟩⟩
  rw [hfn]
  exact HX.out.2.2
set_option maxRecDepth 20000 in
set_option maxHeartbeats 4000000 in
theorem fr_a1 {w0 w wr : World} {r r1 : Ro} {b nb n cp β m0 : Nat} {a : Option Addr} {L : List Mk} {T : List Fm} {f : Fm} {x : Dx} {kk now k a1 c1 : Int} {vah n2 : Value} {va la : Option Addr} {vn vc ln lc : Nat} {u10 u13 u14 u15 u16 u17 u18 u19 u20 u21 u22 u23 u24 u25 u26 u27 u28 u29 u30 u31 u32 u33 u34 u35 u36 u37 u38 u39 u40 u41 u42 u43 u44 u45 u46 u47 u48 u49 u50 u51 u52 u53 u54 u55 u56 u57 u58 u59 u60 u61 u62 u63 u64 u65 u66 u67 u68 u69 u70 u71 u72 u73 u74 u75 u76 u77 u78 u79 u80 u81 u82 u83 u84 u85 u86 u87 u88 u89 u90 u91 u92 u93 u94 u95 u96 u97 u98 u99 u100 u101 u102 u103 u104 u105 u106 u107 u108 u109 u110 u111 u112 u113 u114 u115 u116 u117 u118 u119 u120 u121 u122 u123 u124 u125 u126 u127 u128 u129 u130 u131 u132 u133 u134 u135 u136 u137 u138 u139 u140 u141 u142 u143 u144 u145 u146 u147 u148 u149 u150 u151 u152 u153 u154 u155 u156 u157 u158 u159 u160 u161 u162 u163 u164 u165 u166 u167 u168 u169 u170 u171 u172 u173 u174 u175 u176 u177 u178 u179 u180 u181 u182 u183 u184 u185 u186 u187 u188 u189 u190 u191 u192 u193 u194 u195 u196 u197 u198 u199 u200 u201 u202 : Value} {Qn K : Act → World → Prop}
    (hβ : 8 ≤ β) (hv : RV 3 enN w0 (.slice a n cp) L) (hn : n ≤ 5000) (hnl : n = L.length) (HF : FH w0 w wr r r1 b (.slice a n cp) β nb vah x f (.slice va vn vc) (.slice la ln lc)) (HA : At L x (T ++ [f])) (hm : m0 ≤ x.at_)
    (hkk : (kk = 0 ∧ f.kd = 0) ∨ (kk = 1 ∧ f.kd = 1) ∨ (kk = 2 ∧ f.kd = 3)) (hfn : f.now = now) (hy : L[x.at_]? = some (1, a1, c1)) 
    (hN : NXF b nb kk n2 vah (GF w0 w r b (.slice a n cp) L β nb T f.kd f.lp f.it f.ah vah m0 n (mu b n wr)) Qn) :
    Code.wp Try.prog fbody (Exit.then Qn (Exit.inBlock 0 (Exit.then K (bodyPost Try.prog Try.f15 (FrQ w0 w r b (.slice a n cp) L β T f.kd m0))))) ⟨#[.pointer (some ⟨b, 0, none⟩), .int .i64 kk, n2, .int .i64 now, vah, undef, undef, .pointer (some ⟨nb, 0, none⟩), undef, undef, u10, .slice va vn vc, .slice la ln lc, u13, u14, u15, u16, u17, u18, u19, u20, u21, u22, u23, u24, u25, u26, u27, u28, u29, u30, u31, u32, u33, u34, u35, u36, u37, u38, u39, u40, u41, u42, u43, u44, u45, u46, u47, u48, u49, u50, u51, u52, u53, u54, u55, u56, u57, u58, u59, u60, u61, u62, u63, u64, u65, u66, u67, u68, u69, u70, u71, u72, u73, u74, u75, u76, u77, u78, u79, u80, u81, u82, u83, u84, u85, u86, u87, u88, u89, u90, u91, u92, u93, u94, u95, u96, u97, u98, u99, u100, u101, u102, u103, u104, u105, u106, u107, u108, u109, u110, u111, u112, u113, u114, u115, u116, u117, u118, u119, u120, u121, u122, u123, u124, u125, u126, u127, u128, u129, u130, u131, u132, u133, u134, u135, u136, u137, u138, u139, u140, u141, u142, u143, u144, u145, u146, u147, u148, u149, u150, u151, u152, u153, u154, u155, u156, u157, u158, u159, u160, u161, u162, u163, u164, u165, u166, u167, u168, u169, u170, u171, u172, u173, u174, u175, u176, u177, u178, u179, u180, u181, u182, u183, u184, u185, u186, u187, u188, u189, u190, u191, u192, u193, u194, u195, u196, u197, u198, u199, u200, u201, u202], []⟩ wr := by
  have hk1 : (1 : Int) ≤ 1 := by omega
  have hk2 : (1 : Int) ≤ 12 := by omega
  have hcan : canB 1 a1 f = true := by unfold canB; simp; omega
  obtain ⟨_, _, _, _, _, c5, _, _⟩ := HF.db.cells
  rw [HA.ov] at c5
  have CN0 := next_ok w0 wr r1 b a n cp x (1, a1, c1) L HF.db hv hn hy ⟨hk1, hk2⟩
  unfold ndMark at CN0
  dsimp only at CN0
  have CN := Lib.hid CN0
  have HFF := Lib.hid HF
  have HAA := Lib.hid HA
  have HY := Lib.hid hy
  have bw : b < wr.heap.size := lt_of HF.db.o
  clear CN0 HF HA hv hy
  conv => arg 2; whnf
  go_wp2_with fail
  refine CN.out.mono ?_
  rintro e w6 ⟨rfl, r6, hD6, hk6⟩
  have F6 := HFF.out.keep hβ hD6 hk6 (fun c hc => by omega)
  have d5 : w6.cell? ⟨b, 5, none⟩ = some (.bool false) := by
    have := hD6.cells.2.2.2.2.2.1
    rw [this]
    show some (Value.bool x.ov) = _
    rw [HAA.out.ov]
  have p0 : w6.cell? ⟨nb, 0, none⟩ = some (.int .i64 f.lp) := cel F6.bo 0
  have p1 : w6.cell? ⟨nb, 1, none⟩ = some (.int .i64 f.it) := cel F6.bo 1
  have p2 : w6.cell? ⟨nb, 2, none⟩ = some (.int .i64 f.sg) := cel F6.bo 2
  have b6 : b < w6.heap.size := lt_of hD6.o
  have nb6 : nb < w6.heap.size := lt_of F6.bo
  obtain ⟨W7, hW7⟩ : ∃ W7, w6.alloc (.cells #[.int .i64 1, .int .i64 a1, .int .i64 c1] 43) = W7 := ⟨_, rfl⟩
  have F7 := F6.below hβ (β + 4) (show Below w6.heap.size w6 W7 by rw [← hW7]; go_grown)
  have HW7 := Lib.hid hW7
  have H7 := Lib.hid F7
  clear CN hD6 hk6 F6 hW7 F7 c5
  go_wp2_with fail
  rw [HW7.out]
  obtain ⟨W8, hW8⟩ : ∃ W8, W7.alloc (.cells #[.int .i64 now, .int .i64 a1, .bool false] 41) = W8 := ⟨_, rfl⟩
  rw [hW8]
  have hsz : W7.heap.size = w6.heap.size + 1 := by rw [← HW7.out]; simp
  have hX8 := heap_new W7 (.cells #[.int .i64 now, .int .i64 a1, .bool false] 41)
  rw [hW8, hsz] at hX8
  obtain ⟨X, hX⟩ : ∃ X, w6.heap.size + 1 = X := ⟨_, rfl⟩
  rw [hX] at hX8 ⊢
  have F8 := H7.out.below hβ (β + 4) (show Below W7.heap.size W7 W8 by rw [← hW8]; go_grown)
  have m0' : W8.cell? ⟨X, 0, none⟩ = some (.int .i64 now) := cel hX8 0
  have m1' : W8.cell? ⟨X, 1, none⟩ = some (.int .i64 a1) := cel hX8 1
  have m2' : W8.cell? ⟨X, 2, none⟩ = some (.bool false) := cel hX8 2
  have z1 : X < W8.heap.size := lt_of hX8
  have z2 : b < W8.heap.size := lt_of F8.db.o
  have q4 : W8.cell? ⟨b, 4, none⟩ = some x.av := cel F8.db.o 4
  have f4 := frz F8.db.o 4
  have F8' := F8.db
  have HGo : Hid (∀ w', Below W8.heap.size W8 w' → OR 3 enA w' 0 41 x.av x.A) := Lib.hid fun w' hb => (F8'.below 0 hb).1.p.ac.o
  have HApp : Hid (∀ w3 w4 v', Below W8.heap.size W8 w3 → Hid (OR 3 enA w4 0 41 v' (x.A ++ [(now, a1, false)])) → w3.grownBy w4 x.av.ownBlock → Hid (v'.ownBlock = x.av.ownBlock ∨ v'.ownBlock = some w3.heap.size) → w4.cell? ⟨b, 4, none⟩ = some x.av ∧ w4.frozen? ⟨b, 4, none⟩ = false ∧ ∀ nw, nw = now → GF w0 w r b (.slice a n cp) L β nb T f.kd f.lp f.it f.ah vah m0 n (mu b n wr) nw (.slice va vn vc) (.slice la ln lc) (w4.setCell ⟨b, 4, none⟩ v')) := Lib.hid fun w3 w4 v' hb ho hg hor => by
    have F9 := F8.below hβ (β + 4) hb
    obtain ⟨r', hb4, hS4, hk4⟩ := F9.db.appA hg ho.out hor.out
    have F10 := F9.keep hβ hS4 hk4 (fun c hc => by omega)
    refine ⟨cel hb4 4, frz hb4 4, fun nw e => ?_⟩
    subst e
    refine GF.go HFF.out.db HAA.out hnl F10 ⟨rfl, rfl, rfl, rfl⟩ hfn ?_ hm (Nat.lt_succ_self _)
    exact HAA.out.step HY.out hk1 hk2 hcan (fun e => by cases e) (.acc T f rfl (by simp)) HAA.out.ov HAA.out.er rfl rfl rfl (by show _ = x.A ++ _; rw [hfn]; simp)
  have hnN : x.A.length ≤ 1000000 := by have := HAA.out.a; omega
  obtain ⟨na, nn, nc, hnv⟩ : ∃ a n c, x.av = .slice a n c := form3 (HGo.out W8 (Below.refl _ _))
  rw [hnv] at q4
  have HNV := Lib.hid hnv
  clear hnv hW8 hX8 F8 F8' hX hsz H7 HW7 p0 p1 p2 d5 b6 nb6
  go_region_law ((refine step_appR rfl _ _ 26 41 _ 24 (by rfl) Try.underlying26 infA rfl (by decide) recA x.av x.A (now, a1, false) (by exact HNV.out.symm) W8.heap.size 1 (by rfl) (HGo.out _ (by go_grown)) (rec_new (by go_simp) rfl) hnN ?_; intro qa qn qc w4 ho4 hg4 hor4; obtain ⟨c4, z4, F4⟩ := HApp.out _ _ _ (by go_grown) ho4 hg4 hor4))
  all_goals
    have HG := F4 now rfl
    clear ho4 hg4 hor4 c4 z4 F4 HApp HGo
    go_wp2_with fail
    exact hN _ _ _ _ _ _ _ _ _ _ _ _ _ _ _ _ _ _ _ _ _ _ _ _ _ _ _ _ _ _ _ _ _ _ _ _ _ _ _ _ _ _ _ _ _ _ _ _ _ _ _ _ _ _ _ _ _ _ _ _ _ _ _ _ _ _ _ _ _ _ _ _ _ _ _ _ _ _ _ _ _ _ _ _ _ _ _ _ _ _ _ _ _ _ _ _ _ _ _ _ _ _ _ _ _ _ _ _ _ _ _ _ _ _ _ _ _ _ _ _ _ _ _ _ _ _ _ _ _ _ _ _ _ _ _ _ _ _ _ _ _ _ _ _ _ _ _ _ _ _ _ _ _ _ _ _ _ _ _ _ _ _ _ _ _ _ _ _ _ _ _ _ _ _ _ _ _ _ _ _ _ _ _ _ _ _ _ _ _ _ _ _ _ _ _ HG
set_option maxRecDepth 20000 in
set_option maxHeartbeats 4000000 in
theorem fr_a2 {w0 w wr : World} {r r1 : Ro} {b nb n cp β m0 : Nat} {a : Option Addr} {L : List Mk} {T : List Fm} {f : Fm} {x : Dx} {kk now k a1 c1 : Int} {vah n2 : Value} {va la : Option Addr} {vn vc ln lc : Nat} {u10 u13 u14 u15 u16 u17 u18 u19 u20 u21 u22 u23 u24 u25 u26 u27 u28 u29 u30 u31 u32 u33 u34 u35 u36 u37 u38 u39 u40 u41 u42 u43 u44 u45 u46 u47 u48 u49 u50 u51 u52 u53 u54 u55 u56 u57 u58 u59 u60 u61 u62 u63 u64 u65 u66 u67 u68 u69 u70 u71 u72 u73 u74 u75 u76 u77 u78 u79 u80 u81 u82 u83 u84 u85 u86 u87 u88 u89 u90 u91 u92 u93 u94 u95 u96 u97 u98 u99 u100 u101 u102 u103 u104 u105 u106 u107 u108 u109 u110 u111 u112 u113 u114 u115 u116 u117 u118 u119 u120 u121 u122 u123 u124 u125 u126 u127 u128 u129 u130 u131 u132 u133 u134 u135 u136 u137 u138 u139 u140 u141 u142 u143 u144 u145 u146 u147 u148 u149 u150 u151 u152 u153 u154 u155 u156 u157 u158 u159 u160 u161 u162 u163 u164 u165 u166 u167 u168 u169 u170 u171 u172 u173 u174 u175 u176 u177 u178 u179 u180 u181 u182 u183 u184 u185 u186 u187 u188 u189 u190 u191 u192 u193 u194 u195 u196 u197 u198 u199 u200 u201 u202 : Value} {Qn K : Act → World → Prop}
    (hβ : 8 ≤ β) (hv : RV 3 enN w0 (.slice a n cp) L) (hn : n ≤ 5000) (hnl : n = L.length) (HF : FH w0 w wr r r1 b (.slice a n cp) β nb vah x f (.slice va vn vc) (.slice la ln lc)) (HA : At L x (T ++ [f])) (hm : m0 ≤ x.at_)
    (hkk : (kk = 0 ∧ f.kd = 0) ∨ (kk = 1 ∧ f.kd = 1) ∨ (kk = 2 ∧ f.kd = 3)) (hfn : f.now = now) (hy : L[x.at_]? = some (2, a1, c1)) 
    (hN : NXF b nb kk n2 vah (GF w0 w r b (.slice a n cp) L β nb T f.kd f.lp f.it f.ah vah m0 n (mu b n wr)) Qn) :
    Code.wp Try.prog fbody (Exit.then Qn (Exit.inBlock 0 (Exit.then K (bodyPost Try.prog Try.f15 (FrQ w0 w r b (.slice a n cp) L β T f.kd m0))))) ⟨#[.pointer (some ⟨b, 0, none⟩), .int .i64 kk, n2, .int .i64 now, vah, undef, undef, .pointer (some ⟨nb, 0, none⟩), undef, undef, u10, .slice va vn vc, .slice la ln lc, u13, u14, u15, u16, u17, u18, u19, u20, u21, u22, u23, u24, u25, u26, u27, u28, u29, u30, u31, u32, u33, u34, u35, u36, u37, u38, u39, u40, u41, u42, u43, u44, u45, u46, u47, u48, u49, u50, u51, u52, u53, u54, u55, u56, u57, u58, u59, u60, u61, u62, u63, u64, u65, u66, u67, u68, u69, u70, u71, u72, u73, u74, u75, u76, u77, u78, u79, u80, u81, u82, u83, u84, u85, u86, u87, u88, u89, u90, u91, u92, u93, u94, u95, u96, u97, u98, u99, u100, u101, u102, u103, u104, u105, u106, u107, u108, u109, u110, u111, u112, u113, u114, u115, u116, u117, u118, u119, u120, u121, u122, u123, u124, u125, u126, u127, u128, u129, u130, u131, u132, u133, u134, u135, u136, u137, u138, u139, u140, u141, u142, u143, u144, u145, u146, u147, u148, u149, u150, u151, u152, u153, u154, u155, u156, u157, u158, u159, u160, u161, u162, u163, u164, u165, u166, u167, u168, u169, u170, u171, u172, u173, u174, u175, u176, u177, u178, u179, u180, u181, u182, u183, u184, u185, u186, u187, u188, u189, u190, u191, u192, u193, u194, u195, u196, u197, u198, u199, u200, u201, u202], []⟩ wr := by
  have hk1 : (1 : Int) ≤ 2 := by omega
  have hk2 : (2 : Int) ≤ 12 := by omega
  have hcan : canB 2 a1 f = true := by unfold canB; simp; omega
  obtain ⟨_, _, _, _, _, c5, _, _⟩ := HF.db.cells
  rw [HA.ov] at c5
  have CN0 := next_ok w0 wr r1 b a n cp x (2, a1, c1) L HF.db hv hn hy ⟨hk1, hk2⟩
  unfold ndMark at CN0
  dsimp only at CN0
  have CN := Lib.hid CN0
  have HFF := Lib.hid HF
  have HAA := Lib.hid HA
  have HY := Lib.hid hy
  have bw : b < wr.heap.size := lt_of HF.db.o
  clear CN0 HF HA hv hy
  conv => arg 2; whnf
  go_wp2_with fail
  refine CN.out.mono ?_
  rintro e w6 ⟨rfl, r6, hD6, hk6⟩
  have F6 := HFF.out.keep hβ hD6 hk6 (fun c hc => by omega)
  have d5 : w6.cell? ⟨b, 5, none⟩ = some (.bool false) := by
    have := hD6.cells.2.2.2.2.2.1
    rw [this]
    show some (Value.bool x.ov) = _
    rw [HAA.out.ov]
  have p0 : w6.cell? ⟨nb, 0, none⟩ = some (.int .i64 f.lp) := cel F6.bo 0
  have p1 : w6.cell? ⟨nb, 1, none⟩ = some (.int .i64 f.it) := cel F6.bo 1
  have p2 : w6.cell? ⟨nb, 2, none⟩ = some (.int .i64 f.sg) := cel F6.bo 2
  have b6 : b < w6.heap.size := lt_of hD6.o
  have nb6 : nb < w6.heap.size := lt_of F6.bo
  obtain ⟨W7, hW7⟩ : ∃ W7, w6.alloc (.cells #[.int .i64 2, .int .i64 a1, .int .i64 c1] 43) = W7 := ⟨_, rfl⟩
  have F7 := F6.below hβ (β + 4) (show Below w6.heap.size w6 W7 by rw [← hW7]; go_grown)
  have HW7 := Lib.hid hW7
  have H7 := Lib.hid F7
  clear CN hD6 hk6 F6 hW7 F7 c5
  go_wp2_with fail
  rw [HW7.out]
  obtain ⟨W8, hW8⟩ : ∃ W8, W7.alloc (.cells #[.int .i64 now, .int .i64 a1, .bool true] 41) = W8 := ⟨_, rfl⟩
  rw [hW8]
  have hsz : W7.heap.size = w6.heap.size + 1 := by rw [← HW7.out]; simp
  have hX8 := heap_new W7 (.cells #[.int .i64 now, .int .i64 a1, .bool true] 41)
  rw [hW8, hsz] at hX8
  obtain ⟨X, hX⟩ : ∃ X, w6.heap.size + 1 = X := ⟨_, rfl⟩
  rw [hX] at hX8 ⊢
  have F8 := H7.out.below hβ (β + 4) (show Below W7.heap.size W7 W8 by rw [← hW8]; go_grown)
  have m0' : W8.cell? ⟨X, 0, none⟩ = some (.int .i64 now) := cel hX8 0
  have m1' : W8.cell? ⟨X, 1, none⟩ = some (.int .i64 a1) := cel hX8 1
  have m2' : W8.cell? ⟨X, 2, none⟩ = some (.bool true) := cel hX8 2
  have z1 : X < W8.heap.size := lt_of hX8
  have z2 : b < W8.heap.size := lt_of F8.db.o
  have q4 : W8.cell? ⟨b, 4, none⟩ = some x.av := cel F8.db.o 4
  have f4 := frz F8.db.o 4
  have F8' := F8.db
  have HGo : Hid (∀ w', Below W8.heap.size W8 w' → OR 3 enA w' 0 41 x.av x.A) := Lib.hid fun w' hb => (F8'.below 0 hb).1.p.ac.o
  have HApp : Hid (∀ w3 w4 v', Below W8.heap.size W8 w3 → Hid (OR 3 enA w4 0 41 v' (x.A ++ [(now, a1, true)])) → w3.grownBy w4 x.av.ownBlock → Hid (v'.ownBlock = x.av.ownBlock ∨ v'.ownBlock = some w3.heap.size) → w4.cell? ⟨b, 4, none⟩ = some x.av ∧ w4.frozen? ⟨b, 4, none⟩ = false ∧ ∀ nw, nw = now → GF w0 w r b (.slice a n cp) L β nb T f.kd f.lp f.it f.ah vah m0 n (mu b n wr) nw (.slice va vn vc) (.slice la ln lc) (w4.setCell ⟨b, 4, none⟩ v')) := Lib.hid fun w3 w4 v' hb ho hg hor => by
    have F9 := F8.below hβ (β + 4) hb
    obtain ⟨r', hb4, hS4, hk4⟩ := F9.db.appA hg ho.out hor.out
    have F10 := F9.keep hβ hS4 hk4 (fun c hc => by omega)
    refine ⟨cel hb4 4, frz hb4 4, fun nw e => ?_⟩
    subst e
    refine GF.go HFF.out.db HAA.out hnl F10 ⟨rfl, rfl, rfl, rfl⟩ hfn ?_ hm (Nat.lt_succ_self _)
    exact HAA.out.step HY.out hk1 hk2 hcan (fun e => by cases e) (.acc T f rfl (by simp)) HAA.out.ov HAA.out.er rfl rfl rfl (by show _ = x.A ++ _; rw [hfn]; simp)
  have hnN : x.A.length ≤ 1000000 := by have := HAA.out.a; omega
  obtain ⟨na, nn, nc, hnv⟩ : ∃ a n c, x.av = .slice a n c := form3 (HGo.out W8 (Below.refl _ _))
  rw [hnv] at q4
  have HNV := Lib.hid hnv
  clear hnv hW8 hX8 F8 F8' hX hsz H7 HW7 p0 p1 p2 d5 b6 nb6
  go_region_law ((refine step_appR rfl _ _ 26 41 _ 24 (by rfl) Try.underlying26 infA rfl (by decide) recA x.av x.A (now, a1, true) (by exact HNV.out.symm) W8.heap.size 1 (by rfl) (HGo.out _ (by go_grown)) (rec_new (by go_simp) rfl) hnN ?_; intro qa qn qc w4 ho4 hg4 hor4; obtain ⟨c4, z4, F4⟩ := HApp.out _ _ _ (by go_grown) ho4 hg4 hor4))
  all_goals
    have HG := F4 now rfl
    clear ho4 hg4 hor4 c4 z4 F4 HApp HGo
    go_wp2_with fail
    exact hN _ _ _ _ _ _ _ _ _ _ _ _ _ _ _ _ _ _ _ _ _ _ _ _ _ _ _ _ _ _ _ _ _ _ _ _ _ _ _ _ _ _ _ _ _ _ _ _ _ _ _ _ _ _ _ _ _ _ _ _ _ _ _ _ _ _ _ _ _ _ _ _ _ _ _ _ _ _ _ _ _ _ _ _ _ _ _ _ _ _ _ _ _ _ _ _ _ _ _ _ _ _ _ _ _ _ _ _ _ _ _ _ _ _ _ _ _ _ _ _ _ _ _ _ _ _ _ _ _ _ _ _ _ _ _ _ _ _ _ _ _ _ _ _ _ _ _ _ _ _ _ _ _ _ _ _ _ _ _ _ _ _ _ _ _ _ _ _ _ _ _ _ _ _ _ _ _ _ _ _ _ _ _ _ _ _ _ _ _ _ _ _ _ _ _ HG
set_option maxRecDepth 20000 in
set_option maxHeartbeats 4000000 in
theorem fr_a3 {w0 w wr : World} {r r1 : Ro} {b nb n cp β m0 : Nat} {a : Option Addr} {L : List Mk} {T : List Fm} {f : Fm} {x : Dx} {kk now k a1 c1 : Int} {vah n2 : Value} {va la : Option Addr} {vn vc ln lc : Nat} {u10 u13 u14 u15 u16 u17 u18 u19 u20 u21 u22 u23 u24 u25 u26 u27 u28 u29 u30 u31 u32 u33 u34 u35 u36 u37 u38 u39 u40 u41 u42 u43 u44 u45 u46 u47 u48 u49 u50 u51 u52 u53 u54 u55 u56 u57 u58 u59 u60 u61 u62 u63 u64 u65 u66 u67 u68 u69 u70 u71 u72 u73 u74 u75 u76 u77 u78 u79 u80 u81 u82 u83 u84 u85 u86 u87 u88 u89 u90 u91 u92 u93 u94 u95 u96 u97 u98 u99 u100 u101 u102 u103 u104 u105 u106 u107 u108 u109 u110 u111 u112 u113 u114 u115 u116 u117 u118 u119 u120 u121 u122 u123 u124 u125 u126 u127 u128 u129 u130 u131 u132 u133 u134 u135 u136 u137 u138 u139 u140 u141 u142 u143 u144 u145 u146 u147 u148 u149 u150 u151 u152 u153 u154 u155 u156 u157 u158 u159 u160 u161 u162 u163 u164 u165 u166 u167 u168 u169 u170 u171 u172 u173 u174 u175 u176 u177 u178 u179 u180 u181 u182 u183 u184 u185 u186 u187 u188 u189 u190 u191 u192 u193 u194 u195 u196 u197 u198 u199 u200 u201 u202 : Value} {Qn K : Act → World → Prop}
    (hβ : 8 ≤ β) (hv : RV 3 enN w0 (.slice a n cp) L) (hn : n ≤ 5000) (hnl : n = L.length) (HF : FH w0 w wr r r1 b (.slice a n cp) β nb vah x f (.slice va vn vc) (.slice la ln lc)) (HA : At L x (T ++ [f])) (hm : m0 ≤ x.at_)
    (hkk : (kk = 0 ∧ f.kd = 0) ∨ (kk = 1 ∧ f.kd = 1) ∨ (kk = 2 ∧ f.kd = 3)) (hfn : f.now = now) (hy : L[x.at_]? = some (3, a1, c1)) 
    (hN : NXF b nb kk n2 vah (GF w0 w r b (.slice a n cp) L β nb T f.kd f.lp f.it f.ah vah m0 n (mu b n wr)) Qn) :
    Code.wp Try.prog fbody (Exit.then Qn (Exit.inBlock 0 (Exit.then K (bodyPost Try.prog Try.f15 (FrQ w0 w r b (.slice a n cp) L β T f.kd m0))))) ⟨#[.pointer (some ⟨b, 0, none⟩), .int .i64 kk, n2, .int .i64 now, vah, undef, undef, .pointer (some ⟨nb, 0, none⟩), undef, undef, u10, .slice va vn vc, .slice la ln lc, u13, u14, u15, u16, u17, u18, u19, u20, u21, u22, u23, u24, u25, u26, u27, u28, u29, u30, u31, u32, u33, u34, u35, u36, u37, u38, u39, u40, u41, u42, u43, u44, u45, u46, u47, u48, u49, u50, u51, u52, u53, u54, u55, u56, u57, u58, u59, u60, u61, u62, u63, u64, u65, u66, u67, u68, u69, u70, u71, u72, u73, u74, u75, u76, u77, u78, u79, u80, u81, u82, u83, u84, u85, u86, u87, u88, u89, u90, u91, u92, u93, u94, u95, u96, u97, u98, u99, u100, u101, u102, u103, u104, u105, u106, u107, u108, u109, u110, u111, u112, u113, u114, u115, u116, u117, u118, u119, u120, u121, u122, u123, u124, u125, u126, u127, u128, u129, u130, u131, u132, u133, u134, u135, u136, u137, u138, u139, u140, u141, u142, u143, u144, u145, u146, u147, u148, u149, u150, u151, u152, u153, u154, u155, u156, u157, u158, u159, u160, u161, u162, u163, u164, u165, u166, u167, u168, u169, u170, u171, u172, u173, u174, u175, u176, u177, u178, u179, u180, u181, u182, u183, u184, u185, u186, u187, u188, u189, u190, u191, u192, u193, u194, u195, u196, u197, u198, u199, u200, u201, u202], []⟩ wr := by
  have hk1 : (1 : Int) ≤ 3 := by omega
  have hk2 : (3 : Int) ≤ 12 := by omega
  have hcan : canB 3 a1 f = true := by unfold canB; simp; omega
  obtain ⟨_, _, _, _, _, c5, _, _⟩ := HF.db.cells
  rw [HA.ov] at c5
  have CN0 := next_ok w0 wr r1 b a n cp x (3, a1, c1) L HF.db hv hn hy ⟨hk1, hk2⟩
  unfold ndMark at CN0
  dsimp only at CN0
  have CN := Lib.hid CN0
  have HFF := Lib.hid HF
  have HAA := Lib.hid HA
  have HY := Lib.hid hy
  have bw : b < wr.heap.size := lt_of HF.db.o
  clear CN0 HF HA hv hy
  conv => arg 2; whnf
  go_wp2_with fail
  refine CN.out.mono ?_
  rintro e w6 ⟨rfl, r6, hD6, hk6⟩
  have F6 := HFF.out.keep hβ hD6 hk6 (fun c hc => by omega)
  have d5 : w6.cell? ⟨b, 5, none⟩ = some (.bool false) := by
    have := hD6.cells.2.2.2.2.2.1
    rw [this]
    show some (Value.bool x.ov) = _
    rw [HAA.out.ov]
  have p0 : w6.cell? ⟨nb, 0, none⟩ = some (.int .i64 f.lp) := cel F6.bo 0
  have p1 : w6.cell? ⟨nb, 1, none⟩ = some (.int .i64 f.it) := cel F6.bo 1
  have p2 : w6.cell? ⟨nb, 2, none⟩ = some (.int .i64 f.sg) := cel F6.bo 2
  have b6 : b < w6.heap.size := lt_of hD6.o
  have nb6 : nb < w6.heap.size := lt_of F6.bo
  obtain ⟨W7, hW7⟩ : ∃ W7, w6.alloc (.cells #[.int .i64 3, .int .i64 a1, .int .i64 c1] 43) = W7 := ⟨_, rfl⟩
  have F7 := F6.below hβ (β + 4) (show Below w6.heap.size w6 W7 by rw [← hW7]; go_grown)
  have HW7 := Lib.hid hW7
  have H7 := Lib.hid F7
  clear CN hD6 hk6 F6 hW7 F7 c5
  go_wp2_with fail
  rw [HW7.out]
  obtain ⟨W8, hW8⟩ : ∃ W8, W7.alloc (.cells #[.int .i64 now, .int .i64 (-1), .bool true] 41) = W8 := ⟨_, rfl⟩
  rw [hW8]
  have hsz : W7.heap.size = w6.heap.size + 1 := by rw [← HW7.out]; simp
  have hX8 := heap_new W7 (.cells #[.int .i64 now, .int .i64 (-1), .bool true] 41)
  rw [hW8, hsz] at hX8
  obtain ⟨X, hX⟩ : ∃ X, w6.heap.size + 1 = X := ⟨_, rfl⟩
  rw [hX] at hX8 ⊢
  have F8 := H7.out.below hβ (β + 4) (show Below W7.heap.size W7 W8 by rw [← hW8]; go_grown)
  have m0' : W8.cell? ⟨X, 0, none⟩ = some (.int .i64 now) := cel hX8 0
  have m1' : W8.cell? ⟨X, 1, none⟩ = some (.int .i64 (-1)) := cel hX8 1
  have m2' : W8.cell? ⟨X, 2, none⟩ = some (.bool true) := cel hX8 2
  have z1 : X < W8.heap.size := lt_of hX8
  have z2 : b < W8.heap.size := lt_of F8.db.o
  have q4 : W8.cell? ⟨b, 4, none⟩ = some x.av := cel F8.db.o 4
  have f4 := frz F8.db.o 4
  have F8' := F8.db
  have HGo : Hid (∀ w', Below W8.heap.size W8 w' → OR 3 enA w' 0 41 x.av x.A) := Lib.hid fun w' hb => (F8'.below 0 hb).1.p.ac.o
  have HApp : Hid (∀ w3 w4 v', Below W8.heap.size W8 w3 → Hid (OR 3 enA w4 0 41 v' (x.A ++ [(now, (-1), true)])) → w3.grownBy w4 x.av.ownBlock → Hid (v'.ownBlock = x.av.ownBlock ∨ v'.ownBlock = some w3.heap.size) → w4.cell? ⟨b, 4, none⟩ = some x.av ∧ w4.frozen? ⟨b, 4, none⟩ = false ∧ ∀ nw, nw = now → GF w0 w r b (.slice a n cp) L β nb T f.kd f.lp f.it f.ah vah m0 n (mu b n wr) nw (.slice va vn vc) (.slice la ln lc) (w4.setCell ⟨b, 4, none⟩ v')) := Lib.hid fun w3 w4 v' hb ho hg hor => by
    have F9 := F8.below hβ (β + 4) hb
    obtain ⟨r', hb4, hS4, hk4⟩ := F9.db.appA hg ho.out hor.out
    have F10 := F9.keep hβ hS4 hk4 (fun c hc => by omega)
    refine ⟨cel hb4 4, frz hb4 4, fun nw e => ?_⟩
    subst e
    refine GF.go HFF.out.db HAA.out hnl F10 ⟨rfl, rfl, rfl, rfl⟩ hfn ?_ hm (Nat.lt_succ_self _)
    exact HAA.out.step HY.out hk1 hk2 hcan (fun e => by cases e) (.acc T f rfl (by simp)) HAA.out.ov HAA.out.er rfl rfl rfl (by show _ = x.A ++ _; rw [hfn]; simp)
  have hnN : x.A.length ≤ 1000000 := by have := HAA.out.a; omega
  obtain ⟨na, nn, nc, hnv⟩ : ∃ a n c, x.av = .slice a n c := form3 (HGo.out W8 (Below.refl _ _))
  rw [hnv] at q4
  have HNV := Lib.hid hnv
  clear hnv hW8 hX8 F8 F8' hX hsz H7 HW7 p0 p1 p2 d5 b6 nb6
  go_region_law ((refine step_appR rfl _ _ 26 41 _ 24 (by rfl) Try.underlying26 infA rfl (by decide) recA x.av x.A (now, (-1), true) (by exact HNV.out.symm) W8.heap.size 1 (by rfl) (HGo.out _ (by go_grown)) (rec_new (by go_simp) rfl) hnN ?_; intro qa qn qc w4 ho4 hg4 hor4; obtain ⟨c4, z4, F4⟩ := HApp.out _ _ _ (by go_grown) ho4 hg4 hor4))
  all_goals
    have HG := F4 now rfl
    clear ho4 hg4 hor4 c4 z4 F4 HApp HGo
    go_wp2_with fail
    exact hN _ _ _ _ _ _ _ _ _ _ _ _ _ _ _ _ _ _ _ _ _ _ _ _ _ _ _ _ _ _ _ _ _ _ _ _ _ _ _ _ _ _ _ _ _ _ _ _ _ _ _ _ _ _ _ _ _ _ _ _ _ _ _ _ _ _ _ _ _ _ _ _ _ _ _ _ _ _ _ _ _ _ _ _ _ _ _ _ _ _ _ _ _ _ _ _ _ _ _ _ _ _ _ _ _ _ _ _ _ _ _ _ _ _ _ _ _ _ _ _ _ _ _ _ _ _ _ _ _ _ _ _ _ _ _ _ _ _ _ _ _ _ _ _ _ _ _ _ _ _ _ _ _ _ _ _ _ _ _ _ _ _ _ _ _ _ _ _ _ _ _ _ _ _ _ _ _ _ _ _ _ _ _ _ _ _ _ _ _ _ _ _ _ _ _ HG
set_option maxRecDepth 20000 in
set_option maxHeartbeats 4000000 in
theorem fr_meet {w0 w wr : World} {r r1 : Ro} {b nb n cp β m0 : Nat} {a : Option Addr} {L : List Mk} {T : List Fm} {f : Fm} {x : Dx} {kk now k a1 c1 : Int} {vah n2 : Value} {va la : Option Addr} {vn vc ln lc : Nat} {u10 u13 u14 u15 u16 u17 u18 u19 u20 u21 u22 u23 u24 u25 u26 u27 u28 u29 u30 u31 u32 u33 u34 u35 u36 u37 u38 u39 u40 u41 u42 u43 u44 u45 u46 u47 u48 u49 u50 u51 u52 u53 u54 u55 u56 u57 u58 u59 u60 u61 u62 u63 u64 u65 u66 u67 u68 u69 u70 u71 u72 u73 u74 u75 u76 u77 u78 u79 u80 u81 u82 u83 u84 u85 u86 u87 u88 u89 u90 u91 u92 u93 u94 u95 u96 u97 u98 u99 u100 u101 u102 u103 u104 u105 u106 u107 u108 u109 u110 u111 u112 u113 u114 u115 u116 u117 u118 u119 u120 u121 u122 u123 u124 u125 u126 u127 u128 u129 u130 u131 u132 u133 u134 u135 u136 u137 u138 u139 u140 u141 u142 u143 u144 u145 u146 u147 u148 u149 u150 u151 u152 u153 u154 u155 u156 u157 u158 u159 u160 u161 u162 u163 u164 u165 u166 u167 u168 u169 u170 u171 u172 u173 u174 u175 u176 u177 u178 u179 u180 u181 u182 u183 u184 u185 u186 u187 u188 u189 u190 u191 u192 u193 u194 u195 u196 u197 u198 u199 u200 u201 u202 : Value} {Qn K : Act → World → Prop}
    (hβ : 8 ≤ β) (hv : RV 3 enN w0 (.slice a n cp) L) (hn : n ≤ 5000) (hnl : n = L.length) (HF : FH w0 w wr r r1 b (.slice a n cp) β nb vah x f (.slice va vn vc) (.slice la ln lc)) (HA : At L x (T ++ [f])) (hm : m0 ≤ x.at_)
    (hkk : (kk = 0 ∧ f.kd = 0) ∨ (kk = 1 ∧ f.kd = 1) ∨ (kk = 2 ∧ f.kd = 3)) (hfn : f.now = now) (hy : L[x.at_]? = some (6, a1, c1)) 
    (hN : NXF b nb kk n2 vah (GF w0 w r b (.slice a n cp) L β nb T f.kd f.lp f.it f.ah vah m0 n (mu b n wr)) Qn) :
    Code.wp Try.prog fbody (Exit.then Qn (Exit.inBlock 0 (Exit.then K (bodyPost Try.prog Try.f15 (FrQ w0 w r b (.slice a n cp) L β T f.kd m0))))) ⟨#[.pointer (some ⟨b, 0, none⟩), .int .i64 kk, n2, .int .i64 now, vah, undef, undef, .pointer (some ⟨nb, 0, none⟩), undef, undef, u10, .slice va vn vc, .slice la ln lc, u13, u14, u15, u16, u17, u18, u19, u20, u21, u22, u23, u24, u25, u26, u27, u28, u29, u30, u31, u32, u33, u34, u35, u36, u37, u38, u39, u40, u41, u42, u43, u44, u45, u46, u47, u48, u49, u50, u51, u52, u53, u54, u55, u56, u57, u58, u59, u60, u61, u62, u63, u64, u65, u66, u67, u68, u69, u70, u71, u72, u73, u74, u75, u76, u77, u78, u79, u80, u81, u82, u83, u84, u85, u86, u87, u88, u89, u90, u91, u92, u93, u94, u95, u96, u97, u98, u99, u100, u101, u102, u103, u104, u105, u106, u107, u108, u109, u110, u111, u112, u113, u114, u115, u116, u117, u118, u119, u120, u121, u122, u123, u124, u125, u126, u127, u128, u129, u130, u131, u132, u133, u134, u135, u136, u137, u138, u139, u140, u141, u142, u143, u144, u145, u146, u147, u148, u149, u150, u151, u152, u153, u154, u155, u156, u157, u158, u159, u160, u161, u162, u163, u164, u165, u166, u167, u168, u169, u170, u171, u172, u173, u174, u175, u176, u177, u178, u179, u180, u181, u182, u183, u184, u185, u186, u187, u188, u189, u190, u191, u192, u193, u194, u195, u196, u197, u198, u199, u200, u201, u202], []⟩ wr := by
  have hk1 : (1 : Int) ≤ 6 := by omega
  have hk2 : (6 : Int) ≤ 12 := by omega
  have hcan : canB 6 a1 f = true := by unfold canB; simp; omega
  obtain ⟨_, _, _, _, _, c5, _, _⟩ := HF.db.cells
  rw [HA.ov] at c5
  have CN0 := next_ok w0 wr r1 b a n cp x (6, a1, c1) L HF.db hv hn hy ⟨hk1, hk2⟩
  unfold ndMark at CN0
  dsimp only at CN0
  have CN := Lib.hid CN0
  have HFF := Lib.hid HF
  have HAA := Lib.hid HA
  have HY := Lib.hid hy
  have bw : b < wr.heap.size := lt_of HF.db.o
  clear CN0 HF HA hv hy
  conv => arg 2; whnf
  go_wp2_with fail
  refine CN.out.mono ?_
  rintro e w6 ⟨rfl, r6, hD6, hk6⟩
  have F6 := HFF.out.keep hβ hD6 hk6 (fun c hc => by omega)
  have d5 : w6.cell? ⟨b, 5, none⟩ = some (.bool false) := by
    have := hD6.cells.2.2.2.2.2.1
    rw [this]
    show some (Value.bool x.ov) = _
    rw [HAA.out.ov]
  have p0 : w6.cell? ⟨nb, 0, none⟩ = some (.int .i64 f.lp) := cel F6.bo 0
  have p1 : w6.cell? ⟨nb, 1, none⟩ = some (.int .i64 f.it) := cel F6.bo 1
  have p2 : w6.cell? ⟨nb, 2, none⟩ = some (.int .i64 f.sg) := cel F6.bo 2
  have b6 : b < w6.heap.size := lt_of hD6.o
  have nb6 : nb < w6.heap.size := lt_of F6.bo
  obtain ⟨W7, hW7⟩ : ∃ W7, w6.alloc (.cells #[.int .i64 6, .int .i64 a1, .int .i64 c1] 43) = W7 := ⟨_, rfl⟩
  have F7 := F6.below hβ (β + 4) (show Below w6.heap.size w6 W7 by rw [← hW7]; go_grown)
  have HW7 := Lib.hid hW7
  have H7 := Lib.hid F7
  clear CN hD6 hk6 F6 hW7 F7 c5
  have hsz : W7.heap.size = w6.heap.size + 1 := by rw [← HW7.out]; simp
  have s0 : W7.cell? ⟨nb, 0, none⟩ = some (.int .i64 f.lp) := cel H7.out.bo 0
  have s1 : W7.cell? ⟨nb, 1, none⟩ = some (.int .i64 f.it) := cel H7.out.bo 1
  have s2 : W7.cell? ⟨nb, 2, none⟩ = some (.int .i64 f.sg) := cel H7.out.bo 2
  have nb7 : nb < W7.heap.size := lt_of H7.out.bo
  have HUM : Hid (∀ w', Below W7.heap.size W7 w' → RV 1 enI w' (.slice la ln lc) f.um) := Lib.hid fun w' hb => RV.below (OR.rv recI H7.out.left.o) hb
  have hum : f.um.length ≤ 100000 := by have := HAA.out.um; omega
  have HST : Hid (∀ w4 qa qn qc, Below W7.heap.size W7 w4 → Hid (OR 1 enI w4 W7.heap.size 3 (.slice qa qn qc) ([now] ++ f.um)) → Calls Try.prog 16 #[.pointer (some ⟨b, 0, none⟩), .agg #[.int .i64 f.lp, .int .i64 f.it, .int .i64 f.sg], .slice qa qn qc] w4 fun e w9 => ∃ v, e = .returned (.int .i64 v) ∧ GF w0 w r b (.slice a n cp) L β nb T f.kd f.lp f.it f.ah vah m0 n (mu b n wr) v (.slice va vn vc) (.slice none 0 0) w9) := Lib.hid fun w4 qa qn qc hb ho => by
    have F4 := H7.out.below hβ 6 hb
    refine (begin_of w0 w4 _ b _ _ (f.lp, f.it, f.sg) (qa, qn, qc) ([now] ++ f.um) F4.db (RD.new ho.out recI) (Nat.le_trans HAA.out.p (by omega)) (Nat.le_trans HAA.out.n (by omega))).mono ?_
    rintro e w9 ⟨v, r9, x9, rfl, hD9, hk9, hB⟩
    have F9 := F4.keep hβ hD9 hk9 (fun c hc => by omega)
    refine ⟨v, rfl, ?_⟩
    rcases hB with ⟨hl, rfl⟩ | ⟨hl, rfl, pv, nv, us, rfl⟩
    · exact GF.over HFF.out.db HAA.out hnl F9.um0 ⟨rfl, rfl, rfl, rfl⟩ rfl (HAA.out.long HY.out hk1 hk2 hcan rfl hl rfl)
    · refine GF.go HFF.out.db HAA.out hnl (F9.um0.now _) ⟨rfl, rfl, rfl, rfl⟩ rfl ?_ hm (Nat.lt_succ_self _)
      exact HAA.out.step HY.out hk1 hk2 hcan (fun _ => hl) (.meet T f rfl rfl) HAA.out.ov HAA.out.er rfl (by show _ ++ [[now] ++ f.um] = x.P ++ [f.now :: f.um]; rw [hfn]; rfl) (by show _ = x.N ++ [nodeOf f]; rw [HFF.out.no]) rfl
  have hoD : Hid (∀ (q : Nat) w', Below ((W7.drewN q).alloc (.cells #[.int .i64 now] 3)).heap.size ((W7.drewN q).alloc (.cells #[.int .i64 now] 3)) w' → OR 1 enI w' W7.heap.size 3 (.slice (some ⟨W7.heap.size, 0, none⟩) 1 1) [now]) := Lib.hid fun q w' hb => OR.below ⟨rfl, .inr ⟨W7.heap.size, 1, #[.int .i64 now], rfl, Nat.le_refl _, heap_new (W7.drewN q) _, Nat.le_refl _, by decide, rfl, rfl⟩⟩ hb
  have ho3 : Hid (∀ w', Below (W7.alloc (.cells #[.int .i64 now] 3)).heap.size (W7.alloc (.cells #[.int .i64 now] 3)) w' → OR 1 enI w' W7.heap.size 3 (.slice (some ⟨W7.heap.size, 0, none⟩) 1 1) [now]) := Lib.hid fun w' hb => OR.below ⟨rfl, .inr ⟨W7.heap.size, 1, #[.int .i64 now], rfl, Nat.le_refl _, heap_new _ _, Nat.le_refl _, by decide, rfl, rfl⟩⟩ hb
  have hoD1 : Hid (∀ w', Below (W7.drew.alloc (.cells #[.int .i64 now] 3)).heap.size (W7.drew.alloc (.cells #[.int .i64 now] 3)) w' → OR 1 enI w' W7.heap.size 3 (.slice (some ⟨W7.heap.size, 0, none⟩) 1 1) [now]) := Lib.hid fun w' hb => OR.below ⟨rfl, .inr ⟨W7.heap.size, 1, #[.int .i64 now], rfl, Nat.le_refl _, heap_new W7.drew _, Nat.le_refl _, by decide, rfl, rfl⟩⟩ hb
  go_wp2_with fail
  rw [HW7.out]
  clear H7 HW7 p0 p1 p2 d5 b6 nb6 hsz
  go_region_law (first
    | ((refine step_appV rfl _ _ 39 3 _ 8 (by rfl) Try.underlying39 infI rfl (by decide) recI W7.heap.size (.slice (some ⟨W7.heap.size, 0, none⟩) 1 1) (.slice la ln lc) [now] f.um (by rfl) (by rfl) (by first | exact ho3.out _ (Below.refl _ _) | exact hoD1.out _ (Below.refl _ _) | exact ho3.out _ (by go_grown) | exact hoD1.out _ (by go_grown)) (HUM.out _ (by go_grown)) (by simp) hum (by simp) ?_; intro qa qn qc w4 ho4 hg4; have hb4 : Below W7.heap.size W7 w4 := Below.grown (by go_grown) hg4 (by simp) (fun k e => by simp [Value.ownBlock] at e; omega); have t0 := (hb4.cell (p := ⟨nb, 0, none⟩) nb7).trans s0; have t1 := (hb4.cell (p := ⟨nb, 1, none⟩) nb7).trans s1; have t2 := (hb4.cell (p := ⟨nb, 2, none⟩) nb7).trans s2))
    | ((go_simp; (with_reducible refine (HST.out _ _ _ _ hb4 ho4).mono ?_); rintro e w9 ⟨v9, rfl, HG⟩)))
  all_goals
    clear ho4 hg4 hb4 HST HUM ho3 hoD hoD1 s0 s1 s2
    go_wp2_with fail
    exact hN _ _ _ _ _ _ _ _ _ _ _ _ _ _ _ _ _ _ _ _ _ _ _ _ _ _ _ _ _ _ _ _ _ _ _ _ _ _ _ _ _ _ _ _ _ _ _ _ _ _ _ _ _ _ _ _ _ _ _ _ _ _ _ _ _ _ _ _ _ _ _ _ _ _ _ _ _ _ _ _ _ _ _ _ _ _ _ _ _ _ _ _ _ _ _ _ _ _ _ _ _ _ _ _ _ _ _ _ _ _ _ _ _ _ _ _ _ _ _ _ _ _ _ _ _ _ _ _ _ _ _ _ _ _ _ _ _ _ _ _ _ _ _ _ _ _ _ _ _ _ _ _ _ _ _ _ _ _ _ _ _ _ _ _ _ _ _ _ _ _ _ _ _ _ _ _ _ _ _ _ _ _ _ _ _ _ _ _ _ _ _ _ _ _ _ HG
end Go.Proofs.Ytgbaaemocnjaoaa.dg
