/- The document's builder: a mark that a frame may not do (layer 30). -/
import Derived.Test.YtgbaaemocnjaoaaDgD
namespace Go.Proofs.Ytgbaaemocnjaoaa.dg
open Go.ChangeShapes Go.WideShapes Go.ChangeAt Go.RowKit
open Go.Proofs.Ytgbaaemocnjaoaa.ro Go.Proofs.Ytgbaaemocnjaoaa.sn
attribute [local go_sem ↓] Go.wp_at_zero Go.wp_at_succ
set_option linter.unusedVariables false
set_option linter.unusedSimpArgs false
set_option maxRecDepth 20000 in
set_option maxHeartbeats 4000000 in
theorem fr_w5 {w0 w wr : World} {r r1 : Ro} {b nb n cp β m0 : Nat} {a : Option Addr} {L : List Mk} {T : List Fm} {f : Fm} {x : Dx} {kk now k a1 c1 : Int} {vah n2 : Value} {va la : Option Addr} {vn vc ln lc : Nat} {u10 u13 u14 u15 u16 u17 u18 u19 u20 u21 u22 u23 u24 u25 u26 u27 u28 u29 u30 u31 u32 u33 u34 u35 u36 u37 u38 u39 u40 u41 u42 u43 u44 u45 u46 u47 u48 u49 u50 u51 u52 u53 u54 u55 u56 u57 u58 u59 u60 u61 u62 u63 u64 u65 u66 u67 u68 u69 u70 u71 u72 u73 u74 u75 u76 u77 u78 u79 u80 u81 u82 u83 u84 u85 u86 u87 u88 u89 u90 u91 u92 u93 u94 u95 u96 u97 u98 u99 u100 u101 u102 u103 u104 u105 u106 u107 u108 u109 u110 u111 u112 u113 u114 u115 u116 u117 u118 u119 u120 u121 u122 u123 u124 u125 u126 u127 u128 u129 u130 u131 u132 u133 u134 u135 u136 u137 u138 u139 u140 u141 u142 u143 u144 u145 u146 u147 u148 u149 u150 u151 u152 u153 u154 u155 u156 u157 u158 u159 u160 u161 u162 u163 u164 u165 u166 u167 u168 u169 u170 u171 u172 u173 u174 u175 u176 u177 u178 u179 u180 u181 u182 u183 u184 u185 u186 u187 u188 u189 u190 u191 u192 u193 u194 u195 u196 u197 u198 u199 u200 u201 u202 : Value} {Qn K : Act → World → Prop}
    (hβ : 8 ≤ β) (hv : RV 3 enN w0 (.slice a n cp) L) (hn : n ≤ 5000) (hnl : n = L.length) (HF : FH w0 w wr r r1 b (.slice a n cp) β nb vah x f (.slice va vn vc) (.slice la ln lc)) (HA : At L x (T ++ [f])) (hm : m0 ≤ x.at_)
    (hkk : (kk = 0 ∧ f.kd = 0) ∨ (kk = 1 ∧ f.kd = 1) ∨ (kk = 2 ∧ f.kd = 3)) (hfn : f.now = now) (hy : L[x.at_]? = some (5, a1, c1)) (hne : ¬ kk = 1)
    (hN : NXF b nb kk n2 vah (GF w0 w r b (.slice a n cp) L β nb T f.kd f.lp f.it f.ah vah m0 n (mu b n wr)) Qn) :
    Code.wp Try.prog fbody (Exit.then Qn (Exit.inBlock 0 (Exit.then K (bodyPost Try.prog Try.f15 (FrQ w0 w r b (.slice a n cp) L β T f.kd m0))))) ⟨#[.pointer (some ⟨b, 0, none⟩), .int .i64 kk, n2, .int .i64 now, vah, undef, undef, .pointer (some ⟨nb, 0, none⟩), undef, undef, u10, .slice va vn vc, .slice la ln lc, u13, u14, u15, u16, u17, u18, u19, u20, u21, u22, u23, u24, u25, u26, u27, u28, u29, u30, u31, u32, u33, u34, u35, u36, u37, u38, u39, u40, u41, u42, u43, u44, u45, u46, u47, u48, u49, u50, u51, u52, u53, u54, u55, u56, u57, u58, u59, u60, u61, u62, u63, u64, u65, u66, u67, u68, u69, u70, u71, u72, u73, u74, u75, u76, u77, u78, u79, u80, u81, u82, u83, u84, u85, u86, u87, u88, u89, u90, u91, u92, u93, u94, u95, u96, u97, u98, u99, u100, u101, u102, u103, u104, u105, u106, u107, u108, u109, u110, u111, u112, u113, u114, u115, u116, u117, u118, u119, u120, u121, u122, u123, u124, u125, u126, u127, u128, u129, u130, u131, u132, u133, u134, u135, u136, u137, u138, u139, u140, u141, u142, u143, u144, u145, u146, u147, u148, u149, u150, u151, u152, u153, u154, u155, u156, u157, u158, u159, u160, u161, u162, u163, u164, u165, u166, u167, u168, u169, u170, u171, u172, u173, u174, u175, u176, u177, u178, u179, u180, u181, u182, u183, u184, u185, u186, u187, u188, u189, u190, u191, u192, u193, u194, u195, u196, u197, u198, u199, u200, u201, u202], []⟩ wr := by
  have e1 : ¬ kk = 1 := hne
  have e1b : (kk == 1) = false := by rw [beq_eq_false_iff_ne]; exact hne
  have hk1 : (1 : Int) ≤ 5 := by omega
  have hk2 : (5 : Int) ≤ 12 := by omega
  have hcan : canB 5 a1 f = false := by unfold canB; simp; omega
  obtain ⟨_, _, _, _, _, c5, _, _⟩ := HF.db.cells
  rw [HA.ov] at c5
  have CN0 := next_ok w0 wr r1 b a n cp x (5, a1, c1) L HF.db hv hn hy ⟨hk1, hk2⟩
  unfold ndMark at CN0
  dsimp only at CN0
  have CN := Lib.hid CN0
  have HFF := Lib.hid HF
  have HAA := Lib.hid HA
  have HY := Lib.hid hy
  have bw : b < wr.heap.size := lt_of HF.db.o
  clear CN0 HF HA hv hy
  conv => arg 2; whnf
  go_wp2_with fail
  refine CN.out.mono ?_
  rintro e w6 ⟨rfl, r6, hD6, hk6⟩
  have F6 := HFF.out.keep hβ hD6 hk6 (fun c hc => by omega)
  have d5 : w6.cell? ⟨b, 5, none⟩ = some (.bool false) := by
    have := hD6.cells.2.2.2.2.2.1
    rw [this]
    show some (Value.bool x.ov) = _
    rw [HAA.out.ov]
  have p0 : w6.cell? ⟨nb, 0, none⟩ = some (.int .i64 f.lp) := cel F6.bo 0
  have p1 : w6.cell? ⟨nb, 1, none⟩ = some (.int .i64 f.it) := cel F6.bo 1
  have p2 : w6.cell? ⟨nb, 2, none⟩ = some (.int .i64 f.sg) := cel F6.bo 2
  have b6 : b < w6.heap.size := lt_of hD6.o
  have nb6 : nb < w6.heap.size := lt_of F6.bo
  obtain ⟨W7, hW7⟩ : ∃ W7, w6.alloc (.cells #[.int .i64 5, .int .i64 a1, .int .i64 c1] 43) = W7 := ⟨_, rfl⟩
  have F7 := F6.below hβ (β + 4) (show Below w6.heap.size w6 W7 by rw [← hW7]; go_grown)
  have HW7 := Lib.hid hW7
  have H7 := Lib.hid F7
  clear CN hD6 hk6 F6 hW7 F7 c5
  go_wp2_with fail
  rw [HW7.out]
  refine (wrong_of w0 W7 _ b _ _ H7.out.db).mono ?_
  rintro e w8 ⟨rfl, r8, hD8, hk8⟩
  have F8 := H7.out.keep hβ hD8 hk8 (fun c hc => by omega)
  have HG : ∀ now, GF w0 w r b (.slice a n cp) L β nb T f.kd f.lp f.it f.ah vah m0 n (mu b n wr) now (.slice va vn vc) (.slice la ln lc) w8 := fun now => GF.over HFF.out.db HAA.out hnl F8 ⟨rfl, rfl, rfl, rfl⟩ rfl (HAA.out.form HY.out hk1 hk2 hcan rfl)
  clear hD8 hk8 F8 H7 HW7 p0 p1 p2 d5
  go_wp2_with fail
  exact hN _ _ _ _ _ _ _ _ _ _ _ _ _ _ _ _ _ _ _ _ _ _ _ _ _ _ _ _ _ _ _ _ _ _ _ _ _ _ _ _ _ _ _ _ _ _ _ _ _ _ _ _ _ _ _ _ _ _ _ _ _ _ _ _ _ _ _ _ _ _ _ _ _ _ _ _ _ _ _ _ _ _ _ _ _ _ _ _ _ _ _ _ _ _ _ _ _ _ _ _ _ _ _ _ _ _ _ _ _ _ _ _ _ _ _ _ _ _ _ _ _ _ _ _ _ _ _ _ _ _ _ _ _ _ _ _ _ _ _ _ _ _ _ _ _ _ _ _ _ _ _ _ _ _ _ _ _ _ _ _ _ _ _ _ _ _ _ _ _ _ _ _ _ _ _ _ _ _ _ _ _ _ _ _ _ _ _ _ _ _ _ _ _ _ _ (HG _)
set_option maxRecDepth 20000 in
set_option maxHeartbeats 4000000 in
theorem fr_w89 {w0 w wr : World} {r r1 : Ro} {b nb n cp β m0 : Nat} {a : Option Addr} {L : List Mk} {T : List Fm} {f : Fm} {x : Dx} {kk now k a1 c1 : Int} {vah n2 : Value} {va la : Option Addr} {vn vc ln lc : Nat} {u10 u13 u14 u15 u16 u17 u18 u19 u20 u21 u22 u23 u24 u25 u26 u27 u28 u29 u30 u31 u32 u33 u34 u35 u36 u37 u38 u39 u40 u41 u42 u43 u44 u45 u46 u47 u48 u49 u50 u51 u52 u53 u54 u55 u56 u57 u58 u59 u60 u61 u62 u63 u64 u65 u66 u67 u68 u69 u70 u71 u72 u73 u74 u75 u76 u77 u78 u79 u80 u81 u82 u83 u84 u85 u86 u87 u88 u89 u90 u91 u92 u93 u94 u95 u96 u97 u98 u99 u100 u101 u102 u103 u104 u105 u106 u107 u108 u109 u110 u111 u112 u113 u114 u115 u116 u117 u118 u119 u120 u121 u122 u123 u124 u125 u126 u127 u128 u129 u130 u131 u132 u133 u134 u135 u136 u137 u138 u139 u140 u141 u142 u143 u144 u145 u146 u147 u148 u149 u150 u151 u152 u153 u154 u155 u156 u157 u158 u159 u160 u161 u162 u163 u164 u165 u166 u167 u168 u169 u170 u171 u172 u173 u174 u175 u176 u177 u178 u179 u180 u181 u182 u183 u184 u185 u186 u187 u188 u189 u190 u191 u192 u193 u194 u195 u196 u197 u198 u199 u200 u201 u202 : Value} {Qn K : Act → World → Prop}
    (hβ : 8 ≤ β) (hv : RV 3 enN w0 (.slice a n cp) L) (hn : n ≤ 5000) (hnl : n = L.length) (HF : FH w0 w wr r r1 b (.slice a n cp) β nb vah x f (.slice va vn vc) (.slice la ln lc)) (HA : At L x (T ++ [f])) (hm : m0 ≤ x.at_)
    (hkk : (kk = 0 ∧ f.kd = 0) ∨ (kk = 1 ∧ f.kd = 1) ∨ (kk = 2 ∧ f.kd = 3)) (hfn : f.now = now) (hy : L[x.at_]? = some (k, a1, c1)) (hk : k = 8 ∨ k = 9)
    (hN : NXF b nb kk n2 vah (GF w0 w r b (.slice a n cp) L β nb T f.kd f.lp f.it f.ah vah m0 n (mu b n wr)) Qn) :
    Code.wp Try.prog fbody (Exit.then Qn (Exit.inBlock 0 (Exit.then K (bodyPost Try.prog Try.f15 (FrQ w0 w r b (.slice a n cp) L β T f.kd m0))))) ⟨#[.pointer (some ⟨b, 0, none⟩), .int .i64 kk, n2, .int .i64 now, vah, undef, undef, .pointer (some ⟨nb, 0, none⟩), undef, undef, u10, .slice va vn vc, .slice la ln lc, u13, u14, u15, u16, u17, u18, u19, u20, u21, u22, u23, u24, u25, u26, u27, u28, u29, u30, u31, u32, u33, u34, u35, u36, u37, u38, u39, u40, u41, u42, u43, u44, u45, u46, u47, u48, u49, u50, u51, u52, u53, u54, u55, u56, u57, u58, u59, u60, u61, u62, u63, u64, u65, u66, u67, u68, u69, u70, u71, u72, u73, u74, u75, u76, u77, u78, u79, u80, u81, u82, u83, u84, u85, u86, u87, u88, u89, u90, u91, u92, u93, u94, u95, u96, u97, u98, u99, u100, u101, u102, u103, u104, u105, u106, u107, u108, u109, u110, u111, u112, u113, u114, u115, u116, u117, u118, u119, u120, u121, u122, u123, u124, u125, u126, u127, u128, u129, u130, u131, u132, u133, u134, u135, u136, u137, u138, u139, u140, u141, u142, u143, u144, u145, u146, u147, u148, u149, u150, u151, u152, u153, u154, u155, u156, u157, u158, u159, u160, u161, u162, u163, u164, u165, u166, u167, u168, u169, u170, u171, u172, u173, u174, u175, u176, u177, u178, u179, u180, u181, u182, u183, u184, u185, u186, u187, u188, u189, u190, u191, u192, u193, u194, u195, u196, u197, u198, u199, u200, u201, u202], []⟩ wr := by
  have g5 : ¬ k = 5 := by omega
  have g5b : (k == 5) = false := by rw [beq_eq_false_iff_ne]; exact g5
  have g10 : ¬ k = 10 := by omega
  have g10b : (k == 10) = false := by rw [beq_eq_false_iff_ne]; exact g10
  have gle : ¬ k ≤ 3 := by omega
  have gleb : decide (k ≤ 3) = false := decide_eq_false gle
  have g4 : ¬ k = 4 := by omega
  have g4b : (k == 4) = false := by rw [beq_eq_false_iff_ne]; exact g4
  have g6 : ¬ k = 6 := by omega
  have g6b : (k == 6) = false := by rw [beq_eq_false_iff_ne]; exact g6
  have g7 : ¬ k = 7 := by omega
  have g7b : (k == 7) = false := by rw [beq_eq_false_iff_ne]; exact g7
  have gge : ¬ 11 ≤ k := by omega
  have ggeb : decide (11 ≤ k) = false := decide_eq_false gge
  have hk1 : (1 : Int) ≤ k := by omega
  have hk2 : (k : Int) ≤ 12 := by omega
  have hcan : canB k a1 f = false := by unfold canB; rcases hk with rfl | rfl <;> simp <;> omega
  obtain ⟨_, _, _, _, _, c5, _, _⟩ := HF.db.cells
  rw [HA.ov] at c5
  have CN0 := next_ok w0 wr r1 b a n cp x (k, a1, c1) L HF.db hv hn hy ⟨hk1, hk2⟩
  unfold ndMark at CN0
  dsimp only at CN0
  have CN := Lib.hid CN0
  have HFF := Lib.hid HF
  have HAA := Lib.hid HA
  have HY := Lib.hid hy
  have bw : b < wr.heap.size := lt_of HF.db.o
  clear CN0 HF HA hv hy
  conv => arg 2; whnf
  go_wp2_with fail
  refine CN.out.mono ?_
  rintro e w6 ⟨rfl, r6, hD6, hk6⟩
  have F6 := HFF.out.keep hβ hD6 hk6 (fun c hc => by omega)
  have d5 : w6.cell? ⟨b, 5, none⟩ = some (.bool false) := by
    have := hD6.cells.2.2.2.2.2.1
    rw [this]
    show some (Value.bool x.ov) = _
    rw [HAA.out.ov]
  have p0 : w6.cell? ⟨nb, 0, none⟩ = some (.int .i64 f.lp) := cel F6.bo 0
  have p1 : w6.cell? ⟨nb, 1, none⟩ = some (.int .i64 f.it) := cel F6.bo 1
  have p2 : w6.cell? ⟨nb, 2, none⟩ = some (.int .i64 f.sg) := cel F6.bo 2
  have b6 : b < w6.heap.size := lt_of hD6.o
  have nb6 : nb < w6.heap.size := lt_of F6.bo
  obtain ⟨W7, hW7⟩ : ∃ W7, w6.alloc (.cells #[.int .i64 k, .int .i64 a1, .int .i64 c1] 43) = W7 := ⟨_, rfl⟩
  have F7 := F6.below hβ (β + 4) (show Below w6.heap.size w6 W7 by rw [← hW7]; go_grown)
  have HW7 := Lib.hid hW7
  have H7 := Lib.hid F7
  clear CN hD6 hk6 F6 hW7 F7 c5
  go_wp2_with fail
  rw [HW7.out]
  refine (wrong_of w0 W7 _ b _ _ H7.out.db).mono ?_
  rintro e w8 ⟨rfl, r8, hD8, hk8⟩
  have F8 := H7.out.keep hβ hD8 hk8 (fun c hc => by omega)
  have HG : ∀ now, GF w0 w r b (.slice a n cp) L β nb T f.kd f.lp f.it f.ah vah m0 n (mu b n wr) now (.slice va vn vc) (.slice la ln lc) w8 := fun now => GF.over HFF.out.db HAA.out hnl F8 ⟨rfl, rfl, rfl, rfl⟩ rfl (HAA.out.form HY.out hk1 hk2 hcan rfl)
  clear hD8 hk8 F8 H7 HW7 p0 p1 p2 d5
  go_wp2_with fail
  exact hN _ _ _ _ _ _ _ _ _ _ _ _ _ _ _ _ _ _ _ _ _ _ _ _ _ _ _ _ _ _ _ _ _ _ _ _ _ _ _ _ _ _ _ _ _ _ _ _ _ _ _ _ _ _ _ _ _ _ _ _ _ _ _ _ _ _ _ _ _ _ _ _ _ _ _ _ _ _ _ _ _ _ _ _ _ _ _ _ _ _ _ _ _ _ _ _ _ _ _ _ _ _ _ _ _ _ _ _ _ _ _ _ _ _ _ _ _ _ _ _ _ _ _ _ _ _ _ _ _ _ _ _ _ _ _ _ _ _ _ _ _ _ _ _ _ _ _ _ _ _ _ _ _ _ _ _ _ _ _ _ _ _ _ _ _ _ _ _ _ _ _ _ _ _ _ _ _ _ _ _ _ _ _ _ _ _ _ _ _ _ _ _ _ _ _ (HG _)
set_option maxRecDepth 20000 in
set_option maxHeartbeats 4000000 in
theorem fr_w10 {w0 w wr : World} {r r1 : Ro} {b nb n cp β m0 : Nat} {a : Option Addr} {L : List Mk} {T : List Fm} {f : Fm} {x : Dx} {kk now k a1 c1 : Int} {vah n2 : Value} {va la : Option Addr} {vn vc ln lc : Nat} {u10 u13 u14 u15 u16 u17 u18 u19 u20 u21 u22 u23 u24 u25 u26 u27 u28 u29 u30 u31 u32 u33 u34 u35 u36 u37 u38 u39 u40 u41 u42 u43 u44 u45 u46 u47 u48 u49 u50 u51 u52 u53 u54 u55 u56 u57 u58 u59 u60 u61 u62 u63 u64 u65 u66 u67 u68 u69 u70 u71 u72 u73 u74 u75 u76 u77 u78 u79 u80 u81 u82 u83 u84 u85 u86 u87 u88 u89 u90 u91 u92 u93 u94 u95 u96 u97 u98 u99 u100 u101 u102 u103 u104 u105 u106 u107 u108 u109 u110 u111 u112 u113 u114 u115 u116 u117 u118 u119 u120 u121 u122 u123 u124 u125 u126 u127 u128 u129 u130 u131 u132 u133 u134 u135 u136 u137 u138 u139 u140 u141 u142 u143 u144 u145 u146 u147 u148 u149 u150 u151 u152 u153 u154 u155 u156 u157 u158 u159 u160 u161 u162 u163 u164 u165 u166 u167 u168 u169 u170 u171 u172 u173 u174 u175 u176 u177 u178 u179 u180 u181 u182 u183 u184 u185 u186 u187 u188 u189 u190 u191 u192 u193 u194 u195 u196 u197 u198 u199 u200 u201 u202 : Value} {Qn K : Act → World → Prop}
    (hβ : 8 ≤ β) (hv : RV 3 enN w0 (.slice a n cp) L) (hn : n ≤ 5000) (hnl : n = L.length) (HF : FH w0 w wr r r1 b (.slice a n cp) β nb vah x f (.slice va vn vc) (.slice la ln lc)) (HA : At L x (T ++ [f])) (hm : m0 ≤ x.at_)
    (hkk : (kk = 0 ∧ f.kd = 0) ∨ (kk = 1 ∧ f.kd = 1) ∨ (kk = 2 ∧ f.kd = 3)) (hfn : f.now = now) (hy : L[x.at_]? = some (10, a1, c1)) (hne : ¬ kk = 2)
    (hN : NXF b nb kk n2 vah (GF w0 w r b (.slice a n cp) L β nb T f.kd f.lp f.it f.ah vah m0 n (mu b n wr)) Qn) :
    Code.wp Try.prog fbody (Exit.then Qn (Exit.inBlock 0 (Exit.then K (bodyPost Try.prog Try.f15 (FrQ w0 w r b (.slice a n cp) L β T f.kd m0))))) ⟨#[.pointer (some ⟨b, 0, none⟩), .int .i64 kk, n2, .int .i64 now, vah, undef, undef, .pointer (some ⟨nb, 0, none⟩), undef, undef, u10, .slice va vn vc, .slice la ln lc, u13, u14, u15, u16, u17, u18, u19, u20, u21, u22, u23, u24, u25, u26, u27, u28, u29, u30, u31, u32, u33, u34, u35, u36, u37, u38, u39, u40, u41, u42, u43, u44, u45, u46, u47, u48, u49, u50, u51, u52, u53, u54, u55, u56, u57, u58, u59, u60, u61, u62, u63, u64, u65, u66, u67, u68, u69, u70, u71, u72, u73, u74, u75, u76, u77, u78, u79, u80, u81, u82, u83, u84, u85, u86, u87, u88, u89, u90, u91, u92, u93, u94, u95, u96, u97, u98, u99, u100, u101, u102, u103, u104, u105, u106, u107, u108, u109, u110, u111, u112, u113, u114, u115, u116, u117, u118, u119, u120, u121, u122, u123, u124, u125, u126, u127, u128, u129, u130, u131, u132, u133, u134, u135, u136, u137, u138, u139, u140, u141, u142, u143, u144, u145, u146, u147, u148, u149, u150, u151, u152, u153, u154, u155, u156, u157, u158, u159, u160, u161, u162, u163, u164, u165, u166, u167, u168, u169, u170, u171, u172, u173, u174, u175, u176, u177, u178, u179, u180, u181, u182, u183, u184, u185, u186, u187, u188, u189, u190, u191, u192, u193, u194, u195, u196, u197, u198, u199, u200, u201, u202], []⟩ wr := by
  have e2 : ¬ kk = 2 := hne
  have e2b : (kk == 2) = false := by rw [beq_eq_false_iff_ne]; exact hne
  have hk1 : (1 : Int) ≤ 10 := by omega
  have hk2 : (10 : Int) ≤ 12 := by omega
  have hcan : canB 10 a1 f = false := by unfold canB; simp; omega
  obtain ⟨_, _, _, _, _, c5, _, _⟩ := HF.db.cells
  rw [HA.ov] at c5
  have CN0 := next_ok w0 wr r1 b a n cp x (10, a1, c1) L HF.db hv hn hy ⟨hk1, hk2⟩
  unfold ndMark at CN0
  dsimp only at CN0
  have CN := Lib.hid CN0
  have HFF := Lib.hid HF
  have HAA := Lib.hid HA
  have HY := Lib.hid hy
  have bw : b < wr.heap.size := lt_of HF.db.o
  clear CN0 HF HA hv hy
  conv => arg 2; whnf
  go_wp2_with fail
  refine CN.out.mono ?_
  rintro e w6 ⟨rfl, r6, hD6, hk6⟩
  have F6 := HFF.out.keep hβ hD6 hk6 (fun c hc => by omega)
  have d5 : w6.cell? ⟨b, 5, none⟩ = some (.bool false) := by
    have := hD6.cells.2.2.2.2.2.1
    rw [this]
    show some (Value.bool x.ov) = _
    rw [HAA.out.ov]
  have p0 : w6.cell? ⟨nb, 0, none⟩ = some (.int .i64 f.lp) := cel F6.bo 0
  have p1 : w6.cell? ⟨nb, 1, none⟩ = some (.int .i64 f.it) := cel F6.bo 1
  have p2 : w6.cell? ⟨nb, 2, none⟩ = some (.int .i64 f.sg) := cel F6.bo 2
  have b6 : b < w6.heap.size := lt_of hD6.o
  have nb6 : nb < w6.heap.size := lt_of F6.bo
  obtain ⟨W7, hW7⟩ : ∃ W7, w6.alloc (.cells #[.int .i64 10, .int .i64 a1, .int .i64 c1] 43) = W7 := ⟨_, rfl⟩
  have F7 := F6.below hβ (β + 4) (show Below w6.heap.size w6 W7 by rw [← hW7]; go_grown)
  have HW7 := Lib.hid hW7
  have H7 := Lib.hid F7
  clear CN hD6 hk6 F6 hW7 F7 c5
  go_wp2_with fail
  rw [HW7.out]
  refine (wrong_of w0 W7 _ b _ _ H7.out.db).mono ?_
  rintro e w8 ⟨rfl, r8, hD8, hk8⟩
  have F8 := H7.out.keep hβ hD8 hk8 (fun c hc => by omega)
  have HG : ∀ now, GF w0 w r b (.slice a n cp) L β nb T f.kd f.lp f.it f.ah vah m0 n (mu b n wr) now (.slice va vn vc) (.slice la ln lc) w8 := fun now => GF.over HFF.out.db HAA.out hnl F8 ⟨rfl, rfl, rfl, rfl⟩ rfl (HAA.out.form HY.out hk1 hk2 hcan rfl)
  clear hD8 hk8 F8 H7 HW7 p0 p1 p2 d5
  go_wp2_with fail
  exact hN _ _ _ _ _ _ _ _ _ _ _ _ _ _ _ _ _ _ _ _ _ _ _ _ _ _ _ _ _ _ _ _ _ _ _ _ _ _ _ _ _ _ _ _ _ _ _ _ _ _ _ _ _ _ _ _ _ _ _ _ _ _ _ _ _ _ _ _ _ _ _ _ _ _ _ _ _ _ _ _ _ _ _ _ _ _ _ _ _ _ _ _ _ _ _ _ _ _ _ _ _ _ _ _ _ _ _ _ _ _ _ _ _ _ _ _ _ _ _ _ _ _ _ _ _ _ _ _ _ _ _ _ _ _ _ _ _ _ _ _ _ _ _ _ _ _ _ _ _ _ _ _ _ _ _ _ _ _ _ _ _ _ _ _ _ _ _ _ _ _ _ _ _ _ _ _ _ _ _ _ _ _ _ _ _ _ _ _ _ _ _ _ _ _ _ (HG _)
set_option maxRecDepth 20000 in
set_option maxHeartbeats 4000000 in
theorem fr_w10a {w0 w wr : World} {r r1 : Ro} {b nb n cp β m0 : Nat} {a : Option Addr} {L : List Mk} {T : List Fm} {f : Fm} {x : Dx} {kk now k a1 c1 : Int} {vah n2 : Value} {va la : Option Addr} {vn vc ln lc : Nat} {u10 u13 u14 u15 u16 u17 u18 u19 u20 u21 u22 u23 u24 u25 u26 u27 u28 u29 u30 u31 u32 u33 u34 u35 u36 u37 u38 u39 u40 u41 u42 u43 u44 u45 u46 u47 u48 u49 u50 u51 u52 u53 u54 u55 u56 u57 u58 u59 u60 u61 u62 u63 u64 u65 u66 u67 u68 u69 u70 u71 u72 u73 u74 u75 u76 u77 u78 u79 u80 u81 u82 u83 u84 u85 u86 u87 u88 u89 u90 u91 u92 u93 u94 u95 u96 u97 u98 u99 u100 u101 u102 u103 u104 u105 u106 u107 u108 u109 u110 u111 u112 u113 u114 u115 u116 u117 u118 u119 u120 u121 u122 u123 u124 u125 u126 u127 u128 u129 u130 u131 u132 u133 u134 u135 u136 u137 u138 u139 u140 u141 u142 u143 u144 u145 u146 u147 u148 u149 u150 u151 u152 u153 u154 u155 u156 u157 u158 u159 u160 u161 u162 u163 u164 u165 u166 u167 u168 u169 u170 u171 u172 u173 u174 u175 u176 u177 u178 u179 u180 u181 u182 u183 u184 u185 u186 u187 u188 u189 u190 u191 u192 u193 u194 u195 u196 u197 u198 u199 u200 u201 u202 : Value} {Qn K : Act → World → Prop}
    (hβ : 8 ≤ β) (hv : RV 3 enN w0 (.slice a n cp) L) (hn : n ≤ 5000) (hnl : n = L.length) (HF : FH w0 w wr r r1 b (.slice a n cp) β nb vah x f (.slice va vn vc) (.slice la ln lc)) (HA : At L x (T ++ [f])) (hm : m0 ≤ x.at_)
    (hkk : (kk = 0 ∧ f.kd = 0) ∨ (kk = 1 ∧ f.kd = 1) ∨ (kk = 2 ∧ f.kd = 3)) (hfn : f.now = now) (hy : L[x.at_]? = some (10, a1, c1)) (h3 : f.kd = 3) (hne : ¬ a1 = f.it)
    (hN : NXF b nb 2 n2 vah (GF w0 w r b (.slice a n cp) L β nb T f.kd f.lp f.it f.ah vah m0 n (mu b n wr)) Qn) :
    Code.wp Try.prog fbody (Exit.then Qn (Exit.inBlock 0 (Exit.then K (bodyPost Try.prog Try.f15 (FrQ w0 w r b (.slice a n cp) L β T f.kd m0))))) ⟨#[.pointer (some ⟨b, 0, none⟩), .int .i64 2, n2, .int .i64 now, vah, undef, undef, .pointer (some ⟨nb, 0, none⟩), undef, undef, u10, .slice va vn vc, .slice la ln lc, u13, u14, u15, u16, u17, u18, u19, u20, u21, u22, u23, u24, u25, u26, u27, u28, u29, u30, u31, u32, u33, u34, u35, u36, u37, u38, u39, u40, u41, u42, u43, u44, u45, u46, u47, u48, u49, u50, u51, u52, u53, u54, u55, u56, u57, u58, u59, u60, u61, u62, u63, u64, u65, u66, u67, u68, u69, u70, u71, u72, u73, u74, u75, u76, u77, u78, u79, u80, u81, u82, u83, u84, u85, u86, u87, u88, u89, u90, u91, u92, u93, u94, u95, u96, u97, u98, u99, u100, u101, u102, u103, u104, u105, u106, u107, u108, u109, u110, u111, u112, u113, u114, u115, u116, u117, u118, u119, u120, u121, u122, u123, u124, u125, u126, u127, u128, u129, u130, u131, u132, u133, u134, u135, u136, u137, u138, u139, u140, u141, u142, u143, u144, u145, u146, u147, u148, u149, u150, u151, u152, u153, u154, u155, u156, u157, u158, u159, u160, u161, u162, u163, u164, u165, u166, u167, u168, u169, u170, u171, u172, u173, u174, u175, u176, u177, u178, u179, u180, u181, u182, u183, u184, u185, u186, u187, u188, u189, u190, u191, u192, u193, u194, u195, u196, u197, u198, u199, u200, u201, u202], []⟩ wr := by
  have e2b : (a1 == f.it) = false := by rw [beq_eq_false_iff_ne]; exact hne
  have hk1 : (1 : Int) ≤ 10 := by omega
  have hk2 : (10 : Int) ≤ 12 := by omega
  have hcan : canB 10 a1 f = false := by unfold canB; simp; omega
  obtain ⟨_, _, _, _, _, c5, _, _⟩ := HF.db.cells
  rw [HA.ov] at c5
  have CN0 := next_ok w0 wr r1 b a n cp x (10, a1, c1) L HF.db hv hn hy ⟨hk1, hk2⟩
  unfold ndMark at CN0
  dsimp only at CN0
  have CN := Lib.hid CN0
  have HFF := Lib.hid HF
  have HAA := Lib.hid HA
  have HY := Lib.hid hy
  have bw : b < wr.heap.size := lt_of HF.db.o
  clear CN0 HF HA hv hy
  conv => arg 2; whnf
  go_wp2_with fail
  refine CN.out.mono ?_
  rintro e w6 ⟨rfl, r6, hD6, hk6⟩
  have F6 := HFF.out.keep hβ hD6 hk6 (fun c hc => by omega)
  have d5 : w6.cell? ⟨b, 5, none⟩ = some (.bool false) := by
    have := hD6.cells.2.2.2.2.2.1
    rw [this]
    show some (Value.bool x.ov) = _
    rw [HAA.out.ov]
  have p0 : w6.cell? ⟨nb, 0, none⟩ = some (.int .i64 f.lp) := cel F6.bo 0
  have p1 : w6.cell? ⟨nb, 1, none⟩ = some (.int .i64 f.it) := cel F6.bo 1
  have p2 : w6.cell? ⟨nb, 2, none⟩ = some (.int .i64 f.sg) := cel F6.bo 2
  have b6 : b < w6.heap.size := lt_of hD6.o
  have nb6 : nb < w6.heap.size := lt_of F6.bo
  obtain ⟨W7, hW7⟩ : ∃ W7, w6.alloc (.cells #[.int .i64 10, .int .i64 a1, .int .i64 c1] 43) = W7 := ⟨_, rfl⟩
  have F7 := F6.below hβ (β + 4) (show Below w6.heap.size w6 W7 by rw [← hW7]; go_grown)
  have HW7 := Lib.hid hW7
  have H7 := Lib.hid F7
  clear CN hD6 hk6 F6 hW7 F7 c5
  go_wp2_with fail
  rw [HW7.out]
  refine (wrong_of w0 W7 _ b _ _ H7.out.db).mono ?_
  rintro e w8 ⟨rfl, r8, hD8, hk8⟩
  have F8 := H7.out.keep hβ hD8 hk8 (fun c hc => by omega)
  have HG : ∀ now, GF w0 w r b (.slice a n cp) L β nb T f.kd f.lp f.it f.ah vah m0 n (mu b n wr) now (.slice va vn vc) (.slice la ln lc) w8 := fun now => GF.over HFF.out.db HAA.out hnl F8 ⟨rfl, rfl, rfl, rfl⟩ rfl (HAA.out.form HY.out hk1 hk2 hcan rfl)
  clear hD8 hk8 F8 H7 HW7 p0 p1 p2 d5
  go_wp2_with fail
  exact hN _ _ _ _ _ _ _ _ _ _ _ _ _ _ _ _ _ _ _ _ _ _ _ _ _ _ _ _ _ _ _ _ _ _ _ _ _ _ _ _ _ _ _ _ _ _ _ _ _ _ _ _ _ _ _ _ _ _ _ _ _ _ _ _ _ _ _ _ _ _ _ _ _ _ _ _ _ _ _ _ _ _ _ _ _ _ _ _ _ _ _ _ _ _ _ _ _ _ _ _ _ _ _ _ _ _ _ _ _ _ _ _ _ _ _ _ _ _ _ _ _ _ _ _ _ _ _ _ _ _ _ _ _ _ _ _ _ _ _ _ _ _ _ _ _ _ _ _ _ _ _ _ _ _ _ _ _ _ _ _ _ _ _ _ _ _ _ _ _ _ _ _ _ _ _ _ _ _ _ _ _ _ _ _ _ _ _ _ _ _ _ _ _ _ _ (HG _)
set_option maxRecDepth 20000 in
set_option maxHeartbeats 4000000 in
theorem fr_w11 {w0 w wr : World} {r r1 : Ro} {b nb n cp β m0 : Nat} {a : Option Addr} {L : List Mk} {T : List Fm} {f : Fm} {x : Dx} {kk now k a1 c1 : Int} {vah n2 : Value} {va la : Option Addr} {vn vc ln lc : Nat} {u10 u13 u14 u15 u16 u17 u18 u19 u20 u21 u22 u23 u24 u25 u26 u27 u28 u29 u30 u31 u32 u33 u34 u35 u36 u37 u38 u39 u40 u41 u42 u43 u44 u45 u46 u47 u48 u49 u50 u51 u52 u53 u54 u55 u56 u57 u58 u59 u60 u61 u62 u63 u64 u65 u66 u67 u68 u69 u70 u71 u72 u73 u74 u75 u76 u77 u78 u79 u80 u81 u82 u83 u84 u85 u86 u87 u88 u89 u90 u91 u92 u93 u94 u95 u96 u97 u98 u99 u100 u101 u102 u103 u104 u105 u106 u107 u108 u109 u110 u111 u112 u113 u114 u115 u116 u117 u118 u119 u120 u121 u122 u123 u124 u125 u126 u127 u128 u129 u130 u131 u132 u133 u134 u135 u136 u137 u138 u139 u140 u141 u142 u143 u144 u145 u146 u147 u148 u149 u150 u151 u152 u153 u154 u155 u156 u157 u158 u159 u160 u161 u162 u163 u164 u165 u166 u167 u168 u169 u170 u171 u172 u173 u174 u175 u176 u177 u178 u179 u180 u181 u182 u183 u184 u185 u186 u187 u188 u189 u190 u191 u192 u193 u194 u195 u196 u197 u198 u199 u200 u201 u202 : Value} {Qn K : Act → World → Prop}
    (hβ : 8 ≤ β) (hv : RV 3 enN w0 (.slice a n cp) L) (hn : n ≤ 5000) (hnl : n = L.length) (HF : FH w0 w wr r r1 b (.slice a n cp) β nb vah x f (.slice va vn vc) (.slice la ln lc)) (HA : At L x (T ++ [f])) (hm : m0 ≤ x.at_)
    (hkk : (kk = 0 ∧ f.kd = 0) ∨ (kk = 1 ∧ f.kd = 1) ∨ (kk = 2 ∧ f.kd = 3)) (hfn : f.now = now) (hy : L[x.at_]? = some (k, a1, c1)) (hk : k = 11 ∨ k = 12) (hne : ¬ kk = 2)
    (hN : NXF b nb kk n2 vah (GF w0 w r b (.slice a n cp) L β nb T f.kd f.lp f.it f.ah vah m0 n (mu b n wr)) Qn) :
    Code.wp Try.prog fbody (Exit.then Qn (Exit.inBlock 0 (Exit.then K (bodyPost Try.prog Try.f15 (FrQ w0 w r b (.slice a n cp) L β T f.kd m0))))) ⟨#[.pointer (some ⟨b, 0, none⟩), .int .i64 kk, n2, .int .i64 now, vah, undef, undef, .pointer (some ⟨nb, 0, none⟩), undef, undef, u10, .slice va vn vc, .slice la ln lc, u13, u14, u15, u16, u17, u18, u19, u20, u21, u22, u23, u24, u25, u26, u27, u28, u29, u30, u31, u32, u33, u34, u35, u36, u37, u38, u39, u40, u41, u42, u43, u44, u45, u46, u47, u48, u49, u50, u51, u52, u53, u54, u55, u56, u57, u58, u59, u60, u61, u62, u63, u64, u65, u66, u67, u68, u69, u70, u71, u72, u73, u74, u75, u76, u77, u78, u79, u80, u81, u82, u83, u84, u85, u86, u87, u88, u89, u90, u91, u92, u93, u94, u95, u96, u97, u98, u99, u100, u101, u102, u103, u104, u105, u106, u107, u108, u109, u110, u111, u112, u113, u114, u115, u116, u117, u118, u119, u120, u121, u122, u123, u124, u125, u126, u127, u128, u129, u130, u131, u132, u133, u134, u135, u136, u137, u138, u139, u140, u141, u142, u143, u144, u145, u146, u147, u148, u149, u150, u151, u152, u153, u154, u155, u156, u157, u158, u159, u160, u161, u162, u163, u164, u165, u166, u167, u168, u169, u170, u171, u172, u173, u174, u175, u176, u177, u178, u179, u180, u181, u182, u183, u184, u185, u186, u187, u188, u189, u190, u191, u192, u193, u194, u195, u196, u197, u198, u199, u200, u201, u202], []⟩ wr := by
  have g5 : ¬ k = 5 := by omega
  have g5b : (k == 5) = false := by rw [beq_eq_false_iff_ne]; exact g5
  have g10 : ¬ k = 10 := by omega
  have g10b : (k == 10) = false := by rw [beq_eq_false_iff_ne]; exact g10
  have gle : ¬ k ≤ 3 := by omega
  have gleb : decide (k ≤ 3) = false := decide_eq_false gle
  have g4 : ¬ k = 4 := by omega
  have g4b : (k == 4) = false := by rw [beq_eq_false_iff_ne]; exact g4
  have g6 : ¬ k = 6 := by omega
  have g6b : (k == 6) = false := by rw [beq_eq_false_iff_ne]; exact g6
  have g7 : ¬ k = 7 := by omega
  have g7b : (k == 7) = false := by rw [beq_eq_false_iff_ne]; exact g7
  have gge : 11 ≤ k := by omega
  have ggeb : decide (11 ≤ k) = true := decide_eq_true gge
  have e2 : ¬ kk = 2 := hne
  have e2b : (kk == 2) = false := by rw [beq_eq_false_iff_ne]; exact hne
  have hk1 : (1 : Int) ≤ k := by omega
  have hk2 : (k : Int) ≤ 12 := by omega
  have hcan : canB k a1 f = false := by unfold canB; rcases hk with rfl | rfl <;> simp <;> omega
  obtain ⟨_, _, _, _, _, c5, _, _⟩ := HF.db.cells
  rw [HA.ov] at c5
  have CN0 := next_ok w0 wr r1 b a n cp x (k, a1, c1) L HF.db hv hn hy ⟨hk1, hk2⟩
  unfold ndMark at CN0
  dsimp only at CN0
  have CN := Lib.hid CN0
  have HFF := Lib.hid HF
  have HAA := Lib.hid HA
  have HY := Lib.hid hy
  have bw : b < wr.heap.size := lt_of HF.db.o
  clear CN0 HF HA hv hy
  conv => arg 2; whnf
  go_wp2_with fail
  refine CN.out.mono ?_
  rintro e w6 ⟨rfl, r6, hD6, hk6⟩
  have F6 := HFF.out.keep hβ hD6 hk6 (fun c hc => by omega)
  have d5 : w6.cell? ⟨b, 5, none⟩ = some (.bool false) := by
    have := hD6.cells.2.2.2.2.2.1
    rw [this]
    show some (Value.bool x.ov) = _
    rw [HAA.out.ov]
  have p0 : w6.cell? ⟨nb, 0, none⟩ = some (.int .i64 f.lp) := cel F6.bo 0
  have p1 : w6.cell? ⟨nb, 1, none⟩ = some (.int .i64 f.it) := cel F6.bo 1
  have p2 : w6.cell? ⟨nb, 2, none⟩ = some (.int .i64 f.sg) := cel F6.bo 2
  have b6 : b < w6.heap.size := lt_of hD6.o
  have nb6 : nb < w6.heap.size := lt_of F6.bo
  obtain ⟨W7, hW7⟩ : ∃ W7, w6.alloc (.cells #[.int .i64 k, .int .i64 a1, .int .i64 c1] 43) = W7 := ⟨_, rfl⟩
  have F7 := F6.below hβ (β + 4) (show Below w6.heap.size w6 W7 by rw [← hW7]; go_grown)
  have HW7 := Lib.hid hW7
  have H7 := Lib.hid F7
  clear CN hD6 hk6 F6 hW7 F7 c5
  go_wp2_with fail
  rw [HW7.out]
  refine (wrong_of w0 W7 _ b _ _ H7.out.db).mono ?_
  rintro e w8 ⟨rfl, r8, hD8, hk8⟩
  have F8 := H7.out.keep hβ hD8 hk8 (fun c hc => by omega)
  have HG : ∀ now, GF w0 w r b (.slice a n cp) L β nb T f.kd f.lp f.it f.ah vah m0 n (mu b n wr) now (.slice va vn vc) (.slice la ln lc) w8 := fun now => GF.over HFF.out.db HAA.out hnl F8 ⟨rfl, rfl, rfl, rfl⟩ rfl (HAA.out.form HY.out hk1 hk2 hcan rfl)
  clear hD8 hk8 F8 H7 HW7 p0 p1 p2 d5
  go_wp2_with fail
  exact hN _ _ _ _ _ _ _ _ _ _ _ _ _ _ _ _ _ _ _ _ _ _ _ _ _ _ _ _ _ _ _ _ _ _ _ _ _ _ _ _ _ _ _ _ _ _ _ _ _ _ _ _ _ _ _ _ _ _ _ _ _ _ _ _ _ _ _ _ _ _ _ _ _ _ _ _ _ _ _ _ _ _ _ _ _ _ _ _ _ _ _ _ _ _ _ _ _ _ _ _ _ _ _ _ _ _ _ _ _ _ _ _ _ _ _ _ _ _ _ _ _ _ _ _ _ _ _ _ _ _ _ _ _ _ _ _ _ _ _ _ _ _ _ _ _ _ _ _ _ _ _ _ _ _ _ _ _ _ _ _ _ _ _ _ _ _ _ _ _ _ _ _ _ _ _ _ _ _ _ _ _ _ _ _ _ _ _ _ _ _ _ _ _ _ _ (HG _)
set_option maxRecDepth 20000 in
set_option maxHeartbeats 4000000 in
theorem fr_w11a {w0 w wr : World} {r r1 : Ro} {b nb n cp β m0 : Nat} {a : Option Addr} {L : List Mk} {T : List Fm} {f : Fm} {x : Dx} {kk now k a1 c1 : Int} {vah n2 : Value} {va la : Option Addr} {vn vc ln lc : Nat} {u10 u13 u14 u15 u16 u17 u18 u19 u20 u21 u22 u23 u24 u25 u26 u27 u28 u29 u30 u31 u32 u33 u34 u35 u36 u37 u38 u39 u40 u41 u42 u43 u44 u45 u46 u47 u48 u49 u50 u51 u52 u53 u54 u55 u56 u57 u58 u59 u60 u61 u62 u63 u64 u65 u66 u67 u68 u69 u70 u71 u72 u73 u74 u75 u76 u77 u78 u79 u80 u81 u82 u83 u84 u85 u86 u87 u88 u89 u90 u91 u92 u93 u94 u95 u96 u97 u98 u99 u100 u101 u102 u103 u104 u105 u106 u107 u108 u109 u110 u111 u112 u113 u114 u115 u116 u117 u118 u119 u120 u121 u122 u123 u124 u125 u126 u127 u128 u129 u130 u131 u132 u133 u134 u135 u136 u137 u138 u139 u140 u141 u142 u143 u144 u145 u146 u147 u148 u149 u150 u151 u152 u153 u154 u155 u156 u157 u158 u159 u160 u161 u162 u163 u164 u165 u166 u167 u168 u169 u170 u171 u172 u173 u174 u175 u176 u177 u178 u179 u180 u181 u182 u183 u184 u185 u186 u187 u188 u189 u190 u191 u192 u193 u194 u195 u196 u197 u198 u199 u200 u201 u202 : Value} {Qn K : Act → World → Prop}
    (hβ : 8 ≤ β) (hv : RV 3 enN w0 (.slice a n cp) L) (hn : n ≤ 5000) (hnl : n = L.length) (HF : FH w0 w wr r r1 b (.slice a n cp) β nb vah x f (.slice va vn vc) (.slice la ln lc)) (HA : At L x (T ++ [f])) (hm : m0 ≤ x.at_)
    (hkk : (kk = 0 ∧ f.kd = 0) ∨ (kk = 1 ∧ f.kd = 1) ∨ (kk = 2 ∧ f.kd = 3)) (hfn : f.now = now) (hy : L[x.at_]? = some (k, a1, c1)) (hk : k = 11 ∨ k = 12) (h3 : f.kd = 3) (hne : ¬ f.sg < a1)
    (hN : NXF b nb 2 n2 vah (GF w0 w r b (.slice a n cp) L β nb T f.kd f.lp f.it f.ah vah m0 n (mu b n wr)) Qn) :
    Code.wp Try.prog fbody (Exit.then Qn (Exit.inBlock 0 (Exit.then K (bodyPost Try.prog Try.f15 (FrQ w0 w r b (.slice a n cp) L β T f.kd m0))))) ⟨#[.pointer (some ⟨b, 0, none⟩), .int .i64 2, n2, .int .i64 now, vah, undef, undef, .pointer (some ⟨nb, 0, none⟩), undef, undef, u10, .slice va vn vc, .slice la ln lc, u13, u14, u15, u16, u17, u18, u19, u20, u21, u22, u23, u24, u25, u26, u27, u28, u29, u30, u31, u32, u33, u34, u35, u36, u37, u38, u39, u40, u41, u42, u43, u44, u45, u46, u47, u48, u49, u50, u51, u52, u53, u54, u55, u56, u57, u58, u59, u60, u61, u62, u63, u64, u65, u66, u67, u68, u69, u70, u71, u72, u73, u74, u75, u76, u77, u78, u79, u80, u81, u82, u83, u84, u85, u86, u87, u88, u89, u90, u91, u92, u93, u94, u95, u96, u97, u98, u99, u100, u101, u102, u103, u104, u105, u106, u107, u108, u109, u110, u111, u112, u113, u114, u115, u116, u117, u118, u119, u120, u121, u122, u123, u124, u125, u126, u127, u128, u129, u130, u131, u132, u133, u134, u135, u136, u137, u138, u139, u140, u141, u142, u143, u144, u145, u146, u147, u148, u149, u150, u151, u152, u153, u154, u155, u156, u157, u158, u159, u160, u161, u162, u163, u164, u165, u166, u167, u168, u169, u170, u171, u172, u173, u174, u175, u176, u177, u178, u179, u180, u181, u182, u183, u184, u185, u186, u187, u188, u189, u190, u191, u192, u193, u194, u195, u196, u197, u198, u199, u200, u201, u202], []⟩ wr := by
  have g5 : ¬ k = 5 := by omega
  have g5b : (k == 5) = false := by rw [beq_eq_false_iff_ne]; exact g5
  have g10 : ¬ k = 10 := by omega
  have g10b : (k == 10) = false := by rw [beq_eq_false_iff_ne]; exact g10
  have gle : ¬ k ≤ 3 := by omega
  have gleb : decide (k ≤ 3) = false := decide_eq_false gle
  have g4 : ¬ k = 4 := by omega
  have g4b : (k == 4) = false := by rw [beq_eq_false_iff_ne]; exact g4
  have g6 : ¬ k = 6 := by omega
  have g6b : (k == 6) = false := by rw [beq_eq_false_iff_ne]; exact g6
  have g7 : ¬ k = 7 := by omega
  have g7b : (k == 7) = false := by rw [beq_eq_false_iff_ne]; exact g7
  have gge : 11 ≤ k := by omega
  have ggeb : decide (11 ≤ k) = true := decide_eq_true gge
  have e2b : decide (f.sg < a1) = false := decide_eq_false hne
  have hk1 : (1 : Int) ≤ k := by omega
  have hk2 : (k : Int) ≤ 12 := by omega
  have hcan : canB k a1 f = false := by unfold canB; rcases hk with rfl | rfl <;> simp <;> omega
  obtain ⟨_, _, _, _, _, c5, _, _⟩ := HF.db.cells
  rw [HA.ov] at c5
  have CN0 := next_ok w0 wr r1 b a n cp x (k, a1, c1) L HF.db hv hn hy ⟨hk1, hk2⟩
  unfold ndMark at CN0
  dsimp only at CN0
  have CN := Lib.hid CN0
  have HFF := Lib.hid HF
  have HAA := Lib.hid HA
  have HY := Lib.hid hy
  have bw : b < wr.heap.size := lt_of HF.db.o
  clear CN0 HF HA hv hy
  conv => arg 2; whnf
  go_wp2_with fail
  refine CN.out.mono ?_
  rintro e w6 ⟨rfl, r6, hD6, hk6⟩
  have F6 := HFF.out.keep hβ hD6 hk6 (fun c hc => by omega)
  have d5 : w6.cell? ⟨b, 5, none⟩ = some (.bool false) := by
    have := hD6.cells.2.2.2.2.2.1
    rw [this]
    show some (Value.bool x.ov) = _
    rw [HAA.out.ov]
  have p0 : w6.cell? ⟨nb, 0, none⟩ = some (.int .i64 f.lp) := cel F6.bo 0
  have p1 : w6.cell? ⟨nb, 1, none⟩ = some (.int .i64 f.it) := cel F6.bo 1
  have p2 : w6.cell? ⟨nb, 2, none⟩ = some (.int .i64 f.sg) := cel F6.bo 2
  have b6 : b < w6.heap.size := lt_of hD6.o
  have nb6 : nb < w6.heap.size := lt_of F6.bo
  obtain ⟨W7, hW7⟩ : ∃ W7, w6.alloc (.cells #[.int .i64 k, .int .i64 a1, .int .i64 c1] 43) = W7 := ⟨_, rfl⟩
  have F7 := F6.below hβ (β + 4) (show Below w6.heap.size w6 W7 by rw [← hW7]; go_grown)
  have HW7 := Lib.hid hW7
  have H7 := Lib.hid F7
  clear CN hD6 hk6 F6 hW7 F7 c5
  go_wp2_with fail
  rw [HW7.out]
  refine (wrong_of w0 W7 _ b _ _ H7.out.db).mono ?_
  rintro e w8 ⟨rfl, r8, hD8, hk8⟩
  have F8 := H7.out.keep hβ hD8 hk8 (fun c hc => by omega)
  have HG : ∀ now, GF w0 w r b (.slice a n cp) L β nb T f.kd f.lp f.it f.ah vah m0 n (mu b n wr) now (.slice va vn vc) (.slice la ln lc) w8 := fun now => GF.over HFF.out.db HAA.out hnl F8 ⟨rfl, rfl, rfl, rfl⟩ rfl (HAA.out.form HY.out hk1 hk2 hcan rfl)
  clear hD8 hk8 F8 H7 HW7 p0 p1 p2 d5
  go_wp2_with fail
  exact hN _ _ _ _ _ _ _ _ _ _ _ _ _ _ _ _ _ _ _ _ _ _ _ _ _ _ _ _ _ _ _ _ _ _ _ _ _ _ _ _ _ _ _ _ _ _ _ _ _ _ _ _ _ _ _ _ _ _ _ _ _ _ _ _ _ _ _ _ _ _ _ _ _ _ _ _ _ _ _ _ _ _ _ _ _ _ _ _ _ _ _ _ _ _ _ _ _ _ _ _ _ _ _ _ _ _ _ _ _ _ _ _ _ _ _ _ _ _ _ _ _ _ _ _ _ _ _ _ _ _ _ _ _ _ _ _ _ _ _ _ _ _ _ _ _ _ _ _ _ _ _ _ _ _ _ _ _ _ _ _ _ _ _ _ _ _ _ _ _ _ _ _ _ _ _ _ _ _ _ _ _ _ _ _ _ _ _ _ _ _ _ _ _ _ _ (HG _)
set_option maxRecDepth 20000 in
set_option maxHeartbeats 4000000 in
theorem fr_end {w0 w wr : World} {r r1 : Ro} {b nb n cp β m0 : Nat} {a : Option Addr} {L : List Mk} {T : List Fm} {f : Fm} {x : Dx} {kk now k a1 c1 : Int} {vah n2 : Value} {va la : Option Addr} {vn vc ln lc : Nat} {u10 u13 u14 u15 u16 u17 u18 u19 u20 u21 u22 u23 u24 u25 u26 u27 u28 u29 u30 u31 u32 u33 u34 u35 u36 u37 u38 u39 u40 u41 u42 u43 u44 u45 u46 u47 u48 u49 u50 u51 u52 u53 u54 u55 u56 u57 u58 u59 u60 u61 u62 u63 u64 u65 u66 u67 u68 u69 u70 u71 u72 u73 u74 u75 u76 u77 u78 u79 u80 u81 u82 u83 u84 u85 u86 u87 u88 u89 u90 u91 u92 u93 u94 u95 u96 u97 u98 u99 u100 u101 u102 u103 u104 u105 u106 u107 u108 u109 u110 u111 u112 u113 u114 u115 u116 u117 u118 u119 u120 u121 u122 u123 u124 u125 u126 u127 u128 u129 u130 u131 u132 u133 u134 u135 u136 u137 u138 u139 u140 u141 u142 u143 u144 u145 u146 u147 u148 u149 u150 u151 u152 u153 u154 u155 u156 u157 u158 u159 u160 u161 u162 u163 u164 u165 u166 u167 u168 u169 u170 u171 u172 u173 u174 u175 u176 u177 u178 u179 u180 u181 u182 u183 u184 u185 u186 u187 u188 u189 u190 u191 u192 u193 u194 u195 u196 u197 u198 u199 u200 u201 u202 : Value} {Qn K : Act → World → Prop}
    (hβ : 8 ≤ β) (hv : RV 3 enN w0 (.slice a n cp) L) (hn : n ≤ 5000) (hnl : n = L.length) (HF : FH w0 w wr r r1 b (.slice a n cp) β nb vah x f (.slice va vn vc) (.slice la ln lc)) (HA : At L x (T ++ [f])) (hm : m0 ≤ x.at_)
    (hkk : (kk = 0 ∧ f.kd = 0) ∨ (kk = 1 ∧ f.kd = 1) ∨ (kk = 2 ∧ f.kd = 3)) (hfn : f.now = now) (he : x.at_ = n) 
    (hN : NXF b nb kk n2 vah (GF w0 w r b (.slice a n cp) L β nb T f.kd f.lp f.it f.ah vah m0 n (mu b n wr)) Qn) :
    Code.wp Try.prog fbody (Exit.then Qn (Exit.inBlock 0 (Exit.then K (bodyPost Try.prog Try.f15 (FrQ w0 w r b (.slice a n cp) L β T f.kd m0))))) ⟨#[.pointer (some ⟨b, 0, none⟩), .int .i64 kk, n2, .int .i64 now, vah, undef, undef, .pointer (some ⟨nb, 0, none⟩), undef, undef, u10, .slice va vn vc, .slice la ln lc, u13, u14, u15, u16, u17, u18, u19, u20, u21, u22, u23, u24, u25, u26, u27, u28, u29, u30, u31, u32, u33, u34, u35, u36, u37, u38, u39, u40, u41, u42, u43, u44, u45, u46, u47, u48, u49, u50, u51, u52, u53, u54, u55, u56, u57, u58, u59, u60, u61, u62, u63, u64, u65, u66, u67, u68, u69, u70, u71, u72, u73, u74, u75, u76, u77, u78, u79, u80, u81, u82, u83, u84, u85, u86, u87, u88, u89, u90, u91, u92, u93, u94, u95, u96, u97, u98, u99, u100, u101, u102, u103, u104, u105, u106, u107, u108, u109, u110, u111, u112, u113, u114, u115, u116, u117, u118, u119, u120, u121, u122, u123, u124, u125, u126, u127, u128, u129, u130, u131, u132, u133, u134, u135, u136, u137, u138, u139, u140, u141, u142, u143, u144, u145, u146, u147, u148, u149, u150, u151, u152, u153, u154, u155, u156, u157, u158, u159, u160, u161, u162, u163, u164, u165, u166, u167, u168, u169, u170, u171, u172, u173, u174, u175, u176, u177, u178, u179, u180, u181, u182, u183, u184, u185, u186, u187, u188, u189, u190, u191, u192, u193, u194, u195, u196, u197, u198, u199, u200, u201, u202], []⟩ wr := by
  obtain ⟨_, _, _, _, _, c5, _, _⟩ := HF.db.cells
  rw [HA.ov] at c5
  have CN0 := next_end w0 wr r1 b a n cp x HF.db hn he
  unfold ndMark at CN0
  dsimp only at CN0
  have CN := Lib.hid CN0
  have HFF := Lib.hid HF
  have HAA := Lib.hid HA
  have HD : Done L { x with ov := true } := HA.fin (by rw [he, hnl]) rfl rfl rfl rfl
  have HDD := Lib.hid HD
  have bw : b < wr.heap.size := lt_of HF.db.o
  clear CN0 HF HA hv HD
  conv => arg 2; whnf
  go_wp2_with fail
  refine CN.out.mono ?_
  rintro e w6 ⟨rfl, r6, hD6, hk6⟩
  have F6 := HFF.out.keep hβ hD6 hk6 (fun c hc => by omega)
  have d5 : w6.cell? ⟨b, 5, none⟩ = some (.bool true) := by
    have := hD6.cells.2.2.2.2.2.1
    rw [this]
  have b6 : b < w6.heap.size := lt_of hD6.o
  obtain ⟨W7, hW7⟩ : ∃ W7, w6.alloc (.cells #[.int .i64 0, .int .i64 0, .int .i64 0] 43) = W7 := ⟨_, rfl⟩
  have F7 := F6.below hβ (β + 4) (show Below w6.heap.size w6 W7 by rw [← hW7]; go_grown)
  have HG : ∀ now, GF w0 w r b (.slice a n cp) L β nb T f.kd f.lp f.it f.ah vah m0 n (mu b n wr) now (.slice va vn vc) (.slice la ln lc) W7 := fun now => GF.over HFF.out.db HAA.out hnl F7 ⟨rfl, rfl, rfl, rfl⟩ rfl HDD.out
  have HW7 := Lib.hid hW7
  clear CN hD6 hk6 F6 hW7 F7 c5
  go_wp2_with fail
  rw [HW7.out]
  exact hN _ _ _ _ _ _ _ _ _ _ _ _ _ _ _ _ _ _ _ _ _ _ _ _ _ _ _ _ _ _ _ _ _ _ _ _ _ _ _ _ _ _ _ _ _ _ _ _ _ _ _ _ _ _ _ _ _ _ _ _ _ _ _ _ _ _ _ _ _ _ _ _ _ _ _ _ _ _ _ _ _ _ _ _ _ _ _ _ _ _ _ _ _ _ _ _ _ _ _ _ _ _ _ _ _ _ _ _ _ _ _ _ _ _ _ _ _ _ _ _ _ _ _ _ _ _ _ _ _ _ _ _ _ _ _ _ _ _ _ _ _ _ _ _ _ _ _ _ _ _ _ _ _ _ _ _ _ _ _ _ _ _ _ _ _ _ _ _ _ _ _ _ _ _ _ _ _ _ _ _ _ _ _ _ _ _ _ _ _ _ _ _ _ _ _ (HG _)
set_option maxRecDepth 20000 in
set_option maxHeartbeats 4000000 in
theorem fr_lo {w0 w wr : World} {r r1 : Ro} {b nb n cp β m0 : Nat} {a : Option Addr} {L : List Mk} {T : List Fm} {f : Fm} {x : Dx} {kk now k a1 c1 : Int} {vah n2 : Value} {va la : Option Addr} {vn vc ln lc : Nat} {u10 u13 u14 u15 u16 u17 u18 u19 u20 u21 u22 u23 u24 u25 u26 u27 u28 u29 u30 u31 u32 u33 u34 u35 u36 u37 u38 u39 u40 u41 u42 u43 u44 u45 u46 u47 u48 u49 u50 u51 u52 u53 u54 u55 u56 u57 u58 u59 u60 u61 u62 u63 u64 u65 u66 u67 u68 u69 u70 u71 u72 u73 u74 u75 u76 u77 u78 u79 u80 u81 u82 u83 u84 u85 u86 u87 u88 u89 u90 u91 u92 u93 u94 u95 u96 u97 u98 u99 u100 u101 u102 u103 u104 u105 u106 u107 u108 u109 u110 u111 u112 u113 u114 u115 u116 u117 u118 u119 u120 u121 u122 u123 u124 u125 u126 u127 u128 u129 u130 u131 u132 u133 u134 u135 u136 u137 u138 u139 u140 u141 u142 u143 u144 u145 u146 u147 u148 u149 u150 u151 u152 u153 u154 u155 u156 u157 u158 u159 u160 u161 u162 u163 u164 u165 u166 u167 u168 u169 u170 u171 u172 u173 u174 u175 u176 u177 u178 u179 u180 u181 u182 u183 u184 u185 u186 u187 u188 u189 u190 u191 u192 u193 u194 u195 u196 u197 u198 u199 u200 u201 u202 : Value} {Qn K : Act → World → Prop}
    (hβ : 8 ≤ β) (hv : RV 3 enN w0 (.slice a n cp) L) (hn : n ≤ 5000) (hnl : n = L.length) (HF : FH w0 w wr r r1 b (.slice a n cp) β nb vah x f (.slice va vn vc) (.slice la ln lc)) (HA : At L x (T ++ [f])) (hm : m0 ≤ x.at_)
    (hkk : (kk = 0 ∧ f.kd = 0) ∨ (kk = 1 ∧ f.kd = 1) ∨ (kk = 2 ∧ f.kd = 3)) (hfn : f.now = now) (hy : L[x.at_]? = some (k, a1, c1)) (hk : k < 1) 
    (hN : NXF b nb kk n2 vah (GF w0 w r b (.slice a n cp) L β nb T f.kd f.lp f.it f.ah vah m0 n (mu b n wr)) Qn) :
    Code.wp Try.prog fbody (Exit.then Qn (Exit.inBlock 0 (Exit.then K (bodyPost Try.prog Try.f15 (FrQ w0 w r b (.slice a n cp) L β T f.kd m0))))) ⟨#[.pointer (some ⟨b, 0, none⟩), .int .i64 kk, n2, .int .i64 now, vah, undef, undef, .pointer (some ⟨nb, 0, none⟩), undef, undef, u10, .slice va vn vc, .slice la ln lc, u13, u14, u15, u16, u17, u18, u19, u20, u21, u22, u23, u24, u25, u26, u27, u28, u29, u30, u31, u32, u33, u34, u35, u36, u37, u38, u39, u40, u41, u42, u43, u44, u45, u46, u47, u48, u49, u50, u51, u52, u53, u54, u55, u56, u57, u58, u59, u60, u61, u62, u63, u64, u65, u66, u67, u68, u69, u70, u71, u72, u73, u74, u75, u76, u77, u78, u79, u80, u81, u82, u83, u84, u85, u86, u87, u88, u89, u90, u91, u92, u93, u94, u95, u96, u97, u98, u99, u100, u101, u102, u103, u104, u105, u106, u107, u108, u109, u110, u111, u112, u113, u114, u115, u116, u117, u118, u119, u120, u121, u122, u123, u124, u125, u126, u127, u128, u129, u130, u131, u132, u133, u134, u135, u136, u137, u138, u139, u140, u141, u142, u143, u144, u145, u146, u147, u148, u149, u150, u151, u152, u153, u154, u155, u156, u157, u158, u159, u160, u161, u162, u163, u164, u165, u166, u167, u168, u169, u170, u171, u172, u173, u174, u175, u176, u177, u178, u179, u180, u181, u182, u183, u184, u185, u186, u187, u188, u189, u190, u191, u192, u193, u194, u195, u196, u197, u198, u199, u200, u201, u202], []⟩ wr := by
  obtain ⟨_, _, _, _, _, c5, _, _⟩ := HF.db.cells
  rw [HA.ov] at c5
  have CN0 := next_lo w0 wr r1 b a n cp x (k, a1, c1) L HF.db hv hn hy hk
  unfold ndMark at CN0
  dsimp only at CN0
  have CN := Lib.hid CN0
  have HFF := Lib.hid HF
  have HAA := Lib.hid HA
  have HD : Done L { x with at_ := x.at_ + 1, er := 5, ov := true } := HA.kind hy (by omega) rfl
  have HDD := Lib.hid HD
  have bw : b < wr.heap.size := lt_of HF.db.o
  clear CN0 HF HA hv HD hy
  conv => arg 2; whnf
  go_wp2_with fail
  refine CN.out.mono ?_
  rintro e w6 ⟨rfl, r6, hD6, hk6⟩
  have F6 := HFF.out.keep hβ hD6 hk6 (fun c hc => by omega)
  have d5 : w6.cell? ⟨b, 5, none⟩ = some (.bool true) := by
    have := hD6.cells.2.2.2.2.2.1
    rw [this]
  have b6 : b < w6.heap.size := lt_of hD6.o
  obtain ⟨W7, hW7⟩ : ∃ W7, w6.alloc (.cells #[.int .i64 k, .int .i64 a1, .int .i64 c1] 43) = W7 := ⟨_, rfl⟩
  have F7 := F6.below hβ (β + 4) (show Below w6.heap.size w6 W7 by rw [← hW7]; go_grown)
  have HG : ∀ now, GF w0 w r b (.slice a n cp) L β nb T f.kd f.lp f.it f.ah vah m0 n (mu b n wr) now (.slice va vn vc) (.slice la ln lc) W7 := fun now => GF.over HFF.out.db HAA.out hnl F7 ⟨rfl, rfl, rfl, rfl⟩ rfl HDD.out
  have HW7 := Lib.hid hW7
  clear CN hD6 hk6 F6 hW7 F7 c5
  go_wp2_with fail
  rw [HW7.out]
  exact hN _ _ _ _ _ _ _ _ _ _ _ _ _ _ _ _ _ _ _ _ _ _ _ _ _ _ _ _ _ _ _ _ _ _ _ _ _ _ _ _ _ _ _ _ _ _ _ _ _ _ _ _ _ _ _ _ _ _ _ _ _ _ _ _ _ _ _ _ _ _ _ _ _ _ _ _ _ _ _ _ _ _ _ _ _ _ _ _ _ _ _ _ _ _ _ _ _ _ _ _ _ _ _ _ _ _ _ _ _ _ _ _ _ _ _ _ _ _ _ _ _ _ _ _ _ _ _ _ _ _ _ _ _ _ _ _ _ _ _ _ _ _ _ _ _ _ _ _ _ _ _ _ _ _ _ _ _ _ _ _ _ _ _ _ _ _ _ _ _ _ _ _ _ _ _ _ _ _ _ _ _ _ _ _ _ _ _ _ _ _ _ _ _ _ _ (HG _)
set_option maxRecDepth 20000 in
set_option maxHeartbeats 4000000 in
theorem fr_hi {w0 w wr : World} {r r1 : Ro} {b nb n cp β m0 : Nat} {a : Option Addr} {L : List Mk} {T : List Fm} {f : Fm} {x : Dx} {kk now k a1 c1 : Int} {vah n2 : Value} {va la : Option Addr} {vn vc ln lc : Nat} {u10 u13 u14 u15 u16 u17 u18 u19 u20 u21 u22 u23 u24 u25 u26 u27 u28 u29 u30 u31 u32 u33 u34 u35 u36 u37 u38 u39 u40 u41 u42 u43 u44 u45 u46 u47 u48 u49 u50 u51 u52 u53 u54 u55 u56 u57 u58 u59 u60 u61 u62 u63 u64 u65 u66 u67 u68 u69 u70 u71 u72 u73 u74 u75 u76 u77 u78 u79 u80 u81 u82 u83 u84 u85 u86 u87 u88 u89 u90 u91 u92 u93 u94 u95 u96 u97 u98 u99 u100 u101 u102 u103 u104 u105 u106 u107 u108 u109 u110 u111 u112 u113 u114 u115 u116 u117 u118 u119 u120 u121 u122 u123 u124 u125 u126 u127 u128 u129 u130 u131 u132 u133 u134 u135 u136 u137 u138 u139 u140 u141 u142 u143 u144 u145 u146 u147 u148 u149 u150 u151 u152 u153 u154 u155 u156 u157 u158 u159 u160 u161 u162 u163 u164 u165 u166 u167 u168 u169 u170 u171 u172 u173 u174 u175 u176 u177 u178 u179 u180 u181 u182 u183 u184 u185 u186 u187 u188 u189 u190 u191 u192 u193 u194 u195 u196 u197 u198 u199 u200 u201 u202 : Value} {Qn K : Act → World → Prop}
    (hβ : 8 ≤ β) (hv : RV 3 enN w0 (.slice a n cp) L) (hn : n ≤ 5000) (hnl : n = L.length) (HF : FH w0 w wr r r1 b (.slice a n cp) β nb vah x f (.slice va vn vc) (.slice la ln lc)) (HA : At L x (T ++ [f])) (hm : m0 ≤ x.at_)
    (hkk : (kk = 0 ∧ f.kd = 0) ∨ (kk = 1 ∧ f.kd = 1) ∨ (kk = 2 ∧ f.kd = 3)) (hfn : f.now = now) (hy : L[x.at_]? = some (k, a1, c1)) (hk : 12 < k) 
    (hN : NXF b nb kk n2 vah (GF w0 w r b (.slice a n cp) L β nb T f.kd f.lp f.it f.ah vah m0 n (mu b n wr)) Qn) :
    Code.wp Try.prog fbody (Exit.then Qn (Exit.inBlock 0 (Exit.then K (bodyPost Try.prog Try.f15 (FrQ w0 w r b (.slice a n cp) L β T f.kd m0))))) ⟨#[.pointer (some ⟨b, 0, none⟩), .int .i64 kk, n2, .int .i64 now, vah, undef, undef, .pointer (some ⟨nb, 0, none⟩), undef, undef, u10, .slice va vn vc, .slice la ln lc, u13, u14, u15, u16, u17, u18, u19, u20, u21, u22, u23, u24, u25, u26, u27, u28, u29, u30, u31, u32, u33, u34, u35, u36, u37, u38, u39, u40, u41, u42, u43, u44, u45, u46, u47, u48, u49, u50, u51, u52, u53, u54, u55, u56, u57, u58, u59, u60, u61, u62, u63, u64, u65, u66, u67, u68, u69, u70, u71, u72, u73, u74, u75, u76, u77, u78, u79, u80, u81, u82, u83, u84, u85, u86, u87, u88, u89, u90, u91, u92, u93, u94, u95, u96, u97, u98, u99, u100, u101, u102, u103, u104, u105, u106, u107, u108, u109, u110, u111, u112, u113, u114, u115, u116, u117, u118, u119, u120, u121, u122, u123, u124, u125, u126, u127, u128, u129, u130, u131, u132, u133, u134, u135, u136, u137, u138, u139, u140, u141, u142, u143, u144, u145, u146, u147, u148, u149, u150, u151, u152, u153, u154, u155, u156, u157, u158, u159, u160, u161, u162, u163, u164, u165, u166, u167, u168, u169, u170, u171, u172, u173, u174, u175, u176, u177, u178, u179, u180, u181, u182, u183, u184, u185, u186, u187, u188, u189, u190, u191, u192, u193, u194, u195, u196, u197, u198, u199, u200, u201, u202], []⟩ wr := by
  obtain ⟨_, _, _, _, _, c5, _, _⟩ := HF.db.cells
  rw [HA.ov] at c5
  have CN0 := next_hi w0 wr r1 b a n cp x (k, a1, c1) L HF.db hv hn hy hk
  unfold ndMark at CN0
  dsimp only at CN0
  have CN := Lib.hid CN0
  have HFF := Lib.hid HF
  have HAA := Lib.hid HA
  have HD : Done L { x with at_ := x.at_ + 1, er := 5, ov := true } := HA.kind hy (by omega) rfl
  have HDD := Lib.hid HD
  have bw : b < wr.heap.size := lt_of HF.db.o
  clear CN0 HF HA hv HD hy
  conv => arg 2; whnf
  go_wp2_with fail
  refine CN.out.mono ?_
  rintro e w6 ⟨rfl, r6, hD6, hk6⟩
  have F6 := HFF.out.keep hβ hD6 hk6 (fun c hc => by omega)
  have d5 : w6.cell? ⟨b, 5, none⟩ = some (.bool true) := by
    have := hD6.cells.2.2.2.2.2.1
    rw [this]
  have b6 : b < w6.heap.size := lt_of hD6.o
  obtain ⟨W7, hW7⟩ : ∃ W7, w6.alloc (.cells #[.int .i64 k, .int .i64 a1, .int .i64 c1] 43) = W7 := ⟨_, rfl⟩
  have F7 := F6.below hβ (β + 4) (show Below w6.heap.size w6 W7 by rw [← hW7]; go_grown)
  have HG : ∀ now, GF w0 w r b (.slice a n cp) L β nb T f.kd f.lp f.it f.ah vah m0 n (mu b n wr) now (.slice va vn vc) (.slice la ln lc) W7 := fun now => GF.over HFF.out.db HAA.out hnl F7 ⟨rfl, rfl, rfl, rfl⟩ rfl HDD.out
  have HW7 := Lib.hid hW7
  clear CN hD6 hk6 F6 hW7 F7 c5
  go_wp2_with fail
  rw [HW7.out]
  exact hN _ _ _ _ _ _ _ _ _ _ _ _ _ _ _ _ _ _ _ _ _ _ _ _ _ _ _ _ _ _ _ _ _ _ _ _ _ _ _ _ _ _ _ _ _ _ _ _ _ _ _ _ _ _ _ _ _ _ _ _ _ _ _ _ _ _ _ _ _ _ _ _ _ _ _ _ _ _ _ _ _ _ _ _ _ _ _ _ _ _ _ _ _ _ _ _ _ _ _ _ _ _ _ _ _ _ _ _ _ _ _ _ _ _ _ _ _ _ _ _ _ _ _ _ _ _ _ _ _ _ _ _ _ _ _ _ _ _ _ _ _ _ _ _ _ _ _ _ _ _ _ _ _ _ _ _ _ _ _ _ _ _ _ _ _ _ _ _ _ _ _ _ _ _ _ _ _ _ _ _ _ _ _ _ _ _ _ _ _ _ _ _ _ _ _ (HG _)
end Go.Proofs.Ytgbaaemocnjaoaa.dg
