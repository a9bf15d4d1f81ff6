/- The document's builder: a loop, a child, a stage (layer 30). -/
import Derived.Test.YtgbaaemocnjaoaaDgG
import Derived.Test.YtgbaaemocnjaoaaSnJ
import Derived.Test.YtgbaaemocnjaoaaDgE
namespace Go.Proofs.Ytgbaaemocnjaoaa.dg
open Go.ChangeShapes Go.WideShapes Go.ChangeAt Go.RowKit
open Go.Proofs.Ytgbaaemocnjaoaa.ro Go.Proofs.Ytgbaaemocnjaoaa.sn
attribute [local go_sem ↓] Go.wp_at_zero Go.wp_at_succ
set_option linter.unusedVariables false
set_option linter.unusedSimpArgs false
theorem RV.form3' {α : Type} {k : Nat} {en : α → List Value} {w : World} {v : Value} {xs : List α} (h : RV k en w v xs) : ∃ a n c, v = .slice a n c := by
  obtain ⟨a, c, rfl, _⟩ := h
  exact ⟨_, _, _, rfl⟩
/-- frames that have fewer marks ahead do so. -/
def FrameC (L : List Mk) (M : Nat) : Prop := ∀ {w0 w : World} {r : Ro} {b β n cp : Nat} {a : Option Addr} {T : List Fm} {f : Fm} {x : Dx} {kk now : Int} {vah : Value}, 8 ≤ β → RV 3 enN w0 (.slice a n cp) L → n ≤ 5000 → n = L.length → DB w0 w r b (.slice a n cp) x → At L x (T ++ [f]) → L.length - x.at_ < M → ((kk = 0 ∧ f.kd = 0) ∨ (kk = 1 ∧ f.kd = 1) ∨ (kk = 2 ∧ f.kd = 3)) → f.now = now → f.um = [] → f.pa = [] → RD 2 enP w r 6 vah f.ah → nodeOf f = (f.lp, f.it, f.sg) →
  Calls Try.prog 15 #[.pointer (some ⟨b, 0, none⟩), .int .i64 kk, .agg #[.int .i64 f.lp, .int .i64 f.it, .int .i64 f.sg], .int .i64 now, vah] w (FrQ w0 w r b (.slice a n cp) L β T f.kd x.at_)
def LoopC (L : List Mk) (M : Nat) : Prop := ∀ {w0 w : World} {r : Ro} {b β n cp : Nat} {a : Option Addr} {T : List Fm} {q : Fm} {x : Dx} {sr now : Int}, 8 ≤ β → RV 3 enN w0 (.slice a n cp) L → n ≤ 5000 → n = L.length → DB w0 w r b (.slice a n cp) x → At L x (T ++ [q, loopF sr]) → L.length - x.at_ < M → q.now = now →
  Calls Try.prog 27 #[.pointer (some ⟨b, 0, none⟩), .int .i64 sr, .int .i64 now] w (LoQ w0 w r b (.slice a n cp) L β T q x.at_)
set_option maxRecDepth 20000 in
set_option maxHeartbeats 4000000 in
theorem fr_loop {w0 w wr : World} {r r1 : Ro} {b nb n cp β m0 : Nat} {a : Option Addr} {L : List Mk} {T : List Fm} {f : Fm} {x : Dx} {kk now k a1 c1 : Int} {vah n2 : Value} {va la : Option Addr} {vn vc ln lc : Nat} {u10 u13 u14 u15 u16 u17 u18 u19 u20 u21 u22 u23 u24 u25 u26 u27 u28 u29 u30 u31 u32 u33 u34 u35 u36 u37 u38 u39 u40 u41 u42 u43 u44 u45 u46 u47 u48 u49 u50 u51 u52 u53 u54 u55 u56 u57 u58 u59 u60 u61 u62 u63 u64 u65 u66 u67 u68 u69 u70 u71 u72 u73 u74 u75 u76 u77 u78 u79 u80 u81 u82 u83 u84 u85 u86 u87 u88 u89 u90 u91 u92 u93 u94 u95 u96 u97 u98 u99 u100 u101 u102 u103 u104 u105 u106 u107 u108 u109 u110 u111 u112 u113 u114 u115 u116 u117 u118 u119 u120 u121 u122 u123 u124 u125 u126 u127 u128 u129 u130 u131 u132 u133 u134 u135 u136 u137 u138 u139 u140 u141 u142 u143 u144 u145 u146 u147 u148 u149 u150 u151 u152 u153 u154 u155 u156 u157 u158 u159 u160 u161 u162 u163 u164 u165 u166 u167 u168 u169 u170 u171 u172 u173 u174 u175 u176 u177 u178 u179 u180 u181 u182 u183 u184 u185 u186 u187 u188 u189 u190 u191 u192 u193 u194 u195 u196 u197 u198 u199 u200 u201 u202 : Value} {Qn K : Act → World → Prop}
    (hβ : 8 ≤ β) (hv : RV 3 enN w0 (.slice a n cp) L) (hn : n ≤ 5000) (hnl : n = L.length) (HF : FH w0 w wr r r1 b (.slice a n cp) β nb vah x f (.slice va vn vc) (.slice la ln lc)) (HA : At L x (T ++ [f])) (hm : m0 ≤ x.at_)
    (hkk : (kk = 0 ∧ f.kd = 0) ∨ (kk = 1 ∧ f.kd = 1) ∨ (kk = 2 ∧ f.kd = 3)) (hfn : f.now = now) (hy : L[x.at_]? = some (7, a1, c1)) {M : Nat} (hM : L.length - m0 ≤ M) (IL : LoopC L M)
    (hN : NXF b nb kk n2 vah (GF w0 w r b (.slice a n cp) L β nb T f.kd f.lp f.it f.ah vah m0 n (mu b n wr)) Qn) :
    Code.wp Try.prog fbody (Exit.then Qn (Exit.inBlock 0 (Exit.then K (bodyPost Try.prog Try.f15 (FrQ w0 w r b (.slice a n cp) L β T f.kd m0))))) ⟨#[.pointer (some ⟨b, 0, none⟩), .int .i64 kk, n2, .int .i64 now, vah, undef, undef, .pointer (some ⟨nb, 0, none⟩), undef, undef, u10, .slice va vn vc, .slice la ln lc, u13, u14, u15, u16, u17, u18, u19, u20, u21, u22, u23, u24, u25, u26, u27, u28, u29, u30, u31, u32, u33, u34, u35, u36, u37, u38, u39, u40, u41, u42, u43, u44, u45, u46, u47, u48, u49, u50, u51, u52, u53, u54, u55, u56, u57, u58, u59, u60, u61, u62, u63, u64, u65, u66, u67, u68, u69, u70, u71, u72, u73, u74, u75, u76, u77, u78, u79, u80, u81, u82, u83, u84, u85, u86, u87, u88, u89, u90, u91, u92, u93, u94, u95, u96, u97, u98, u99, u100, u101, u102, u103, u104, u105, u106, u107, u108, u109, u110, u111, u112, u113, u114, u115, u116, u117, u118, u119, u120, u121, u122, u123, u124, u125, u126, u127, u128, u129, u130, u131, u132, u133, u134, u135, u136, u137, u138, u139, u140, u141, u142, u143, u144, u145, u146, u147, u148, u149, u150, u151, u152, u153, u154, u155, u156, u157, u158, u159, u160, u161, u162, u163, u164, u165, u166, u167, u168, u169, u170, u171, u172, u173, u174, u175, u176, u177, u178, u179, u180, u181, u182, u183, u184, u185, u186, u187, u188, u189, u190, u191, u192, u193, u194, u195, u196, u197, u198, u199, u200, u201, u202], []⟩ wr := by
  have hk1 : (1 : Int) ≤ 7 := by omega
  have hk2 : (7 : Int) ≤ 12 := by omega
  have hcan : canB 7 a1 f = true := by unfold canB; simp; omega
  obtain ⟨_, _, _, _, _, c5, _, _⟩ := HF.db.cells
  rw [HA.ov] at c5
  have CN0 := next_ok w0 wr r1 b a n cp x (7, a1, c1) L HF.db hv hn hy ⟨hk1, hk2⟩
  unfold ndMark at CN0
  dsimp only at CN0
  have CN := Lib.hid CN0
  have HFF := Lib.hid HF
  have HAA := Lib.hid HA
  have HY := Lib.hid hy
  have bw : b < wr.heap.size := lt_of HF.db.o
  have hkn : x.at_ < L.length := (List.getElem?_eq_some_iff.1 hy).1
  have HVV := Lib.hid hv
  clear CN0 HF HA hv hy
  conv => arg 2; whnf
  go_wp2_with fail
  refine CN.out.mono ?_
  rintro e w6 ⟨rfl, r6, hD6, hk6⟩
  have F6 := HFF.out.keep hβ hD6 hk6 (fun c hc => by omega)
  have d5 : w6.cell? ⟨b, 5, none⟩ = some (.bool false) := by
    have := hD6.cells.2.2.2.2.2.1
    rw [this]
    show some (Value.bool x.ov) = _
    rw [HAA.out.ov]
  have p0 : w6.cell? ⟨nb, 0, none⟩ = some (.int .i64 f.lp) := cel F6.bo 0
  have p1 : w6.cell? ⟨nb, 1, none⟩ = some (.int .i64 f.it) := cel F6.bo 1
  have p2 : w6.cell? ⟨nb, 2, none⟩ = some (.int .i64 f.sg) := cel F6.bo 2
  have b6 : b < w6.heap.size := lt_of hD6.o
  have nb6 : nb < w6.heap.size := lt_of F6.bo
  obtain ⟨W7, hW7⟩ : ∃ W7, w6.alloc (.cells #[.int .i64 7, .int .i64 a1, .int .i64 c1] 43) = W7 := ⟨_, rfl⟩
  have F7 := F6.below hβ (β + 4) (show Below w6.heap.size w6 W7 by rw [← hW7]; go_grown)
  have HW7 := Lib.hid hW7
  have H7 := Lib.hid F7
  clear CN hD6 hk6 F6 hW7 F7 c5
  have HA1 : At L { x with at_ := x.at_ + 1 } (T ++ [f, loopF a1]) := HAA.out.step HY.out hk1 hk2 hcan (fun e => by cases e) (.loop T f rfl rfl) HAA.out.ov HAA.out.er rfl rfl rfl rfl
  have CL := Lib.hid (IL (show 8 ≤ β + 8 by omega) HVV.out hn hnl H7.out.db HA1 (by show L.length - (x.at_ + 1) < M; omega) hfn)
  clear HA1
  go_wp2_with fail
  rw [HW7.out]
  refine CL.out.mono ?_
  rintro e w9 ⟨r9, x9, v9, rfl, hD9, hk9, hB⟩
  have F9 := H7.out.keep hβ hD9 hk9 (fun c hc => by unfold PB at hc; omega)
  have b9 : b < w9.heap.size := lt_of hD9.o
  have nb9 : nb < w9.heap.size := lt_of F9.bo
  have s0 : w9.cell? ⟨nb, 0, none⟩ = some (.int .i64 f.lp) := cel F9.bo 0
  have s1 : w9.cell? ⟨nb, 1, none⟩ = some (.int .i64 f.it) := cel F9.bo 1
  have s2 : w9.cell? ⟨nb, 2, none⟩ = some (.int .i64 f.sg) := cel F9.bo 2
  have o5 : w9.cell? ⟨b, 5, none⟩ = some (.bool x9.ov) := hD9.cells.2.2.2.2.2.1
  rcases hB with ⟨ho, hd⟩ | ⟨x1, l, y, rfl, hm1, hA1, hy1, h8, hc1, hrd⟩
  · have HG : ∀ nw, GF w0 w r b (.slice a n cp) L β nb T f.kd f.lp f.it f.ah vah m0 n (mu b n wr) nw (.slice va vn vc) (.slice la ln lc) w9 := fun nw => GF.over HFF.out.db HAA.out hnl F9 ⟨rfl, rfl, rfl, rfl⟩ ho hd
    rw [ho] at o5
    clear CL hD9 hk9 F9 H7 HW7 p0 p1 p2 d5 s0 s1 s2
    go_wp2_with fail
    exact hN _ _ _ _ _ _ _ _ _ _ _ _ _ _ _ _ _ _ _ _ _ _ _ _ _ _ _ _ _ _ _ _ _ _ _ _ _ _ _ _ _ _ _ _ _ _ _ _ _ _ _ _ _ _ _ _ _ _ _ _ _ _ _ _ _ _ _ _ _ _ _ _ _ _ _ _ _ _ _ _ _ _ _ _ _ _ _ _ _ _ _ _ _ _ _ _ _ _ _ _ _ _ _ _ _ _ _ _ _ _ _ _ _ _ _ _ _ _ _ _ _ _ _ _ _ _ _ _ _ _ _ _ _ _ _ _ _ _ _ _ _ _ _ _ _ _ _ _ _ _ _ _ _ _ _ _ _ _ _ _ _ _ _ _ _ _ _ _ _ _ _ _ _ _ _ _ _ _ _ _ _ _ _ _ _ _ _ _ _ _ _ _ _ _ _ (HG _)
  · obtain ⟨ra, rn, rc, rfl⟩ := RV.form3' hrd.o
    have o6 : w9.cell? ⟨b, 5, none⟩ = some (.bool false) := o5.trans (by show some (Value.bool x1.ov) = _; rw [hA1.ov])
    have e1 : T ++ [f, l] = (T ++ [f]) ++ [l] := by simp
    have hA2 : At L x1 ((T ++ [f]) ++ [l]) := by rw [← e1]; exact hA1
    have CB := Lib.hid (begin_of w0 w9 _ b _ _ (f.lp, f.it, f.sg) (ra, rn, rc) l.le hD9 hrd (Nat.le_trans hA1.p (by omega)) (Nat.le_trans hA1.n (by omega)))
    have HH := Lib.hid (And.intro F9 (And.intro hA1 (And.intro hA2 (And.intro hy1 hc1))))
    clear CL hD9 hk9 F9 H7 HW7 p0 p1 p2 d5 o5 hA1 hA2 hy1 hc1 hrd e1
    unfold sl at CB
    go_wp2_with fail
    refine CB.out.mono ?_
    rintro e wA ⟨vA, rA, xA, rfl, hDA, hkA, hBA⟩
    have FA := HH.out.1.keep hβ hDA hkA (fun c hc => by omega)
    have h81 : (1 : Int) ≤ y.1 := by omega
    have h82 : y.1 ≤ 12 := by omega
    have HG : GF w0 w r b (.slice a n cp) L β nb T f.kd f.lp f.it f.ah vah m0 n (mu b n wr) vA (.slice va vn vc) (.slice la ln lc) wA := by
      have hm2 : x.at_ + 1 ≤ x1.at_ := hm1
      rcases hBA with ⟨hl, rfl⟩ | ⟨hl, rfl, pv, nv, us, rfl⟩
      · exact GF.over HFF.out.db HAA.out hnl FA ⟨rfl, rfl, rfl, rfl⟩ rfl (HH.out.2.2.1.long HH.out.2.2.2.1 h81 h82 HH.out.2.2.2.2 (by rw [h8]; rfl) hl rfl)
      · refine GF.go HFF.out.db HAA.out hnl (FA.now (x1.P.length : Int)) ⟨rfl, rfl, rfl, rfl⟩ rfl ?_ hm (by show x.at_ < x1.at_ + 1; omega)
        have := HH.out.2.2.1.step HH.out.2.2.2.1 h81 h82 HH.out.2.2.2.2 (fun _ => hl) (s' := leaveP T f l ⟨T ++ [f] ++ [l], x1.P, x1.N, x1.A⟩) (x' := { x1 with at_ := x1.at_ + 1, pv := pv, nv := nv, us := us, P := x1.P ++ [l.le], N := x1.N ++ [(f.lp, f.it, f.sg)] }) (.leave T f l (by simp) h8) HH.out.2.1.ov HH.out.2.1.er rfl rfl (by show _ = x1.N ++ [nodeOf f]; rw [HFF.out.no]) rfl
        exact this
    clear CB hDA hkA hBA FA HH s0 s1 s2 o6
    go_wp2_with fail
    exact hN _ _ _ _ _ _ _ _ _ _ _ _ _ _ _ _ _ _ _ _ _ _ _ _ _ _ _ _ _ _ _ _ _ _ _ _ _ _ _ _ _ _ _ _ _ _ _ _ _ _ _ _ _ _ _ _ _ _ _ _ _ _ _ _ _ _ _ _ _ _ _ _ _ _ _ _ _ _ _ _ _ _ _ _ _ _ _ _ _ _ _ _ _ _ _ _ _ _ _ _ _ _ _ _ _ _ _ _ _ _ _ _ _ _ _ _ _ _ _ _ _ _ _ _ _ _ _ _ _ _ _ _ _ _ _ _ _ _ _ _ _ _ _ _ _ _ _ _ _ _ _ _ _ _ _ _ _ _ _ _ _ _ _ _ _ _ _ _ _ _ _ _ _ _ _ _ _ _ _ _ _ _ _ _ _ _ _ _ _ _ _ _ _ _ _ HG
set_option maxRecDepth 20000 in
set_option maxHeartbeats 4000000 in
theorem fr_fork {w0 w wr : World} {r r1 : Ro} {b nb n cp β m0 : Nat} {a : Option Addr} {L : List Mk} {T : List Fm} {f : Fm} {x : Dx} {kk now k a1 c1 : Int} {vah n2 : Value} {va la : Option Addr} {vn vc ln lc : Nat} {u10 u13 u14 u15 u16 u17 u18 u19 u20 u21 u22 u23 u24 u25 u26 u27 u28 u29 u30 u31 u32 u33 u34 u35 u36 u37 u38 u39 u40 u41 u42 u43 u44 u45 u46 u47 u48 u49 u50 u51 u52 u53 u54 u55 u56 u57 u58 u59 u60 u61 u62 u63 u64 u65 u66 u67 u68 u69 u70 u71 u72 u73 u74 u75 u76 u77 u78 u79 u80 u81 u82 u83 u84 u85 u86 u87 u88 u89 u90 u91 u92 u93 u94 u95 u96 u97 u98 u99 u100 u101 u102 u103 u104 u105 u106 u107 u108 u109 u110 u111 u112 u113 u114 u115 u116 u117 u118 u119 u120 u121 u122 u123 u124 u125 u126 u127 u128 u129 u130 u131 u132 u133 u134 u135 u136 u137 u138 u139 u140 u141 u142 u143 u144 u145 u146 u147 u148 u149 u150 u151 u152 u153 u154 u155 u156 u157 u158 u159 u160 u161 u162 u163 u164 u165 u166 u167 u168 u169 u170 u171 u172 u173 u174 u175 u176 u177 u178 u179 u180 u181 u182 u183 u184 u185 u186 u187 u188 u189 u190 u191 u192 u193 u194 u195 u196 u197 u198 u199 u200 u201 u202 : Value} {Qn K : Act → World → Prop}
    (hβ : 8 ≤ β) (hv : RV 3 enN w0 (.slice a n cp) L) (hn : n ≤ 5000) (hnl : n = L.length) (HF : FH w0 w wr r r1 b (.slice a n cp) β nb vah x f (.slice va vn vc) (.slice la ln lc)) (HA : At L x (T ++ [f])) (hm : m0 ≤ x.at_)
    (hkk : (kk = 0 ∧ f.kd = 0) ∨ (kk = 1 ∧ f.kd = 1) ∨ (kk = 2 ∧ f.kd = 3)) (hfn : f.now = now) (hy : L[x.at_]? = some (4, a1, c1)) {M : Nat} (hM : L.length - m0 ≤ M) (IF : FrameC L M)
    (hN : NXF b nb kk n2 vah (GF w0 w r b (.slice a n cp) L β nb T f.kd f.lp f.it f.ah vah m0 n (mu b n wr)) Qn) :
    Code.wp Try.prog fbody (Exit.then Qn (Exit.inBlock 0 (Exit.then K (bodyPost Try.prog Try.f15 (FrQ w0 w r b (.slice a n cp) L β T f.kd m0))))) ⟨#[.pointer (some ⟨b, 0, none⟩), .int .i64 kk, n2, .int .i64 now, vah, undef, undef, .pointer (some ⟨nb, 0, none⟩), undef, undef, u10, .slice va vn vc, .slice la ln lc, u13, u14, u15, u16, u17, u18, u19, u20, u21, u22, u23, u24, u25, u26, u27, u28, u29, u30, u31, u32, u33, u34, u35, u36, u37, u38, u39, u40, u41, u42, u43, u44, u45, u46, u47, u48, u49, u50, u51, u52, u53, u54, u55, u56, u57, u58, u59, u60, u61, u62, u63, u64, u65, u66, u67, u68, u69, u70, u71, u72, u73, u74, u75, u76, u77, u78, u79, u80, u81, u82, u83, u84, u85, u86, u87, u88, u89, u90, u91, u92, u93, u94, u95, u96, u97, u98, u99, u100, u101, u102, u103, u104, u105, u106, u107, u108, u109, u110, u111, u112, u113, u114, u115, u116, u117, u118, u119, u120, u121, u122, u123, u124, u125, u126, u127, u128, u129, u130, u131, u132, u133, u134, u135, u136, u137, u138, u139, u140, u141, u142, u143, u144, u145, u146, u147, u148, u149, u150, u151, u152, u153, u154, u155, u156, u157, u158, u159, u160, u161, u162, u163, u164, u165, u166, u167, u168, u169, u170, u171, u172, u173, u174, u175, u176, u177, u178, u179, u180, u181, u182, u183, u184, u185, u186, u187, u188, u189, u190, u191, u192, u193, u194, u195, u196, u197, u198, u199, u200, u201, u202], []⟩ wr := by
  have hk1 : (1 : Int) ≤ 4 := by omega
  have hk2 : (4 : Int) ≤ 12 := by omega
  have hcan : canB 4 a1 f = true := by unfold canB; simp; omega
  obtain ⟨_, _, _, _, _, c5, _, _⟩ := HF.db.cells
  rw [HA.ov] at c5
  have CN0 := next_ok w0 wr r1 b a n cp x (4, a1, c1) L HF.db hv hn hy ⟨hk1, hk2⟩
  unfold ndMark at CN0
  dsimp only at CN0
  have CN := Lib.hid CN0
  have HFF := Lib.hid HF
  have HAA := Lib.hid HA
  have HY := Lib.hid hy
  have bw : b < wr.heap.size := lt_of HF.db.o
  have hkn : x.at_ < L.length := (List.getElem?_eq_some_iff.1 hy).1
  have HVV := Lib.hid hv
  clear CN0 HF HA hv hy
  conv => arg 2; whnf
  go_wp2_with fail
  refine CN.out.mono ?_
  rintro e w6 ⟨rfl, r6, hD6, hk6⟩
  have F6 := HFF.out.keep hβ hD6 hk6 (fun c hc => by omega)
  have d5 : w6.cell? ⟨b, 5, none⟩ = some (.bool false) := by
    have := hD6.cells.2.2.2.2.2.1
    rw [this]
    show some (Value.bool x.ov) = _
    rw [HAA.out.ov]
  have p0 : w6.cell? ⟨nb, 0, none⟩ = some (.int .i64 f.lp) := cel F6.bo 0
  have p1 : w6.cell? ⟨nb, 1, none⟩ = some (.int .i64 f.it) := cel F6.bo 1
  have p2 : w6.cell? ⟨nb, 2, none⟩ = some (.int .i64 f.sg) := cel F6.bo 2
  have b6 : b < w6.heap.size := lt_of hD6.o
  have nb6 : nb < w6.heap.size := lt_of F6.bo
  obtain ⟨W7, hW7⟩ : ∃ W7, w6.alloc (.cells #[.int .i64 4, .int .i64 a1, .int .i64 c1] 43) = W7 := ⟨_, rfl⟩
  have F7 := F6.below hβ (β + 4) (show Below w6.heap.size w6 W7 by rw [← hW7]; go_grown)
  have HW7 := Lib.hid hW7
  have H7 := Lib.hid F7
  clear CN hD6 hk6 F6 hW7 F7 c5
  have hsz : W7.heap.size = w6.heap.size + 1 := by rw [← HW7.out]; simp
  have F8 := H7.out.below hβ 6 (show Below W7.heap.size W7 (W7.alloc (.cells #[.int .i64 now] 3)) by go_grown)
  have CB0 := begin_of w0 _ _ b _ _ (0, 0, 0) (some ⟨W7.heap.size, 0, none⟩, 1, 1) [now] F8.db (rd_one _ now) (Nat.le_trans HAA.out.p (by omega)) (Nat.le_trans HAA.out.n (by omega))
  unfold sl at CB0
  dsimp only at CB0
  have HSZ := Lib.hid hsz
  have H8 := Lib.hid F8
  rw [hsz] at CB0
  have CB := Lib.hid CB0
  clear CB0 hsz F8
  go_wp2_with fail
  rw [HW7.out]
  rw [← HSZ.out] at CB
  try rw [← HSZ.out]
  refine CB.out.mono ?_
  rintro e w9 ⟨v9, r9, x9, rfl, hD9, hk9, hB⟩
  have F9 := H8.out.keep hβ hD9 hk9 (fun c hc => by omega)
  have b9 : b < w9.heap.size := lt_of hD9.o
  have o5 : w9.cell? ⟨b, 5, none⟩ = some (.bool x9.ov) := hD9.cells.2.2.2.2.2.1
  rcases hB with ⟨hl, rfl⟩ | ⟨hl, rfl, pv, nv, us, rfl⟩
  · have HG : ∀ nw, GF w0 w r b (.slice a n cp) L β nb T f.kd f.lp f.it f.ah vah m0 n (mu b n wr) nw (.slice va vn vc) (.slice la ln lc) w9 := fun nw => GF.over HFF.out.db HAA.out hnl F9 ⟨rfl, rfl, rfl, rfl⟩ rfl (HAA.out.long HY.out hk1 hk2 hcan rfl hl rfl)
    clear CB hD9 hk9 F9 H7 H8 HW7 p0 p1 p2 d5 HSZ
    go_wp2_with fail
    exact hN _ _ _ _ _ _ _ _ _ _ _ _ _ _ _ _ _ _ _ _ _ _ _ _ _ _ _ _ _ _ _ _ _ _ _ _ _ _ _ _ _ _ _ _ _ _ _ _ _ _ _ _ _ _ _ _ _ _ _ _ _ _ _ _ _ _ _ _ _ _ _ _ _ _ _ _ _ _ _ _ _ _ _ _ _ _ _ _ _ _ _ _ _ _ _ _ _ _ _ _ _ _ _ _ _ _ _ _ _ _ _ _ _ _ _ _ _ _ _ _ _ _ _ _ _ _ _ _ _ _ _ _ _ _ _ _ _ _ _ _ _ _ _ _ _ _ _ _ _ _ _ _ _ _ _ _ _ _ _ _ _ _ _ _ _ _ _ _ _ _ _ _ _ _ _ _ _ _ _ _ _ _ _ _ _ _ _ _ _ _ _ _ _ _ _ (HG _)
  · have o6 : w9.cell? ⟨b, 5, none⟩ = some (.bool false) := o5.trans (by show some (Value.bool x.ov) = _; rw [HAA.out.ov])
    have e9 : T ++ [f, kidF x.P.length] = (T ++ [f]) ++ [kidF x.P.length] := by simp
    have hA9 : At L { x with at_ := x.at_ + 1, pv := pv, nv := nv, us := us, P := x.P ++ [[now]], N := x.N ++ [((0 : Int), (0 : Int), (0 : Int))] } ((T ++ [f]) ++ [kidF x.P.length]) := by
      rw [← e9]
      exact HAA.out.step HY.out hk1 hk2 hcan (fun _ => hl) (s' := forkP T f ⟨T ++ [f], x.P, x.N, x.A⟩) (.fork T f rfl rfl) HAA.out.ov HAA.out.er rfl (by show _ = x.P ++ [[f.now]]; rw [hfn]) rfl rfl
    have CF : Hid (Calls Try.prog 15 #[.pointer (some ⟨b, 0, none⟩), .int .i64 1, .agg #[.int .i64 0, .int .i64 0, .int .i64 0], .int .i64 (x.P.length : Int), .slice none 0 0] w9 (FrQ w0 w9 r9 b (.slice a n cp) L (β + 8) (T ++ [f]) 1 (x.at_ + 1))) := Lib.hid (IF (show 8 ≤ β + 8 by omega) HVV.out hn hnl hD9 hA9 (by show L.length - (x.at_ + 1) < M; omega) (.inr (.inl ⟨rfl, rfl⟩)) rfl rfl rfl (RD.nil _ _ _) rfl)
    have HF9 := Lib.hid F9
    clear CB hD9 hk9 F9 H7 H8 HW7 p0 p1 p2 d5 HSZ o5 e9 hA9
    go_wp2_with fail
    refine CF.out.mono ?_
    rintro e wA ⟨rA, xA, vA, rfl, hDA, hkA, hBA⟩
    have FA := HF9.out.keep hβ hDA hkA (fun c hc => by unfold PB at hc; omega)
    have bA : b < wA.heap.size := lt_of hDA.o
    have nbA : nb < wA.heap.size := lt_of FA.bo
    have oA : wA.cell? ⟨b, 5, none⟩ = some (.bool xA.ov) := hDA.cells.2.2.2.2.2.1
    rcases hBA with ⟨-, ho, hd⟩ | ⟨x1, g, y, rfl, hm1, hA1, hy1, hc1, hg1, h5⟩
    · have HG : ∀ nw, GF w0 w r b (.slice a n cp) L β nb T f.kd f.lp f.it f.ah vah m0 n (mu b n wr) nw (.slice va vn vc) (.slice la ln lc) wA := fun nw => GF.over HFF.out.db HAA.out hnl FA ⟨rfl, rfl, rfl, rfl⟩ ho hd
      rw [ho] at oA
      clear CF hDA hkA FA HF9
      go_wp2_with fail
      exact hN _ _ _ _ _ _ _ _ _ _ _ _ _ _ _ _ _ _ _ _ _ _ _ _ _ _ _ _ _ _ _ _ _ _ _ _ _ _ _ _ _ _ _ _ _ _ _ _ _ _ _ _ _ _ _ _ _ _ _ _ _ _ _ _ _ _ _ _ _ _ _ _ _ _ _ _ _ _ _ _ _ _ _ _ _ _ _ _ _ _ _ _ _ _ _ _ _ _ _ _ _ _ _ _ _ _ _ _ _ _ _ _ _ _ _ _ _ _ _ _ _ _ _ _ _ _ _ _ _ _ _ _ _ _ _ _ _ _ _ _ _ _ _ _ _ _ _ _ _ _ _ _ _ _ _ _ _ _ _ _ _ _ _ _ _ _ _ _ _ _ _ _ _ _ _ _ _ _ _ _ _ _ _ _ _ _ _ _ _ _ _ _ _ _ _ (HG _)
    · have oA' : wA.cell? ⟨b, 5, none⟩ = some (.bool false) := oA.trans (by show some (Value.bool x1.ov) = _; rw [hA1.ov])
      have h5' : y.1 = 5 ∧ RD 2 enP wA rA 6 vA [(0, g.now)] := by
        rcases h5 with ⟨_, h⟩ | ⟨h, _⟩
        · exact h
        · cases h
      obtain ⟨h51, hrd⟩ := h5'
      obtain ⟨qa, qc, rfl, _, _, _, hat⟩ := hrd.o
      obtain ⟨gb, go, rfl, hgl, hcc⟩ := hat 0 (0, g.now) rfl
      have t1 : wA.cell? ⟨gb, go + 1, none⟩ = some (.int .i64 g.now) := by simpa using hcc 1 _ rfl
      have HFB := Lib.hid (FA.below hβ (β + 4) (show Below wA.heap.size wA (wA.alloc (.cells #[.int .i64 g.now] 3)) by go_grown))
      have hum : f.um.length ≤ 1000000 := by have := HAA.out.um; omega
      have HH := Lib.hid (And.intro hA1 (And.intro hy1 (And.intro hc1 h51)))
      have hlen1 : [((0 : Int), g.now)].length = 1 := rfl
      rw [hlen1]
      clear CF hDA hkA FA HF9 oA hA1 hy1 hc1 h5 h51 hrd hat hcc
      go_wp2_with ((at_builtin; refine wpList_appR rfl _ _ 39 3 _ 8 rfl Try.underlying39 infI rfl (by decide) recI 0 (.slice la ln lc) f.um rfl ⟨wA.heap.size, 0, none⟩ 1 rfl g.now HFB.out.left.o (rec_new rfl rfl) hum (Nat.zero_le _) ?_))
      intro v' wB hoB hgB horB
      obtain ⟨za, zn, zc, rfl⟩ := form3 hoB
      obtain ⟨rB, FB, hkB⟩ := HFB.out.appLeft hβ hgB hoB (by simpa using horB)
      have s0 : wB.cell? ⟨nb, 0, none⟩ = some (.int .i64 f.lp) := cel FB.bo 0
      have s1 : wB.cell? ⟨nb, 1, none⟩ = some (.int .i64 f.it) := cel FB.bo 1
      have s2 : wB.cell? ⟨nb, 2, none⟩ = some (.int .i64 f.sg) := cel FB.bo 2
      have nbB : nb < wB.heap.size := lt_of FB.bo
      have FC := FB.below hβ 6 (show Below wB.heap.size wB (wB.alloc (.cells #[.int .i64 now] 3)) by go_grown)
      have CC := Lib.hid (begin_of w0 _ _ b _ _ (f.lp, f.it, f.sg) (some ⟨wB.heap.size, 0, none⟩, 1, 1) [now] FC.db (rd_one rB now) (Nat.le_trans HH.out.1.p (by omega)) (Nat.le_trans HH.out.1.n (by omega)))
      have HFC := Lib.hid FC
      clear hoB hgB horB HFB FB hkB FC oA' t1 bA nbA hgl hlen1
      unfold sl at CC
      dsimp only at CC
      go_wp2_with fail
      refine CC.out.mono ?_
      rintro e wD ⟨vD, rD, xD, rfl, hDD, hkD, hBD⟩
      have FD := HFC.out.keep hβ hDD hkD (fun c hc => by omega)
      have h51 := HH.out.2.2.2
      have h81 : (1 : Int) ≤ y.1 := by omega
      have h82 : y.1 ≤ 12 := by omega
      have HG : GF w0 w r b (.slice a n cp) L β nb T f.kd f.lp f.it f.ah vah m0 n (mu b n wr) vD (.slice va vn vc) (.slice za zn zc) wD := by
        have hm2 : x.at_ + 1 ≤ x1.at_ := hm1
        rcases hBD with ⟨hl, rfl⟩ | ⟨hl, rfl, pv, nv, us, rfl⟩
        · exact GF.over HFF.out.db HAA.out hnl FD ⟨rfl, rfl, rfl, rfl⟩ rfl (HH.out.1.long HH.out.2.1 h81 h82 HH.out.2.2.1 (by rw [h51]; rfl) hl rfl)
        · refine GF.go HFF.out.db HAA.out hnl (FD.now (x1.P.length : Int)) ⟨rfl, rfl, rfl, rfl⟩ rfl ?_ hm (by show x.at_ < x1.at_ + 1; omega)
          have := HH.out.1.step HH.out.2.1 h81 h82 HH.out.2.2.1 (fun _ => hl) (s' := retP T f g ⟨T ++ [f] ++ [g], x1.P, x1.N, x1.A⟩) (x' := { x1 with at_ := x1.at_ + 1, pv := pv, nv := nv, us := us, P := x1.P ++ [[now]], N := x1.N ++ [(f.lp, f.it, f.sg)] }) (.ret T f g (by simp) h51) HH.out.1.ov HH.out.1.er rfl (by show _ = x1.P ++ [[f.now]]; rw [hfn]) (by show _ = x1.N ++ [nodeOf f]; rw [HFF.out.no]) rfl
          exact this
      clear CC hDD hkD hBD FD HH s0 s1 s2
      go_wp2_with fail
      exact hN _ _ _ _ _ _ _ _ _ _ _ _ _ _ _ _ _ _ _ _ _ _ _ _ _ _ _ _ _ _ _ _ _ _ _ _ _ _ _ _ _ _ _ _ _ _ _ _ _ _ _ _ _ _ _ _ _ _ _ _ _ _ _ _ _ _ _ _ _ _ _ _ _ _ _ _ _ _ _ _ _ _ _ _ _ _ _ _ _ _ _ _ _ _ _ _ _ _ _ _ _ _ _ _ _ _ _ _ _ _ _ _ _ _ _ _ _ _ _ _ _ _ _ _ _ _ _ _ _ _ _ _ _ _ _ _ _ _ _ _ _ _ _ _ _ _ _ _ _ _ _ _ _ _ _ _ _ _ _ _ _ _ _ _ _ _ _ _ _ _ _ _ _ _ _ _ _ _ _ _ _ _ _ _ _ _ _ _ _ _ _ _ _ _ _ HG
end Go.Proofs.Ytgbaaemocnjaoaa.dg
