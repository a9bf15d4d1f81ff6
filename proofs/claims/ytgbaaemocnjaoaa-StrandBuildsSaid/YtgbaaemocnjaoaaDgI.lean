/- The document's builder: an iteration goes on to a stage (layer 30). -/
import Derived.Test.YtgbaaemocnjaoaaDgH
namespace Go.Proofs.Ytgbaaemocnjaoaa.dg
open Go.ChangeShapes Go.WideShapes Go.ChangeAt Go.RowKit
open Go.Proofs.Ytgbaaemocnjaoaa.ro Go.Proofs.Ytgbaaemocnjaoaa.sn
attribute [local go_sem ↓] Go.wp_at_zero Go.wp_at_succ
set_option linter.unusedVariables false
set_option linter.unusedSimpArgs false
theorem FH.keep2 {P : Nat → Prop} {w0 w wr w2 : World} {r r1 r2 : Ro} {b β nb : Nat} {lv vah vr vl : Value} {x x2 : Dx} {f : Fm} (h : FH w0 w wr r r1 b lv β nb vah x f vr vl) (hβ : 8 ≤ β) (hD : DB w0 w2 r2 b lv x2) (hk : KX P r1 r2 wr w2) (hp : ∀ c, P c → c = 1 ∨ c = 3 ∨ c = 4 ∨ c = 5 ∨ c = β + 2 ∨ β + 4 ≤ c) : FH w0 w w2 r r2 b lv β nb vah x2 f vr vl := by
  have hn : ∀ c, (c = 6 ∨ c = β ∨ c = β + 1 ∨ c = β + 3) → ¬ P c := fun c hc e => by have := hp c e; omega
  have hb := hk.blk h.bo h.br (hn (β + 3) (by omega))
  exact ⟨hD, h.kx.trans (hk.mono fun c hc => by have := hp c hc; unfold PB; omega), h.row.keep hk (hn _ (by omega)), h.left.keep hk (hn _ (by omega)), hb.1, hb.2, h.ah.keep hk (hn _ (by omega)), h.no, h.p0⟩
set_option maxRecDepth 20000 in
set_option maxHeartbeats 4000000 in
theorem fr_g12 {w0 w wr : World} {r r1 : Ro} {b nb n cp β m0 : Nat} {a : Option Addr} {L : List Mk} {T : List Fm} {f : Fm} {x : Dx} {kk now k a1 c1 : Int} {vah n2 : Value} {va la : Option Addr} {vn vc ln lc : Nat} {u10 u13 u14 u15 u16 u17 u18 u19 u20 u21 u22 u23 u24 u25 u26 u27 u28 u29 u30 u31 u32 u33 u34 u35 u36 u37 u38 u39 u40 u41 u42 u43 u44 u45 u46 u47 u48 u49 u50 u51 u52 u53 u54 u55 u56 u57 u58 u59 u60 u61 u62 u63 u64 u65 u66 u67 u68 u69 u70 u71 u72 u73 u74 u75 u76 u77 u78 u79 u80 u81 u82 u83 u84 u85 u86 u87 u88 u89 u90 u91 u92 u93 u94 u95 u96 u97 u98 u99 u100 u101 u102 u103 u104 u105 u106 u107 u108 u109 u110 u111 u112 u113 u114 u115 u116 u117 u118 u119 u120 u121 u122 u123 u124 u125 u126 u127 u128 u129 u130 u131 u132 u133 u134 u135 u136 u137 u138 u139 u140 u141 u142 u143 u144 u145 u146 u147 u148 u149 u150 u151 u152 u153 u154 u155 u156 u157 u158 u159 u160 u161 u162 u163 u164 u165 u166 u167 u168 u169 u170 u171 u172 u173 u174 u175 u176 u177 u178 u179 u180 u181 u182 u183 u184 u185 u186 u187 u188 u189 u190 u191 u192 u193 u194 u195 u196 u197 u198 u199 u200 u201 u202 : Value} {Qn K : Act → World → Prop}
    (hβ : 8 ≤ β) (hv : RV 3 enN w0 (.slice a n cp) L) (hn : n ≤ 5000) (hnl : n = L.length) (HF : FH w0 w wr r r1 b (.slice a n cp) β nb vah x f (.slice va vn vc) (.slice la ln lc)) (HA : At L x (T ++ [f])) (hm : m0 ≤ x.at_)
    (hkk : (kk = 0 ∧ f.kd = 0) ∨ (kk = 1 ∧ f.kd = 1) ∨ (kk = 2 ∧ f.kd = 3)) (hfn : f.now = now) (hy : L[x.at_]? = some (12, a1, c1)) (h3 : f.kd = 3) (hs : f.sg < a1)
    (hN : NXF b nb 2 n2 vah (GF w0 w r b (.slice a n cp) L β nb T f.kd f.lp f.it f.ah vah m0 n (mu b n wr)) Qn) :
    Code.wp Try.prog fbody (Exit.then Qn (Exit.inBlock 0 (Exit.then K (bodyPost Try.prog Try.f15 (FrQ w0 w r b (.slice a n cp) L β T f.kd m0))))) ⟨#[.pointer (some ⟨b, 0, none⟩), .int .i64 2, n2, .int .i64 now, vah, undef, undef, .pointer (some ⟨nb, 0, none⟩), undef, undef, u10, .slice va vn vc, .slice la ln lc, u13, u14, u15, u16, u17, u18, u19, u20, u21, u22, u23, u24, u25, u26, u27, u28, u29, u30, u31, u32, u33, u34, u35, u36, u37, u38, u39, u40, u41, u42, u43, u44, u45, u46, u47, u48, u49, u50, u51, u52, u53, u54, u55, u56, u57, u58, u59, u60, u61, u62, u63, u64, u65, u66, u67, u68, u69, u70, u71, u72, u73, u74, u75, u76, u77, u78, u79, u80, u81, u82, u83, u84, u85, u86, u87, u88, u89, u90, u91, u92, u93, u94, u95, u96, u97, u98, u99, u100, u101, u102, u103, u104, u105, u106, u107, u108, u109, u110, u111, u112, u113, u114, u115, u116, u117, u118, u119, u120, u121, u122, u123, u124, u125, u126, u127, u128, u129, u130, u131, u132, u133, u134, u135, u136, u137, u138, u139, u140, u141, u142, u143, u144, u145, u146, u147, u148, u149, u150, u151, u152, u153, u154, u155, u156, u157, u158, u159, u160, u161, u162, u163, u164, u165, u166, u167, u168, u169, u170, u171, u172, u173, u174, u175, u176, u177, u178, u179, u180, u181, u182, u183, u184, u185, u186, u187, u188, u189, u190, u191, u192, u193, u194, u195, u196, u197, u198, u199, u200, u201, u202], []⟩ wr := by
  have hk1 : (1 : Int) ≤ 12 := by omega
  have hk2 : (12 : Int) ≤ 12 := by omega
  have hcan : canB 12 a1 f = true := by unfold canB; simp; exact ⟨h3, hs⟩
  have hsb : decide (f.sg < a1) = true := decide_eq_true hs
  obtain ⟨_, _, _, _, _, c5, _, _⟩ := HF.db.cells
  rw [HA.ov] at c5
  have CN0 := next_ok w0 wr r1 b a n cp x (12, a1, c1) L HF.db hv hn hy ⟨hk1, hk2⟩
  unfold ndMark at CN0
  dsimp only at CN0
  have CN := Lib.hid CN0
  have HFF := Lib.hid HF
  have HAA := Lib.hid HA
  have HY := Lib.hid hy
  have bw : b < wr.heap.size := lt_of HF.db.o
  clear CN0 HF HA hv hy
  conv => arg 2; whnf
  go_wp2_with fail
  refine CN.out.mono ?_
  rintro e w6 ⟨rfl, r6, hD6, hk6⟩
  have F6 := HFF.out.keep hβ hD6 hk6 (fun c hc => by omega)
  have d5 : w6.cell? ⟨b, 5, none⟩ = some (.bool false) := by
    have := hD6.cells.2.2.2.2.2.1
    rw [this]
    show some (Value.bool x.ov) = _
    rw [HAA.out.ov]
  have p0 : w6.cell? ⟨nb, 0, none⟩ = some (.int .i64 f.lp) := cel F6.bo 0
  have p1 : w6.cell? ⟨nb, 1, none⟩ = some (.int .i64 f.it) := cel F6.bo 1
  have p2 : w6.cell? ⟨nb, 2, none⟩ = some (.int .i64 f.sg) := cel F6.bo 2
  have b6 : b < w6.heap.size := lt_of hD6.o
  have nb6 : nb < w6.heap.size := lt_of F6.bo
  obtain ⟨W7, hW7⟩ : ∃ W7, w6.alloc (.cells #[.int .i64 12, .int .i64 a1, .int .i64 c1] 43) = W7 := ⟨_, rfl⟩
  have F7 := F6.below hβ (β + 4) (show Below w6.heap.size w6 W7 by rw [← hW7]; go_grown)
  have HW7 := Lib.hid hW7
  have H7 := Lib.hid F7
  clear CN hD6 hk6 F6 hW7 F7 c5
  have hsz : W7.heap.size = w6.heap.size + 1 := by rw [← HW7.out]; simp
  have hM7 : W7.heap[w6.heap.size]? = some (.cells #[.int .i64 12, .int .i64 a1, .int .i64 c1] 43 (0, 0)) := by rw [← HW7.out]; exact heap_new w6 _
  have hMr : ext r6 w6.heap.size (β + 4) w6.heap.size = β + 4 := ext_ge _ _ (Nat.le_refl _)
  have hb8 : Below W7.heap.size W7 (W7.alloc (.cells #[.int .i64 f.sg, .int .i64 now] 73)) := by go_grown
  have F8 := H7.out.below hβ (β + 4) hb8
  obtain ⟨hM8, hMr8⟩ := (H7.out.db.below (β + 4) hb8).2.blk hM7 hMr (fun h => h)
  have HSZ := Lib.hid hsz
  have H8 := Lib.hid (And.intro F8 (And.intro hM8 hMr8))
  have hpl : f.pa.length ≤ 1000000 := by have := HAA.out.um; omega
  clear hsz hM7 hMr hb8 F8 hM8 hMr8
  go_wp2_with ((at_builtin; rw [HW7.out]; refine wpList_appR rfl _ _ 62 73 _ 16 rfl Try.underlying62 infG rfl (by decide) recP 0 (.slice va vn vc) f.pa rfl ⟨w6.heap.size + 1, 0, none⟩ 1 rfl (f.sg, now) H8.out.1.row.o (rec_new HSZ.out rfl) hpl (Nat.zero_le _) ?_))
  intro v' w9 ho9 hg9 hor9
  obtain ⟨qa, qn, qc, rfl⟩ := form3 ho9
  obtain ⟨r9, F9, hk9⟩ := H8.out.1.appRow hβ h3 hg9 ho9 (by simpa using hor9)
  obtain ⟨hM9, hMr9⟩ := hk9.blk H8.out.2.1 H8.out.2.2 (by omega)
  have m0' : w9.cell? ⟨w6.heap.size, 0, none⟩ = some (.int .i64 12) := cel hM9 0
  have m1' : w9.cell? ⟨w6.heap.size, 1, none⟩ = some (.int .i64 a1) := cel hM9 1
  have i1 : w9.cell? ⟨nb, 1, none⟩ = some (.int .i64 f.it) := cel F9.bo 1
  have mb9 : w6.heap.size < w9.heap.size := lt_of hM9
  have nb9 : nb < w9.heap.size := lt_of F9.bo
  obtain ⟨mb, hmb⟩ : ∃ mb, w6.heap.size = mb := ⟨_, rfl⟩
  have HF9 := Lib.hid F9
  rw [hmb] at hM9 hMr9
  have HM9 := Lib.hid (And.intro hM9 hMr9)
  have HMB := Lib.hid hmb
  clear ho9 hg9 hor9 F9 hk9 hM9 hMr9 H8 H7 HW7 HSZ p0 p1 p2 d5 b6 nb6 hmb
  rw [HMB.out] at m0' m1' mb9 ⊢
  obtain ⟨FS, hkS⟩ := HF9.out.setSg hβ h3 a1
  have xf := frz HF9.out.bo 2
  have xs2 : w9.cell? ⟨nb, 2, none⟩ = some (.int .i64 f.sg) := cel HF9.out.bo 2
  have hsz : (w9.setCell ⟨nb, 2, none⟩ (.int .i64 a1)).heap.size = w9.heap.size := set_size _ _ _ _
  have hbT : Below (w9.setCell ⟨nb, 2, none⟩ (.int .i64 a1)).heap.size (w9.setCell ⟨nb, 2, none⟩ (.int .i64 a1)) ((w9.setCell ⟨nb, 2, none⟩ (.int .i64 a1)).alloc (.cells #[.int .i64 now] 3)) := by go_grown
  have FT := FS.below hβ 6 hbT
  have s0 : (w9.setCell ⟨nb, 2, none⟩ (.int .i64 a1)).cell? ⟨nb, 0, none⟩ = some (.int .i64 f.lp) := cel FS.bo 0
  have s1 : (w9.setCell ⟨nb, 2, none⟩ (.int .i64 a1)).cell? ⟨nb, 1, none⟩ = some (.int .i64 f.it) := cel FS.bo 1
  have s2 : (w9.setCell ⟨nb, 2, none⟩ (.int .i64 a1)).cell? ⟨nb, 2, none⟩ = some (.int .i64 a1) := cel FS.bo 2
  have CB0 := begin_of w0 _ _ b _ _ (f.lp, f.it, a1) (some ⟨(w9.setCell ⟨nb, 2, none⟩ (.int .i64 a1)).heap.size, 0, none⟩, 1, 1) [now] FT.db (rd_one _ now) (Nat.le_trans HAA.out.p (by omega)) (Nat.le_trans HAA.out.n (by omega))
  unfold sl at CB0
  dsimp only at CB0
  rw [hsz] at CB0 FT
  have HZ := Lib.hid FT
  have CB := Lib.hid CB0
  clear CB0 FS hkS FT HF9 HM9 hsz hbT
  go_wp2_with fail
  refine CB.out.mono ?_
  rintro e wD ⟨vD, rD, xD, rfl, hDD, hkD, hBD⟩
  have FD := HZ.out.keep hβ hDD hkD (fun c hc => by omega)
  have HG : GF w0 w r b (.slice a n cp) L β nb T f.kd f.lp f.it f.ah vah m0 n (mu b n wr) vD (.slice qa qn qc) (.slice la ln lc) wD := by
    rcases hBD with ⟨hl, rfl⟩ | ⟨hl, rfl, pv, nv, us, rfl⟩
    · exact GF.over HFF.out.db HAA.out hnl FD ⟨rfl, rfl, rfl, rfl⟩ rfl (HAA.out.long HY.out hk1 hk2 hcan rfl hl rfl)
    · refine GF.go HFF.out.db HAA.out hnl (FD.now (x.P.length : Int)) ⟨rfl, rfl, rfl, rfl⟩ rfl ?_ hm (Nat.lt_succ_self _)
      have := HAA.out.step HY.out hk1 hk2 hcan (fun _ => hl) (s' := goP T f 12 a1 ⟨T ++ [f], x.P, x.N, x.A⟩) (x' := { x with at_ := x.at_ + 1, pv := pv, nv := nv, us := us, P := x.P ++ [[now]], N := x.N ++ [(f.lp, f.it, a1)] }) (.go T f rfl (by simp)) HAA.out.ov HAA.out.er rfl (by show _ = x.P ++ [f.now :: _]; rw [if_neg (fun h => absurd h.1 (by decide)), hfn]) (by show _ = x.N ++ [nodeOf { f with sg := a1 }]; rw [show nodeOf { f with sg := a1 } = (f.lp, f.it, a1) from if_pos h3]) rfl
      have e : (goP T f 12 a1 ⟨T ++ [f], x.P, x.N, x.A⟩).S = T ++ [{ f with pa := f.pa ++ [(f.sg, now)], sg := a1, now := (x.P.length : Int) }] := by unfold goP; rw [hfn]
      rw [e] at this
      exact this
  clear CB hDD hkD hBD FD HZ s0 s1 s2 xf xs2
  go_wp2_with fail
  exact hN _ _ _ _ _ _ _ _ _ _ _ _ _ _ _ _ _ _ _ _ _ _ _ _ _ _ _ _ _ _ _ _ _ _ _ _ _ _ _ _ _ _ _ _ _ _ _ _ _ _ _ _ _ _ _ _ _ _ _ _ _ _ _ _ _ _ _ _ _ _ _ _ _ _ _ _ _ _ _ _ _ _ _ _ _ _ _ _ _ _ _ _ _ _ _ _ _ _ _ _ _ _ _ _ _ _ _ _ _ _ _ _ _ _ _ _ _ _ _ _ _ _ _ _ _ _ _ _ _ _ _ _ _ _ _ _ _ _ _ _ _ _ _ _ _ _ _ _ _ _ _ _ _ _ _ _ _ _ _ _ _ _ _ _ _ _ _ _ _ _ _ _ _ _ _ _ _ _ _ _ _ _ _ _ _ _ _ _ _ _ _ _ _ _ _ HG
set_option maxRecDepth 20000 in
set_option maxHeartbeats 4000000 in
theorem fr_g11 {w0 w wr : World} {r r1 : Ro} {b nb n cp β m0 : Nat} {a : Option Addr} {L : List Mk} {T : List Fm} {f : Fm} {x : Dx} {kk now k a1 c1 : Int} {vah n2 : Value} {va la : Option Addr} {vn vc ln lc : Nat} {u10 u13 u14 u15 u16 u17 u18 u19 u20 u21 u22 u23 u24 u25 u26 u27 u28 u29 u30 u31 u32 u33 u34 u35 u36 u37 u38 u39 u40 u41 u42 u43 u44 u45 u46 u47 u48 u49 u50 u51 u52 u53 u54 u55 u56 u57 u58 u59 u60 u61 u62 u63 u64 u65 u66 u67 u68 u69 u70 u71 u72 u73 u74 u75 u76 u77 u78 u79 u80 u81 u82 u83 u84 u85 u86 u87 u88 u89 u90 u91 u92 u93 u94 u95 u96 u97 u98 u99 u100 u101 u102 u103 u104 u105 u106 u107 u108 u109 u110 u111 u112 u113 u114 u115 u116 u117 u118 u119 u120 u121 u122 u123 u124 u125 u126 u127 u128 u129 u130 u131 u132 u133 u134 u135 u136 u137 u138 u139 u140 u141 u142 u143 u144 u145 u146 u147 u148 u149 u150 u151 u152 u153 u154 u155 u156 u157 u158 u159 u160 u161 u162 u163 u164 u165 u166 u167 u168 u169 u170 u171 u172 u173 u174 u175 u176 u177 u178 u179 u180 u181 u182 u183 u184 u185 u186 u187 u188 u189 u190 u191 u192 u193 u194 u195 u196 u197 u198 u199 u200 u201 u202 : Value} {Qn K : Act → World → Prop}
    (hβ : 8 ≤ β) (hv : RV 3 enN w0 (.slice a n cp) L) (hn : n ≤ 5000) (hnl : n = L.length) (HF : FH w0 w wr r r1 b (.slice a n cp) β nb vah x f (.slice va vn vc) (.slice la ln lc)) (HA : At L x (T ++ [f])) (hm : m0 ≤ x.at_)
    (hkk : (kk = 0 ∧ f.kd = 0) ∨ (kk = 1 ∧ f.kd = 1) ∨ (kk = 2 ∧ f.kd = 3)) (hfn : f.now = now) (hy : L[x.at_]? = some (11, a1, c1)) (h3 : f.kd = 3) (hs : f.sg < a1) (hi : ¬ 0 < f.it)
    (hN : NXF b nb 2 n2 vah (GF w0 w r b (.slice a n cp) L β nb T f.kd f.lp f.it f.ah vah m0 n (mu b n wr)) Qn) :
    Code.wp Try.prog fbody (Exit.then Qn (Exit.inBlock 0 (Exit.then K (bodyPost Try.prog Try.f15 (FrQ w0 w r b (.slice a n cp) L β T f.kd m0))))) ⟨#[.pointer (some ⟨b, 0, none⟩), .int .i64 2, n2, .int .i64 now, vah, undef, undef, .pointer (some ⟨nb, 0, none⟩), undef, undef, u10, .slice va vn vc, .slice la ln lc, u13, u14, u15, u16, u17, u18, u19, u20, u21, u22, u23, u24, u25, u26, u27, u28, u29, u30, u31, u32, u33, u34, u35, u36, u37, u38, u39, u40, u41, u42, u43, u44, u45, u46, u47, u48, u49, u50, u51, u52, u53, u54, u55, u56, u57, u58, u59, u60, u61, u62, u63, u64, u65, u66, u67, u68, u69, u70, u71, u72, u73, u74, u75, u76, u77, u78, u79, u80, u81, u82, u83, u84, u85, u86, u87, u88, u89, u90, u91, u92, u93, u94, u95, u96, u97, u98, u99, u100, u101, u102, u103, u104, u105, u106, u107, u108, u109, u110, u111, u112, u113, u114, u115, u116, u117, u118, u119, u120, u121, u122, u123, u124, u125, u126, u127, u128, u129, u130, u131, u132, u133, u134, u135, u136, u137, u138, u139, u140, u141, u142, u143, u144, u145, u146, u147, u148, u149, u150, u151, u152, u153, u154, u155, u156, u157, u158, u159, u160, u161, u162, u163, u164, u165, u166, u167, u168, u169, u170, u171, u172, u173, u174, u175, u176, u177, u178, u179, u180, u181, u182, u183, u184, u185, u186, u187, u188, u189, u190, u191, u192, u193, u194, u195, u196, u197, u198, u199, u200, u201, u202], []⟩ wr := by
  have hk1 : (1 : Int) ≤ 11 := by omega
  have hk2 : (11 : Int) ≤ 12 := by omega
  have hcan : canB 11 a1 f = true := by unfold canB; simp; exact ⟨h3, hs⟩
  have hsb : decide (f.sg < a1) = true := decide_eq_true hs
  have hib : decide (0 < f.it) = false := decide_eq_false hi
  obtain ⟨_, _, _, _, _, c5, _, _⟩ := HF.db.cells
  rw [HA.ov] at c5
  have CN0 := next_ok w0 wr r1 b a n cp x (11, a1, c1) L HF.db hv hn hy ⟨hk1, hk2⟩
  unfold ndMark at CN0
  dsimp only at CN0
  have CN := Lib.hid CN0
  have HFF := Lib.hid HF
  have HAA := Lib.hid HA
  have HY := Lib.hid hy
  have bw : b < wr.heap.size := lt_of HF.db.o
  clear CN0 HF HA hv hy
  conv => arg 2; whnf
  go_wp2_with fail
  refine CN.out.mono ?_
  rintro e w6 ⟨rfl, r6, hD6, hk6⟩
  have F6 := HFF.out.keep hβ hD6 hk6 (fun c hc => by omega)
  have d5 : w6.cell? ⟨b, 5, none⟩ = some (.bool false) := by
    have := hD6.cells.2.2.2.2.2.1
    rw [this]
    show some (Value.bool x.ov) = _
    rw [HAA.out.ov]
  have p0 : w6.cell? ⟨nb, 0, none⟩ = some (.int .i64 f.lp) := cel F6.bo 0
  have p1 : w6.cell? ⟨nb, 1, none⟩ = some (.int .i64 f.it) := cel F6.bo 1
  have p2 : w6.cell? ⟨nb, 2, none⟩ = some (.int .i64 f.sg) := cel F6.bo 2
  have b6 : b < w6.heap.size := lt_of hD6.o
  have nb6 : nb < w6.heap.size := lt_of F6.bo
  obtain ⟨W7, hW7⟩ : ∃ W7, w6.alloc (.cells #[.int .i64 11, .int .i64 a1, .int .i64 c1] 43) = W7 := ⟨_, rfl⟩
  have F7 := F6.below hβ (β + 4) (show Below w6.heap.size w6 W7 by rw [← hW7]; go_grown)
  have HW7 := Lib.hid hW7
  have H7 := Lib.hid F7
  clear CN hD6 hk6 F6 hW7 F7 c5
  have hsz : W7.heap.size = w6.heap.size + 1 := by rw [← HW7.out]; simp
  have hM7 : W7.heap[w6.heap.size]? = some (.cells #[.int .i64 11, .int .i64 a1, .int .i64 c1] 43 (0, 0)) := by rw [← HW7.out]; exact heap_new w6 _
  have hMr : ext r6 w6.heap.size (β + 4) w6.heap.size = β + 4 := ext_ge _ _ (Nat.le_refl _)
  have hb8 : Below W7.heap.size W7 (W7.alloc (.cells #[.int .i64 f.sg, .int .i64 now] 73)) := by go_grown
  have F8 := H7.out.below hβ (β + 4) hb8
  obtain ⟨hM8, hMr8⟩ := (H7.out.db.below (β + 4) hb8).2.blk hM7 hMr (fun h => h)
  have HSZ := Lib.hid hsz
  have H8 := Lib.hid (And.intro F8 (And.intro hM8 hMr8))
  have hpl : f.pa.length ≤ 1000000 := by have := HAA.out.um; omega
  clear hsz hM7 hMr hb8 F8 hM8 hMr8
  go_wp2_with ((at_builtin; rw [HW7.out]; refine wpList_appR rfl _ _ 62 73 _ 16 rfl Try.underlying62 infG rfl (by decide) recP 0 (.slice va vn vc) f.pa rfl ⟨w6.heap.size + 1, 0, none⟩ 1 rfl (f.sg, now) H8.out.1.row.o (rec_new HSZ.out rfl) hpl (Nat.zero_le _) ?_))
  intro v' w9 ho9 hg9 hor9
  obtain ⟨qa, qn, qc, rfl⟩ := form3 ho9
  obtain ⟨r9, F9, hk9⟩ := H8.out.1.appRow hβ h3 hg9 ho9 (by simpa using hor9)
  obtain ⟨hM9, hMr9⟩ := hk9.blk H8.out.2.1 H8.out.2.2 (by omega)
  have m0' : w9.cell? ⟨w6.heap.size, 0, none⟩ = some (.int .i64 11) := cel hM9 0
  have m1' : w9.cell? ⟨w6.heap.size, 1, none⟩ = some (.int .i64 a1) := cel hM9 1
  have i1 : w9.cell? ⟨nb, 1, none⟩ = some (.int .i64 f.it) := cel F9.bo 1
  have mb9 : w6.heap.size < w9.heap.size := lt_of hM9
  have nb9 : nb < w9.heap.size := lt_of F9.bo
  obtain ⟨mb, hmb⟩ : ∃ mb, w6.heap.size = mb := ⟨_, rfl⟩
  have HF9 := Lib.hid F9
  rw [hmb] at hM9 hMr9
  have HM9 := Lib.hid (And.intro hM9 hMr9)
  have HMB := Lib.hid hmb
  clear ho9 hg9 hor9 F9 hk9 hM9 hMr9 H8 H7 HW7 HSZ p0 p1 p2 d5 b6 nb6 hmb
  rw [HMB.out] at m0' m1' mb9 ⊢
  obtain ⟨FS, hkS⟩ := HF9.out.setSg hβ h3 a1
  have xf := frz HF9.out.bo 2
  have xs2 : w9.cell? ⟨nb, 2, none⟩ = some (.int .i64 f.sg) := cel HF9.out.bo 2
  have hsz : (w9.setCell ⟨nb, 2, none⟩ (.int .i64 a1)).heap.size = w9.heap.size := set_size _ _ _ _
  have hbT : Below (w9.setCell ⟨nb, 2, none⟩ (.int .i64 a1)).heap.size (w9.setCell ⟨nb, 2, none⟩ (.int .i64 a1)) ((w9.setCell ⟨nb, 2, none⟩ (.int .i64 a1)).alloc (.cells #[.int .i64 now] 3)) := by go_grown
  have FT := FS.below hβ 6 hbT
  have s0 : (w9.setCell ⟨nb, 2, none⟩ (.int .i64 a1)).cell? ⟨nb, 0, none⟩ = some (.int .i64 f.lp) := cel FS.bo 0
  have s1 : (w9.setCell ⟨nb, 2, none⟩ (.int .i64 a1)).cell? ⟨nb, 1, none⟩ = some (.int .i64 f.it) := cel FS.bo 1
  have s2 : (w9.setCell ⟨nb, 2, none⟩ (.int .i64 a1)).cell? ⟨nb, 2, none⟩ = some (.int .i64 a1) := cel FS.bo 2
  have CB0 := begin_of w0 _ _ b _ _ (f.lp, f.it, a1) (some ⟨(w9.setCell ⟨nb, 2, none⟩ (.int .i64 a1)).heap.size, 0, none⟩, 1, 1) [now] FT.db (rd_one _ now) (Nat.le_trans HAA.out.p (by omega)) (Nat.le_trans HAA.out.n (by omega))
  unfold sl at CB0
  dsimp only at CB0
  rw [hsz] at CB0 FT
  have HZ := Lib.hid FT
  have CB := Lib.hid CB0
  clear CB0 FS hkS FT HF9 HM9 hsz hbT
  go_wp2_with fail
  refine CB.out.mono ?_
  rintro e wD ⟨vD, rD, xD, rfl, hDD, hkD, hBD⟩
  have FD := HZ.out.keep hβ hDD hkD (fun c hc => by omega)
  have HG : GF w0 w r b (.slice a n cp) L β nb T f.kd f.lp f.it f.ah vah m0 n (mu b n wr) vD (.slice qa qn qc) (.slice la ln lc) wD := by
    rcases hBD with ⟨hl, rfl⟩ | ⟨hl, rfl, pv, nv, us, rfl⟩
    · exact GF.over HFF.out.db HAA.out hnl FD ⟨rfl, rfl, rfl, rfl⟩ rfl (HAA.out.long HY.out hk1 hk2 hcan rfl hl rfl)
    · refine GF.go HFF.out.db HAA.out hnl (FD.now (x.P.length : Int)) ⟨rfl, rfl, rfl, rfl⟩ rfl ?_ hm (Nat.lt_succ_self _)
      have := HAA.out.step HY.out hk1 hk2 hcan (fun _ => hl) (s' := goP T f 11 a1 ⟨T ++ [f], x.P, x.N, x.A⟩) (x' := { x with at_ := x.at_ + 1, pv := pv, nv := nv, us := us, P := x.P ++ [[now]], N := x.N ++ [(f.lp, f.it, a1)] }) (.go T f rfl (by simp)) HAA.out.ov HAA.out.er rfl (by show _ = x.P ++ [f.now :: _]; rw [if_neg (fun h => by have := h.2; omega), hfn]) (by show _ = x.N ++ [nodeOf { f with sg := a1 }]; rw [show nodeOf { f with sg := a1 } = (f.lp, f.it, a1) from if_pos h3]) rfl
      have e : (goP T f 11 a1 ⟨T ++ [f], x.P, x.N, x.A⟩).S = T ++ [{ f with pa := f.pa ++ [(f.sg, now)], sg := a1, now := (x.P.length : Int) }] := by unfold goP; rw [hfn]
      rw [e] at this
      exact this
  clear CB hDD hkD hBD FD HZ s0 s1 s2 xf xs2
  go_wp2_with fail
  exact hN _ _ _ _ _ _ _ _ _ _ _ _ _ _ _ _ _ _ _ _ _ _ _ _ _ _ _ _ _ _ _ _ _ _ _ _ _ _ _ _ _ _ _ _ _ _ _ _ _ _ _ _ _ _ _ _ _ _ _ _ _ _ _ _ _ _ _ _ _ _ _ _ _ _ _ _ _ _ _ _ _ _ _ _ _ _ _ _ _ _ _ _ _ _ _ _ _ _ _ _ _ _ _ _ _ _ _ _ _ _ _ _ _ _ _ _ _ _ _ _ _ _ _ _ _ _ _ _ _ _ _ _ _ _ _ _ _ _ _ _ _ _ _ _ _ _ _ _ _ _ _ _ _ _ _ _ _ _ _ _ _ _ _ _ _ _ _ _ _ _ _ _ _ _ _ _ _ _ _ _ _ _ _ _ _ _ _ _ _ _ _ _ _ _ _ HG
set_option maxRecDepth 20000 in
set_option maxHeartbeats 4000000 in
theorem fr_g11i {w0 w wr : World} {r r1 : Ro} {b nb n cp β m0 : Nat} {a : Option Addr} {L : List Mk} {T : List Fm} {f : Fm} {x : Dx} {kk now k a1 c1 : Int} {vah n2 : Value} {va la : Option Addr} {vn vc ln lc : Nat} {u10 u13 u14 u15 u16 u17 u18 u19 u20 u21 u22 u23 u24 u25 u26 u27 u28 u29 u30 u31 u32 u33 u34 u35 u36 u37 u38 u39 u40 u41 u42 u43 u44 u45 u46 u47 u48 u49 u50 u51 u52 u53 u54 u55 u56 u57 u58 u59 u60 u61 u62 u63 u64 u65 u66 u67 u68 u69 u70 u71 u72 u73 u74 u75 u76 u77 u78 u79 u80 u81 u82 u83 u84 u85 u86 u87 u88 u89 u90 u91 u92 u93 u94 u95 u96 u97 u98 u99 u100 u101 u102 u103 u104 u105 u106 u107 u108 u109 u110 u111 u112 u113 u114 u115 u116 u117 u118 u119 u120 u121 u122 u123 u124 u125 u126 u127 u128 u129 u130 u131 u132 u133 u134 u135 u136 u137 u138 u139 u140 u141 u142 u143 u144 u145 u146 u147 u148 u149 u150 u151 u152 u153 u154 u155 u156 u157 u158 u159 u160 u161 u162 u163 u164 u165 u166 u167 u168 u169 u170 u171 u172 u173 u174 u175 u176 u177 u178 u179 u180 u181 u182 u183 u184 u185 u186 u187 u188 u189 u190 u191 u192 u193 u194 u195 u196 u197 u198 u199 u200 u201 u202 : Value} {Qn K : Act → World → Prop}
    (hβ : 8 ≤ β) (hv : RV 3 enN w0 (.slice a n cp) L) (hn : n ≤ 5000) (hnl : n = L.length) (HF : FH w0 w wr r r1 b (.slice a n cp) β nb vah x f (.slice va vn vc) (.slice la ln lc)) (HA : At L x (T ++ [f])) (hm : m0 ≤ x.at_)
    (hkk : (kk = 0 ∧ f.kd = 0) ∨ (kk = 1 ∧ f.kd = 1) ∨ (kk = 2 ∧ f.kd = 3)) (hfn : f.now = now) (hy : L[x.at_]? = some (11, a1, c1)) (h3 : f.kd = 3) (hs : f.sg < a1) (hi : 0 < f.it)
    (hN : NXF b nb 2 n2 vah (GF w0 w r b (.slice a n cp) L β nb T f.kd f.lp f.it f.ah vah m0 n (mu b n wr)) Qn) :
    Code.wp Try.prog fbody (Exit.then Qn (Exit.inBlock 0 (Exit.then K (bodyPost Try.prog Try.f15 (FrQ w0 w r b (.slice a n cp) L β T f.kd m0))))) ⟨#[.pointer (some ⟨b, 0, none⟩), .int .i64 2, n2, .int .i64 now, vah, undef, undef, .pointer (some ⟨nb, 0, none⟩), undef, undef, u10, .slice va vn vc, .slice la ln lc, u13, u14, u15, u16, u17, u18, u19, u20, u21, u22, u23, u24, u25, u26, u27, u28, u29, u30, u31, u32, u33, u34, u35, u36, u37, u38, u39, u40, u41, u42, u43, u44, u45, u46, u47, u48, u49, u50, u51, u52, u53, u54, u55, u56, u57, u58, u59, u60, u61, u62, u63, u64, u65, u66, u67, u68, u69, u70, u71, u72, u73, u74, u75, u76, u77, u78, u79, u80, u81, u82, u83, u84, u85, u86, u87, u88, u89, u90, u91, u92, u93, u94, u95, u96, u97, u98, u99, u100, u101, u102, u103, u104, u105, u106, u107, u108, u109, u110, u111, u112, u113, u114, u115, u116, u117, u118, u119, u120, u121, u122, u123, u124, u125, u126, u127, u128, u129, u130, u131, u132, u133, u134, u135, u136, u137, u138, u139, u140, u141, u142, u143, u144, u145, u146, u147, u148, u149, u150, u151, u152, u153, u154, u155, u156, u157, u158, u159, u160, u161, u162, u163, u164, u165, u166, u167, u168, u169, u170, u171, u172, u173, u174, u175, u176, u177, u178, u179, u180, u181, u182, u183, u184, u185, u186, u187, u188, u189, u190, u191, u192, u193, u194, u195, u196, u197, u198, u199, u200, u201, u202], []⟩ wr := by
  have hk1 : (1 : Int) ≤ 11 := by omega
  have hk2 : (11 : Int) ≤ 12 := by omega
  have hcan : canB 11 a1 f = true := by unfold canB; simp; exact ⟨h3, hs⟩
  have hsb : decide (f.sg < a1) = true := decide_eq_true hs
  have hib : decide (0 < f.it) = true := decide_eq_true hi
  obtain ⟨_, _, _, _, _, c5, _, _⟩ := HF.db.cells
  rw [HA.ov] at c5
  have CN0 := next_ok w0 wr r1 b a n cp x (11, a1, c1) L HF.db hv hn hy ⟨hk1, hk2⟩
  unfold ndMark at CN0
  dsimp only at CN0
  have CN := Lib.hid CN0
  have HFF := Lib.hid HF
  have HAA := Lib.hid HA
  have HY := Lib.hid hy
  have bw : b < wr.heap.size := lt_of HF.db.o
  clear CN0 HF HA hv hy
  conv => arg 2; whnf
  go_wp2_with fail
  refine CN.out.mono ?_
  rintro e w6 ⟨rfl, r6, hD6, hk6⟩
  have F6 := HFF.out.keep hβ hD6 hk6 (fun c hc => by omega)
  have d5 : w6.cell? ⟨b, 5, none⟩ = some (.bool false) := by
    have := hD6.cells.2.2.2.2.2.1
    rw [this]
    show some (Value.bool x.ov) = _
    rw [HAA.out.ov]
  have p0 : w6.cell? ⟨nb, 0, none⟩ = some (.int .i64 f.lp) := cel F6.bo 0
  have p1 : w6.cell? ⟨nb, 1, none⟩ = some (.int .i64 f.it) := cel F6.bo 1
  have p2 : w6.cell? ⟨nb, 2, none⟩ = some (.int .i64 f.sg) := cel F6.bo 2
  have b6 : b < w6.heap.size := lt_of hD6.o
  have nb6 : nb < w6.heap.size := lt_of F6.bo
  obtain ⟨W7, hW7⟩ : ∃ W7, w6.alloc (.cells #[.int .i64 11, .int .i64 a1, .int .i64 c1] 43) = W7 := ⟨_, rfl⟩
  have F7 := F6.below hβ (β + 4) (show Below w6.heap.size w6 W7 by rw [← hW7]; go_grown)
  have HW7 := Lib.hid hW7
  have H7 := Lib.hid F7
  clear CN hD6 hk6 F6 hW7 F7 c5
  have hsz : W7.heap.size = w6.heap.size + 1 := by rw [← HW7.out]; simp
  have hM7 : W7.heap[w6.heap.size]? = some (.cells #[.int .i64 11, .int .i64 a1, .int .i64 c1] 43 (0, 0)) := by rw [← HW7.out]; exact heap_new w6 _
  have hMr : ext r6 w6.heap.size (β + 4) w6.heap.size = β + 4 := ext_ge _ _ (Nat.le_refl _)
  have hb8 : Below W7.heap.size W7 (W7.alloc (.cells #[.int .i64 f.sg, .int .i64 now] 73)) := by go_grown
  have F8 := H7.out.below hβ (β + 4) hb8
  obtain ⟨hM8, hMr8⟩ := (H7.out.db.below (β + 4) hb8).2.blk hM7 hMr (fun h => h)
  have HSZ := Lib.hid hsz
  have H8 := Lib.hid (And.intro F8 (And.intro hM8 hMr8))
  have hpl : f.pa.length ≤ 1000000 := by have := HAA.out.um; omega
  clear hsz hM7 hMr hb8 F8 hM8 hMr8
  go_wp2_with ((at_builtin; rw [HW7.out]; refine wpList_appR rfl _ _ 62 73 _ 16 rfl Try.underlying62 infG rfl (by decide) recP 0 (.slice va vn vc) f.pa rfl ⟨w6.heap.size + 1, 0, none⟩ 1 rfl (f.sg, now) H8.out.1.row.o (rec_new HSZ.out rfl) hpl (Nat.zero_le _) ?_))
  intro v' w9 ho9 hg9 hor9
  obtain ⟨qa, qn, qc, rfl⟩ := form3 ho9
  obtain ⟨r9, F9, hk9⟩ := H8.out.1.appRow hβ h3 hg9 ho9 (by simpa using hor9)
  obtain ⟨hM9, hMr9⟩ := hk9.blk H8.out.2.1 H8.out.2.2 (by omega)
  have m0' : w9.cell? ⟨w6.heap.size, 0, none⟩ = some (.int .i64 11) := cel hM9 0
  have m1' : w9.cell? ⟨w6.heap.size, 1, none⟩ = some (.int .i64 a1) := cel hM9 1
  have i1 : w9.cell? ⟨nb, 1, none⟩ = some (.int .i64 f.it) := cel F9.bo 1
  have mb9 : w6.heap.size < w9.heap.size := lt_of hM9
  have nb9 : nb < w9.heap.size := lt_of F9.bo
  obtain ⟨mb, hmb⟩ : ∃ mb, w6.heap.size = mb := ⟨_, rfl⟩
  have HF9 := Lib.hid F9
  rw [hmb] at hM9 hMr9
  have HM9 := Lib.hid (And.intro hM9 hMr9)
  have HMB := Lib.hid hmb
  clear ho9 hg9 hor9 F9 hk9 hM9 hMr9 H8 H7 HW7 HSZ p0 p1 p2 d5 b6 nb6 hmb
  rw [HMB.out] at m0' m1' mb9 ⊢
  have hbT : Below w9.heap.size w9 (w9.alloc (.cells #[.int .i64 now] 3)) := by go_grown
  have FT := HF9.out.below hβ (β + 2) hbT
  obtain ⟨hMT, hMrT⟩ := (HF9.out.db.below (β + 2) hbT).2.blk HM9.out.1 HM9.out.2 (fun h => h)
  have hOT : RR 1 enI (w9.alloc (.cells #[.int .i64 now] 3)) (ext r9 w9.heap.size (β + 2)) (β + 2) 3 (.slice (some ⟨w9.heap.size, 0, none⟩) 1 1) [now] := ⟨⟨rfl, .inr ⟨w9.heap.size, 1, #[.int .i64 now], rfl, Nat.zero_le _, heap_new w9 _, Nat.le_refl _, by decide, rfl, rfl⟩⟩, fun g hg => by
    simp [Value.ownBlock] at hg
    subst hg
    exact ext_ge _ _ (Nat.le_refl _)⟩
  have HT := Lib.hid (And.intro FT (And.intro hMT (And.intro hMrT hOT)))
  have hahl : f.ah.length ≤ 100000 := by have := HAA.out.um; omega
  have hbf : befP f.ah a1 = befL a1 f.ah 0 := HAA.out.bef h3 hi hs
  obtain ⟨ga, gn, gc, rfl⟩ := RV.form3' FT.ah.o
  have hgl : gn = f.ah.length := (RV.len FT.ah.o).1
  have CA := Lib.hid (at_of _ ga gn gc f.ah a1 FT.ah.o (by omega))
  clear FT hMT hMrT hOT hbT
  clear hgl
  go_wp2_with fail
  refine CA.out.mono ?_
  rintro e wU ⟨rfl, hbU⟩
  have FU' := HT.out.1.below hβ (β + 2) hbU
  obtain ⟨hMU, hMrU⟩ := (HT.out.1.db.below (β + 2) hbU).2.blk HT.out.2.1 HT.out.2.2.1 (fun h => h)
  have hOU := HT.out.2.2.2.keep (HT.out.1.db.below (β + 2) hbU).2 (fun h => h)
  obtain ⟨bv, hbv⟩ : ∃ bv, befL a1 f.ah 0 = bv := ⟨_, rfl⟩
  rw [hbv]
  have hbV : Below wU.heap.size wU (wU.alloc (.cells #[.int .i64 bv] 3)) := by go_grown
  have FV := FU'.below hβ (β + 2) hbV
  obtain ⟨hMV, hMrV⟩ := (FU'.db.below (β + 2) hbV).2.blk hMU hMrU (fun h => h)
  have hOV := hOU.keep (FU'.db.below (β + 2) hbV).2 (fun h => h)
  have HV := Lib.hid (And.intro FV (And.intro hMV (And.intro hMrV hOV)))
  have HBV := Lib.hid hbv
  have hl1 : ([now] : List Int).length ≤ 1000000 := by simp
  clear CA FU' hMU hMrU hOU FV hMV hMrV hOV hbV hbU HT hbv
  go_wp2_with ((at_builtin; refine wpList_appR rfl _ _ 39 3 _ 8 rfl Try.underlying39 infI rfl (by decide) recI 0 (.slice (some ⟨w9.heap.size, 0, none⟩) 1 1) [now] rfl ⟨wU.heap.size, 0, none⟩ 1 rfl bv HV.out.2.2.2.o (rec_new rfl rfl) hl1 (Nat.zero_le _) ?_))
  intro vW wW hoW hgW horW
  obtain ⟨ya, yn, yc, rfl⟩ := form3 hoW
  obtain ⟨hrW, hkW⟩ := HV.out.2.2.2.grown hgW hoW (by simpa using horW)
  have hDW := HV.out.1.db.keep hkW (fun c hc e => by omega)
  have FW := HV.out.1.keep2 hβ hDW hkW (fun c hc => by omega)
  obtain ⟨hMW, hMrW⟩ := hkW.blk HV.out.2.1 HV.out.2.2.1 (by omega)
  clear hoW hgW horW HV
  obtain ⟨FS, hkS⟩ := FW.setSg hβ h3 a1
  have hRS := hrW.keep hkS (by omega)
  have x1' : wW.cell? ⟨mb, 1, none⟩ = some (.int .i64 a1) := cel hMW 1
  have xf := frz FW.bo 2
  have xs2 : wW.cell? ⟨nb, 2, none⟩ = some (.int .i64 f.sg) := cel FW.bo 2
  have xn : nb < wW.heap.size := lt_of FW.bo
  have s0 : (wW.setCell ⟨nb, 2, none⟩ (.int .i64 a1)).cell? ⟨nb, 0, none⟩ = some (.int .i64 f.lp) := cel FS.bo 0
  have s1 : (wW.setCell ⟨nb, 2, none⟩ (.int .i64 a1)).cell? ⟨nb, 1, none⟩ = some (.int .i64 f.it) := cel FS.bo 1
  have s2 : (wW.setCell ⟨nb, 2, none⟩ (.int .i64 a1)).cell? ⟨nb, 2, none⟩ = some (.int .i64 a1) := cel FS.bo 2
  have FZ : FH w0 w _ r _ b (.slice a n cp) β nb _ _ _ _ _ := FS.keep2 hβ (FS.db.role (β + 2) 6 (by omega)) (KX.turn _ (β + 2) 6 _) (fun c hc => by omega)
  have CB0 := begin_of w0 _ _ b _ _ (f.lp, f.it, a1) (ya, yn, yc) ([now] ++ [bv]) FZ.db (hRS.turn recI 6) (Nat.le_trans HAA.out.p (by omega)) (Nat.le_trans HAA.out.n (by omega))
  unfold sl at CB0
  dsimp only at CB0
  have CB := Lib.hid CB0
  have HZ := Lib.hid FZ
  clear CB0 FS hkS hRS FZ FW hMW hrW HF9 HM9 hDW hkW hMrW
  go_wp2_with fail
  refine CB.out.mono ?_
  rintro e wD ⟨vD, rD, xD, rfl, hDD, hkD, hBD⟩
  have FD := HZ.out.keep hβ hDD hkD (fun c hc => by omega)
  have HG : GF w0 w r b (.slice a n cp) L β nb T f.kd f.lp f.it f.ah (.slice ga gn gc) m0 n (mu b n wr) vD (.slice qa qn qc) (.slice la ln lc) wD := by
    rcases hBD with ⟨hl, rfl⟩ | ⟨hl, rfl, pv, nv, us, rfl⟩
    · exact GF.over HFF.out.db HAA.out hnl FD ⟨rfl, rfl, rfl, rfl⟩ rfl (HAA.out.long HY.out hk1 hk2 hcan rfl hl rfl)
    · refine GF.go HFF.out.db HAA.out hnl (FD.now (x.P.length : Int)) ⟨rfl, rfl, rfl, rfl⟩ rfl ?_ hm (Nat.lt_succ_self _)
      have := HAA.out.step HY.out hk1 hk2 hcan (fun _ => hl) (s' := goP T f 11 a1 ⟨T ++ [f], x.P, x.N, x.A⟩) (x' := { x with at_ := x.at_ + 1, pv := pv, nv := nv, us := us, P := x.P ++ [([now] ++ [bv])], N := x.N ++ [(f.lp, f.it, a1)] }) (.go T f rfl (by simp)) HAA.out.ov HAA.out.er rfl (by show _ = x.P ++ [f.now :: _]; rw [if_pos ⟨rfl, hi⟩, hbf, HBV.out, hfn]; rfl) (by show _ = x.N ++ [nodeOf { f with sg := a1 }]; rw [show nodeOf { f with sg := a1 } = (f.lp, f.it, a1) from if_pos h3]) rfl
      have e : (goP T f 11 a1 ⟨T ++ [f], x.P, x.N, x.A⟩).S = T ++ [{ f with pa := f.pa ++ [(f.sg, now)], sg := a1, now := (x.P.length : Int) }] := by unfold goP; rw [hfn]
      rw [e] at this
      exact this
  clear CB hDD hkD hBD FD HZ s0 s1 s2 xf xs2
  go_wp2_with fail
  exact hN _ _ _ _ _ _ _ _ _ _ _ _ _ _ _ _ _ _ _ _ _ _ _ _ _ _ _ _ _ _ _ _ _ _ _ _ _ _ _ _ _ _ _ _ _ _ _ _ _ _ _ _ _ _ _ _ _ _ _ _ _ _ _ _ _ _ _ _ _ _ _ _ _ _ _ _ _ _ _ _ _ _ _ _ _ _ _ _ _ _ _ _ _ _ _ _ _ _ _ _ _ _ _ _ _ _ _ _ _ _ _ _ _ _ _ _ _ _ _ _ _ _ _ _ _ _ _ _ _ _ _ _ _ _ _ _ _ _ _ _ _ _ _ _ _ _ _ _ _ _ _ _ _ _ _ _ _ _ _ _ _ _ _ _ _ _ _ _ _ _ _ _ _ _ _ _ _ _ _ _ _ _ _ _ _ _ _ _ _ _ _ _ _ _ _ HG
end Go.Proofs.Ytgbaaemocnjaoaa.dg
