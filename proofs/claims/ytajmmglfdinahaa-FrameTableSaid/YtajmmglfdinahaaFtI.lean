/- The law FrameTable, its pieces put together: changes, and what is told (layer 16). -/
import Derived.Test.YtajmmglfdinahaaFtH
namespace Go.Proofs.Ytajmmglfdinahaa.ft
open Go.ChangeShapes Go.WideShapes Go.ChangeAt Go.RowKit
open Go.Proofs.Ytajmmglfdinahaa.fr (TS TAt LAt fcs PCAt)
open Go.Proofs.Ytajmmglfdinahaa.ar (AS heldB FreeTo Gd row_keep Same heldB_true)
open Go.Proofs.Ytajmmglfdinahaa.rf (RS RPost Pu KN FS hasB has_of)
open Go.Proofs.Ytajmmglfdinahaa.fr (at_yes at_no tused_of tpeak_of)
open Go.Proofs.Ytajmmglfdinahaa.ro (Ro KX ext ext_lt ext_ge)
attribute [local go_sem ↓] Go.wp_at_zero Go.wp_at_succ
set_option linter.unusedVariables false
set_option linter.unusedSimpArgs false
set_option maxRecDepth 20000 in
set_option maxHeartbeats 4000000 in
theorem fre_of {xI : Int} {a1 : Option Addr} {len cap P S T N Wd Pc sz i : Nat} {O : Nat} {w0 : World} {g A L n t : Nat} {kd nn xx : Int} {u4 u14 u15 u16 u17 u18 u19 u20 u21 u22 u23 u24 u25 u26 u27 u28 u29 u30 u31 u32 u33 u34 u35 u36 u37 u38 u39 u40 u41 u42 u43 u44 u45 u46 u47 u48 u49 u50 u51 u52 u53 u54 u55 u56 u57 u58 u59 u60 u61 u62 u63 u64 u65 u66 u67 u68 u69 u70 u71 u72 u73 u74 u75 u76 u77 u78 u79 u80 u81 u82 u83 u84 u85 u86 u87 u88 u89 u90 u91 u92 u93 u94 u95 u96 u97 u98 u99 u100 u101 u102 u103 u104 u105 u106 u107 u108 u109 u110 u111 u112 u113 u114 u115 u116 u117 u118 u119 u120 u121 u122 u123 u124 u125 u126 u127 u128 u129 u130 u131 u132 u133 u134 u135 u136 u137 u138 u139 u140 u141 u142 u143 u144 u145 u146 u147 u148 u149 u150 u151 u152 u153 u154 u155 u156 u157 u158 u159 u160 u161 u162 u163 u164 u165 u166 u167 u168 u169 u170 u171 u172 u173 u174 u175 u176 u177 u178 u179 u180 u181 u182 u183 u184 u185 u186 u187 u188 u189 u190 u191 u192 u193 u194 u195 u196 u197 u198 u199 u200 u201 u202 u203 u204 u205 u206 u207 u208 u209 u210 u211 u212 u213 u214 u215 u216 u217 u218 u219 u220 u221 u222 u223 u224 u225 u226 u227 u228 u229 u230 u231 u232 u233 u234 u235 u236 u237 u238 u239 u240 u241 u242 u243 u244 u245 u246 u247 u248 u249 u250 u251 u252 u253 u254 u255 u256 u257 u258 u259 u260 u261 u262 u263 u264 u265 u266 u267 u268 u269 u270 u271 u272 u273 u274 u275 u276 u277 u278 u279 u280 : Value} {Q : Exit → Act → World → Prop} {w : World}
    (hn1 : 1 ≤ n) (hn : n ≤ 6) (ht : t ≤ 900) (hsz : 7 + 14 * n = sz) (hL : LT w0 w P S g T A L N Wd Pc n t (some (O, #[.int .i64 kd, .int .i64 nn, .int .i64 xx])))
    (hN : ∀ (v135 v136 v137 v138 v139 v140 v141 v142 v143 : Value)  (w' : World), LT w0 w' P S g T A L N Wd Pc n (t + 1) (some (O, #[.int .i64 kd, .int .i64 nn, .int .i64 xx])) → Q .normal ⟨#[.int .u8 xI, .slice a1 len cap, undef, undef, u4, .pointer (some ⟨P, 0, none⟩), .pointer (some ⟨S, 0, none⟩), .pointer (some ⟨T, 0, none⟩), .pointer (some ⟨N, 0, none⟩), .slice (some ⟨Wd, 0, none⟩) sz sz, .slice (some ⟨Pc, 0, none⟩) 10 10, .pointer none, .int .i64 (i : Int), .pointer (some ⟨O, 0, none⟩), u14, u15, u16, u17, u18, u19, u20, u21, u22, u23, u24, u25, u26, u27, u28, u29, u30, u31, u32, u33, u34, u35, u36, u37, u38, u39, u40, u41, u42, u43, u44, u45, u46, u47, u48, u49, u50, u51, u52, u53, u54, u55, u56, u57, u58, u59, u60, u61, u62, u63, u64, u65, u66, u67, u68, u69, u70, u71, u72, u73, u74, u75, u76, u77, u78, u79, u80, u81, u82, u83, u84, u85, u86, u87, u88, u89, u90, u91, u92, u93, u94, u95, u96, u97, u98, u99, u100, u101, u102, u103, u104, u105, u106, u107, u108, u109, u110, u111, u112, u113, u114, u115, u116, u117, u118, u119, u120, u121, u122, u123, u124, u125, u126, u127, u128, u129, u130, u131, u132, u133, u134, v135, v136, v137, v138, v139, v140, v141, v142, v143, u144, u145, u146, u147, u148, u149, u150, u151, u152, u153, u154, u155, u156, u157, u158, u159, u160, u161, u162, u163, u164, u165, u166, u167, u168, u169, u170, u171, u172, u173, u174, u175, u176, u177, u178, u179, u180, u181, u182, u183, u184, u185, u186, u187, u188, u189, u190, u191, u192, u193, u194, u195, u196, u197, u198, u199, u200, u201, u202, u203, u204, u205, u206, u207, u208, u209, u210, u211, u212, u213, u214, u215, u216, u217, u218, u219, u220, u221, u222, u223, u224, u225, u226, u227, u228, u229, u230, u231, u232, u233, u234, u235, u236, u237, u238, u239, u240, u241, u242, u243, u244, u245, u246, u247, u248, u249, u250, u251, u252, u253, u254, u255, u256, u257, u258, u259, u260, u261, u262, u263, u264, u265, u266, u267, u268, u269, u270, u271, u272, u273, u274, u275, u276, u277, u278, u279, u280], []⟩ w') :
    Code.wp Try.prog q30 Q ⟨#[.int .u8 xI, .slice a1 len cap, undef, undef, u4, .pointer (some ⟨P, 0, none⟩), .pointer (some ⟨S, 0, none⟩), .pointer (some ⟨T, 0, none⟩), .pointer (some ⟨N, 0, none⟩), .slice (some ⟨Wd, 0, none⟩) sz sz, .slice (some ⟨Pc, 0, none⟩) 10 10, .pointer none, .int .i64 (i : Int), .pointer (some ⟨O, 0, none⟩), u14, u15, u16, u17, u18, u19, u20, u21, u22, u23, u24, u25, u26, u27, u28, u29, u30, u31, u32, u33, u34, u35, u36, u37, u38, u39, u40, u41, u42, u43, u44, u45, u46, u47, u48, u49, u50, u51, u52, u53, u54, u55, u56, u57, u58, u59, u60, u61, u62, u63, u64, u65, u66, u67, u68, u69, u70, u71, u72, u73, u74, u75, u76, u77, u78, u79, u80, u81, u82, u83, u84, u85, u86, u87, u88, u89, u90, u91, u92, u93, u94, u95, u96, u97, u98, u99, u100, u101, u102, u103, u104, u105, u106, u107, u108, u109, u110, u111, u112, u113, u114, u115, u116, u117, u118, u119, u120, u121, u122, u123, u124, u125, u126, u127, u128, u129, u130, u131, u132, u133, u134, u135, u136, u137, u138, u139, u140, u141, u142, u143, u144, u145, u146, u147, u148, u149, u150, u151, u152, u153, u154, u155, u156, u157, u158, u159, u160, u161, u162, u163, u164, u165, u166, u167, u168, u169, u170, u171, u172, u173, u174, u175, u176, u177, u178, u179, u180, u181, u182, u183, u184, u185, u186, u187, u188, u189, u190, u191, u192, u193, u194, u195, u196, u197, u198, u199, u200, u201, u202, u203, u204, u205, u206, u207, u208, u209, u210, u211, u212, u213, u214, u215, u216, u217, u218, u219, u220, u221, u222, u223, u224, u225, u226, u227, u228, u229, u230, u231, u232, u233, u234, u235, u236, u237, u238, u239, u240, u241, u242, u243, u244, u245, u246, u247, u248, u249, u250, u251, u252, u253, u254, u255, u256, u257, u258, u259, u260, u261, u262, u263, u264, u265, u266, u267, u268, u269, u270, u271, u272, u273, u274, u275, u276, u277, u278, u279, u280], []⟩ w := by
  obtain ⟨ok, Mid, C1, HM, C2⟩ := fr_pair hL hn (by omega) nn
  obtain ⟨o0, o1, o2⟩ := hL.obx
  exact q30_of (R := fun w' => LT w0 w' P S g T A L N Wd Pc n (t + 1) (some (O, #[.int .i64 kd, .int .i64 nn, .int .i64 xx]))) o1 C1 (Lib.hid fun w' h => (ob_cells (HM.out w' h _ _ rfl)).2.1) C2 (Lib.hid fun w' h => (LT.obx h).2.1) hN
section
variable {w0 w w' : World} {P S g T A L N Wd Pc n t : Nat} {ob : Option (Nat × Array Value)}
/-- whether a number is held: both sides. -/
theorem LT.ask (h : LT w0 w P S g T A L N Wd Pc n t ob) (hn : n ≤ 6) (id : Int) : ∃ (vtv : Value) (b : Bool), w.cell? ⟨N, 2, none⟩ = some vtv ∧ Hid (∀ W, Below w.heap.size w W → Calls Try.prog 21 #[vtv, .int .i64 id] W fun e w' => e = .returned (.bool b) ∧ w' = W) ∧
    ((b = false ∧ Hid (∀ W, Below w.heap.size w W → Calls Try.prog 53 #[.pointer (some ⟨T, 0, none⟩), .int .i64 id] W fun e w' => e = .returned (.pointer none) ∧ w' = W)) ∨
     (b = true ∧ ∃ (j q : Nat) (pc : Int), id = ((j + 1 : Nat) : Int) ∧ j < n ∧ Hid (∀ W, Below w.heap.size w W → Calls Try.prog 53 #[.pointer (some ⟨T, 0, none⟩), .int .i64 id] W fun e w' => e = .returned (.pointer (some ⟨q, 0, none⟩)) ∧ w' = W) ∧
       (∀ W, Below w.heap.size w W → W.cell? ⟨q, 2, none⟩ = some (.int .i64 pc) ∧ W.frozen? ⟨q, 2, none⟩ = false ∧ W.cell? ⟨Pc, j + 1, none⟩ = some (.int .i64 pc) ∧ W.frozen? ⟨Pc, j + 1, none⟩ = false) ∧
       (∀ W x, Below w.heap.size w W → LT w0 ((W.setCell ⟨q, 2, none⟩ (.int .i64 x)).setCell ⟨Pc, j + 1, none⟩ (.int .i64 x)) P S g T A L N Wd Pc n t ob ∧ (W.setCell ⟨q, 2, none⟩ (.int .i64 x)).cell? ⟨Pc, j + 1, none⟩ = some (.int .i64 pc) ∧ (W.setCell ⟨q, 2, none⟩ (.int .i64 x)).frozen? ⟨Pc, j + 1, none⟩ = false ∧ ∀ B cs, ob = some (B, cs) → (W.setCell ⟨q, 2, none⟩ (.int .i64 x)).heap[B]? = some (.cells cs 78 (0, 0))))) := by
  obtain ⟨ρ, xs, ps, pcl, p, hv, bv, vb, vt, hs, bk, tk, F, h, hp, hbt, hF⟩ := h
  have hle := hp.gd.le
  have hlen := hp.len
  have hcl := cnt_le hs
  refine ⟨vt, hasB tk id, h.r.cells.2.2.1, Lib.hid fun W hb => has_of vt tk id W (h.r.t.below hb) (by omega), ?_⟩
  rw [hp.mem]
  cases hh : heldB hs id
  · exact .inl ⟨rfl, Lib.hid fun W hb => at_no id w0 W _ T S g A L n xs ps p hv bv hs bk (h.below hb).ts (by omega) hh⟩
  · obtain ⟨j, rfl, hj, hjl⟩ := heldB_true hh
    obtain ⟨q, e1, e2, e3⟩ := h.f j hj
    refine .inr ⟨rfl, j, q, F j, by push_cast; rfl, by omega, Lib.hid fun W hb => at_yes j w0 W _ T S g A L n xs ps p hv bv hs bk (h.below hb).ts (by omega) hh (by omega) (by omega) q (Lib.hid e1), fun W hb => ?_, fun W x hb => ?_⟩
    · have e4 := (hb.block q (lt_of_heap e3)).trans e3
      have e5 := (hb.block Pc (lt_of_heap h.pc)).trans h.pc
      have r1 := row_cell e5 (j + 1) (by rw [h.lp]; omega)
      rw [← hF j hj] at r1
      exact ⟨by simp [World.cell?, e4, fcs], by simp [World.frozen?, e4], r1.1, r1.2⟩
    · have hW := h.below hb
      have h1 := hW.setF hj e1 x
      have r1 := row_cell h1.pc (j + 1) (by rw [h.lp]; omega)
      rw [← hF j hj] at r1
      refine ⟨⟨_, xs, ps, _, p, hv, bv, vb, vt, hs, bk, tk, _, h1.setPc (j + 1) x, hp, hbt, fun i hi => ?_⟩, r1.1, r1.2, fun B cs e => (h1.o B cs e).1⟩
      by_cases e : i = j
      · subst e
        rw [if_pos rfl, List.getD_eq_getElem?_getD, List.getElem?_set_self (by rw [h.lp]; omega)]
        rfl
      · rw [if_neg e, hF i hi, List.getD_eq_getElem?_getD, List.getD_eq_getElem?_getD, List.getElem?_set_ne (by omega)]
theorem LT.plan (h : LT w0 w P S g T A L N Wd Pc n t ob) : PCAt w P (n : Int) := by
  obtain ⟨ρ, xs, ps, pcl, p, hv, bv, vb, vt, hs, bk, tk, F, h, h1⟩ := h
  exact h.pl
/-- a word that is stored on both sides. -/
theorem LT.put (h : LT w0 w P S g T A L N Wd Pc n t ob) (hn : n ≤ 6) (ax : Nat) (x : Int) (hax : ax < 7 + 14 * n) :
    Hid (Calls Try.prog 54 #[.pointer (some ⟨S, 0, none⟩), .int .i64 (ax : Int), .int .i64 x] w fun e w' => e = .returned (.bool true) ∧ Hid (w' = w.setCell ⟨g, ax, none⟩ (.int .i64 x))) ∧
    (∀ B cs, ob = some (B, cs) → (w.setCell ⟨g, ax, none⟩ (.int .i64 x)).heap[B]? = some (.cells cs 78 (0, 0))) ∧ (∃ v, (w.setCell ⟨g, ax, none⟩ (.int .i64 x)).cell? ⟨Wd, ax, none⟩ = some v ∧ (w.setCell ⟨g, ax, none⟩ (.int .i64 x)).frozen? ⟨Wd, ax, none⟩ = false) ∧ LT w0 ((w.setCell ⟨g, ax, none⟩ (.int .i64 x)).setCell ⟨Wd, ax, none⟩ (.int .i64 x)) P S g T A L N Wd Pc n t ob := by
  obtain ⟨ρ, xs, ps, pcl, p, hv, bv, vb, vt, hs, bk, tk, F, h, hp, hbt, hF⟩ := h
  have h1 := h.store ax x
  have r1 := row_cell h1.wd ax (by rw [h.ly]; exact hax)
  refine ⟨Lib.hid ((store_in S g xs ax x w h.ts.j.1 (by rw [h.lx]; exact hax) (by rw [h.lx]; omega)).mono fun e w' hh => ⟨hh.1, Lib.hid hh.2.symm⟩), fun B cs e => (h1.o B cs e).1, ⟨_, r1⟩, _, _, ps, pcl, p, hv, bv, vb, vt, hs, bk, tk, F, h1.setWd ax x, hp, hbt, hF⟩
/-- what is told of all. -/
theorem LT.told (h : LT w0 w P S g T A L N Wd Pc n t ob) (hn : n ≤ 6) {sz : Nat} (hsz : 7 + 14 * n = sz) : ∃ (va : Option Addr) (cn vc : Nat) (pk : Int) (VX : Value → World → Prop), w.cell? ⟨N, 2, none⟩ = some (.slice va cn vc) ∧ w.cell? ⟨N, 4, none⟩ = some (.int .i64 pk) ∧
    Hid (∀ W, Below w.heap.size w W → Calls Try.prog 55 #[.pointer (some ⟨T, 0, none⟩)] W fun e w' => e = .returned (.int .i64 (cn : Int)) ∧ Below w.heap.size w w') ∧
    Hid (∀ W, Below w.heap.size w W → Calls Try.prog 56 #[.pointer (some ⟨T, 0, none⟩)] W fun e w' => e = .returned (.int .i64 pk) ∧ w' = W) ∧
    Hid (∀ W, Below w.heap.size w W → Calls Try.prog 57 #[.pointer (some ⟨S, 0, none⟩)] W fun e w' => ∃ v, e = .returned v ∧ Hid (VX v w') ∧ Below w.heap.size w w') ∧
    Hid (∀ W v, VX v W → Below w.heap.size w W → Calls Try.prog 23 #[v, .slice (some ⟨Wd, 0, none⟩) sz sz] W fun e w' => e = .returned (.bool true) ∧ Below w.heap.size w w') := by
  obtain ⟨ρ, xs, ps, pcl, p, hv, bv, vb, vt, hs, bk, tk, F, h, hp, hbt, hF⟩ := h
  have hle := hp.gd.le
  have hlen := hp.len
  obtain ⟨va, vc, hvt, _⟩ := id h.r.t
  refine ⟨va, tk.length, vc, p, fun v W => View W v xs, by rw [← hvt]; exact h.r.cells.2.2.1, h.r.cells.2.2.2.2.1, Lib.hid fun W hb => ?_, Lib.hid fun W hb => tpeak_of w0 W _ T S g A L n xs ps p hv bv hs bk (h.below hb).ts, Lib.hid fun W hb => ?_, Lib.hid fun W v hv' hb => ?_⟩
  · rw [hlen]
    exact (tused_of w0 W _ T S g A L n xs ps p hv bv hs bk (h.below hb).ts (by omega)).mono fun e w' hh => ⟨hh.1, hb.trans (hh.2.mono hb.size)⟩
  · exact (all_any S g xs W (h.ts.j.1.below hb) (by rw [h.lx]; omega)).mono fun e w' hh => by
      obtain ⟨v, h1, h2, h3⟩ := hh
      exact ⟨v, h1, Lib.hid (view_of_own h2), hb.trans (h3.mono hb.size)⟩
  · have hW2 := h.below hb
    have hV : View W (.slice (some ⟨Wd, 0, none⟩) sz sz) xs := by
      have hl : xs.length = sz := by rw [h.lx]; exact hsz
      rw [← hl]
      exact view_of_cells (fun i hi => (row_cell hW2.wd i hi).1) (lt_of_heap hW2.wd) (Nat.le_refl _) (by unfold maxLen; rw [h.lx]; omega)
    exact (ints_any v _ xs xs W hv' hV).mono fun e w' hh => by
      obtain ⟨h1, m, h2⟩ := hh
      exact ⟨by rw [h1]; simp, by rw [h2]; exact hb.trans ((show Below W.heap.size W (W.drewN m) from ⟨rfl, rfl, rfl, Nat.le_refl _, fun _ _ => rfl⟩).mono hb.size)⟩
end
set_option maxRecDepth 20000 in
set_option maxHeartbeats 4000000 in
theorem cg_of {xI : Int} {a1 : Option Addr} {len cap P S T N Wd Pc sz i : Nat} {O : Nat} {w0 : World} {g A L n t : Nat} {kd nn xx : Int} {j q : Nat} {pc : Int} {u4 u14 u15 u16 u17 u18 u19 u20 u21 u22 u23 u24 u25 u26 u27 u28 u29 u30 u31 u32 u33 u34 u35 u36 u37 u38 u39 u40 u41 u42 u43 u44 u45 u46 u47 u48 u49 u50 u51 u52 u53 u54 u55 u56 u57 u58 u59 u60 u61 u62 u63 u64 u65 u66 u67 u68 u69 u70 u71 u72 u73 u74 u75 u76 u77 u78 u79 u80 u81 u82 u83 u84 u85 u86 u87 u88 u89 u90 u91 u92 u93 u94 u95 u96 u97 u98 u99 u100 u101 u102 u103 u104 u105 u106 u107 u108 u109 u110 u111 u112 u113 u114 u115 u116 u117 u118 u119 u120 u121 u122 u123 u124 u125 u126 u127 u128 u129 u130 u131 u132 u133 u134 u135 u136 u137 u138 u139 u140 u141 u142 u143 u144 u145 u146 u147 u148 u149 u150 u151 u152 u153 u154 u155 u156 u157 u158 u159 u160 u161 u162 u163 u164 u165 u166 u167 u168 u169 u170 u171 u172 u173 u174 u175 u176 u177 u178 u179 u180 u181 u182 u183 u184 u185 u186 u187 u188 u189 u190 u191 u192 u193 u194 u195 u196 u197 u198 u199 u200 u201 u202 u203 u204 u205 u206 u207 u208 u209 u210 u211 u212 u213 u214 u215 u216 u217 u218 u219 u220 u221 u222 u223 u224 u225 u226 u227 u228 u229 u230 u231 u232 u233 u234 u235 u236 u237 u238 u239 u240 u241 u242 u243 u244 u245 u246 u247 u248 u249 u250 u251 u252 u253 u254 u255 u256 u257 u258 u259 u260 u261 u262 u263 u264 u265 u266 u267 u268 u269 u270 u271 u272 u273 u274 u275 u276 u277 u278 u279 u280 : Value} {Q : Exit → Act → World → Prop} {w : World}
    (hn1 : 1 ≤ n) (hn : n ≤ 6) (ht : t ≤ 900) (hsz : 7 + 14 * n = sz) (hL : LT w0 w P S g T A L N Wd Pc n t (some (O, #[.int .i64 kd, .int .i64 nn, .int .i64 xx]))) (hnn : nn = ((j + 1 : Nat) : Int)) (hj : j < n) (CA : Hid (Calls Try.prog 53 #[.pointer (some ⟨T, 0, none⟩), .int .i64 nn] w fun e w' => e = .returned (.pointer (some ⟨q, 0, none⟩)) ∧ w' = w)) (HF1 : w.cell? ⟨q, 2, none⟩ = some (.int .i64 pc) ∧ w.frozen? ⟨q, 2, none⟩ = false) (HF2 : LT w0 ((w.setCell ⟨q, 2, none⟩ (.int .i64 xx)).setCell ⟨Pc, j + 1, none⟩ (.int .i64 xx)) P S g T A L N Wd Pc n t (some (O, #[.int .i64 kd, .int .i64 nn, .int .i64 xx])) ∧ (w.setCell ⟨q, 2, none⟩ (.int .i64 xx)).cell? ⟨Pc, j + 1, none⟩ = some (.int .i64 pc) ∧ (w.setCell ⟨q, 2, none⟩ (.int .i64 xx)).frozen? ⟨Pc, j + 1, none⟩ = false ∧ ∀ B cs, (some (O, #[.int .i64 kd, .int .i64 nn, .int .i64 xx])) = some (B, cs) → (w.setCell ⟨q, 2, none⟩ (.int .i64 xx)).heap[B]? = some (.cells cs 78 (0, 0)))
    (hN : ∀ (v19 v20 v152 v153 v154 v155 v156 v157 v158 v159 v160 v161 v162 v163 v164 v165 v166 v167 v168 v169 v170 v171 v172 v173 v174 v175 v176 v177 v178 v179 v180 v181 v182 v183 v184 v185 v186 v187 v188 v189 v190 v191 v192 v193 v194 v195 v196 v197 v198 v199 : Value)  (w' : World), LT w0 w' P S g T A L N Wd Pc n t (some (O, #[.int .i64 kd, .int .i64 nn, .int .i64 xx])) → Q .normal ⟨#[.int .u8 xI, .slice a1 len cap, undef, undef, u4, .pointer (some ⟨P, 0, none⟩), .pointer (some ⟨S, 0, none⟩), .pointer (some ⟨T, 0, none⟩), .pointer (some ⟨N, 0, none⟩), .slice (some ⟨Wd, 0, none⟩) sz sz, .slice (some ⟨Pc, 0, none⟩) 10 10, .pointer none, .int .i64 (i : Int), .pointer (some ⟨O, 0, none⟩), u14, u15, u16, u17, u18, v19, v20, u21, u22, u23, u24, u25, u26, u27, u28, u29, u30, u31, u32, u33, u34, u35, u36, u37, u38, u39, u40, u41, u42, u43, u44, u45, u46, u47, u48, u49, u50, u51, u52, u53, u54, u55, u56, u57, u58, u59, u60, u61, u62, u63, u64, u65, u66, u67, u68, u69, u70, u71, u72, u73, u74, u75, u76, u77, u78, u79, u80, u81, u82, u83, u84, u85, u86, u87, u88, u89, u90, u91, u92, u93, u94, u95, u96, u97, u98, u99, u100, u101, u102, u103, u104, u105, u106, u107, u108, u109, u110, u111, u112, u113, u114, u115, u116, u117, u118, u119, u120, u121, u122, u123, u124, u125, u126, u127, u128, u129, u130, u131, u132, u133, u134, u135, u136, u137, u138, u139, u140, u141, u142, u143, u144, u145, u146, u147, u148, u149, u150, u151, v152, v153, v154, v155, v156, v157, v158, v159, v160, v161, v162, v163, v164, v165, v166, v167, v168, v169, v170, v171, v172, v173, v174, v175, v176, v177, v178, v179, v180, v181, v182, v183, v184, v185, v186, v187, v188, v189, v190, v191, v192, v193, v194, v195, v196, v197, v198, v199, u200, u201, u202, u203, u204, u205, u206, u207, u208, u209, u210, u211, u212, u213, u214, u215, u216, u217, u218, u219, u220, u221, u222, u223, u224, u225, u226, u227, u228, u229, u230, u231, u232, u233, u234, u235, u236, u237, u238, u239, u240, u241, u242, u243, u244, u245, u246, u247, u248, u249, u250, u251, u252, u253, u254, u255, u256, u257, u258, u259, u260, u261, u262, u263, u264, u265, u266, u267, u268, u269, u270, u271, u272, u273, u274, u275, u276, u277, u278, u279, u280], []⟩ w') :
    Code.wp Try.prog cg Q ⟨#[.int .u8 xI, .slice a1 len cap, undef, undef, u4, .pointer (some ⟨P, 0, none⟩), .pointer (some ⟨S, 0, none⟩), .pointer (some ⟨T, 0, none⟩), .pointer (some ⟨N, 0, none⟩), .slice (some ⟨Wd, 0, none⟩) sz sz, .slice (some ⟨Pc, 0, none⟩) 10 10, .pointer none, .int .i64 (i : Int), .pointer (some ⟨O, 0, none⟩), u14, u15, u16, u17, u18, u19, u20, u21, u22, u23, u24, u25, u26, u27, u28, u29, u30, u31, u32, u33, u34, u35, u36, u37, u38, u39, u40, u41, u42, u43, u44, u45, u46, u47, u48, u49, u50, u51, u52, u53, u54, u55, u56, u57, u58, u59, u60, u61, u62, u63, u64, u65, u66, u67, u68, u69, u70, u71, u72, u73, u74, u75, u76, u77, u78, u79, u80, u81, u82, u83, u84, u85, u86, u87, u88, u89, u90, u91, u92, u93, u94, u95, u96, u97, u98, u99, u100, u101, u102, u103, u104, u105, u106, u107, u108, u109, u110, u111, u112, u113, u114, u115, u116, u117, u118, u119, u120, u121, u122, u123, u124, u125, u126, u127, u128, u129, u130, u131, u132, u133, u134, u135, u136, u137, u138, u139, u140, u141, u142, u143, u144, u145, u146, u147, u148, u149, u150, u151, u152, u153, u154, u155, u156, u157, u158, u159, u160, u161, u162, u163, u164, u165, u166, u167, u168, u169, u170, u171, u172, u173, u174, u175, u176, u177, u178, u179, u180, u181, u182, u183, u184, u185, u186, u187, u188, u189, u190, u191, u192, u193, u194, u195, u196, u197, u198, u199, u200, u201, u202, u203, u204, u205, u206, u207, u208, u209, u210, u211, u212, u213, u214, u215, u216, u217, u218, u219, u220, u221, u222, u223, u224, u225, u226, u227, u228, u229, u230, u231, u232, u233, u234, u235, u236, u237, u238, u239, u240, u241, u242, u243, u244, u245, u246, u247, u248, u249, u250, u251, u252, u253, u254, u255, u256, u257, u258, u259, u260, u261, u262, u263, u264, u265, u266, u267, u268, u269, u270, u271, u272, u273, u274, u275, u276, u277, u278, u279, u280], []⟩ w := by
  obtain ⟨o0, o1, o2⟩ := hL.obx
  subst hnn
  rw [cg_eq]
  refine wp_seq ?_
  refine q33_of o1 CA ?_
  intro v152 v153 v154 v155 w1 hw1
  subst hw1
  change Code.wp Try.prog (.seq q34 (.seq q36 (.cond (.tmp 160) c4 c5))) _ _ _
  refine wp_seq ?_
  refine q34_of ?_
  intro v156 v157 w1 hw1
  subst hw1
  change Code.wp Try.prog (.seq q36 (.cond (.tmp 160) c4 c5)) _ _ _
  refine wp_seq ?_
  by_cases hk : kd = 4
  · refine q36_eq o0 hk ?_
    intro v158 v159 w1 hw1
    subst hw1
    change Code.wp Try.prog (.cond (.tmp 160) c4 c5) _ _ _
    refine wp_cond_true rfl ?_
    rw [c4_eq]
    refine wp_seq ?_
    refine q37_of o2 HF1.1 HF1.2 ?_
    intro v161 v162 v163 v164 v165 w2 hw2
    subst hw2
    obtain ⟨_, a1, a2⟩ := ob_cells (HF2.2.2.2 _ _ rfl)
    change Code.wp Try.prog q38 _ _ _
    refine q38_of (by omega) a1 a2 HF2.2.1 HF2.2.2.1 ?_
    intro v166 v167 v168 v169 v170 v171 w3 hw3
    subst hw3
    exact hN _ _ _ _ _ _ _ _ _ _ _ _ _ _ _ _ _ _ _ _ _ _ _ _ _ _ _ _ _ _ _ _ _ _ _ _ _ _ _ _ _ _ _ _ _ _ _ _ _ _ _ HF2.1
  · refine q36_ne o0 hk ?_
    intro v158 v159 w1 hw1
    subst hw1
    change Code.wp Try.prog (.cond (.tmp 160) c4 c5) _ _ _
    refine wp_cond_false rfl ?_
    rw [c5_eq]
    refine wp_seq ?_
    obtain ⟨p0, p1, p2, p3⟩ := PCAt.cells hL.plan
    obtain ⟨ux, hux⟩ : ∃ ux, IntKind.u64.wrap xx = ux := ⟨_, rfl⟩
    have hu0 : 0 ≤ ux ∧ ux < 18446744073709551616 := by rw [← hux, IntKind.wrap_u64]; omega
    obtain ⟨r, hr⟩ : ∃ r : Nat, ux.tmod 14 = (r : Int) := ⟨(ux.tmod 14).toNat, by rw [Int.tmod_eq_emod_of_nonneg hu0.1]; omega⟩
    have hr14 : r < 14 := by rw [Int.tmod_eq_emod_of_nonneg hu0.1] at hr; omega
    refine q39_of (n := n) (id := j + 1) (fa := 7 + 14 * j) (r := r) (by omega) hr14 hux hr p0 p1 p2 p3 o1 o2 (Lib.hid fun W hb => (cfr n (j + 1) W hn1 hn (by omega) (by omega)).mono fun e w' h => ⟨h.1, hb.trans (h.2.mono hb.size)⟩) ?_
    intro v172 v173 v174 v175 v176 v177 v178 v179 v180 v181 w2 hb2
    have hL2 := hL.below hb2
    obtain ⟨_, _, o2'⟩ := hL2.obx
    obtain ⟨C, hO, ⟨cv, z0, z1⟩, hL3⟩ := hL2.put hn (7 + 14 * j + r) xx (by omega)
    change Code.wp Try.prog (.seq q40 (.seq q42 q43)) _ _ _
    refine wp_seq ?_
    refine q40_of (by omega) ?_
    intro v182 v183 v184 v185 v186 v187 v188 v189 w3 hw3
    subst hw3
    change Code.wp Try.prog (.seq q42 q43) _ _ _
    refine wp_seq ?_
    refine q42_of (R := fun w' => w' = w3.setCell ⟨g, 7 + 14 * j + r, none⟩ (.int .i64 xx)) o2' C ?_
    intro v190 v191 v192 v193 v194 w4 hw4
    subst hw4
    obtain ⟨_, _, a2⟩ := ob_cells (hO _ _ rfl)
    change Code.wp Try.prog q43 _ _ _
    refine q43_of (by omega) a2 z0 z1 ?_
    intro v195 v196 v197 v198 v199 w5 hw5
    subst hw5
    exact hN _ _ _ _ _ _ _ _ _ _ _ _ _ _ _ _ _ _ _ _ _ _ _ _ _ _ _ _ _ _ _ _ _ _ _ _ _ _ _ _ _ _ _ _ _ _ _ _ _ _ _ hL3
set_option maxRecDepth 20000 in
set_option maxHeartbeats 4000000 in
theorem sw3_of {xI : Int} {a1 : Option Addr} {len cap P S T N Wd Pc sz i : Nat} {O : Nat} {w0 : World} {g A L n t : Nat} {kd nn xx : Int} {u4 u14 u15 u16 u17 u18 u19 u20 u21 u22 u23 u24 u25 u26 u27 u28 u29 u30 u31 u32 u33 u34 u35 u36 u37 u38 u39 u40 u41 u42 u43 u44 u45 u46 u47 u48 u49 u50 u51 u52 u53 u54 u55 u56 u57 u58 u59 u60 u61 u62 u63 u64 u65 u66 u67 u68 u69 u70 u71 u72 u73 u74 u75 u76 u77 u78 u79 u80 u81 u82 u83 u84 u85 u86 u87 u88 u89 u90 u91 u92 u93 u94 u95 u96 u97 u98 u99 u100 u101 u102 u103 u104 u105 u106 u107 u108 u109 u110 u111 u112 u113 u114 u115 u116 u117 u118 u119 u120 u121 u122 u123 u124 u125 u126 u127 u128 u129 u130 u131 u132 u133 u134 u135 u136 u137 u138 u139 u140 u141 u142 u143 u144 u145 u146 u147 u148 u149 u150 u151 u152 u153 u154 u155 u156 u157 u158 u159 u160 u161 u162 u163 u164 u165 u166 u167 u168 u169 u170 u171 u172 u173 u174 u175 u176 u177 u178 u179 u180 u181 u182 u183 u184 u185 u186 u187 u188 u189 u190 u191 u192 u193 u194 u195 u196 u197 u198 u199 u200 u201 u202 u203 u204 u205 u206 u207 u208 u209 u210 u211 u212 u213 u214 u215 u216 u217 u218 u219 u220 u221 u222 u223 u224 u225 u226 u227 u228 u229 u230 u231 u232 u233 u234 u235 u236 u237 u238 u239 u240 u241 u242 u243 u244 u245 u246 u247 u248 u249 u250 u251 u252 u253 u254 u255 u256 u257 u258 u259 u260 u261 u262 u263 u264 u265 u266 u267 u268 u269 u270 u271 u272 u273 u274 u275 u276 u277 u278 u279 u280 : Value} {Q : Exit → Act → World → Prop} {w : World}
    (hn1 : 1 ≤ n) (hn : n ≤ 6) (ht : t ≤ 900) (hsz : 7 + 14 * n = sz) (hL : LT w0 w P S g T A L N Wd Pc n t (some (O, #[.int .i64 kd, .int .i64 nn, .int .i64 xx])))
    (hN : ∀ (v19 v20 v144 v145 v146 v147 v148 v149 v150 v151 v152 v153 v154 v155 v156 v157 v158 v159 v160 v161 v162 v163 v164 v165 v166 v167 v168 v169 v170 v171 v172 v173 v174 v175 v176 v177 v178 v179 v180 v181 v182 v183 v184 v185 v186 v187 v188 v189 v190 v191 v192 v193 v194 v195 v196 v197 v198 v199 : Value)  (w' : World), LT w0 w' P S g T A L N Wd Pc n t (some (O, #[.int .i64 kd, .int .i64 nn, .int .i64 xx])) → Q .normal ⟨#[.int .u8 xI, .slice a1 len cap, undef, undef, u4, .pointer (some ⟨P, 0, none⟩), .pointer (some ⟨S, 0, none⟩), .pointer (some ⟨T, 0, none⟩), .pointer (some ⟨N, 0, none⟩), .slice (some ⟨Wd, 0, none⟩) sz sz, .slice (some ⟨Pc, 0, none⟩) 10 10, .pointer none, .int .i64 (i : Int), .pointer (some ⟨O, 0, none⟩), u14, u15, u16, u17, u18, v19, v20, u21, u22, u23, u24, u25, u26, u27, u28, u29, u30, u31, u32, u33, u34, u35, u36, u37, u38, u39, u40, u41, u42, u43, u44, u45, u46, u47, u48, u49, u50, u51, u52, u53, u54, u55, u56, u57, u58, u59, u60, u61, u62, u63, u64, u65, u66, u67, u68, u69, u70, u71, u72, u73, u74, u75, u76, u77, u78, u79, u80, u81, u82, u83, u84, u85, u86, u87, u88, u89, u90, u91, u92, u93, u94, u95, u96, u97, u98, u99, u100, u101, u102, u103, u104, u105, u106, u107, u108, u109, u110, u111, u112, u113, u114, u115, u116, u117, u118, u119, u120, u121, u122, u123, u124, u125, u126, u127, u128, u129, u130, u131, u132, u133, u134, u135, u136, u137, u138, u139, u140, u141, u142, u143, v144, v145, v146, v147, v148, v149, v150, v151, v152, v153, v154, v155, v156, v157, v158, v159, v160, v161, v162, v163, v164, v165, v166, v167, v168, v169, v170, v171, v172, v173, v174, v175, v176, v177, v178, v179, v180, v181, v182, v183, v184, v185, v186, v187, v188, v189, v190, v191, v192, v193, v194, v195, v196, v197, v198, v199, u200, u201, u202, u203, u204, u205, u206, u207, u208, u209, u210, u211, u212, u213, u214, u215, u216, u217, u218, u219, u220, u221, u222, u223, u224, u225, u226, u227, u228, u229, u230, u231, u232, u233, u234, u235, u236, u237, u238, u239, u240, u241, u242, u243, u244, u245, u246, u247, u248, u249, u250, u251, u252, u253, u254, u255, u256, u257, u258, u259, u260, u261, u262, u263, u264, u265, u266, u267, u268, u269, u270, u271, u272, u273, u274, u275, u276, u277, u278, u279, u280], []⟩ w') :
    Code.wp Try.prog sw3 Q ⟨#[.int .u8 xI, .slice a1 len cap, undef, undef, u4, .pointer (some ⟨P, 0, none⟩), .pointer (some ⟨S, 0, none⟩), .pointer (some ⟨T, 0, none⟩), .pointer (some ⟨N, 0, none⟩), .slice (some ⟨Wd, 0, none⟩) sz sz, .slice (some ⟨Pc, 0, none⟩) 10 10, .pointer none, .int .i64 (i : Int), .pointer (some ⟨O, 0, none⟩), u14, u15, u16, u17, u18, u19, u20, u21, u22, u23, u24, u25, u26, u27, u28, u29, u30, u31, u32, u33, u34, u35, u36, u37, u38, u39, u40, u41, u42, u43, u44, u45, u46, u47, u48, u49, u50, u51, u52, u53, u54, u55, u56, u57, u58, u59, u60, u61, u62, u63, u64, u65, u66, u67, u68, u69, u70, u71, u72, u73, u74, u75, u76, u77, u78, u79, u80, u81, u82, u83, u84, u85, u86, u87, u88, u89, u90, u91, u92, u93, u94, u95, u96, u97, u98, u99, u100, u101, u102, u103, u104, u105, u106, u107, u108, u109, u110, u111, u112, u113, u114, u115, u116, u117, u118, u119, u120, u121, u122, u123, u124, u125, u126, u127, u128, u129, u130, u131, u132, u133, u134, u135, u136, u137, u138, u139, u140, u141, u142, u143, u144, u145, u146, u147, u148, u149, u150, u151, u152, u153, u154, u155, u156, u157, u158, u159, u160, u161, u162, u163, u164, u165, u166, u167, u168, u169, u170, u171, u172, u173, u174, u175, u176, u177, u178, u179, u180, u181, u182, u183, u184, u185, u186, u187, u188, u189, u190, u191, u192, u193, u194, u195, u196, u197, u198, u199, u200, u201, u202, u203, u204, u205, u206, u207, u208, u209, u210, u211, u212, u213, u214, u215, u216, u217, u218, u219, u220, u221, u222, u223, u224, u225, u226, u227, u228, u229, u230, u231, u232, u233, u234, u235, u236, u237, u238, u239, u240, u241, u242, u243, u244, u245, u246, u247, u248, u249, u250, u251, u252, u253, u254, u255, u256, u257, u258, u259, u260, u261, u262, u263, u264, u265, u266, u267, u268, u269, u270, u271, u272, u273, u274, u275, u276, u277, u278, u279, u280], []⟩ w := by
  obtain ⟨vtv, b, c2, C1, hor⟩ := hL.ask hn nn
  obtain ⟨o0, o1, o2⟩ := hL.obx
  rw [sw3_eq]
  refine wp_seq ?_
  refine q32_of c2 o1 C1 ?_
  intro v145 v146 v147 v148 v149 v150 v151 w1 hb1
  have hL1 := hL.below hb1
  change Code.wp Try.prog (.cond (.tmp 144) cg .skip) _ _ _
  rcases hor with ⟨rfl, _⟩ | ⟨rfl, j, q, pc, hnn, hj, CA, H1, H2⟩
  · refine wp_cond_false rfl ?_
    refine wp_skip ?_
    exact hN _ _ _ _ _ _ _ _ _ _ _ _ _ _ _ _ _ _ _ _ _ _ _ _ _ _ _ _ _ _ _ _ _ _ _ _ _ _ _ _ _ _ _ _ _ _ _ _ _ _ _ _ _ _ _ _ _ _ _ hL1
  · refine wp_cond_true rfl ?_
    refine cg_of hn1 hn ht hsz hL1 hnn hj (Lib.hid (CA.out w1 hb1)) ⟨(H1 w1 hb1).1, (H1 w1 hb1).2.1⟩ (H2 w1 xx hb1) ?_
    intro v19 v20 v152 v153 v154 v155 v156 v157 v158 v159 v160 v161 v162 v163 v164 v165 v166 v167 v168 v169 v170 v171 v172 v173 v174 v175 v176 v177 v178 v179 v180 v181 v182 v183 v184 v185 v186 v187 v188 v189 v190 v191 v192 v193 v194 v195 v196 v197 v198 v199 w2 hL2
    exact hN _ _ _ _ _ _ _ _ _ _ _ _ _ _ _ _ _ _ _ _ _ _ _ _ _ _ _ _ _ _ _ _ _ _ _ _ _ _ _ _ _ _ _ _ _ _ _ _ _ _ _ _ _ _ _ _ _ _ _ hL2
set_option maxRecDepth 20000 in
set_option maxHeartbeats 4000000 in
theorem sw_of {xI : Int} {a1 : Option Addr} {len cap P S T N Wd Pc sz i : Nat} {O : Nat} {w0 : World} {g A L n t : Nat} {kd nn xx : Int} {u4 u14 u15 u16 u17 u18 u19 u20 u21 u22 u23 u24 u25 u26 u27 u28 u29 u30 u31 u32 u33 u34 u35 u36 u37 u38 u39 u40 u41 u42 u43 u44 u45 u46 u47 u48 u49 u50 u51 u52 u53 u54 u55 u56 u57 u58 u59 u60 u61 u62 u63 u64 u65 u66 u67 u68 u69 u70 u71 u72 u73 u74 u75 u76 u77 u78 u79 u80 u81 u82 u83 u84 u85 u86 u87 u88 u89 u90 u91 u92 u93 u94 u95 u96 u97 u98 u99 u100 u101 u102 u103 u104 u105 u106 u107 u108 u109 u110 u111 u112 u113 u114 u115 u116 u117 u118 u119 u120 u121 u122 u123 u124 u125 u126 u127 u128 u129 u130 u131 u132 u133 u134 u135 u136 u137 u138 u139 u140 u141 u142 u143 u144 u145 u146 u147 u148 u149 u150 u151 u152 u153 u154 u155 u156 u157 u158 u159 u160 u161 u162 u163 u164 u165 u166 u167 u168 u169 u170 u171 u172 u173 u174 u175 u176 u177 u178 u179 u180 u181 u182 u183 u184 u185 u186 u187 u188 u189 u190 u191 u192 u193 u194 u195 u196 u197 u198 u199 u200 u201 u202 u203 u204 u205 u206 u207 u208 u209 u210 u211 u212 u213 u214 u215 u216 u217 u218 u219 u220 u221 u222 u223 u224 u225 u226 u227 u228 u229 u230 u231 u232 u233 u234 u235 u236 u237 u238 u239 u240 u241 u242 u243 u244 u245 u246 u247 u248 u249 u250 u251 u252 u253 u254 u255 u256 u257 u258 u259 u260 u261 u262 u263 u264 u265 u266 u267 u268 u269 u270 u271 u272 u273 u274 u275 u276 u277 u278 u279 u280 : Value} {Q : Exit → Act → World → Prop} {w : World}
    (hn1 : 1 ≤ n) (hn : n ≤ 6) (ht : t ≤ 900) (hsz : 7 + 14 * n = sz) (hL : LT w0 w P S g T A L N Wd Pc n t (some (O, #[.int .i64 kd, .int .i64 nn, .int .i64 xx])))
    (hN : ∀ (v14 v15 v16 v17 v18 v19 v20 v58 v59 v60 v61 v62 v63 v64 v65 v66 v67 v68 v69 v70 v71 v72 v73 v74 v75 v76 v77 v78 v79 v80 v81 v82 v83 v84 v85 v86 v87 v88 v89 v90 v91 v92 v93 v94 v95 v96 v97 v98 v99 v100 v101 v102 v103 v104 v105 v106 v107 v108 v109 v110 v111 v112 v113 v114 v115 v116 v117 v118 v119 v120 v121 v122 v123 v124 v125 v126 v127 v128 v129 v130 v131 v132 v133 v134 v135 v136 v137 v138 v139 v140 v141 v142 v143 v144 v145 v146 v147 v148 v149 v150 v151 v152 v153 v154 v155 v156 v157 v158 v159 v160 v161 v162 v163 v164 v165 v166 v167 v168 v169 v170 v171 v172 v173 v174 v175 v176 v177 v178 v179 v180 v181 v182 v183 v184 v185 v186 v187 v188 v189 v190 v191 v192 v193 v194 v195 v196 v197 v198 v199 : Value)  (w' : World), LT w0 w' P S g T A L N Wd Pc n (t + 1) (some (O, #[.int .i64 kd, .int .i64 nn, .int .i64 xx])) → Q .normal ⟨#[.int .u8 xI, .slice a1 len cap, undef, undef, u4, .pointer (some ⟨P, 0, none⟩), .pointer (some ⟨S, 0, none⟩), .pointer (some ⟨T, 0, none⟩), .pointer (some ⟨N, 0, none⟩), .slice (some ⟨Wd, 0, none⟩) sz sz, .slice (some ⟨Pc, 0, none⟩) 10 10, .pointer none, .int .i64 (i : Int), .pointer (some ⟨O, 0, none⟩), v14, v15, v16, v17, v18, v19, v20, u21, u22, u23, u24, u25, u26, u27, u28, u29, u30, u31, u32, u33, u34, u35, u36, u37, u38, u39, u40, u41, u42, u43, u44, u45, u46, u47, u48, u49, u50, u51, u52, u53, u54, u55, u56, u57, v58, v59, v60, v61, v62, v63, v64, v65, v66, v67, v68, v69, v70, v71, v72, v73, v74, v75, v76, v77, v78, v79, v80, v81, v82, v83, v84, v85, v86, v87, v88, v89, v90, v91, v92, v93, v94, v95, v96, v97, v98, v99, v100, v101, v102, v103, v104, v105, v106, v107, v108, v109, v110, v111, v112, v113, v114, v115, v116, v117, v118, v119, v120, v121, v122, v123, v124, v125, v126, v127, v128, v129, v130, v131, v132, v133, v134, v135, v136, v137, v138, v139, v140, v141, v142, v143, v144, v145, v146, v147, v148, v149, v150, v151, v152, v153, v154, v155, v156, v157, v158, v159, v160, v161, v162, v163, v164, v165, v166, v167, v168, v169, v170, v171, v172, v173, v174, v175, v176, v177, v178, v179, v180, v181, v182, v183, v184, v185, v186, v187, v188, v189, v190, v191, v192, v193, v194, v195, v196, v197, v198, v199, u200, u201, u202, u203, u204, u205, u206, u207, u208, u209, u210, u211, u212, u213, u214, u215, u216, u217, u218, u219, u220, u221, u222, u223, u224, u225, u226, u227, u228, u229, u230, u231, u232, u233, u234, u235, u236, u237, u238, u239, u240, u241, u242, u243, u244, u245, u246, u247, u248, u249, u250, u251, u252, u253, u254, u255, u256, u257, u258, u259, u260, u261, u262, u263, u264, u265, u266, u267, u268, u269, u270, u271, u272, u273, u274, u275, u276, u277, u278, u279, u280], []⟩ w') :
    Code.wp Try.prog sw Q ⟨#[.int .u8 xI, .slice a1 len cap, undef, undef, u4, .pointer (some ⟨P, 0, none⟩), .pointer (some ⟨S, 0, none⟩), .pointer (some ⟨T, 0, none⟩), .pointer (some ⟨N, 0, none⟩), .slice (some ⟨Wd, 0, none⟩) sz sz, .slice (some ⟨Pc, 0, none⟩) 10 10, .pointer none, .int .i64 (i : Int), .pointer (some ⟨O, 0, none⟩), u14, u15, u16, u17, u18, u19, u20, u21, u22, u23, u24, u25, u26, u27, u28, u29, u30, u31, u32, u33, u34, u35, u36, u37, u38, u39, u40, u41, u42, u43, u44, u45, u46, u47, u48, u49, u50, u51, u52, u53, u54, u55, u56, u57, u58, u59, u60, u61, u62, u63, u64, u65, u66, u67, u68, u69, u70, u71, u72, u73, u74, u75, u76, u77, u78, u79, u80, u81, u82, u83, u84, u85, u86, u87, u88, u89, u90, u91, u92, u93, u94, u95, u96, u97, u98, u99, u100, u101, u102, u103, u104, u105, u106, u107, u108, u109, u110, u111, u112, u113, u114, u115, u116, u117, u118, u119, u120, u121, u122, u123, u124, u125, u126, u127, u128, u129, u130, u131, u132, u133, u134, u135, u136, u137, u138, u139, u140, u141, u142, u143, u144, u145, u146, u147, u148, u149, u150, u151, u152, u153, u154, u155, u156, u157, u158, u159, u160, u161, u162, u163, u164, u165, u166, u167, u168, u169, u170, u171, u172, u173, u174, u175, u176, u177, u178, u179, u180, u181, u182, u183, u184, u185, u186, u187, u188, u189, u190, u191, u192, u193, u194, u195, u196, u197, u198, u199, u200, u201, u202, u203, u204, u205, u206, u207, u208, u209, u210, u211, u212, u213, u214, u215, u216, u217, u218, u219, u220, u221, u222, u223, u224, u225, u226, u227, u228, u229, u230, u231, u232, u233, u234, u235, u236, u237, u238, u239, u240, u241, u242, u243, u244, u245, u246, u247, u248, u249, u250, u251, u252, u253, u254, u255, u256, u257, u258, u259, u260, u261, u262, u263, u264, u265, u266, u267, u268, u269, u270, u271, u272, u273, u274, u275, u276, u277, u278, u279, u280], []⟩ w := by
  obtain ⟨o0, o1, o2⟩ := hL.obx
  rw [sw_eq]
  refine wp_seq ?_
  by_cases hk : kd < 3
  · refine q15_lt o0 hk ?_
    intro v59 v60 v61 w1 hw1
    subst hw1
    change Code.wp Try.prog (.cond (.tmp 58) mk sw2) _ _ _
    refine wp_cond_true rfl ?_
    refine mk_of hn1 hn ht hsz hL ?_
    intro v14 v15 v16 v17 v18 v62 v63 v64 v65 v66 v67 v68 v69 v70 v71 v72 v73 v74 v75 v76 v77 v78 v79 v80 v81 v82 v83 v84 v85 v86 v87 v88 v89 v90 v91 v92 v93 v94 v95 v96 v97 v98 v99 v100 v101 v102 v103 v104 v105 v106 v107 v108 v109 v110 v111 v112 v113 v114 v115 v116 v117 v118 v119 v120 v121 v122 v123 v124 v125 v126 v127 v128 v129 v130 w2 hL2
    exact hN _ _ _ _ _ _ _ _ _ _ _ _ _ _ _ _ _ _ _ _ _ _ _ _ _ _ _ _ _ _ _ _ _ _ _ _ _ _ _ _ _ _ _ _ _ _ _ _ _ _ _ _ _ _ _ _ _ _ _ _ _ _ _ _ _ _ _ _ _ _ _ _ _ _ _ _ _ _ _ _ _ _ _ _ _ _ _ _ _ _ _ _ _ _ _ _ _ _ _ _ _ _ _ _ _ _ _ _ _ _ _ _ _ _ _ _ _ _ _ _ _ _ _ _ _ _ _ _ _ _ _ _ _ _ _ _ _ _ _ _ _ _ _ _ _ _ _ _ _ _ hL2
  · refine q15_ge o0 hk ?_
    intro v59 v60 v61 w1 hw1
    subst hw1
    change Code.wp Try.prog (.cond (.tmp 58) mk sw2) _ _ _
    refine wp_cond_false rfl ?_
    rw [sw2_eq]
    refine wp_seq ?_
    by_cases hk3 : kd = 3
    · refine q29_eq o0 hk3 ?_
      intro v132 v133 v134 w1 hw1
      subst hw1
      change Code.wp Try.prog (.cond (.tmp 131) q30 sw3) _ _ _
      refine wp_cond_true rfl ?_
      refine fre_of hn1 hn ht hsz hL ?_
      intro v135 v136 v137 v138 v139 v140 v141 v142 v143 w2 hL2
      exact hN _ _ _ _ _ _ _ _ _ _ _ _ _ _ _ _ _ _ _ _ _ _ _ _ _ _ _ _ _ _ _ _ _ _ _ _ _ _ _ _ _ _ _ _ _ _ _ _ _ _ _ _ _ _ _ _ _ _ _ _ _ _ _ _ _ _ _ _ _ _ _ _ _ _ _ _ _ _ _ _ _ _ _ _ _ _ _ _ _ _ _ _ _ _ _ _ _ _ _ _ _ _ _ _ _ _ _ _ _ _ _ _ _ _ _ _ _ _ _ _ _ _ _ _ _ _ _ _ _ _ _ _ _ _ _ _ _ _ _ _ _ _ _ _ _ _ _ _ _ _ hL2
    · refine q29_ne o0 hk3 ?_
      intro v132 v133 v134 w1 hw1
      subst hw1
      change Code.wp Try.prog (.cond (.tmp 131) q30 sw3) _ _ _
      refine wp_cond_false rfl ?_
      refine sw3_of hn1 hn ht hsz hL ?_
      intro v19 v20 v144 v145 v146 v147 v148 v149 v150 v151 v152 v153 v154 v155 v156 v157 v158 v159 v160 v161 v162 v163 v164 v165 v166 v167 v168 v169 v170 v171 v172 v173 v174 v175 v176 v177 v178 v179 v180 v181 v182 v183 v184 v185 v186 v187 v188 v189 v190 v191 v192 v193 v194 v195 v196 v197 v198 v199 w2 hL2
      exact hN _ _ _ _ _ _ _ _ _ _ _ _ _ _ _ _ _ _ _ _ _ _ _ _ _ _ _ _ _ _ _ _ _ _ _ _ _ _ _ _ _ _ _ _ _ _ _ _ _ _ _ _ _ _ _ _ _ _ _ _ _ _ _ _ _ _ _ _ _ _ _ _ _ _ _ _ _ _ _ _ _ _ _ _ _ _ _ _ _ _ _ _ _ _ _ _ _ _ _ _ _ _ _ _ _ _ _ _ _ _ _ _ _ _ _ _ _ _ _ _ _ _ _ _ _ _ _ _ _ _ _ _ _ _ _ _ _ _ _ _ _ _ _ _ _ _ _ _ _ _ (hL2.mono (by omega))
set_option maxRecDepth 20000 in
set_option maxHeartbeats 4000000 in
theorem loop3_of {xI : Int} {a1 : Option Addr} {len cap P S T N Wd Pc sz i : Nat} {O : Nat} {w0 : World} {g A L n t : Nat} {kd nn xx : Int} {u4 u14 u15 u16 u17 u18 u19 u20 u22 u23 u24 u25 u26 u27 u28 u29 u30 u31 u32 u33 u34 u35 u36 u37 u38 u39 u40 u41 u42 u43 u44 u45 u46 u47 u48 u49 u50 u51 u52 u53 u54 u55 u56 u57 u58 u59 u60 u61 u62 u63 u64 u65 u66 u67 u68 u69 u70 u71 u72 u73 u74 u75 u76 u77 u78 u79 u80 u81 u82 u83 u84 u85 u86 u87 u88 u89 u90 u91 u92 u93 u94 u95 u96 u97 u98 u99 u100 u101 u102 u103 u104 u105 u106 u107 u108 u109 u110 u111 u112 u113 u114 u115 u116 u117 u118 u119 u120 u121 u122 u123 u124 u125 u126 u127 u128 u129 u130 u131 u132 u133 u134 u135 u136 u137 u138 u139 u140 u141 u142 u143 u144 u145 u146 u147 u148 u149 u150 u151 u152 u153 u154 u155 u156 u157 u158 u159 u160 u161 u162 u163 u164 u165 u166 u167 u168 u169 u170 u171 u172 u173 u174 u175 u176 u177 u178 u179 u180 u181 u182 u183 u184 u185 u186 u187 u188 u189 u190 u191 u192 u193 u194 u195 u196 u197 u198 u199 u200 u201 u202 u203 u204 u205 u206 u207 u208 u209 u210 u211 u212 u213 u214 u215 u216 u217 u218 u219 u220 u221 u222 u223 u224 u225 u226 u227 u228 u229 u230 u231 u232 u233 u234 u235 u236 u237 u238 u239 u240 u241 u242 u243 u244 u245 u246 u247 u248 u249 u250 u251 u252 u253 u254 u255 u256 u257 u258 u259 u260 u261 u262 u263 u264 u265 u266 u267 u268 u269 u270 u271 u272 u273 u274 u275 u276 u277 u278 u279 u280 : Value} {Q : Exit → Act → World → Prop} {w : World}
    (hn1 : 1 ≤ n) (hn : n ≤ 6) (ht : t ≤ 900) (hsz : 7 + 14 * n = sz) (hL : LT w0 w P S g T A L N Wd Pc n t (some (O, #[.int .i64 kd, .int .i64 nn, .int .i64 xx])))
    (hN : ∀ (v21 v22 v200 v201 v202 v203 v204 v205 v206 v207 v208 v209 v210 v211 v212 v213 v214 v215 v216 v217 v218 v219 v220 v221 v222 v223 v224 v225 v226 v227 v228 v229 v230 : Value)  (w' : World), LT w0 w' P S g T A L N Wd Pc n t (some (O, #[.int .i64 kd, .int .i64 nn, .int .i64 xx])) → Q .normal ⟨#[.int .u8 xI, .slice a1 len cap, undef, undef, u4, .pointer (some ⟨P, 0, none⟩), .pointer (some ⟨S, 0, none⟩), .pointer (some ⟨T, 0, none⟩), .pointer (some ⟨N, 0, none⟩), .slice (some ⟨Wd, 0, none⟩) sz sz, .slice (some ⟨Pc, 0, none⟩) 10 10, .pointer none, .int .i64 (i : Int), .pointer (some ⟨O, 0, none⟩), u14, u15, u16, u17, u18, u19, u20, v21, v22, u23, u24, u25, u26, u27, u28, u29, u30, u31, u32, u33, u34, u35, u36, u37, u38, u39, u40, u41, u42, u43, u44, u45, u46, u47, u48, u49, u50, u51, u52, u53, u54, u55, u56, u57, u58, u59, u60, u61, u62, u63, u64, u65, u66, u67, u68, u69, u70, u71, u72, u73, u74, u75, u76, u77, u78, u79, u80, u81, u82, u83, u84, u85, u86, u87, u88, u89, u90, u91, u92, u93, u94, u95, u96, u97, u98, u99, u100, u101, u102, u103, u104, u105, u106, u107, u108, u109, u110, u111, u112, u113, u114, u115, u116, u117, u118, u119, u120, u121, u122, u123, u124, u125, u126, u127, u128, u129, u130, u131, u132, u133, u134, u135, u136, u137, u138, u139, u140, u141, u142, u143, u144, u145, u146, u147, u148, u149, u150, u151, u152, u153, u154, u155, u156, u157, u158, u159, u160, u161, u162, u163, u164, u165, u166, u167, u168, u169, u170, u171, u172, u173, u174, u175, u176, u177, u178, u179, u180, u181, u182, u183, u184, u185, u186, u187, u188, u189, u190, u191, u192, u193, u194, u195, u196, u197, u198, u199, v200, v201, v202, v203, v204, v205, v206, v207, v208, v209, v210, v211, v212, v213, v214, v215, v216, v217, v218, v219, v220, v221, v222, v223, v224, v225, v226, v227, v228, v229, v230, u231, u232, u233, u234, u235, u236, u237, u238, u239, u240, u241, u242, u243, u244, u245, u246, u247, u248, u249, u250, u251, u252, u253, u254, u255, u256, u257, u258, u259, u260, u261, u262, u263, u264, u265, u266, u267, u268, u269, u270, u271, u272, u273, u274, u275, u276, u277, u278, u279, u280], []⟩ w') :
    Code.wp Try.prog (.block 5 (.loop l3)) Q ⟨#[.int .u8 xI, .slice a1 len cap, undef, undef, u4, .pointer (some ⟨P, 0, none⟩), .pointer (some ⟨S, 0, none⟩), .pointer (some ⟨T, 0, none⟩), .pointer (some ⟨N, 0, none⟩), .slice (some ⟨Wd, 0, none⟩) sz sz, .slice (some ⟨Pc, 0, none⟩) 10 10, .pointer none, .int .i64 (i : Int), .pointer (some ⟨O, 0, none⟩), u14, u15, u16, u17, u18, u19, u20, .int .i64 (-1), u22, u23, u24, u25, u26, u27, u28, u29, u30, u31, u32, u33, u34, u35, u36, u37, u38, u39, u40, u41, u42, u43, u44, u45, u46, u47, u48, u49, u50, u51, u52, u53, u54, u55, u56, u57, u58, u59, u60, u61, u62, u63, u64, u65, u66, u67, u68, u69, u70, u71, u72, u73, u74, u75, u76, u77, u78, u79, u80, u81, u82, u83, u84, u85, u86, u87, u88, u89, u90, u91, u92, u93, u94, u95, u96, u97, u98, u99, u100, u101, u102, u103, u104, u105, u106, u107, u108, u109, u110, u111, u112, u113, u114, u115, u116, u117, u118, u119, u120, u121, u122, u123, u124, u125, u126, u127, u128, u129, u130, u131, u132, u133, u134, u135, u136, u137, u138, u139, u140, u141, u142, u143, u144, u145, u146, u147, u148, u149, u150, u151, u152, u153, u154, u155, u156, u157, u158, u159, u160, u161, u162, u163, u164, u165, u166, u167, u168, u169, u170, u171, u172, u173, u174, u175, u176, u177, u178, u179, u180, u181, u182, u183, u184, u185, u186, u187, u188, u189, u190, u191, u192, u193, u194, u195, u196, u197, u198, u199, u200, u201, u202, u203, u204, u205, u206, u207, u208, u209, u210, u211, u212, u213, u214, u215, u216, u217, u218, u219, u220, u221, u222, u223, u224, u225, u226, u227, u228, u229, u230, u231, u232, u233, u234, u235, u236, u237, u238, u239, u240, u241, u242, u243, u244, u245, u246, u247, u248, u249, u250, u251, u252, u253, u254, u255, u256, u257, u258, u259, u260, u261, u262, u263, u264, u265, u266, u267, u268, u269, u270, u271, u272, u273, u274, u275, u276, u277, u278, u279, u280], []⟩ w := by
  refine wp_block ?_
  refine wp_loop (fun a w' => ∃ (y : Int) (v22 v200 v201 v202 v203 v204 v205 v206 v207 v208 v209 v210 v211 v212 v213 v214 v215 v216 v217 v218 v219 v220 v221 v222 v223 v224 v225 v226 v227 v228 v229 v230 : Value), -1 ≤ y ∧ y ≤ 10 ∧ a = ⟨#[.int .u8 xI, .slice a1 len cap, undef, undef, u4, .pointer (some ⟨P, 0, none⟩), .pointer (some ⟨S, 0, none⟩), .pointer (some ⟨T, 0, none⟩), .pointer (some ⟨N, 0, none⟩), .slice (some ⟨Wd, 0, none⟩) sz sz, .slice (some ⟨Pc, 0, none⟩) 10 10, .pointer none, .int .i64 (i : Int), .pointer (some ⟨O, 0, none⟩), u14, u15, u16, u17, u18, u19, u20, .int .i64 y, v22, u23, u24, u25, u26, u27, u28, u29, u30, u31, u32, u33, u34, u35, u36, u37, u38, u39, u40, u41, u42, u43, u44, u45, u46, u47, u48, u49, u50, u51, u52, u53, u54, u55, u56, u57, u58, u59, u60, u61, u62, u63, u64, u65, u66, u67, u68, u69, u70, u71, u72, u73, u74, u75, u76, u77, u78, u79, u80, u81, u82, u83, u84, u85, u86, u87, u88, u89, u90, u91, u92, u93, u94, u95, u96, u97, u98, u99, u100, u101, u102, u103, u104, u105, u106, u107, u108, u109, u110, u111, u112, u113, u114, u115, u116, u117, u118, u119, u120, u121, u122, u123, u124, u125, u126, u127, u128, u129, u130, u131, u132, u133, u134, u135, u136, u137, u138, u139, u140, u141, u142, u143, u144, u145, u146, u147, u148, u149, u150, u151, u152, u153, u154, u155, u156, u157, u158, u159, u160, u161, u162, u163, u164, u165, u166, u167, u168, u169, u170, u171, u172, u173, u174, u175, u176, u177, u178, u179, u180, u181, u182, u183, u184, u185, u186, u187, u188, u189, u190, u191, u192, u193, u194, u195, u196, u197, u198, u199, v200, v201, v202, v203, v204, v205, v206, v207, v208, v209, v210, v211, v212, v213, v214, v215, v216, v217, v218, v219, v220, v221, v222, v223, v224, v225, v226, v227, v228, v229, v230, u231, u232, u233, u234, u235, u236, u237, u238, u239, u240, u241, u242, u243, u244, u245, u246, u247, u248, u249, u250, u251, u252, u253, u254, u255, u256, u257, u258, u259, u260, u261, u262, u263, u264, u265, u266, u267, u268, u269, u270, u271, u272, u273, u274, u275, u276, u277, u278, u279, u280], []⟩ ∧ LT w0 w' P S g T A L N Wd Pc n t (some (O, #[.int .i64 kd, .int .i64 nn, .int .i64 xx]))) (fun a _ => (11 - RowKit.intOf (a.tmps.getD 21 undef)).toNat) ⟨-1, u22, u200, u201, u202, u203, u204, u205, u206, u207, u208, u209, u210, u211, u212, u213, u214, u215, u216, u217, u218, u219, u220, u221, u222, u223, u224, u225, u226, u227, u228, u229, u230, by omega, by omega, rfl, hL⟩ ?_
  rintro a w' ⟨y, v22, v200, v201, v202, v203, v204, v205, v206, v207, v208, v209, v210, v211, v212, v213, v214, v215, v216, v217, v218, v219, v220, v221, v222, v223, v224, v225, v226, v227, v228, v229, v230, hy1, hy2, rfl, hL⟩
  rw [l3_eq]
  refine wp_seq ?_
  by_cases hy10 : y = 10
  · refine q45_out hy10 ?_
    intro v200 v201 w2 hw2
    subst hw2
    change Exit.inBlock 5 Q (.exit 5) _ _
    refine inblock_exit ?_
    exact hN _ _ _ _ _ _ _ _ _ _ _ _ _ _ _ _ _ _ _ _ _ _ _ _ _ _ _ _ _ _ _ _ _ _ hL
  · refine q45_in (by omega) ?_
    intro v200 v201 w2 hw2
    subst hw2
    change Code.wp Try.prog (.seq (.block 6 (.seq q47 q48)) q46) _ _ _
    refine wp_seq ?_
    refine wp_block ?_
    refine wp_seq ?_
    obtain ⟨vtv, b, c2, C1, hor⟩ := hL.ask hn y
    rcases hor with ⟨rfl, CA⟩ | ⟨rfl, j, q, pc, rfl, hj, CA, H1, H2⟩
    · refine q47_of (Lib.hid (CA.out _ (Below.refl _ _))) ?_
      intro v204 v205 v206 w3 hw3
      subst hw3
      change Code.wp Try.prog q48 _ _ _
      refine q48_no c2 C1 ?_
      intro v207 v208 v209 v210 v211 v212 v213 v214 v215 v216 v217 v218 v219 v220 v221 v222 v223 v224 v225 v226 v227 v228 v229 v230 w4 hb4
      change Code.wp Try.prog q46 _ _ _
      refine q46_of hy1 (by omega) ?_
      intro v202 v203 w5 hw5
      subst hw5
      refine ⟨⟨y + 1, _, _, _, _, _, _, _, _, _, _, _, _, _, _, _, _, _, _, _, _, _, _, _, _, _, _, _, _, _, _, _, _, by omega, by omega, rfl, hL.below hb4⟩, ?_⟩
      show (11 - RowKit.intOf (.int .i64 (y + 1))).toNat < (11 - RowKit.intOf (.int .i64 y)).toNat
      simp only [RowKit.intOf]
      omega
    · refine q47_of (Lib.hid (CA.out _ (Below.refl _ _))) ?_
      intro v204 v205 v206 w3 hw3
      subst hw3
      change Code.wp Try.prog q48 _ _ _
      have hf := H1 _ (Below.refl _ _)
      refine q48_at (by omega) c2 hf.1 hf.2.2.1 C1 ?_
      intro v207 v208 v209 v210 v211 v212 v213 v214 v215 v216 v217 v218 v219 v220 v221 v222 v223 v224 v225 v226 v227 v228 v229 v230 w4 hb4
      change Code.wp Try.prog q46 _ _ _
      refine q46_of (by omega) (by omega) ?_
      intro v202 v203 w5 hw5
      subst hw5
      refine ⟨⟨((j + 1 : Nat) : Int) + 1, _, _, _, _, _, _, _, _, _, _, _, _, _, _, _, _, _, _, _, _, _, _, _, _, _, _, _, _, _, _, _, _, by omega, by omega, rfl, hL.below hb4⟩, ?_⟩
      show (11 - RowKit.intOf (.int .i64 (((j + 1 : Nat) : Int) + 1))).toNat < (11 - RowKit.intOf (.int .i64 ((j + 1 : Nat) : Int))).toNat
      simp only [RowKit.intOf]
      omega
set_option maxRecDepth 20000 in
set_option maxHeartbeats 4000000 in
theorem ch_of {xI : Int} {a1 : Option Addr} {len cap P S T N Wd Pc sz i : Nat} {O : Nat} {w0 : World} {g A L n t : Nat} {kd nn xx : Int} {u4 u14 u15 u16 u17 u18 u19 u20 u21 u22 u23 u24 u25 u26 u27 u28 u29 u30 u31 u32 u33 u34 u35 u36 u37 u38 u39 u40 u41 u42 u43 u44 u45 u46 u47 u48 u49 u50 u51 u52 u53 u54 u55 u56 u57 u58 u59 u60 u61 u62 u63 u64 u65 u66 u67 u68 u69 u70 u71 u72 u73 u74 u75 u76 u77 u78 u79 u80 u81 u82 u83 u84 u85 u86 u87 u88 u89 u90 u91 u92 u93 u94 u95 u96 u97 u98 u99 u100 u101 u102 u103 u104 u105 u106 u107 u108 u109 u110 u111 u112 u113 u114 u115 u116 u117 u118 u119 u120 u121 u122 u123 u124 u125 u126 u127 u128 u129 u130 u131 u132 u133 u134 u135 u136 u137 u138 u139 u140 u141 u142 u143 u144 u145 u146 u147 u148 u149 u150 u151 u152 u153 u154 u155 u156 u157 u158 u159 u160 u161 u162 u163 u164 u165 u166 u167 u168 u169 u170 u171 u172 u173 u174 u175 u176 u177 u178 u179 u180 u181 u182 u183 u184 u185 u186 u187 u188 u189 u190 u191 u192 u193 u194 u195 u196 u197 u198 u199 u200 u201 u202 u203 u204 u205 u206 u207 u208 u209 u210 u211 u212 u213 u214 u215 u216 u217 u218 u219 u220 u221 u222 u223 u224 u225 u226 u227 u228 u229 u230 u231 u232 u233 u234 u235 u236 u237 u238 u239 u240 u241 u242 u243 u244 u245 u246 u247 u248 u249 u250 u251 u252 u253 u254 u255 u256 u257 u258 u259 u260 u261 u262 u263 u264 u265 u266 u267 u268 u269 u270 u271 u272 u273 u274 u275 u276 u277 u278 u279 u280 : Value} {Q : Exit → Act → World → Prop} {w : World}
    (hn1 : 1 ≤ n) (hn : n ≤ 6) (ht : t ≤ 900) (hsz : 7 + 14 * n = sz) (hL : LT w0 w P S g T A L N Wd Pc n t (some (O, #[.int .i64 kd, .int .i64 nn, .int .i64 xx])))
    (hN : ∀ (v21 v22 v200 v201 v202 v203 v204 v205 v206 v207 v208 v209 v210 v211 v212 v213 v214 v215 v216 v217 v218 v219 v220 v221 v222 v223 v224 v225 v226 v227 v228 v229 v230 v231 v232 v233 v234 v235 v236 v237 v238 v239 v240 v241 v242 v243 v244 v245 v246 v247 v248 v249 v250 v251 v252 v253 v254 : Value)  (w' : World), LT w0 w' P S g T A L N Wd Pc n t (some (O, #[.int .i64 kd, .int .i64 nn, .int .i64 xx])) → Q .normal ⟨#[.int .u8 xI, .slice a1 len cap, undef, undef, u4, .pointer (some ⟨P, 0, none⟩), .pointer (some ⟨S, 0, none⟩), .pointer (some ⟨T, 0, none⟩), .pointer (some ⟨N, 0, none⟩), .slice (some ⟨Wd, 0, none⟩) sz sz, .slice (some ⟨Pc, 0, none⟩) 10 10, .pointer none, .int .i64 (i : Int), .pointer (some ⟨O, 0, none⟩), u14, u15, u16, u17, u18, u19, u20, v21, v22, u23, u24, u25, u26, u27, u28, u29, u30, u31, u32, u33, u34, u35, u36, u37, u38, u39, u40, u41, u42, u43, u44, u45, u46, u47, u48, u49, u50, u51, u52, u53, u54, u55, u56, u57, u58, u59, u60, u61, u62, u63, u64, u65, u66, u67, u68, u69, u70, u71, u72, u73, u74, u75, u76, u77, u78, u79, u80, u81, u82, u83, u84, u85, u86, u87, u88, u89, u90, u91, u92, u93, u94, u95, u96, u97, u98, u99, u100, u101, u102, u103, u104, u105, u106, u107, u108, u109, u110, u111, u112, u113, u114, u115, u116, u117, u118, u119, u120, u121, u122, u123, u124, u125, u126, u127, u128, u129, u130, u131, u132, u133, u134, u135, u136, u137, u138, u139, u140, u141, u142, u143, u144, u145, u146, u147, u148, u149, u150, u151, u152, u153, u154, u155, u156, u157, u158, u159, u160, u161, u162, u163, u164, u165, u166, u167, u168, u169, u170, u171, u172, u173, u174, u175, u176, u177, u178, u179, u180, u181, u182, u183, u184, u185, u186, u187, u188, u189, u190, u191, u192, u193, u194, u195, u196, u197, u198, u199, v200, v201, v202, v203, v204, v205, v206, v207, v208, v209, v210, v211, v212, v213, v214, v215, v216, v217, v218, v219, v220, v221, v222, v223, v224, v225, v226, v227, v228, v229, v230, v231, v232, v233, v234, v235, v236, v237, v238, v239, v240, v241, v242, v243, v244, v245, v246, v247, v248, v249, v250, v251, v252, v253, v254, u255, u256, u257, u258, u259, u260, u261, u262, u263, u264, u265, u266, u267, u268, u269, u270, u271, u272, u273, u274, u275, u276, u277, u278, u279, u280], []⟩ w') :
    Code.wp Try.prog ch Q ⟨#[.int .u8 xI, .slice a1 len cap, undef, undef, u4, .pointer (some ⟨P, 0, none⟩), .pointer (some ⟨S, 0, none⟩), .pointer (some ⟨T, 0, none⟩), .pointer (some ⟨N, 0, none⟩), .slice (some ⟨Wd, 0, none⟩) sz sz, .slice (some ⟨Pc, 0, none⟩) 10 10, .pointer none, .int .i64 (i : Int), .pointer (some ⟨O, 0, none⟩), u14, u15, u16, u17, u18, u19, u20, u21, u22, u23, u24, u25, u26, u27, u28, u29, u30, u31, u32, u33, u34, u35, u36, u37, u38, u39, u40, u41, u42, u43, u44, u45, u46, u47, u48, u49, u50, u51, u52, u53, u54, u55, u56, u57, u58, u59, u60, u61, u62, u63, u64, u65, u66, u67, u68, u69, u70, u71, u72, u73, u74, u75, u76, u77, u78, u79, u80, u81, u82, u83, u84, u85, u86, u87, u88, u89, u90, u91, u92, u93, u94, u95, u96, u97, u98, u99, u100, u101, u102, u103, u104, u105, u106, u107, u108, u109, u110, u111, u112, u113, u114, u115, u116, u117, u118, u119, u120, u121, u122, u123, u124, u125, u126, u127, u128, u129, u130, u131, u132, u133, u134, u135, u136, u137, u138, u139, u140, u141, u142, u143, u144, u145, u146, u147, u148, u149, u150, u151, u152, u153, u154, u155, u156, u157, u158, u159, u160, u161, u162, u163, u164, u165, u166, u167, u168, u169, u170, u171, u172, u173, u174, u175, u176, u177, u178, u179, u180, u181, u182, u183, u184, u185, u186, u187, u188, u189, u190, u191, u192, u193, u194, u195, u196, u197, u198, u199, u200, u201, u202, u203, u204, u205, u206, u207, u208, u209, u210, u211, u212, u213, u214, u215, u216, u217, u218, u219, u220, u221, u222, u223, u224, u225, u226, u227, u228, u229, u230, u231, u232, u233, u234, u235, u236, u237, u238, u239, u240, u241, u242, u243, u244, u245, u246, u247, u248, u249, u250, u251, u252, u253, u254, u255, u256, u257, u258, u259, u260, u261, u262, u263, u264, u265, u266, u267, u268, u269, u270, u271, u272, u273, u274, u275, u276, u277, u278, u279, u280], []⟩ w := by
  rw [ch_eq]
  refine wp_seq ?_
  refine wp_seq ?_
  refine q44_of ?_
  intro w1 hw1
  subst hw1
  change Code.wp Try.prog (.block 5 (.loop l3)) _ _ _
  refine loop3_of hn1 hn ht hsz hL ?_
  intro v21 v22 v200 v201 v202 v203 v204 v205 v206 v207 v208 v209 v210 v211 v212 v213 v214 v215 v216 v217 v218 v219 v220 v221 v222 v223 v224 v225 v226 v227 v228 v229 v230 w2 hL2
  change Code.wp Try.prog q50 _ _ _
  obtain ⟨va, cn, vc, pk, VX, c2, c4, C1, C2, C4, C5⟩ := hL2.told hn hsz
  refine q50_of (VX := VX) c2 c4 C1 C2 C4 C5 ?_
  intro v231 v232 v233 v234 v235 v236 v237 v238 v239 v240 v241 v242 v243 v244 v245 v246 v247 v248 v249 v250 v251 v252 v253 v254 w3 hb3
  exact hN _ _ _ _ _ _ _ _ _ _ _ _ _ _ _ _ _ _ _ _ _ _ _ _ _ _ _ _ _ _ _ _ _ _ _ _ _ _ _ _ _ _ _ _ _ _ _ _ _ _ _ _ _ _ _ _ _ _ (hL2.below hb3)
set_option maxRecDepth 20000 in
set_option maxHeartbeats 4000000 in
theorem round_in {xI : Int} {a1 : Option Addr} {len cap P S T N Wd Pc sz i : Nat} {w0 : World} {g A L n t b off : Nat} {kd nn xx : Int} {ob : Option (Nat × Array Value)} {u4 u13 u14 u15 u16 u17 u18 u19 u20 u21 u22 u23 u24 u25 u26 u27 u28 u29 u30 u31 u32 u33 u34 u35 u36 u37 u38 u39 u40 u41 u42 u43 u44 u45 u46 u47 u48 u49 u50 u51 u52 u53 u54 u55 u56 u57 u58 u59 u60 u61 u62 u63 u64 u65 u66 u67 u68 u69 u70 u71 u72 u73 u74 u75 u76 u77 u78 u79 u80 u81 u82 u83 u84 u85 u86 u87 u88 u89 u90 u91 u92 u93 u94 u95 u96 u97 u98 u99 u100 u101 u102 u103 u104 u105 u106 u107 u108 u109 u110 u111 u112 u113 u114 u115 u116 u117 u118 u119 u120 u121 u122 u123 u124 u125 u126 u127 u128 u129 u130 u131 u132 u133 u134 u135 u136 u137 u138 u139 u140 u141 u142 u143 u144 u145 u146 u147 u148 u149 u150 u151 u152 u153 u154 u155 u156 u157 u158 u159 u160 u161 u162 u163 u164 u165 u166 u167 u168 u169 u170 u171 u172 u173 u174 u175 u176 u177 u178 u179 u180 u181 u182 u183 u184 u185 u186 u187 u188 u189 u190 u191 u192 u193 u194 u195 u196 u197 u198 u199 u200 u201 u202 u203 u204 u205 u206 u207 u208 u209 u210 u211 u212 u213 u214 u215 u216 u217 u218 u219 u220 u221 u222 u223 u224 u225 u226 u227 u228 u229 u230 u231 u232 u233 u234 u235 u236 u237 u238 u239 u240 u241 u242 u243 u244 u245 u246 u247 u248 u249 u250 u251 u252 u253 u254 u255 u256 u257 u258 u259 u260 u261 u262 u263 u264 u265 u266 u267 u268 u269 u270 u271 u272 u273 u274 u275 u276 u277 u278 u279 u280 : Value} {Q : Exit → Act → World → Prop} {w : World}
    (hn1 : 1 ≤ n) (hn : n ≤ 6) (ht : t ≤ 800) (hsz : 7 + 14 * n = sz) (hi4 : i ≤ 1000) (hi : i < len) (ha : a1 = some ⟨b, off, none⟩) (hbl : b < w0.heap.size) (hz0 : w0.cell? ⟨b, off + i * 3, none⟩ = some (.int .i64 kd)) (hz1 : w0.cell? ⟨b, off + i * 3 + 1, none⟩ = some (.int .i64 nn)) (hz2 : w0.cell? ⟨b, off + i * 3 + 2, none⟩ = some (.int .i64 xx)) (hL : LT w0 w P S g T A L N Wd Pc n t ob)
    (hN : ∀ (v13 v14 v15 v16 v17 v18 v19 v20 v21 v22 v48 v49 v50 v51 v52 v53 v54 v55 v56 v57 v58 v59 v60 v61 v62 v63 v64 v65 v66 v67 v68 v69 v70 v71 v72 v73 v74 v75 v76 v77 v78 v79 v80 v81 v82 v83 v84 v85 v86 v87 v88 v89 v90 v91 v92 v93 v94 v95 v96 v97 v98 v99 v100 v101 v102 v103 v104 v105 v106 v107 v108 v109 v110 v111 v112 v113 v114 v115 v116 v117 v118 v119 v120 v121 v122 v123 v124 v125 v126 v127 v128 v129 v130 v131 v132 v133 v134 v135 v136 v137 v138 v139 v140 v141 v142 v143 v144 v145 v146 v147 v148 v149 v150 v151 v152 v153 v154 v155 v156 v157 v158 v159 v160 v161 v162 v163 v164 v165 v166 v167 v168 v169 v170 v171 v172 v173 v174 v175 v176 v177 v178 v179 v180 v181 v182 v183 v184 v185 v186 v187 v188 v189 v190 v191 v192 v193 v194 v195 v196 v197 v198 v199 v200 v201 v202 v203 v204 v205 v206 v207 v208 v209 v210 v211 v212 v213 v214 v215 v216 v217 v218 v219 v220 v221 v222 v223 v224 v225 v226 v227 v228 v229 v230 v231 v232 v233 v234 v235 v236 v237 v238 v239 v240 v241 v242 v243 v244 v245 v246 v247 v248 v249 v250 v251 v252 v253 v254 : Value) (ob1 : Option (Nat × Array Value)) (w' : World), LT w0 w' P S g T A L N Wd Pc n (t + 1) ob1 → Q .normal ⟨#[.int .u8 xI, .slice a1 len cap, undef, undef, u4, .pointer (some ⟨P, 0, none⟩), .pointer (some ⟨S, 0, none⟩), .pointer (some ⟨T, 0, none⟩), .pointer (some ⟨N, 0, none⟩), .slice (some ⟨Wd, 0, none⟩) sz sz, .slice (some ⟨Pc, 0, none⟩) 10 10, .pointer none, .int .i64 ((i + 1 : Nat) : Int), v13, v14, v15, v16, v17, v18, v19, v20, v21, v22, u23, u24, u25, u26, u27, u28, u29, u30, u31, u32, u33, u34, u35, u36, u37, u38, u39, u40, u41, u42, u43, u44, u45, u46, u47, v48, v49, v50, v51, v52, v53, v54, v55, v56, v57, v58, v59, v60, v61, v62, v63, v64, v65, v66, v67, v68, v69, v70, v71, v72, v73, v74, v75, v76, v77, v78, v79, v80, v81, v82, v83, v84, v85, v86, v87, v88, v89, v90, v91, v92, v93, v94, v95, v96, v97, v98, v99, v100, v101, v102, v103, v104, v105, v106, v107, v108, v109, v110, v111, v112, v113, v114, v115, v116, v117, v118, v119, v120, v121, v122, v123, v124, v125, v126, v127, v128, v129, v130, v131, v132, v133, v134, v135, v136, v137, v138, v139, v140, v141, v142, v143, v144, v145, v146, v147, v148, v149, v150, v151, v152, v153, v154, v155, v156, v157, v158, v159, v160, v161, v162, v163, v164, v165, v166, v167, v168, v169, v170, v171, v172, v173, v174, v175, v176, v177, v178, v179, v180, v181, v182, v183, v184, v185, v186, v187, v188, v189, v190, v191, v192, v193, v194, v195, v196, v197, v198, v199, v200, v201, v202, v203, v204, v205, v206, v207, v208, v209, v210, v211, v212, v213, v214, v215, v216, v217, v218, v219, v220, v221, v222, v223, v224, v225, v226, v227, v228, v229, v230, v231, v232, v233, v234, v235, v236, v237, v238, v239, v240, v241, v242, v243, v244, v245, v246, v247, v248, v249, v250, v251, v252, v253, v254, u255, u256, u257, u258, u259, u260, u261, u262, u263, u264, u265, u266, u267, u268, u269, u270, u271, u272, u273, u274, u275, u276, u277, u278, u279, u280], []⟩ w') :
    Code.wp Try.prog rb Q ⟨#[.int .u8 xI, .slice a1 len cap, undef, undef, u4, .pointer (some ⟨P, 0, none⟩), .pointer (some ⟨S, 0, none⟩), .pointer (some ⟨T, 0, none⟩), .pointer (some ⟨N, 0, none⟩), .slice (some ⟨Wd, 0, none⟩) sz sz, .slice (some ⟨Pc, 0, none⟩) 10 10, .pointer none, .int .i64 (i : Int), u13, u14, u15, u16, u17, u18, u19, u20, u21, u22, u23, u24, u25, u26, u27, u28, u29, u30, u31, u32, u33, u34, u35, u36, u37, u38, u39, u40, u41, u42, u43, u44, u45, u46, u47, u48, u49, u50, u51, u52, u53, u54, u55, u56, u57, u58, u59, u60, u61, u62, u63, u64, u65, u66, u67, u68, u69, u70, u71, u72, u73, u74, u75, u76, u77, u78, u79, u80, u81, u82, u83, u84, u85, u86, u87, u88, u89, u90, u91, u92, u93, u94, u95, u96, u97, u98, u99, u100, u101, u102, u103, u104, u105, u106, u107, u108, u109, u110, u111, u112, u113, u114, u115, u116, u117, u118, u119, u120, u121, u122, u123, u124, u125, u126, u127, u128, u129, u130, u131, u132, u133, u134, u135, u136, u137, u138, u139, u140, u141, u142, u143, u144, u145, u146, u147, u148, u149, u150, u151, u152, u153, u154, u155, u156, u157, u158, u159, u160, u161, u162, u163, u164, u165, u166, u167, u168, u169, u170, u171, u172, u173, u174, u175, u176, u177, u178, u179, u180, u181, u182, u183, u184, u185, u186, u187, u188, u189, u190, u191, u192, u193, u194, u195, u196, u197, u198, u199, u200, u201, u202, u203, u204, u205, u206, u207, u208, u209, u210, u211, u212, u213, u214, u215, u216, u217, u218, u219, u220, u221, u222, u223, u224, u225, u226, u227, u228, u229, u230, u231, u232, u233, u234, u235, u236, u237, u238, u239, u240, u241, u242, u243, u244, u245, u246, u247, u248, u249, u250, u251, u252, u253, u254, u255, u256, u257, u258, u259, u260, u261, u262, u263, u264, u265, u266, u267, u268, u269, u270, u271, u272, u273, u274, u275, u276, u277, u278, u279, u280], []⟩ w := by
  have hbw := hL.b
  have hb2 : b < w.heap.size := Nat.lt_of_lt_of_le hbl hbw.size
  have y0 := (hbw.cell (p := ⟨b, off + i * 3, none⟩) hbl).trans hz0
  have y1 := (hbw.cell (p := ⟨b, off + i * 3 + 1, none⟩) hbl).trans hz1
  have y2 := (hbw.cell (p := ⟨b, off + i * 3 + 2, none⟩) hbl).trans hz2
  rw [rb_eq]
  refine wp_seq ?_
  refine q12_in hi ?_
  intro v48 v49 v50 v51 w1 hw1
  subst hw1
  change Code.wp Try.prog (.seq (.block 1 (.seq q14 (.seq (.block 2 sw) ch))) q13) _ _ _
  refine wp_seq ?_
  refine wp_block ?_
  refine wp_seq ?_
  refine q14_of hi ha hb2 y0 y1 y2 ?_
  intro v54 v55 v56 v57 w2 hw2
  have hL2 : LT w0 w2 P S g T A L N Wd Pc n t (some (w1.heap.size, #[.int .i64 kd, .int .i64 nn, .int .i64 xx])) := by
    obtain ⟨ρ, xs, ps, pcl, p, hv, bv, vb, vt, hs, bk, tk, F, h, h1⟩ := hL
    rw [hw2]
    exact ⟨_, xs, ps, pcl, p, hv, bv, vb, vt, hs, bk, tk, F, h.newO _, h1⟩
  change Code.wp Try.prog (.seq (.block 2 sw) ch) _ _ _
  refine wp_seq ?_
  refine wp_block ?_
  refine sw_of hn1 hn (by omega) hsz hL2 ?_
  intro v14 v15 v16 v17 v18 v19 v20 v58 v59 v60 v61 v62 v63 v64 v65 v66 v67 v68 v69 v70 v71 v72 v73 v74 v75 v76 v77 v78 v79 v80 v81 v82 v83 v84 v85 v86 v87 v88 v89 v90 v91 v92 v93 v94 v95 v96 v97 v98 v99 v100 v101 v102 v103 v104 v105 v106 v107 v108 v109 v110 v111 v112 v113 v114 v115 v116 v117 v118 v119 v120 v121 v122 v123 v124 v125 v126 v127 v128 v129 v130 v131 v132 v133 v134 v135 v136 v137 v138 v139 v140 v141 v142 v143 v144 v145 v146 v147 v148 v149 v150 v151 v152 v153 v154 v155 v156 v157 v158 v159 v160 v161 v162 v163 v164 v165 v166 v167 v168 v169 v170 v171 v172 v173 v174 v175 v176 v177 v178 v179 v180 v181 v182 v183 v184 v185 v186 v187 v188 v189 v190 v191 v192 v193 v194 v195 v196 v197 v198 v199 w3 hL3
  change Code.wp Try.prog ch _ _ _
  refine ch_of hn1 hn (t := t + 1) (by omega) hsz hL3 ?_
  intro v21 v22 v200 v201 v202 v203 v204 v205 v206 v207 v208 v209 v210 v211 v212 v213 v214 v215 v216 v217 v218 v219 v220 v221 v222 v223 v224 v225 v226 v227 v228 v229 v230 v231 v232 v233 v234 v235 v236 v237 v238 v239 v240 v241 v242 v243 v244 v245 v246 v247 v248 v249 v250 v251 v252 v253 v254 w4 hL4
  change Code.wp Try.prog q13 _ _ _
  refine q13_of hi4 ?_
  intro v52 v53 w5 hw5
  subst hw5
  exact hN _ _ _ _ _ _ _ _ _ _ _ _ _ _ _ _ _ _ _ _ _ _ _ _ _ _ _ _ _ _ _ _ _ _ _ _ _ _ _ _ _ _ _ _ _ _ _ _ _ _ _ _ _ _ _ _ _ _ _ _ _ _ _ _ _ _ _ _ _ _ _ _ _ _ _ _ _ _ _ _ _ _ _ _ _ _ _ _ _ _ _ _ _ _ _ _ _ _ _ _ _ _ _ _ _ _ _ _ _ _ _ _ _ _ _ _ _ _ _ _ _ _ _ _ _ _ _ _ _ _ _ _ _ _ _ _ _ _ _ _ _ _ _ _ _ _ _ _ _ _ _ _ _ _ _ _ _ _ _ _ _ _ _ _ _ _ _ _ _ _ _ _ _ _ _ _ _ _ _ _ _ _ _ _ _ _ _ _ _ _ _ _ _ _ _ _ _ _ _ _ _ _ _ _ _ _ _ _ _ _ _ _ _ _ _ _ _ _ _ hL4
end Go.Proofs.Ytajmmglfdinahaa.ft
