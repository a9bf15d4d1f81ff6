/- The law FrameTable, its pieces put together (layer 16). -/
import Derived.Test.YtajmmglfdinahaaFtE
import Derived.Test.YtajmmglfdinahaaFtG
namespace Go.Proofs.Ytajmmglfdinahaa.ft
open Go.ChangeShapes Go.WideShapes Go.ChangeAt Go.RowKit
open Go.Proofs.Ytajmmglfdinahaa.fr (TS TAt LAt fcs PCAt)
open Go.Proofs.Ytajmmglfdinahaa.ar (AS heldB FreeTo Gd row_keep Same heldB_true)
open Go.Proofs.Ytajmmglfdinahaa.rf (RS RPost Pu KN FS hasB)
open Go.Proofs.Ytajmmglfdinahaa.fr (at_yes at_no tused_of tpeak_of)
open Go.Proofs.Ytajmmglfdinahaa.ro (Ro KX ext ext_lt ext_ge)
attribute [local go_sem ↓] Go.wp_at_zero Go.wp_at_succ
set_option linter.unusedVariables false
set_option linter.unusedSimpArgs false
theorem inblock_exit {id : Nat} {Q : Exit → Act → World → Prop} {a : Act} {w : World} (h : Q .normal a w) : Exit.inBlock id Q (.exit id) a w := by
  simp only [Exit.inBlock, if_true]
  exact h
theorem StoreAt.view {w : World} {S g : Nat} {xs : List Int} (h : StoreAt w S g xs) (hm : xs.length ≤ maxLen) : View w (.slice (some ⟨g, 0, none⟩) xs.length xs.length) xs := by
  obtain ⟨_, _, h2, _, _, hg⟩ := h.facts
  exact ⟨_, _, rfl, ⟨Nat.le_refl _, hm⟩, (fun h => by cases h), fun _ => ⟨g, 0, rfl, hg, Nat.le_refl _, fun i hi => by rw [Nat.zero_add]; exact h2 i hi⟩⟩
theorem all_any (S g : Nat) (xs : List Int) (w : World) (h : StoreAt w S g xs) (hsm : xs.length ≤ 100000) : Calls Try.prog 57 #[.pointer (some ⟨S, 0, none⟩)] w (RowPost w.heap.size xs w) := by
  obtain ⟨h0, _, _, _, _, _⟩ := h.facts
  have hV := StoreAt.view h (by unfold maxLen; omega)
  clear h
  go_enter Try.func57, Try.ntmps57
  go_wp2_with fail
  refine (clone_any _ xs _ hV hsm).mono ?_
  rintro e w' ⟨v', rfl, h1, h2⟩
  clear hV h0
  go_wp2_with fail
  go_ret
  exact ⟨_, rfl, h1, h2⟩
theorem row_cell {w : World} {B : Nat} {l : List Int} {t : TypeId} (h : w.heap[B]? = some (.cells (l.map (Value.int .i64)).toArray t (0, 0))) (i : Nat) (hi : i < l.length) : w.cell? ⟨B, i, none⟩ = some (.int .i64 (l.getD i 0)) ∧ w.frozen? ⟨B, i, none⟩ = false := by
  refine ⟨?_, by simp [World.frozen?, h]⟩
  simp [World.cell?, h, List.getD_eq_getElem?_getD, hi]
theorem cfr (n id : Nat) (W : World) (hn1 : 1 ≤ n) (hn : n ≤ 6) (h1 : 1 ≤ id) (h2 : id ≤ n) : Calls Try.prog 50 #[.agg #[.int .i64 1, .int .i64 (n : Int), .int .i64 2, .int .i64 3], .int .i64 (id : Int)] W fun e w' => e = .returned (.int .i64 ((7 + 14 * (id - 1) : Nat) : Int)) ∧ Below W.heap.size W w' :=
  frame_of 1 (n : Int) 2 3 (id : Int) ((7 + 14 * (id - 1) : Nat) : Int) W (Lib.hid (by unfold Okay; omega)) (by omega) (by omega) (Lib.hid (by omega))
theorem crm (n : Nat) (W : World) (hn1 : 1 ≤ n) (hn : n ≤ 6) : Calls Try.prog 51 #[.agg #[.int .i64 1, .int .i64 (n : Int), .int .i64 2, .int .i64 3]] W fun e w' => e = .returned (.int .i64 14) ∧ Below W.heap.size W w' :=
  room_of 1 (n : Int) 2 3 14 W (Lib.hid (by unfold Okay; omega)) (Lib.hid (by omega))
/-- the law's words in midst of being set. -/
def WT (w0 w : World) (P S g T A L N Wd Pc n t j k : Nat) (pc : Int) (ob : Option (Nat × Array Value)) : Prop :=
  ∃ ρ xs ps pcl p hv bv vb vt hs bk tk F, FT w0 w ρ P S g T A L N Wd Pc n ((fl xs (7 + 14 * j) 0 14).set (7 + 14 * j) 1) (fl xs (7 + 14 * j) 0 k) ps pcl p hv bv vb vt hs bk (hs.length : Int) p bk tk F ob ∧ Pu n hs bk tk ∧ bk.length ≤ t ∧ F j = pc ∧ ∀ i, i ≠ j → hs[i]? = some true → F i = pcl.getD (i + 1) 0
section
variable {w0 w w' : World} {P S g T A L N Wd Pc n t j k : Nat} {pc : Int} {ob : Option (Nat × Array Value)} {O : Nat} {kd nn xx : Int}
theorem LT.mono (h : LT w0 w P S g T A L N Wd Pc n t ob) {t' : Nat} (ht : t ≤ t') : LT w0 w P S g T A L N Wd Pc n t' ob := by
  obtain ⟨ρ, xs, ps, pcl, p, hv, bv, vb, vt, hs, bk, tk, F, h, h1, h2, h3⟩ := h
  exact ⟨ρ, xs, ps, pcl, p, hv, bv, vb, vt, hs, bk, tk, F, h, h1, by omega, h3⟩
theorem ob_cells (h : w.heap[O]? = some (.cells #[.int .i64 kd, .int .i64 nn, .int .i64 xx] 78 (0, 0))) : w.cell? ⟨O, 0, none⟩ = some (.int .i64 kd) ∧ w.cell? ⟨O, 1, none⟩ = some (.int .i64 nn) ∧ w.cell? ⟨O, 2, none⟩ = some (.int .i64 xx) := by
  refine ⟨?_, ?_, ?_⟩ <;> simp [World.cell?, h]
theorem LT.obx (h : LT w0 w P S g T A L N Wd Pc n t (some (O, #[.int .i64 kd, .int .i64 nn, .int .i64 xx]))) : w.cell? ⟨O, 0, none⟩ = some (.int .i64 kd) ∧ w.cell? ⟨O, 1, none⟩ = some (.int .i64 nn) ∧ w.cell? ⟨O, 2, none⟩ = some (.int .i64 xx) := by
  obtain ⟨ρ, xs, ps, pcl, p, hv, bv, vb, vt, hs, bk, tk, F, h, h1⟩ := h
  exact ob_cells (h.o _ _ rfl).1
theorem WT.below (h : WT w0 w P S g T A L N Wd Pc n t j k pc ob) (hb : Below w.heap.size w w') : WT w0 w' P S g T A L N Wd Pc n t j k pc ob := by
  obtain ⟨ρ, xs, ps, pcl, p, hv, bv, vb, vt, hs, bk, tk, F, h, h1⟩ := h
  exact ⟨_, xs, ps, pcl, p, hv, bv, vb, vt, hs, bk, tk, F, h.below hb, h1⟩
theorem WT.pl (h : WT w0 w P S g T A L N Wd Pc n t j k pc ob) : PCAt w P (n : Int) := by
  obtain ⟨ρ, xs, ps, pcl, p, hv, bv, vb, vt, hs, bk, tk, F, h, h1⟩ := h
  exact h.pl
theorem WT.step (h : WT w0 w P S g T A L N Wd Pc n t j k pc ob) : WT w0 (w.setCell ⟨Wd, 7 + 14 * j + k, none⟩ (.int .i64 0)) P S g T A L N Wd Pc n t j (k + 1) pc ob := by
  obtain ⟨ρ, xs, ps, pcl, p, hv, bv, vb, vt, hs, bk, tk, F, h, h1⟩ := h
  exact ⟨_, xs, ps, pcl, p, hv, bv, vb, vt, hs, bk, tk, F, h.setWd (7 + 14 * j + k) 0, h1⟩
theorem WT.wcell (h : WT w0 w P S g T A L N Wd Pc n t j k pc ob) (i : Nat) (hi : i < 7 + 14 * n) : ∃ v, ∀ W, Below w.heap.size w W → W.cell? ⟨Wd, i, none⟩ = some (.int .i64 v) ∧ W.frozen? ⟨Wd, i, none⟩ = false := by
  obtain ⟨ρ, xs, ps, pcl, p, hv, bv, vb, vt, hs, bk, tk, F, h, h1⟩ := h
  refine ⟨_, fun W hb => row_cell ((hb.block Wd (lt_of_heap h.wd)).trans h.wd) i (by rw [h.ly]; exact hi)⟩
end
set_option maxRecDepth 20000 in
set_option maxHeartbeats 4000000 in
theorem loop2_of {xI : Int} {a1 : Option Addr} {len cap P S T N Wd Pc sz i : Nat} {O : Nat} {w0 : World} {g A L n t : Nat} {kd nn xx : Int} {j : Nat} {u4 u15 u16 u17 u19 u20 u21 u22 u23 u24 u25 u26 u27 u28 u29 u30 u31 u32 u33 u34 u35 u36 u37 u38 u39 u40 u41 u42 u43 u44 u45 u46 u47 u48 u49 u50 u51 u52 u53 u54 u55 u56 u57 u58 u59 u60 u61 u62 u63 u64 u65 u66 u67 u68 u69 u70 u71 u72 u73 u74 u75 u76 u77 u78 u79 u80 u81 u82 u83 u84 u85 u86 u87 u88 u89 u90 u91 u92 u93 u94 u95 u96 u97 u98 u99 u100 u101 u102 u103 u104 u105 u106 u107 u108 u109 u110 u111 u112 u113 u114 u115 u116 u117 u118 u119 u120 u121 u122 u123 u124 u125 u126 u127 u128 u129 u130 u131 u132 u133 u134 u135 u136 u137 u138 u139 u140 u141 u142 u143 u144 u145 u146 u147 u148 u149 u150 u151 u152 u153 u154 u155 u156 u157 u158 u159 u160 u161 u162 u163 u164 u165 u166 u167 u168 u169 u170 u171 u172 u173 u174 u175 u176 u177 u178 u179 u180 u181 u182 u183 u184 u185 u186 u187 u188 u189 u190 u191 u192 u193 u194 u195 u196 u197 u198 u199 u200 u201 u202 u203 u204 u205 u206 u207 u208 u209 u210 u211 u212 u213 u214 u215 u216 u217 u218 u219 u220 u221 u222 u223 u224 u225 u226 u227 u228 u229 u230 u231 u232 u233 u234 u235 u236 u237 u238 u239 u240 u241 u242 u243 u244 u245 u246 u247 u248 u249 u250 u251 u252 u253 u254 u255 u256 u257 u258 u259 u260 u261 u262 u263 u264 u265 u266 u267 u268 u269 u270 u271 u272 u273 u274 u275 u276 u277 u278 u279 u280 : Value} {Q : Exit → Act → World → Prop} {w : World}
    (hn1 : 1 ≤ n) (hn : n ≤ 6) (ht : t ≤ 950) (hsz : 7 + 14 * n = sz) (hj : j < n) (hW : WT w0 w P S g T A L N Wd Pc n t j 0 nn (some (O, #[.int .i64 kd, .int .i64 nn, .int .i64 xx])))
    (hN : ∀ (v18 v108 v109 v110 v111 v112 v113 v114 v115 v116 v117 v118 v119 v120 : Value)  (w' : World), WT w0 w' P S g T A L N Wd Pc n t j 14 nn (some (O, #[.int .i64 kd, .int .i64 nn, .int .i64 xx])) → Q .normal ⟨#[.int .u8 xI, .slice a1 len cap, undef, undef, u4, .pointer (some ⟨P, 0, none⟩), .pointer (some ⟨S, 0, none⟩), .pointer (some ⟨T, 0, none⟩), .pointer (some ⟨N, 0, none⟩), .slice (some ⟨Wd, 0, none⟩) sz sz, .slice (some ⟨Pc, 0, none⟩) 10 10, .pointer none, .int .i64 (i : Int), .pointer (some ⟨O, 0, none⟩), .int .i64 ((j + 1 : Nat) : Int), u15, u16, u17, v18, u19, u20, u21, u22, u23, u24, u25, u26, u27, u28, u29, u30, u31, u32, u33, u34, u35, u36, u37, u38, u39, u40, u41, u42, u43, u44, u45, u46, u47, u48, u49, u50, u51, u52, u53, u54, u55, u56, u57, u58, u59, u60, u61, u62, u63, u64, u65, u66, u67, u68, u69, u70, u71, u72, u73, u74, u75, u76, u77, u78, u79, u80, u81, u82, u83, u84, u85, u86, u87, u88, u89, u90, u91, u92, u93, u94, u95, u96, u97, u98, u99, u100, u101, u102, u103, u104, u105, u106, u107, v108, v109, v110, v111, v112, v113, v114, v115, v116, v117, v118, v119, v120, u121, u122, u123, u124, u125, u126, u127, u128, u129, u130, u131, u132, u133, u134, u135, u136, u137, u138, u139, u140, u141, u142, u143, u144, u145, u146, u147, u148, u149, u150, u151, u152, u153, u154, u155, u156, u157, u158, u159, u160, u161, u162, u163, u164, u165, u166, u167, u168, u169, u170, u171, u172, u173, u174, u175, u176, u177, u178, u179, u180, u181, u182, u183, u184, u185, u186, u187, u188, u189, u190, u191, u192, u193, u194, u195, u196, u197, u198, u199, u200, u201, u202, u203, u204, u205, u206, u207, u208, u209, u210, u211, u212, u213, u214, u215, u216, u217, u218, u219, u220, u221, u222, u223, u224, u225, u226, u227, u228, u229, u230, u231, u232, u233, u234, u235, u236, u237, u238, u239, u240, u241, u242, u243, u244, u245, u246, u247, u248, u249, u250, u251, u252, u253, u254, u255, u256, u257, u258, u259, u260, u261, u262, u263, u264, u265, u266, u267, u268, u269, u270, u271, u272, u273, u274, u275, u276, u277, u278, u279, u280], []⟩ w') :
    Code.wp Try.prog (.block 3 (.loop l2)) Q ⟨#[.int .u8 xI, .slice a1 len cap, undef, undef, u4, .pointer (some ⟨P, 0, none⟩), .pointer (some ⟨S, 0, none⟩), .pointer (some ⟨T, 0, none⟩), .pointer (some ⟨N, 0, none⟩), .slice (some ⟨Wd, 0, none⟩) sz sz, .slice (some ⟨Pc, 0, none⟩) 10 10, .pointer none, .int .i64 (i : Int), .pointer (some ⟨O, 0, none⟩), .int .i64 ((j + 1 : Nat) : Int), u15, u16, u17, .int .i64 0, u19, u20, u21, u22, u23, u24, u25, u26, u27, u28, u29, u30, u31, u32, u33, u34, u35, u36, u37, u38, u39, u40, u41, u42, u43, u44, u45, u46, u47, u48, u49, u50, u51, u52, u53, u54, u55, u56, u57, u58, u59, u60, u61, u62, u63, u64, u65, u66, u67, u68, u69, u70, u71, u72, u73, u74, u75, u76, u77, u78, u79, u80, u81, u82, u83, u84, u85, u86, u87, u88, u89, u90, u91, u92, u93, u94, u95, u96, u97, u98, u99, u100, u101, u102, u103, u104, u105, u106, u107, u108, u109, u110, u111, u112, u113, u114, u115, u116, u117, u118, u119, u120, u121, u122, u123, u124, u125, u126, u127, u128, u129, u130, u131, u132, u133, u134, u135, u136, u137, u138, u139, u140, u141, u142, u143, u144, u145, u146, u147, u148, u149, u150, u151, u152, u153, u154, u155, u156, u157, u158, u159, u160, u161, u162, u163, u164, u165, u166, u167, u168, u169, u170, u171, u172, u173, u174, u175, u176, u177, u178, u179, u180, u181, u182, u183, u184, u185, u186, u187, u188, u189, u190, u191, u192, u193, u194, u195, u196, u197, u198, u199, u200, u201, u202, u203, u204, u205, u206, u207, u208, u209, u210, u211, u212, u213, u214, u215, u216, u217, u218, u219, u220, u221, u222, u223, u224, u225, u226, u227, u228, u229, u230, u231, u232, u233, u234, u235, u236, u237, u238, u239, u240, u241, u242, u243, u244, u245, u246, u247, u248, u249, u250, u251, u252, u253, u254, u255, u256, u257, u258, u259, u260, u261, u262, u263, u264, u265, u266, u267, u268, u269, u270, u271, u272, u273, u274, u275, u276, u277, u278, u279, u280], []⟩ w := by
  refine wp_block ?_
  refine wp_loop (fun a w' => ∃ (k : Nat) (v108 v109 v110 v111 v112 v113 v114 v115 v116 v117 v118 v119 v120 : Value), k ≤ 14 ∧ a = ⟨#[.int .u8 xI, .slice a1 len cap, undef, undef, u4, .pointer (some ⟨P, 0, none⟩), .pointer (some ⟨S, 0, none⟩), .pointer (some ⟨T, 0, none⟩), .pointer (some ⟨N, 0, none⟩), .slice (some ⟨Wd, 0, none⟩) sz sz, .slice (some ⟨Pc, 0, none⟩) 10 10, .pointer none, .int .i64 (i : Int), .pointer (some ⟨O, 0, none⟩), .int .i64 ((j + 1 : Nat) : Int), u15, u16, u17, .int .i64 (k : Int), u19, u20, u21, u22, u23, u24, u25, u26, u27, u28, u29, u30, u31, u32, u33, u34, u35, u36, u37, u38, u39, u40, u41, u42, u43, u44, u45, u46, u47, u48, u49, u50, u51, u52, u53, u54, u55, u56, u57, u58, u59, u60, u61, u62, u63, u64, u65, u66, u67, u68, u69, u70, u71, u72, u73, u74, u75, u76, u77, u78, u79, u80, u81, u82, u83, u84, u85, u86, u87, u88, u89, u90, u91, u92, u93, u94, u95, u96, u97, u98, u99, u100, u101, u102, u103, u104, u105, u106, u107, v108, v109, v110, v111, v112, v113, v114, v115, v116, v117, v118, v119, v120, u121, u122, u123, u124, u125, u126, u127, u128, u129, u130, u131, u132, u133, u134, u135, u136, u137, u138, u139, u140, u141, u142, u143, u144, u145, u146, u147, u148, u149, u150, u151, u152, u153, u154, u155, u156, u157, u158, u159, u160, u161, u162, u163, u164, u165, u166, u167, u168, u169, u170, u171, u172, u173, u174, u175, u176, u177, u178, u179, u180, u181, u182, u183, u184, u185, u186, u187, u188, u189, u190, u191, u192, u193, u194, u195, u196, u197, u198, u199, u200, u201, u202, u203, u204, u205, u206, u207, u208, u209, u210, u211, u212, u213, u214, u215, u216, u217, u218, u219, u220, u221, u222, u223, u224, u225, u226, u227, u228, u229, u230, u231, u232, u233, u234, u235, u236, u237, u238, u239, u240, u241, u242, u243, u244, u245, u246, u247, u248, u249, u250, u251, u252, u253, u254, u255, u256, u257, u258, u259, u260, u261, u262, u263, u264, u265, u266, u267, u268, u269, u270, u271, u272, u273, u274, u275, u276, u277, u278, u279, u280], []⟩ ∧ WT w0 w' P S g T A L N Wd Pc n t j k nn (some (O, #[.int .i64 kd, .int .i64 nn, .int .i64 xx]))) (fun a _ => 15 - (RowKit.intOf (a.tmps.getD 18 undef)).toNat) ⟨0, u108, u109, u110, u111, u112, u113, u114, u115, u116, u117, u118, u119, u120, by omega, rfl, hW⟩ ?_
  rintro a w' ⟨k, v108, v109, v110, v111, v112, v113, v114, v115, v116, v117, v118, v119, v120, hk, rfl, hW⟩
  obtain ⟨p0, p1, p2, p3⟩ := PCAt.cells hW.pl
  rw [l2_eq]
  refine wp_seq ?_
  by_cases hk14 : k = 14
  · refine q24_out (fa := 0) hk14 p0 p1 p2 p3 (Lib.hid fun W hb => (crm n W hn1 hn).mono fun e w' h => ⟨h.1, hb.trans (h.2.mono hb.size)⟩) ?_
    intro v108 v109 v110 v111 w2 hb
    change Exit.inBlock 3 Q (.exit 3) _ _
    refine inblock_exit ?_
    subst hk14
    exact hN _ _ _ _ _ _ _ _ _ _ _ _ _ _ w2 (hW.below hb)
  · refine q24_in (fa := 0) (by omega) p0 p1 p2 p3 (Lib.hid fun W hb => (crm n W hn1 hn).mono fun e w' h => ⟨h.1, hb.trans (h.2.mono hb.size)⟩) ?_
    intro v108 v109 v110 v111 w2 hb2
    have hW2 := hW.below hb2
    obtain ⟨p0, p1, p2, p3⟩ := PCAt.cells hW2.pl
    obtain ⟨cv, hcv⟩ := hW2.wcell (7 + 14 * j + k) (by omega)
    change Code.wp Try.prog (.seq (.block 4 q26) q25) _ _ _
    refine wp_seq ?_
    refine wp_block ?_
    refine q26_of (n := n) (fa := 7 + 14 * j) (by omega) (by omega) p0 p1 p2 p3 (Lib.hid fun W hb => (cfr n (j + 1) W hn1 hn (by omega) (by omega)).mono fun e w' h => ⟨h.1, hb.trans (h.2.mono hb.size)⟩) hcv ?_
    intro v114 v115 v116 v117 v118 v119 v120 w3 w4 ⟨hb3, hw4⟩
    change Code.wp Try.prog q25 _ _ _
    refine q25_of (n := 0) (fa := 0) (by omega) ?_
    intro v112 v113 w5 hw5
    subst hw5
    subst hw4
    refine ⟨⟨k + 1, _, _, _, _, _, _, _, _, _, _, _, _, _, by omega, rfl, (hW2.below hb3).step⟩, ?_⟩
    show 15 - (RowKit.intOf (.int .i64 ((k + 1 : Nat) : Int))).toNat < 15 - (RowKit.intOf (.int .i64 (k : Int))).toNat
    simp [RowKit.intOf]
    omega
set_option maxRecDepth 20000 in
set_option maxHeartbeats 4000000 in
theorem mk2_of {xI : Int} {a1 : Option Addr} {len cap P S T N Wd Pc sz i : Nat} {O : Nat} {w0 : World} {g A L n t : Nat} {kd nn xx : Int} {j : Nat} {u4 u15 u16 u17 u18 u19 u20 u21 u22 u23 u24 u25 u26 u27 u28 u29 u30 u31 u32 u33 u34 u35 u36 u37 u38 u39 u40 u41 u42 u43 u44 u45 u46 u47 u48 u49 u50 u51 u52 u53 u54 u55 u56 u57 u58 u59 u60 u61 u62 u63 u64 u65 u66 u67 u68 u69 u70 u71 u72 u73 u74 u75 u76 u77 u78 u79 u80 u81 u82 u83 u84 u85 u86 u87 u88 u89 u90 u91 u92 u93 u94 u95 u96 u97 u98 u99 u100 u101 u102 u103 u104 u105 u106 u107 u108 u109 u110 u111 u112 u113 u114 u115 u116 u117 u118 u119 u120 u121 u122 u123 u124 u125 u126 u127 u128 u129 u130 u131 u132 u133 u134 u135 u136 u137 u138 u139 u140 u141 u142 u143 u144 u145 u146 u147 u148 u149 u150 u151 u152 u153 u154 u155 u156 u157 u158 u159 u160 u161 u162 u163 u164 u165 u166 u167 u168 u169 u170 u171 u172 u173 u174 u175 u176 u177 u178 u179 u180 u181 u182 u183 u184 u185 u186 u187 u188 u189 u190 u191 u192 u193 u194 u195 u196 u197 u198 u199 u200 u201 u202 u203 u204 u205 u206 u207 u208 u209 u210 u211 u212 u213 u214 u215 u216 u217 u218 u219 u220 u221 u222 u223 u224 u225 u226 u227 u228 u229 u230 u231 u232 u233 u234 u235 u236 u237 u238 u239 u240 u241 u242 u243 u244 u245 u246 u247 u248 u249 u250 u251 u252 u253 u254 u255 u256 u257 u258 u259 u260 u261 u262 u263 u264 u265 u266 u267 u268 u269 u270 u271 u272 u273 u274 u275 u276 u277 u278 u279 u280 : Value} {Q : Exit → Act → World → Prop} {w : World}
    (hn1 : 1 ≤ n) (hn : n ≤ 6) (ht : t ≤ 950) (hsz : 7 + 14 * n = sz) (hj : j < n) (hM : MT w0 w P S g T A L N Wd Pc n t j nn (some (O, #[.int .i64 kd, .int .i64 nn, .int .i64 xx])))
    (hN : ∀ (v18 v84 v85 v86 v87 v88 v89 v90 v91 v92 v93 v94 v95 v96 v97 v98 v99 v100 v101 v102 v103 v104 v105 v106 v107 v108 v109 v110 v111 v112 v113 v114 v115 v116 v117 v118 v119 v120 v121 v122 v123 v124 v125 v126 v127 v128 v129 v130 : Value)  (w' : World), LT w0 w' P S g T A L N Wd Pc n t (some (O, #[.int .i64 kd, .int .i64 nn, .int .i64 xx])) → Q .normal ⟨#[.int .u8 xI, .slice a1 len cap, undef, undef, u4, .pointer (some ⟨P, 0, none⟩), .pointer (some ⟨S, 0, none⟩), .pointer (some ⟨T, 0, none⟩), .pointer (some ⟨N, 0, none⟩), .slice (some ⟨Wd, 0, none⟩) sz sz, .slice (some ⟨Pc, 0, none⟩) 10 10, .pointer none, .int .i64 (i : Int), .pointer (some ⟨O, 0, none⟩), .int .i64 ((j + 1 : Nat) : Int), u15, u16, u17, v18, u19, u20, u21, u22, u23, u24, u25, u26, u27, u28, u29, u30, u31, u32, u33, u34, u35, u36, u37, u38, u39, u40, u41, u42, u43, u44, u45, u46, u47, u48, u49, u50, u51, u52, u53, u54, u55, u56, u57, u58, u59, u60, u61, u62, u63, u64, u65, u66, u67, u68, u69, u70, u71, u72, u73, u74, u75, u76, u77, u78, u79, u80, u81, u82, u83, v84, v85, v86, v87, v88, v89, v90, v91, v92, v93, v94, v95, v96, v97, v98, v99, v100, v101, v102, v103, v104, v105, v106, v107, v108, v109, v110, v111, v112, v113, v114, v115, v116, v117, v118, v119, v120, v121, v122, v123, v124, v125, v126, v127, v128, v129, v130, u131, u132, u133, u134, u135, u136, u137, u138, u139, u140, u141, u142, u143, u144, u145, u146, u147, u148, u149, u150, u151, u152, u153, u154, u155, u156, u157, u158, u159, u160, u161, u162, u163, u164, u165, u166, u167, u168, u169, u170, u171, u172, u173, u174, u175, u176, u177, u178, u179, u180, u181, u182, u183, u184, u185, u186, u187, u188, u189, u190, u191, u192, u193, u194, u195, u196, u197, u198, u199, u200, u201, u202, u203, u204, u205, u206, u207, u208, u209, u210, u211, u212, u213, u214, u215, u216, u217, u218, u219, u220, u221, u222, u223, u224, u225, u226, u227, u228, u229, u230, u231, u232, u233, u234, u235, u236, u237, u238, u239, u240, u241, u242, u243, u244, u245, u246, u247, u248, u249, u250, u251, u252, u253, u254, u255, u256, u257, u258, u259, u260, u261, u262, u263, u264, u265, u266, u267, u268, u269, u270, u271, u272, u273, u274, u275, u276, u277, u278, u279, u280], []⟩ w') :
    Code.wp Try.prog mk2 Q ⟨#[.int .u8 xI, .slice a1 len cap, undef, undef, u4, .pointer (some ⟨P, 0, none⟩), .pointer (some ⟨S, 0, none⟩), .pointer (some ⟨T, 0, none⟩), .pointer (some ⟨N, 0, none⟩), .slice (some ⟨Wd, 0, none⟩) sz sz, .slice (some ⟨Pc, 0, none⟩) 10 10, .pointer none, .int .i64 (i : Int), .pointer (some ⟨O, 0, none⟩), .int .i64 ((j + 1 : Nat) : Int), u15, u16, u17, u18, u19, u20, u21, u22, u23, u24, u25, u26, u27, u28, u29, u30, u31, u32, u33, u34, u35, u36, u37, u38, u39, u40, u41, u42, u43, u44, u45, u46, u47, u48, u49, u50, u51, u52, u53, u54, u55, u56, u57, u58, u59, u60, u61, u62, u63, u64, u65, u66, u67, u68, u69, u70, u71, u72, u73, u74, u75, u76, u77, u78, u79, u80, u81, u82, u83, u84, u85, u86, u87, u88, u89, u90, u91, u92, u93, u94, u95, u96, u97, u98, u99, u100, u101, u102, u103, u104, u105, u106, u107, u108, u109, u110, u111, u112, u113, u114, u115, u116, u117, u118, u119, u120, u121, u122, u123, u124, u125, u126, u127, u128, u129, u130, u131, u132, u133, u134, u135, u136, u137, u138, u139, u140, u141, u142, u143, u144, u145, u146, u147, u148, u149, u150, u151, u152, u153, u154, u155, u156, u157, u158, u159, u160, u161, u162, u163, u164, u165, u166, u167, u168, u169, u170, u171, u172, u173, u174, u175, u176, u177, u178, u179, u180, u181, u182, u183, u184, u185, u186, u187, u188, u189, u190, u191, u192, u193, u194, u195, u196, u197, u198, u199, u200, u201, u202, u203, u204, u205, u206, u207, u208, u209, u210, u211, u212, u213, u214, u215, u216, u217, u218, u219, u220, u221, u222, u223, u224, u225, u226, u227, u228, u229, u230, u231, u232, u233, u234, u235, u236, u237, u238, u239, u240, u241, u242, u243, u244, u245, u246, u247, u248, u249, u250, u251, u252, u253, u254, u255, u256, u257, u258, u259, u260, u261, u262, u263, u264, u265, u266, u267, u268, u269, u270, u271, u272, u273, u274, u275, u276, u277, u278, u279, u280], []⟩ w := by
  have hW : WT w0 w P S g T A L N Wd Pc n t j 0 nn (some (O, #[.int .i64 kd, .int .i64 nn, .int .i64 xx])) := hM
  obtain ⟨p0, p1, p2, p3⟩ := PCAt.cells hW.pl
  rw [mk2_eq]
  refine wp_seq ?_
  refine q21_of (n := n) (fa := 7 + 14 * j) (by omega) (by omega) (by omega) p0 p1 p2 p3 (Lib.hid fun W hb => (cfr n (j + 1) W hn1 hn (by omega) (by omega)).mono fun e w' h => ⟨h.1, hb.trans (h.2.mono hb.size)⟩) (Lib.hid fun W hb => (crm n W hn1 hn).mono fun e w' h => ⟨h.1, hb.trans (h.2.mono hb.size)⟩) ?_
  intro v84 v85 v86 v87 v88 v89 v90 v91 v92 v93 v94 v95 v96 v97 v98 v99 v100 v101 v102 v103 v104 v105 v106 v107 w1 hb1
  change Code.wp Try.prog (.seq (.seq q23 (.block 3 (.loop l2))) (.seq q27 q28)) _ _ _
  refine wp_seq ?_
  refine wp_seq ?_
  refine q23_of (n := 0) (fa := 0) ?_
  intro w2 hw2
  subst hw2
  change Code.wp Try.prog (.block 3 (.loop l2)) _ _ _
  refine loop2_of hn1 hn ht hsz hj (hW.below hb1) ?_
  intro v18 v108 v109 v110 v111 v112 v113 v114 v115 v116 v117 v118 v119 v120 w3 hW3
  obtain ⟨p0, p1, p2, p3⟩ := PCAt.cells hW3.pl
  obtain ⟨cv, hcv⟩ := hW3.wcell (7 + 14 * j) (by omega)
  change Code.wp Try.prog (.seq q27 q28) _ _ _
  refine wp_seq ?_
  refine q27_of (n := n) (fa := 7 + 14 * j) (by omega) (by omega) p0 p1 p2 p3 (Lib.hid fun W hb => (cfr n (j + 1) W hn1 hn (by omega) (by omega)).mono fun e w' h => ⟨h.1, hb.trans (h.2.mono hb.size)⟩) hcv ?_
  intro v121 v122 v123 v124 v125 w4 w5 ⟨hb4, hw5⟩
  obtain ⟨ρ, xs, ps, pcl, p, hv, bv, vb, vt, hs, bk, tk, F, h, hp, hbt, hFj, hF⟩ := hW3.below hb4
  have h5 := h.setWd (7 + 14 * j) 1
  subst hw5
  obtain ⟨o0, o1, o2⟩ := ob_cells (h5.o _ _ rfl).1
  obtain ⟨z0, z1⟩ := row_cell h5.pc (j + 1) (by rw [h5.lp]; omega)
  change Code.wp Try.prog q28 _ _ _
  refine q28_of (by omega) o1 z0 z1 ?_
  intro v126 v127 v128 v129 v130 w6 hw6
  subst hw6
  refine hN _ _ _ _ _ _ _ _ _ _ _ _ _ _ _ _ _ _ _ _ _ _ _ _ _ _ _ _ _ _ _ _ _ _ _ _ _ _ _ _ _ _ _ _ _ _ _ _ _ ⟨_, _, _, _, _, _, _, _, _, _, _, _, _, h5.setPc (j + 1) nn, hp, hbt, fun i hi => ?_⟩
  by_cases e : i = j
  · subst e
    rw [hFj, List.getD_eq_getElem?_getD, List.getElem?_set_self (by rw [h.lp]; omega)]
    rfl
  · rw [hF i e hi, List.getD_eq_getElem?_getD, List.getD_eq_getElem?_getD, List.getElem?_set_ne (by omega)]
set_option maxRecDepth 20000 in
set_option maxHeartbeats 8000000 in
theorem mk_of {xI : Int} {a1 : Option Addr} {len cap P S T N Wd Pc sz i : Nat} {O : Nat} {w0 : World} {g A L n t : Nat} {kd nn xx : Int} {u4 u14 u15 u16 u17 u18 u19 u20 u21 u22 u23 u24 u25 u26 u27 u28 u29 u30 u31 u32 u33 u34 u35 u36 u37 u38 u39 u40 u41 u42 u43 u44 u45 u46 u47 u48 u49 u50 u51 u52 u53 u54 u55 u56 u57 u58 u59 u60 u61 u62 u63 u64 u65 u66 u67 u68 u69 u70 u71 u72 u73 u74 u75 u76 u77 u78 u79 u80 u81 u82 u83 u84 u85 u86 u87 u88 u89 u90 u91 u92 u93 u94 u95 u96 u97 u98 u99 u100 u101 u102 u103 u104 u105 u106 u107 u108 u109 u110 u111 u112 u113 u114 u115 u116 u117 u118 u119 u120 u121 u122 u123 u124 u125 u126 u127 u128 u129 u130 u131 u132 u133 u134 u135 u136 u137 u138 u139 u140 u141 u142 u143 u144 u145 u146 u147 u148 u149 u150 u151 u152 u153 u154 u155 u156 u157 u158 u159 u160 u161 u162 u163 u164 u165 u166 u167 u168 u169 u170 u171 u172 u173 u174 u175 u176 u177 u178 u179 u180 u181 u182 u183 u184 u185 u186 u187 u188 u189 u190 u191 u192 u193 u194 u195 u196 u197 u198 u199 u200 u201 u202 u203 u204 u205 u206 u207 u208 u209 u210 u211 u212 u213 u214 u215 u216 u217 u218 u219 u220 u221 u222 u223 u224 u225 u226 u227 u228 u229 u230 u231 u232 u233 u234 u235 u236 u237 u238 u239 u240 u241 u242 u243 u244 u245 u246 u247 u248 u249 u250 u251 u252 u253 u254 u255 u256 u257 u258 u259 u260 u261 u262 u263 u264 u265 u266 u267 u268 u269 u270 u271 u272 u273 u274 u275 u276 u277 u278 u279 u280 : Value} {Q : Exit → Act → World → Prop} {w : World}
    (hn1 : 1 ≤ n) (hn : n ≤ 6) (ht : t ≤ 900) (hsz : 7 + 14 * n = sz) (hL : LT w0 w P S g T A L N Wd Pc n t (some (O, #[.int .i64 kd, .int .i64 nn, .int .i64 xx])))
    (hN : ∀ (v14 v15 v16 v17 v18 v62 v63 v64 v65 v66 v67 v68 v69 v70 v71 v72 v73 v74 v75 v76 v77 v78 v79 v80 v81 v82 v83 v84 v85 v86 v87 v88 v89 v90 v91 v92 v93 v94 v95 v96 v97 v98 v99 v100 v101 v102 v103 v104 v105 v106 v107 v108 v109 v110 v111 v112 v113 v114 v115 v116 v117 v118 v119 v120 v121 v122 v123 v124 v125 v126 v127 v128 v129 v130 : Value)  (w' : World), LT w0 w' P S g T A L N Wd Pc n (t + 1) (some (O, #[.int .i64 kd, .int .i64 nn, .int .i64 xx])) → Q .normal ⟨#[.int .u8 xI, .slice a1 len cap, undef, undef, u4, .pointer (some ⟨P, 0, none⟩), .pointer (some ⟨S, 0, none⟩), .pointer (some ⟨T, 0, none⟩), .pointer (some ⟨N, 0, none⟩), .slice (some ⟨Wd, 0, none⟩) sz sz, .slice (some ⟨Pc, 0, none⟩) 10 10, .pointer none, .int .i64 (i : Int), .pointer (some ⟨O, 0, none⟩), v14, v15, v16, v17, v18, u19, u20, u21, u22, u23, u24, u25, u26, u27, u28, u29, u30, u31, u32, u33, u34, u35, u36, u37, u38, u39, u40, u41, u42, u43, u44, u45, u46, u47, u48, u49, u50, u51, u52, u53, u54, u55, u56, u57, u58, u59, u60, u61, v62, v63, v64, v65, v66, v67, v68, v69, v70, v71, v72, v73, v74, v75, v76, v77, v78, v79, v80, v81, v82, v83, v84, v85, v86, v87, v88, v89, v90, v91, v92, v93, v94, v95, v96, v97, v98, v99, v100, v101, v102, v103, v104, v105, v106, v107, v108, v109, v110, v111, v112, v113, v114, v115, v116, v117, v118, v119, v120, v121, v122, v123, v124, v125, v126, v127, v128, v129, v130, u131, u132, u133, u134, u135, u136, u137, u138, u139, u140, u141, u142, u143, u144, u145, u146, u147, u148, u149, u150, u151, u152, u153, u154, u155, u156, u157, u158, u159, u160, u161, u162, u163, u164, u165, u166, u167, u168, u169, u170, u171, u172, u173, u174, u175, u176, u177, u178, u179, u180, u181, u182, u183, u184, u185, u186, u187, u188, u189, u190, u191, u192, u193, u194, u195, u196, u197, u198, u199, u200, u201, u202, u203, u204, u205, u206, u207, u208, u209, u210, u211, u212, u213, u214, u215, u216, u217, u218, u219, u220, u221, u222, u223, u224, u225, u226, u227, u228, u229, u230, u231, u232, u233, u234, u235, u236, u237, u238, u239, u240, u241, u242, u243, u244, u245, u246, u247, u248, u249, u250, u251, u252, u253, u254, u255, u256, u257, u258, u259, u260, u261, u262, u263, u264, u265, u266, u267, u268, u269, u270, u271, u272, u273, u274, u275, u276, u277, u278, u279, u280], []⟩ w') :
    Code.wp Try.prog mk Q ⟨#[.int .u8 xI, .slice a1 len cap, undef, undef, u4, .pointer (some ⟨P, 0, none⟩), .pointer (some ⟨S, 0, none⟩), .pointer (some ⟨T, 0, none⟩), .pointer (some ⟨N, 0, none⟩), .slice (some ⟨Wd, 0, none⟩) sz sz, .slice (some ⟨Pc, 0, none⟩) 10 10, .pointer none, .int .i64 (i : Int), .pointer (some ⟨O, 0, none⟩), u14, u15, u16, u17, u18, u19, u20, u21, u22, u23, u24, u25, u26, u27, u28, u29, u30, u31, u32, u33, u34, u35, u36, u37, u38, u39, u40, u41, u42, u43, u44, u45, u46, u47, u48, u49, u50, u51, u52, u53, u54, u55, u56, u57, u58, u59, u60, u61, u62, u63, u64, u65, u66, u67, u68, u69, u70, u71, u72, u73, u74, u75, u76, u77, u78, u79, u80, u81, u82, u83, u84, u85, u86, u87, u88, u89, u90, u91, u92, u93, u94, u95, u96, u97, u98, u99, u100, u101, u102, u103, u104, u105, u106, u107, u108, u109, u110, u111, u112, u113, u114, u115, u116, u117, u118, u119, u120, u121, u122, u123, u124, u125, u126, u127, u128, u129, u130, u131, u132, u133, u134, u135, u136, u137, u138, u139, u140, u141, u142, u143, u144, u145, u146, u147, u148, u149, u150, u151, u152, u153, u154, u155, u156, u157, u158, u159, u160, u161, u162, u163, u164, u165, u166, u167, u168, u169, u170, u171, u172, u173, u174, u175, u176, u177, u178, u179, u180, u181, u182, u183, u184, u185, u186, u187, u188, u189, u190, u191, u192, u193, u194, u195, u196, u197, u198, u199, u200, u201, u202, u203, u204, u205, u206, u207, u208, u209, u210, u211, u212, u213, u214, u215, u216, u217, u218, u219, u220, u221, u222, u223, u224, u225, u226, u227, u228, u229, u230, u231, u232, u233, u234, u235, u236, u237, u238, u239, u240, u241, u242, u243, u244, u245, u246, u247, u248, u249, u250, u251, u252, u253, u254, u255, u256, u257, u258, u259, u260, u261, u262, u263, u264, u265, u266, u267, u268, u269, u270, u271, u272, u273, u274, u275, u276, u277, u278, u279, u280], []⟩ w := by
  obtain ⟨id, ok, Mid, C1, C2⟩ := mk_pair hL hn (by omega) nn
  obtain ⟨o0, o1, o2⟩ := hL.obx
  rw [mk_eq]
  refine wp_seq ?_
  refine q16_of (R := Mid) o1 C1 ?_
  intro v62 v63 v64 v65 v66 v67 v68 v69 w1 hM
  change Code.wp Try.prog (.seq q17 (.seq q18 (.seq q20 (.cond (.tmp 83) mk2 .skip)))) _ _ _
  refine wp_seq ?_
  refine q17_of (R := fun w'' => (ok = false ∧ LT w0 w'' P S g T A L N Wd Pc n (t + 1) (some (O, #[.int .i64 kd, .int .i64 nn, .int .i64 xx]))) ∨ (ok = true ∧ ∃ j : Nat, id = (j : Int) + 1 ∧ j < n ∧ MT w0 w'' P S g T A L N Wd Pc n (t + 1) j nn (some (O, #[.int .i64 kd, .int .i64 nn, .int .i64 xx])))) (Lib.hid (C2.out _ hM)) ?_
  intro v70 v71 v72 v73 v74 w2 hF
  change Code.wp Try.prog (.seq q18 (.seq q20 (.cond (.tmp 83) mk2 .skip))) _ _ _
  refine wp_seq ?_
  refine q18_of ?_
  intro v75 v76 v77 v78 v79 v80 v81 v82 w3 hw3
  subst hw3
  change Code.wp Try.prog (.seq q20 (.cond (.tmp 83) mk2 .skip)) _ _ _
  refine wp_seq ?_
  refine q20_of ?_
  intro w4 hw4
  subst hw4
  change Code.wp Try.prog (.cond (.tmp 83) mk2 .skip) _ _ _
  rcases hF with ⟨rfl, hL2⟩ | ⟨rfl, j, hid, hj, hM2⟩
  · refine wp_cond_false rfl ?_
    refine wp_skip ?_
    exact hN _ _ _ _ _ _ _ _ _ _ _ _ _ _ _ _ _ _ _ _ _ _ _ _ _ _ _ _ _ _ _ _ _ _ _ _ _ _ _ _ _ _ _ _ _ _ _ _ _ _ _ _ _ _ _ _ _ _ _ _ _ _ _ _ _ _ _ _ _ _ _ _ _ _ _ hL2
  · refine wp_cond_true rfl ?_
    obtain rfl : id = ((j + 1 : Nat) : Int) := by omega
    refine mk2_of hn1 hn (by omega) hsz hj hM2 ?_
    intro v18 v84 v85 v86 v87 v88 v89 v90 v91 v92 v93 v94 v95 v96 v97 v98 v99 v100 v101 v102 v103 v104 v105 v106 v107 v108 v109 v110 v111 v112 v113 v114 v115 v116 v117 v118 v119 v120 v121 v122 v123 v124 v125 v126 v127 v128 v129 v130 w5 hL5
    exact hN _ _ _ _ _ _ _ _ _ _ _ _ _ _ _ _ _ _ _ _ _ _ _ _ _ _ _ _ _ _ _ _ _ _ _ _ _ _ _ _ _ _ _ _ _ _ _ _ _ _ _ _ _ _ _ _ _ _ _ _ _ _ _ _ _ _ _ _ _ _ _ _ _ _ _ hL5
end Go.Proofs.Ytajmmglfdinahaa.ft
