/- The play of DequeOnce: behind a walk that has ended: a thief (layer 13). -/
import Derived.Test.YtegbifphekhgkaaDqP8
namespace Go.Proofs.Ytegbifphekhgkaa.dqo
open Go.Proofs.Ytegbifphekhgkaa.ro (Ro KX ext)
open Go.Proofs.Ytegbifphekhgkaa.DO
open Go.ChangeShapes Go.WideShapes Go.ChangeAt Go.RowKit

attribute [local go_sem ↓] Go.wp_at_zero Go.wp_at_succ
set_option linter.unusedVariables false
set_option linter.unusedSimpArgs false
theorem stolen_le {D : Nat} {m : Mem} {ag : Nat → Ag} {p : Ps} (h : Inv D m ag p) : p.stolen.length ≤ p.T := by
  have HT := h.ls.HT
  by_cases e : ∃ k, 1 ≤ k ∧ k < 4 ∧ (ag k).pc = .leave ∧ (ag k).hs = true
  · obtain ⟨k, k1, k4, h1, h2⟩ := e
    have := congrArg List.length (h.pd1 k k1 k4 h1 h2)
    simp at this
    omega
  · have := congrArg List.length (h.pd0 fun k k1 k4 hh => e ⟨k, k1, k4, hh⟩)
    simp at this
    omega
section
variable {w0 w w1 : World} {ρ : Ro} {Pl S g Wv Ou P D n i len nx k A : Nat} {tl : Int} {pb pb' : Bool} {ag : Nat → Ag} {ps : Nat → Option Nat} {vs : Nat → Value} {ls : Nat → List Int} {xs : List Int} {m : Mem} {p : Ps} {a : Ag} {o : Wk} {l : Lv}
theorem PE.endb (h : PE w0 w ρ Pl S g Wv Ou P D n i len tl nx pb k A ag ps vs ls xs m l p a o (fun _ => True)) : EndB A o true := Or.inl ⟨by rw [h.ar.nx, h.en]; rfl, rfl⟩
theorem PE.got (h : PE w0 w ρ Pl S g Wv Ou P D n i len tl nx pb k A ag ps vs ls xs m l p a o (fun _ => True)) :
    Calls Try.prog 22 #[.pointer (some ⟨A, 0, none⟩)] w fun e w' => e = .returned (.tuple #[.int .i64 (if a.hs = true then a.gt else 0), .bool a.hs]) ∧ w' = w := by
  refine got_of A o true _ a.hs w h.ob (Lib.hid h.endb) (Lib.hid ?_)
  cases e : a.hs
  · exact Or.inr ⟨Or.inr (by rw [h.ar.hs, e]), rfl, rfl⟩
  · exact Or.inl ⟨rfl, by rw [h.ar.hs, e], rfl, by rw [h.ar.gt]; rfl⟩
/-- the state ahead of the next round: which lists, which numbers. -/
theorem PE.next (h : PE w0 w ρ Pl S g Wv Ou P D n i len tl nx pb k A ag ps vs ls xs m l p a o (fun _ => True)) {ρ' : Ro} {vs' : Nat → Value} {ls' : Nat → List Int} {tl' : Int} {nx' : Nat}
    (ho : OS w0 w1 ρ' Pl S g Wv Ou P D n ag ps (fun _ => True) vs' ls' xs) (e1 : tl' = p.T) (e2 : nx' = p.nx) (e3 : pb = p.pops) (l0 : ls' 0 = p.pushed) (l1 : ls' 1 = p.popped) (l2 : ls' 2 = p.stolen) (l3 : ls' 3 = p.stack) : LI w0 w1 Pl S g Wv Ou P D n (i + 1) len tl' nx' pb :=
  ⟨ρ', _, _, _, _, _, _, _, ho, h.dq, h.iv, h.s0, by push_cast; exact h.tk, h.nb, e1, e2, e3, l0, l1, l2, l3, h.bd⟩
end
theorem t26_eq : t26 = .seq p26 (.seq (.seq r27 (.cond (.tmp 94) (.seq (.seq r28 (.cond (.tmp 95) r29 .skip)) (.exit 1)) .skip)) t30) := by kernel_rfl
set_option maxRecDepth 20000 in
set_option maxHeartbeats 4000000 in
theorem thief_of {D len cap Rz Pl S Wv Ou nx i : Nat} {a1 : Option Addr} {tl : Int} {ps : Bool} {w0 : World} {g P n k A : Nat} {ρ : Ro} {ag : Nat → Ag} {ps0 : Nat → Option Nat} {vs : Nat → Value} {ls : Nat → List Int} {xs : List Int} {m : Mem} {l : Lv} {p : Ps} {a : Ag} {o : Wk} {u15 u16 u17 u18 u19 u20 u21 u22 u23 u24 u25 u26 u27 u28 u29 u30 u31 u32 u33 u34 u35 u36 u37 u38 u39 u40 u41 u42 u43 u44 u45 u46 u47 u48 u49 u50 u51 u52 u53 u54 u55 u56 u57 u58 u59 u60 u61 u62 u63 u64 u65 u66 u67 u68 u69 u70 u71 u72 u73 u74 u75 u76 u77 u78 u79 u80 u81 u82 u83 u84 u85 u86 u87 u88 u89 u90 u91 u92 u93 u94 u95 u96 u97 u98 u99 u100 u101 u102 u103 u104 u105 u106 u107 u108 u109 u110 u111 u112 u113 u114 u115 u116 u117 u118 u119 u120 u121 u122 u123 u124 u125 u126 u127 u128 u129 u130 u131 u132 u133 u134 u135 u136 u137 u138 u139 u140 u141 u142 u143 u144 u145 u146 u147 u148 u149 u150 u151 u152 u153 u154 u155 u156 u157 u158 u159 u160 u161 u162 u163 u164 u165 u166 u167 u168 u169 u170 u171 u172 u173 u174 u175 u176 u177 u178 u179 u180 u181 u182 u183 : Value} {Q : Exit → Act → World → Prop} {w : World}
    (hi9 : i ≤ 800) (hk : k < 4) (hk0 : k ≠ 0) (h : PE w0 w ρ Pl S g Wv Ou P D n i len tl nx ps k A ag ps0 vs ls xs m l p a o (fun _ => True))
    (hX : ∀ (v15 v16 v88 v89 v90 v91 v92 v93 v94 v95 v96 v97 v98 v99 v100 v101 : Value)  (w' : World), LI w0 w' Pl S g Wv Ou P D n (i + 1) len tl nx ps → Q (.exit 1) ⟨#[.int .i64 (D : Int), .slice a1 len cap, undef, undef, .pointer (some ⟨Rz, 0, none⟩), .pointer (some ⟨Pl, 0, none⟩), .pointer (some ⟨S, 0, none⟩), .slice (some ⟨Wv, 0, none⟩) 4 4, .pointer (some ⟨Ou, 0, none⟩), .int .i64 tl, .int .i64 (nx : Int), .bool ps, .int .i64 (i : Int), .int .i64 (k : Int), .pointer (some ⟨A, 0, none⟩), v15, v16, u17, u18, u19, u20, u21, u22, u23, u24, u25, u26, u27, u28, u29, u30, u31, u32, u33, u34, u35, u36, u37, u38, u39, u40, u41, u42, u43, u44, u45, u46, u47, u48, u49, u50, u51, u52, u53, u54, u55, u56, u57, u58, u59, u60, u61, u62, u63, u64, u65, u66, u67, u68, u69, u70, u71, u72, u73, u74, u75, u76, u77, u78, u79, u80, u81, u82, u83, u84, u85, u86, u87, v88, v89, v90, v91, v92, v93, v94, v95, v96, v97, v98, v99, v100, v101, u102, u103, u104, u105, u106, u107, u108, u109, u110, u111, u112, u113, u114, u115, u116, u117, u118, u119, u120, u121, u122, u123, u124, u125, u126, u127, u128, u129, u130, u131, u132, u133, u134, u135, u136, u137, u138, u139, u140, u141, u142, u143, u144, u145, u146, u147, u148, u149, u150, u151, u152, u153, u154, u155, u156, u157, u158, u159, u160, u161, u162, u163, u164, u165, u166, u167, u168, u169, u170, u171, u172, u173, u174, u175, u176, u177, u178, u179, u180, u181, u182, u183], []⟩ w') :
    Code.wp Try.prog t26 Q ⟨#[.int .i64 (D : Int), .slice a1 len cap, undef, undef, .pointer (some ⟨Rz, 0, none⟩), .pointer (some ⟨Pl, 0, none⟩), .pointer (some ⟨S, 0, none⟩), .slice (some ⟨Wv, 0, none⟩) 4 4, .pointer (some ⟨Ou, 0, none⟩), .int .i64 tl, .int .i64 (nx : Int), .bool ps, .int .i64 (i : Int), .int .i64 (k : Int), .pointer (some ⟨A, 0, none⟩), u15, u16, u17, u18, u19, u20, u21, u22, u23, u24, u25, u26, u27, u28, u29, u30, u31, u32, u33, u34, u35, u36, u37, u38, u39, u40, u41, u42, u43, u44, u45, u46, u47, u48, u49, u50, u51, u52, u53, u54, u55, u56, u57, u58, u59, u60, u61, u62, u63, u64, u65, u66, u67, u68, u69, u70, u71, u72, u73, u74, u75, u76, u77, u78, u79, u80, u81, u82, u83, u84, u85, u86, u87, u88, u89, u90, u91, u92, u93, u94, u95, u96, u97, u98, u99, u100, u101, u102, u103, u104, u105, u106, u107, u108, u109, u110, u111, u112, u113, u114, u115, u116, u117, u118, u119, u120, u121, u122, u123, u124, u125, u126, u127, u128, u129, u130, u131, u132, u133, u134, u135, u136, u137, u138, u139, u140, u141, u142, u143, u144, u145, u146, u147, u148, u149, u150, u151, u152, u153, u154, u155, u156, u157, u158, u159, u160, u161, u162, u163, u164, u165, u166, u167, u168, u169, u170, u171, u172, u173, u174, u175, u176, u177, u178, u179, u180, u181, u182, u183], []⟩ w := by
  rw [t26_eq]
  refine wp_seq ?_
  refine p26_of (Lib.hid h.got) ?_
  intro v88 v89 v90 v91 v92 w1 hw1
  rw [hw1]
  change Code.wp Try.prog (.seq (.seq r27 (.cond (.tmp 94) (.seq (.seq r28 (.cond (.tmp 95) r29 .skip)) (.exit 1)) .skip)) t30) Q _ _
  refine wp_seq ?_
  refine wp_seq ?_
  refine r27_yes (by omega) hk ?_
  intro v93 w2 hw2
  rw [hw2]
  change Code.wp Try.prog (.cond (.tmp 94) (.seq (.seq r28 (.cond (.tmp 95) r29 .skip)) (.exit 1)) .skip) _ _ _
  refine wp_cond_true rfl ?_
  refine wp_seq ?_
  refine wp_seq ?_
  refine r28_of ?_
  intro w3 hw3
  rw [hw3]
  change Code.wp Try.prog (.cond (.tmp 95) r29 .skip) _ _ _
  rcases h.out with ⟨e, _⟩ | ⟨_, _, hs, hl⟩ | ⟨_, _, hs, hl⟩ | ⟨_, e, _⟩
  · exact absurd h.en e
  · have hq := hl
    simp only [Ps.lv, Lv.mk.injEq] at hl
    obtain ⟨q1, q2, q3, q4, q5, q6, q7⟩ := hl
    have hsl := stolen_le h.iv
    rw [q6, q1, List.length_append] at hsl
    have htb := h.tb
    refine wp_cond_true (show Value.bool a.hs = _ by rw [hs]) ?_
    refine r29_of (n0 := 0) (h.os.row 2 (by omega)).1 (lt_of_heap h.os.ou) (lt_of_heap h.os.ou) (h.os.out 2 (by omega)) (h.os.frzO 2) (by rw [h.l2]; omega) ?_
    intro v96 v97 v98 v99 v100 v101 W vv w4 ⟨hap, hw4⟩
    rw [hw4]
    refine wp_exit ?_
    change Q (.exit 1) _ _
    rw [if_pos hs] at hap
    refine hX _ _ _ _ _ _ _ _ _ _ _ _ _ _ _ _ _ (h.next (h.os.app 2 (by omega) W vv a.gt hap) (by rw [h.e1, q1]) (by rw [h.e2, q2]) (by rw [h.e3, q3]) ?_ ?_ ?_ ?_)
    · simp [h.l0, q4]
    · simp [h.l1, q5]
    · simp [h.l2, q6]
    · simp [h.l3, q7]
  · have q1 : p.T = l.T := congrArg Lv.T hl
    have q2 : p.nx = l.nx := congrArg Lv.nx hl
    have q3 : p.pops = l.pops := congrArg Lv.pops hl
    have q4 : p.pushed = l.pushed := congrArg Lv.pushed hl
    have q5 : p.popped = l.popped := congrArg Lv.popped hl
    have q6 : p.stolen = l.stolen := congrArg Lv.stolen hl
    have q7 : p.stack = l.stack := congrArg Lv.stack hl
    refine wp_cond_false (show Value.bool a.hs = _ by rw [hs]) ?_
    refine wp_skip ?_
    refine wp_exit ?_
    change Q (.exit 1) _ _
    exact hX _ _ _ _ _ _ _ _ _ _ _ _ _ _ _ _ _ (h.next h.os (by rw [h.e1, q1]) (by rw [h.e2, q2]) (by rw [h.e3, q3]) (by rw [h.l0, q4]) (by rw [h.l1, q5]) (by rw [h.l2, q6]) (by rw [h.l3, q7]))
  · exact absurd e hk0
end Go.Proofs.Ytegbifphekhgkaa.dqo
