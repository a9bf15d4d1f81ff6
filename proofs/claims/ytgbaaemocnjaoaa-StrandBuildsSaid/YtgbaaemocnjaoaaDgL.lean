/- The document's builder: any frame, any loop (layer 30). -/
import Derived.Test.YtgbaaemocnjaoaaDgK
import Derived.Test.YtgbaaemocnjaoaaDgF
namespace Go.Proofs.Ytgbaaemocnjaoaa.dg
open Go.ChangeShapes Go.WideShapes Go.ChangeAt Go.RowKit
open Go.Proofs.Ytgbaaemocnjaoaa.ro Go.Proofs.Ytgbaaemocnjaoaa.sn
attribute [local go_sem ↓] Go.wp_at_zero Go.wp_at_succ
set_option linter.unusedVariables false
set_option linter.unusedSimpArgs false
set_option maxRecDepth 20000 in
set_option maxHeartbeats 4000000 in
theorem fr_round {w0 w wr : World} {r r1 : Ro} {b nb n cp β m0 : Nat} {a : Option Addr} {L : List Mk} {T : List Fm} {f : Fm} {x : Dx} {kk now : Int} {vah n2 : Value} {va la : Option Addr} {vn vc ln lc : Nat} {u10 u13 u14 u15 u16 u17 u18 u19 u20 u21 u22 u23 u24 u25 u26 u27 u28 u29 u30 u31 u32 u33 u34 u35 u36 u37 u38 u39 u40 u41 u42 u43 u44 u45 u46 u47 u48 u49 u50 u51 u52 u53 u54 u55 u56 u57 u58 u59 u60 u61 u62 u63 u64 u65 u66 u67 u68 u69 u70 u71 u72 u73 u74 u75 u76 u77 u78 u79 u80 u81 u82 u83 u84 u85 u86 u87 u88 u89 u90 u91 u92 u93 u94 u95 u96 u97 u98 u99 u100 u101 u102 u103 u104 u105 u106 u107 u108 u109 u110 u111 u112 u113 u114 u115 u116 u117 u118 u119 u120 u121 u122 u123 u124 u125 u126 u127 u128 u129 u130 u131 u132 u133 u134 u135 u136 u137 u138 u139 u140 u141 u142 u143 u144 u145 u146 u147 u148 u149 u150 u151 u152 u153 u154 u155 u156 u157 u158 u159 u160 u161 u162 u163 u164 u165 u166 u167 u168 u169 u170 u171 u172 u173 u174 u175 u176 u177 u178 u179 u180 u181 u182 u183 u184 u185 u186 u187 u188 u189 u190 u191 u192 u193 u194 u195 u196 u197 u198 u199 u200 u201 u202 : Value} {Qn K : Act → World → Prop}
    (hβ : 8 ≤ β) (hv : RV 3 enN w0 (.slice a n cp) L) (hn : n ≤ 5000) (hnl : n = L.length) (HF : FH w0 w wr r r1 b (.slice a n cp) β nb vah x f (.slice va vn vc) (.slice la ln lc)) (HA : At L x (T ++ [f])) (hm : m0 ≤ x.at_)
    (hkk : (kk = 0 ∧ f.kd = 0) ∨ (kk = 1 ∧ f.kd = 1) ∨ (kk = 2 ∧ f.kd = 3)) (hfn : f.now = now) {M : Nat} (hM : L.length - m0 ≤ M) (IF : FrameC L M) (IL : LoopC L M)
    (hN : NXF b nb kk n2 vah (GF w0 w r b (.slice a n cp) L β nb T f.kd f.lp f.it f.ah vah m0 n (mu b n wr)) Qn) :
    Code.wp Try.prog fbody (Exit.then Qn (Exit.inBlock 0 (Exit.then K (bodyPost Try.prog Try.f15 (FrQ w0 w r b (.slice a n cp) L β T f.kd m0))))) ⟨#[.pointer (some ⟨b, 0, none⟩), .int .i64 kk, n2, .int .i64 now, vah, undef, undef, .pointer (some ⟨nb, 0, none⟩), undef, undef, u10, .slice va vn vc, .slice la ln lc, u13, u14, u15, u16, u17, u18, u19, u20, u21, u22, u23, u24, u25, u26, u27, u28, u29, u30, u31, u32, u33, u34, u35, u36, u37, u38, u39, u40, u41, u42, u43, u44, u45, u46, u47, u48, u49, u50, u51, u52, u53, u54, u55, u56, u57, u58, u59, u60, u61, u62, u63, u64, u65, u66, u67, u68, u69, u70, u71, u72, u73, u74, u75, u76, u77, u78, u79, u80, u81, u82, u83, u84, u85, u86, u87, u88, u89, u90, u91, u92, u93, u94, u95, u96, u97, u98, u99, u100, u101, u102, u103, u104, u105, u106, u107, u108, u109, u110, u111, u112, u113, u114, u115, u116, u117, u118, u119, u120, u121, u122, u123, u124, u125, u126, u127, u128, u129, u130, u131, u132, u133, u134, u135, u136, u137, u138, u139, u140, u141, u142, u143, u144, u145, u146, u147, u148, u149, u150, u151, u152, u153, u154, u155, u156, u157, u158, u159, u160, u161, u162, u163, u164, u165, u166, u167, u168, u169, u170, u171, u172, u173, u174, u175, u176, u177, u178, u179, u180, u181, u182, u183, u184, u185, u186, u187, u188, u189, u190, u191, u192, u193, u194, u195, u196, u197, u198, u199, u200, u201, u202], []⟩ wr := by
  by_cases he : x.at_ = n
  · exact fr_end (k := 0) (a1 := 0) (c1 := 0) hβ hv hn hnl HF HA hm hkk hfn he hN
  have hlt : x.at_ < L.length := by have := HA.le; omega
  obtain ⟨⟨k, a1, c1⟩, hy⟩ : ∃ y, L[x.at_]? = some y := ⟨_, List.getElem?_eq_getElem hlt⟩
  by_cases hk1 : k < 1
  · exact fr_lo hβ hv hn hnl HF HA hm hkk hfn hy hk1 hN
  by_cases hk2 : 12 < k
  · exact fr_hi hβ hv hn hnl HF HA hm hkk hfn hy hk2 hN
  have hk : k = 1 ∨ k = 2 ∨ k = 3 ∨ k = 4 ∨ k = 5 ∨ k = 6 ∨ k = 7 ∨ k = 8 ∨ k = 9 ∨ k = 10 ∨ k = 11 ∨ k = 12 := by omega
  rcases hk with rfl | rfl | rfl | rfl | rfl | rfl | rfl | rfl | rfl | rfl | rfl | rfl
  · exact fr_a1 (k := 0) hβ hv hn hnl HF HA hm hkk hfn hy hN
  · exact fr_a2 (k := 0) hβ hv hn hnl HF HA hm hkk hfn hy hN
  · exact fr_a3 (k := 0) hβ hv hn hnl HF HA hm hkk hfn hy hN
  · exact fr_fork (k := 0) hβ hv hn hnl HF HA hm hkk hfn hy hM IF hN
  · by_cases h : kk = 1
    · subst h
      exact fr_r5 (k := 0) hβ hv hn hnl HF HA hm hkk hfn hy (by omega) hN
    · exact fr_w5 (k := 0) hβ hv hn hnl HF HA hm hkk hfn hy h hN
  · exact fr_meet (k := 0) hβ hv hn hnl HF HA hm hkk hfn hy hN
  · exact fr_loop (k := 0) hβ hv hn hnl HF HA hm hkk hfn hy hM IL hN
  · exact fr_w89 hβ hv hn hnl HF HA hm hkk hfn hy (.inl rfl) hN
  · exact fr_w89 hβ hv hn hnl HF HA hm hkk hfn hy (.inr rfl) hN
  · by_cases h : kk = 2
    · subst h
      have h3 : f.kd = 3 := by omega
      by_cases ha : a1 = f.it
      · exact fr_r10 (k := 0) hβ hv hn hnl HF HA hm hkk hfn hy h3 ha hN
      · exact fr_w10a (k := 0) hβ hv hn hnl HF HA hm hkk hfn hy h3 ha hN
    · exact fr_w10 (k := 0) hβ hv hn hnl HF HA hm hkk hfn hy h hN
  · by_cases h : kk = 2
    · subst h
      have h3 : f.kd = 3 := by omega
      by_cases ha : f.sg < a1
      · by_cases hi : 0 < f.it
        · exact fr_g11i (k := 0) hβ hv hn hnl HF HA hm hkk hfn hy h3 ha hi hN
        · exact fr_g11 (k := 0) hβ hv hn hnl HF HA hm hkk hfn hy h3 ha hi hN
      · exact fr_w11a hβ hv hn hnl HF HA hm hkk hfn hy (.inl rfl) h3 ha hN
    · exact fr_w11 hβ hv hn hnl HF HA hm hkk hfn hy (.inl rfl) h hN
  · by_cases h : kk = 2
    · subst h
      have h3 : f.kd = 3 := by omega
      by_cases ha : f.sg < a1
      · exact fr_g12 (k := 0) hβ hv hn hnl HF HA hm hkk hfn hy h3 ha hN
      · exact fr_w11a hβ hv hn hnl HF HA hm hkk hfn hy (.inr rfl) h3 ha hN
    · exact fr_w11 hβ hv hn hnl HF HA hm hkk hfn hy (.inr rfl) h hN
set_option maxRecDepth 20000 in
set_option maxHeartbeats 4000000 in
theorem lo_round {w0 w wr : World} {r r1 : Ro} {b n cp β m0 : Nat} {a : Option Addr} {L : List Mk} {T : List Fm} {q l : Fm} {x : Dx} {sr now : Int} {va ga : Option Addr} {vn vc gn gc : Nat} {u6 u9 u10 u11 u12 u13 u14 u15 u16 u17 u18 u19 u20 u21 u22 u23 u24 u25 u26 u27 u28 u29 u30 u31 u32 u33 u34 u35 u36 u37 u38 u39 u40 u41 u42 u43 u44 u45 u46 u47 u48 u49 u50 u51 u52 u53 u54 u55 u56 u57 u58 u59 u60 u61 u62 u63 u64 u65 u66 u67 u68 u69 u70 u71 u72 u73 u74 u75 u76 u77 u78 u79 u80 u81 u82 u83 u84 u85 u86 u87 u88 u89 u90 u91 u92 u93 u94 u95 : Value} {Qn K : Act → World → Prop}
    (hβ : 8 ≤ β) (hv : RV 3 enN w0 (.slice a n cp) L) (hn : n ≤ 5000) (hnl : n = L.length) (HF : LH w0 w wr r r1 b (.slice a n cp) β x l (.slice va vn vc) (.slice ga gn gc)) (HA : At L x (T ++ [q, l])) (hm : m0 ≤ x.at_)
    (hq : q.now = now) (hl : l.kd = 2) (hs : l.lp = sr) {M : Nat} (hM : L.length - m0 ≤ M) (IF : FrameC L M)
    (hN : NXL b sr now (GL w0 w r b (.slice a n cp) L β T q sr m0 n (mu b n wr)) Qn) :
    Code.wp Try.prog lbody (Exit.then Qn (Exit.inBlock 0 (Exit.then K (bodyPost Try.prog Try.f27 (LoQ w0 w r b (.slice a n cp) L β T q m0))))) ⟨#[.pointer (some ⟨b, 0, none⟩), .int .i64 sr, .int .i64 now, undef, undef, undef, u6, .slice va vn vc, .slice ga gn gc, u9, u10, u11, u12, u13, u14, u15, u16, u17, u18, u19, u20, u21, u22, u23, u24, u25, u26, u27, u28, u29, u30, u31, u32, u33, u34, u35, u36, u37, u38, u39, u40, u41, u42, u43, u44, u45, u46, u47, u48, u49, u50, u51, u52, u53, u54, u55, u56, u57, u58, u59, u60, u61, u62, u63, u64, u65, u66, u67, u68, u69, u70, u71, u72, u73, u74, u75, u76, u77, u78, u79, u80, u81, u82, u83, u84, u85, u86, u87, u88, u89, u90, u91, u92, u93, u94, u95], []⟩ wr := by
  by_cases he : x.at_ = n
  · exact lo_end (k := 0) (a1 := 0) (c1 := 0) hβ hv hn hnl HF HA hm hq hl hs he hN
  have hlt : x.at_ < L.length := by have := HA.le; omega
  obtain ⟨⟨k, a1, c1⟩, hy⟩ : ∃ y, L[x.at_]? = some y := ⟨_, List.getElem?_eq_getElem hlt⟩
  by_cases hk1 : k < 1
  · exact lo_lo hβ hv hn hnl HF HA hm hq hl hs hy hk1 hN
  by_cases hk2 : 12 < k
  · exact lo_hi hβ hv hn hnl HF HA hm hq hl hs hy hk2 hN
  by_cases h8 : k = 8
  · subst h8
    by_cases ha : a1 = sr
    · by_cases hz : vn = 0
      · exact lo_w8a (k := 0) hβ hv hn hnl HF HA hm hq hl hs hy ha hz hN
      · exact lo_ret (k := 0) hβ hv hn hnl HF HA hm hq hl hs hy ha (by omega) hN
    · exact lo_w8 (k := 0) hβ hv hn hnl HF HA hm hq hl hs hy ha hN
  by_cases h9 : k = 9
  · subst h9
    by_cases ha : a1 = (vn : Int)
    · by_cases hz : vn = 0
      · exact lo_it0 (k := 0) hβ hv hn hnl HF HA hm hq hl hs hy ha hz hM IF hN
      · exact lo_it1 (k := 0) hβ hv hn hnl HF HA hm hq hl hs hy ha (by omega) hM IF hN
    · exact lo_w9 (k := 0) hβ hv hn hnl HF HA hm hq hl hs hy ha hN
  · exact lo_w hβ hv hn hnl HF HA hm hq hl hs hy h8 h9 (by omega) (by omega) hN
set_option maxRecDepth 20000 in
set_option maxHeartbeats 4000000 in
theorem frame_step {L : List Mk} {M : Nat} (IF : FrameC L M) (IL : LoopC L M) : FrameC L (M + 1) := by
  intro w0 w r b β n cp a T f x kk now vah hβ hv hn hnl hD HA hM hkk hfn hum hpa hah hno
  obtain ⟨W1, hW1⟩ : ∃ W1, w.alloc (.cells #[.int .i64 f.lp, .int .i64 f.it, .int .i64 f.sg] 64) = W1 := ⟨_, rfl⟩
  have hb1 : Below w.heap.size w W1 := by rw [← hW1]; go_grown
  obtain ⟨hD1, hk1⟩ := hD.below (β + 3) hb1
  have hN1 := heap_new w (.cells #[.int .i64 f.lp, .int .i64 f.it, .int .i64 f.sg] 64)
  rw [hW1] at hN1
  have F1 : FH w0 w W1 r (ext r w.heap.size (β + 3)) b (.slice a n cp) β w.heap.size vah x f (.slice none 0 0) (.slice none 0 0) :=
    ⟨hD1, hk1.mono (fun _ h => h.elim), by rw [hpa]; exact RR.nil _ _ _ _, by rw [hum]; exact RR.nil _ _ _ _, hN1, ext_ge _ _ (Nat.le_refl _), hah.keep hk1 (fun h => h), hno, fun _ => hpa⟩
  have HFI : Hid (FI w0 w r b (.slice a n cp) L β w.heap.size T f.kd f.lp f.it f.ah vah x.at_ now (.slice none 0 0) (.slice none 0 0) W1) := Lib.hid ⟨_, x, f, F1, rfl, rfl, rfl, rfl, .inr ⟨hfn, HA, Nat.le_refl _⟩⟩
  have HM := Lib.hid (show L.length - x.at_ ≤ M by omega)
  obtain ⟨m0, hm0⟩ : ∃ m, x.at_ = m := ⟨_, rfl⟩
  rw [hm0] at HFI HM ⊢
  have HV := Lib.hid hv
  have HW1 := Lib.hid hW1
  obtain ⟨nb, hnb⟩ : ∃ nb, w.heap.size = nb := ⟨_, rfl⟩
  rw [hnb] at HFI
  have HNB := Lib.hid hnb
  obtain ⟨kd, hkd⟩ : ∃ k, f.kd = k := ⟨_, rfl⟩
  obtain ⟨lp, hlp⟩ : ∃ k, f.lp = k := ⟨_, rfl⟩
  obtain ⟨it, hit⟩ : ∃ k, f.it = k := ⟨_, rfl⟩
  obtain ⟨ah, hah2⟩ : ∃ k, f.ah = k := ⟨_, rfl⟩
  obtain ⟨sg, hsg⟩ : ∃ k, f.sg = k := ⟨_, rfl⟩
  rw [hkd] at hkk HFI ⊢
  rw [hlp] at HFI HW1 ⊢
  rw [hit] at HFI HW1 ⊢
  rw [hsg] at HW1 ⊢
  rw [hah2] at HFI
  clear hD HA hM hfn hum hpa hah hno hb1 hD1 hk1 hN1 F1 hm0 hW1 hnb hkd hlp hit hah2 hsg hv
  go_enter Try.func15, Try.ntmps15
  go_wp2_with fail
  rw [HW1.out, HNB.out]
  clear HW1 HNB
  go_loopw [3, 11, 12] (fun nw row lf wr => ∃ now' : Int, nw = .int .i64 now' ∧ Hid (FI w0 w r b (.slice a n cp) L β nb T kd lp it ah vah m0 now' row lf wr)) (fun _ _ _ wr => mu b n wr)
  case atStart => exact ⟨_, rfl, HFI⟩
  case round =>
    clear HFI
    obtain ⟨nw, rfl, HR⟩ := hrel
    obtain ⟨r1, x1, f1, HF, rfl, rfl, rfl, rfl, ho⟩ := HR.out
    obtain ⟨va, vn, vc, rfl⟩ := form3 HF.row.o
    obtain ⟨la, ln, lc, rfl⟩ := form3 HF.left.o
    rcases ho with ⟨ho, hd⟩ | ⟨hw, HA, hm⟩
    · obtain ⟨_, _, _, _, _, c5, _, _⟩ := HF.db.cells
      rw [ho] at c5
      have bw := lt_of HF.db.o
      have HX : Hid (DB w0 wr r1 b (.slice a n cp) x1 ∧ KX (PB β) r r1 w wr ∧ x1.ov = true ∧ Done L x1) := Lib.hid ⟨HF.db, HF.kx, ho, hd⟩
      clear HR HF ho hd HV
      go_wp2_with fail
      go_ret
      exact ⟨r1, x1, _, rfl, HX.out.1, HX.out.2.1, .inl ⟨rfl, HX.out.2.2⟩⟩
    · refine fr_round hβ HV.out hn hnl HF HA hm hkk hw HM.out IF IL ?_
      clear HR HF HA
      intro u10 u13 u14 u15 u16 u17 u18 u19 u20 u21 u22 u23 u24 u25 u26 u27 u28 u29 u30 u31 u32 u33 u34 u35 u36 u37 u38 u39 u40 u41 u42 u43 u44 u45 u46 u47 u48 u49 u50 u51 u52 u53 u54 u55 u56 u57 u58 u59 u60 u61 u62 u63 u64 u65 u66 u67 u68 u69 u70 u71 u72 u73 u74 u75 u76 u77 u78 u79 u80 u81 u82 u83 u84 u85 u86 u87 u88 u89 u90 u91 u92 u93 u94 u95 u96 u97 u98 u99 u100 u101 u102 u103 u104 u105 u106 u107 u108 u109 u110 u111 u112 u113 u114 u115 u116 u117 u118 u119 u120 u121 u122 u123 u124 u125 u126 u127 u128 u129 u130 u131 u132 u133 u134 u135 u136 u137 u138 u139 u140 u141 u142 u143 u144 u145 u146 u147 u148 u149 u150 u151 u152 u153 u154 u155 u156 u157 u158 u159 u160 u161 u162 u163 u164 u165 u166 u167 u168 u169 u170 u171 u172 u173 u174 u175 u176 u177 u178 u179 u180 u181 u182 u183 u184 u185 u186 u187 u188 u189 u190 u191 u192 u193 u194 u195 u196 u197 u198 u199 u200 u201 u202 now2 vr2 vl2 w2 HG
      exact ⟨⟨_, u10, _, _, u13, u14, u15, u16, u17, u18, u19, u20, u21, u22, u23, u24, u25, u26, u27, u28, u29, u30, u31, u32, u33, u34, u35, u36, u37, u38, u39, u40, u41, u42, u43, u44, u45, u46, u47, u48, u49, u50, u51, u52, u53, u54, u55, u56, u57, u58, u59, u60, u61, u62, u63, u64, u65, u66, u67, u68, u69, u70, u71, u72, u73, u74, u75, u76, u77, u78, u79, u80, u81, u82, u83, u84, u85, u86, u87, u88, u89, u90, u91, u92, u93, u94, u95, u96, u97, u98, u99, u100, u101, u102, u103, u104, u105, u106, u107, u108, u109, u110, u111, u112, u113, u114, u115, u116, u117, u118, u119, u120, u121, u122, u123, u124, u125, u126, u127, u128, u129, u130, u131, u132, u133, u134, u135, u136, u137, u138, u139, u140, u141, u142, u143, u144, u145, u146, u147, u148, u149, u150, u151, u152, u153, u154, u155, u156, u157, u158, u159, u160, u161, u162, u163, u164, u165, u166, u167, u168, u169, u170, u171, u172, u173, u174, u175, u176, u177, u178, u179, u180, u181, u182, u183, u184, u185, u186, u187, u188, u189, u190, u191, u192, u193, u194, u195, u196, u197, u198, u199, u200, u201, u202, ⟨now2, rfl, Lib.hid HG.out.1⟩, rfl⟩, HG.out.2⟩
set_option maxRecDepth 20000 in
set_option maxHeartbeats 4000000 in
theorem loop_step {L : List Mk} {M : Nat} (IF : FrameC L M) (IL : LoopC L M) : LoopC L (M + 1) := by
  intro w0 w r b β n cp a T q x sr now hβ hv hn hnl hD HA hM hq
  have HLI : Hid (LI w0 w r b (.slice a n cp) L β T q sr x.at_ (.slice none 0 0) (.slice none 0 0) w) := Lib.hid ⟨r, x, loopF sr, ⟨hD, KX.refl _ _ _, RR.nil _ _ _ _, RD.nil _ _ _⟩, rfl, rfl, .inr ⟨HA, Nat.le_refl _⟩⟩
  have HM := Lib.hid (show L.length - x.at_ ≤ M by omega)
  obtain ⟨m0, hm0⟩ : ∃ m, x.at_ = m := ⟨_, rfl⟩
  rw [hm0] at HLI HM ⊢
  have HV := Lib.hid hv
  have HQ := Lib.hid hq
  clear hD HA hM hv hm0 hq
  go_enter Try.func27, Try.ntmps27
  go_wp2_with fail
  go_loopw [7, 8] (fun row ah wr => Hid (LI w0 w r b (.slice a n cp) L β T q sr m0 row ah wr)) (fun _ _ wr => mu b n wr)
  case atStart => exact HLI
  case round =>
    clear HLI
    obtain ⟨r1, x1, l1, HF, hl, hs, ho⟩ := hrel.out
    obtain ⟨va, vn, vc, rfl⟩ := form3 HF.left.o
    obtain ⟨ga, gn, gc, rfl⟩ := RV.form3' HF.ah.o
    rcases ho with ⟨ho, hd⟩ | ⟨HA, hm⟩
    · obtain ⟨_, _, _, _, _, c5, _, _⟩ := HF.db.cells
      rw [ho] at c5
      have bw := lt_of HF.db.o
      have HX : Hid (DB w0 wr r1 b (.slice a n cp) x1 ∧ KX (PB β) r r1 w wr ∧ x1.ov = true ∧ Done L x1) := Lib.hid ⟨HF.db, HF.kx, ho, hd⟩
      clear hrel HF ho hd HV hl hs HQ
      go_wp2_with fail
      go_ret
      exact ⟨r1, x1, _, rfl, HX.out.1, HX.out.2.1, .inl HX.out.2.2⟩
    · refine lo_round hβ HV.out hn hnl HF HA hm HQ.out hl hs HM.out IF ?_
      clear hrel HF HA
      intro u6 u9 u10 u11 u12 u13 u14 u15 u16 u17 u18 u19 u20 u21 u22 u23 u24 u25 u26 u27 u28 u29 u30 u31 u32 u33 u34 u35 u36 u37 u38 u39 u40 u41 u42 u43 u44 u45 u46 u47 u48 u49 u50 u51 u52 u53 u54 u55 u56 u57 u58 u59 u60 u61 u62 u63 u64 u65 u66 u67 u68 u69 u70 u71 u72 u73 u74 u75 u76 u77 u78 u79 u80 u81 u82 u83 u84 u85 u86 u87 u88 u89 u90 u91 u92 u93 u94 u95 vl2 va2 w2 HG
      exact ⟨⟨u6, _, _, u9, u10, u11, u12, u13, u14, u15, u16, u17, u18, u19, u20, u21, u22, u23, u24, u25, u26, u27, u28, u29, u30, u31, u32, u33, u34, u35, u36, u37, u38, u39, u40, u41, u42, u43, u44, u45, u46, u47, u48, u49, u50, u51, u52, u53, u54, u55, u56, u57, u58, u59, u60, u61, u62, u63, u64, u65, u66, u67, u68, u69, u70, u71, u72, u73, u74, u75, u76, u77, u78, u79, u80, u81, u82, u83, u84, u85, u86, u87, u88, u89, u90, u91, u92, u93, u94, u95, Lib.hid HG.out.1, rfl⟩, HG.out.2⟩
theorem both (L : List Mk) : ∀ M, FrameC L M ∧ LoopC L M
  | 0 => by
    refine ⟨?_, ?_⟩
    · intro w0 w r b β n cp a T f x kk now vah hβ hv hn hnl hD HA hM
      exact absurd hM (Nat.not_lt_zero _)
    · intro w0 w r b β n cp a T q x sr now hβ hv hn hnl hD HA hM
      exact absurd hM (Nat.not_lt_zero _)
  | M + 1 => ⟨frame_step (both L M).1 (both L M).2, loop_step (both L M).1 (both L M).2⟩
end Go.Proofs.Ytgbaaemocnjaoaa.dg
