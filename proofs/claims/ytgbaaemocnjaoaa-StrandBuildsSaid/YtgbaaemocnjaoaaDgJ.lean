/- The document's builder: the marks of a loop that need no strand (layer 30). -/
import Derived.Test.YtgbaaemocnjaoaaDgI
namespace Go.Proofs.Ytgbaaemocnjaoaa.dg
open Go.ChangeShapes Go.WideShapes Go.ChangeAt Go.RowKit
open Go.Proofs.Ytgbaaemocnjaoaa.ro Go.Proofs.Ytgbaaemocnjaoaa.sn
attribute [local go_sem ↓] Go.wp_at_zero Go.wp_at_succ
set_option linter.unusedVariables false
set_option linter.unusedSimpArgs false
set_option maxRecDepth 20000 in
set_option maxHeartbeats 4000000 in
theorem lo_end {w0 w wr : World} {r r1 : Ro} {b n cp β m0 : Nat} {a : Option Addr} {L : List Mk} {T : List Fm} {q l : Fm} {x : Dx} {sr now k a1 c1 : Int} {va ga : Option Addr} {vn vc gn gc : Nat} {u6 u9 u10 u11 u12 u13 u14 u15 u16 u17 u18 u19 u20 u21 u22 u23 u24 u25 u26 u27 u28 u29 u30 u31 u32 u33 u34 u35 u36 u37 u38 u39 u40 u41 u42 u43 u44 u45 u46 u47 u48 u49 u50 u51 u52 u53 u54 u55 u56 u57 u58 u59 u60 u61 u62 u63 u64 u65 u66 u67 u68 u69 u70 u71 u72 u73 u74 u75 u76 u77 u78 u79 u80 u81 u82 u83 u84 u85 u86 u87 u88 u89 u90 u91 u92 u93 u94 u95 : Value} {Qn K : Act → World → Prop}
    (hβ : 8 ≤ β) (hv : RV 3 enN w0 (.slice a n cp) L) (hn : n ≤ 5000) (hnl : n = L.length) (HF : LH w0 w wr r r1 b (.slice a n cp) β x l (.slice va vn vc) (.slice ga gn gc)) (HA : At L x (T ++ [q, l])) (hm : m0 ≤ x.at_)
    (hq : q.now = now) (hl : l.kd = 2) (hs : l.lp = sr) (he : x.at_ = n) 
    (hN : NXL b sr now (GL w0 w r b (.slice a n cp) L β T q sr m0 n (mu b n wr)) Qn) :
    Code.wp Try.prog lbody (Exit.then Qn (Exit.inBlock 0 (Exit.then K (bodyPost Try.prog Try.f27 (LoQ w0 w r b (.slice a n cp) L β T q m0))))) ⟨#[.pointer (some ⟨b, 0, none⟩), .int .i64 sr, .int .i64 now, undef, undef, undef, u6, .slice va vn vc, .slice ga gn gc, u9, u10, u11, u12, u13, u14, u15, u16, u17, u18, u19, u20, u21, u22, u23, u24, u25, u26, u27, u28, u29, u30, u31, u32, u33, u34, u35, u36, u37, u38, u39, u40, u41, u42, u43, u44, u45, u46, u47, u48, u49, u50, u51, u52, u53, u54, u55, u56, u57, u58, u59, u60, u61, u62, u63, u64, u65, u66, u67, u68, u69, u70, u71, u72, u73, u74, u75, u76, u77, u78, u79, u80, u81, u82, u83, u84, u85, u86, u87, u88, u89, u90, u91, u92, u93, u94, u95], []⟩ wr := by
  have e1 : T ++ [q, l] = (T ++ [q]) ++ [l] := by simp
  have HA2 : At L x ((T ++ [q]) ++ [l]) := by rw [← e1]; exact HA
  have hvn : vn = l.le.length := (RV.len (OR.rv recI HF.left.o)).1
  obtain ⟨_, _, _, _, _, c5, _, _⟩ := HF.db.cells
  rw [HA.ov] at c5
  have CN0 := next_end w0 wr r1 b a n cp x HF.db hn he
  unfold ndMark at CN0
  dsimp only at CN0
  have CN := Lib.hid CN0
  have HD : Done L { x with ov := true } := HA.fin (by rw [he, hnl]) rfl rfl rfl rfl
  have HDD := Lib.hid HD
  clear HD
  have HFF := Lib.hid HF
  have HAA := Lib.hid HA
  have HA3 := Lib.hid HA2
  have HVN := Lib.hid hvn
  have HVV := Lib.hid hv
  have HS := Lib.hid hs
  have HLK := Lib.hid hl
  have bw : b < wr.heap.size := lt_of HF.db.o
  clear CN0 HF HA HA2 hv e1 hvn hs hl 
  conv => arg 2; whnf
  go_wp2_with fail
  refine CN.out.mono ?_
  rintro e w6 ⟨rfl, r6, hD6, hk6⟩
  have F6 := HFF.out.keep hβ hD6 hk6 (fun c hc => by omega)
  have d5 : w6.cell? ⟨b, 5, none⟩ = some (.bool true) := by
    have := hD6.cells.2.2.2.2.2.1
    rw [this]
  have b6 : b < w6.heap.size := lt_of hD6.o
  obtain ⟨W7, hW7⟩ : ∃ W7, w6.alloc (.cells #[.int .i64 0, .int .i64 0, .int .i64 0] 43) = W7 := ⟨_, rfl⟩
  have F7 := F6.below hβ (β + 4) (show Below w6.heap.size w6 W7 by rw [← hW7]; go_grown)
  have HW7 := Lib.hid hW7
  have H7 := Lib.hid F7
  clear CN hD6 hk6 F6 hW7 F7 c5
  have HG := GL.over (T := T) (q := q) (sr := sr) (m0 := m0) HFF.out.db HAA.out hnl H7.out ⟨HLK.out, HS.out⟩ rfl HDD.out
  have HGG := Lib.hid HG
  clear HG H7
  go_wp2_with fail
  rw [HW7.out]
  exact hN _ _ _ _ _ _ _ _ _ _ _ _ _ _ _ _ _ _ _ _ _ _ _ _ _ _ _ _ _ _ _ _ _ _ _ _ _ _ _ _ _ _ _ _ _ _ _ _ _ _ _ _ _ _ _ _ _ _ _ _ _ _ _ _ _ _ _ _ _ _ _ _ _ _ _ _ _ _ _ _ _ _ _ _ _ _ _ _ _ _ _ HGG.out
set_option maxRecDepth 20000 in
set_option maxHeartbeats 4000000 in
theorem lo_lo {w0 w wr : World} {r r1 : Ro} {b n cp β m0 : Nat} {a : Option Addr} {L : List Mk} {T : List Fm} {q l : Fm} {x : Dx} {sr now k a1 c1 : Int} {va ga : Option Addr} {vn vc gn gc : Nat} {u6 u9 u10 u11 u12 u13 u14 u15 u16 u17 u18 u19 u20 u21 u22 u23 u24 u25 u26 u27 u28 u29 u30 u31 u32 u33 u34 u35 u36 u37 u38 u39 u40 u41 u42 u43 u44 u45 u46 u47 u48 u49 u50 u51 u52 u53 u54 u55 u56 u57 u58 u59 u60 u61 u62 u63 u64 u65 u66 u67 u68 u69 u70 u71 u72 u73 u74 u75 u76 u77 u78 u79 u80 u81 u82 u83 u84 u85 u86 u87 u88 u89 u90 u91 u92 u93 u94 u95 : Value} {Qn K : Act → World → Prop}
    (hβ : 8 ≤ β) (hv : RV 3 enN w0 (.slice a n cp) L) (hn : n ≤ 5000) (hnl : n = L.length) (HF : LH w0 w wr r r1 b (.slice a n cp) β x l (.slice va vn vc) (.slice ga gn gc)) (HA : At L x (T ++ [q, l])) (hm : m0 ≤ x.at_)
    (hq : q.now = now) (hl : l.kd = 2) (hs : l.lp = sr) (hy : L[x.at_]? = some (k, a1, c1)) (hk : k < 1) 
    (hN : NXL b sr now (GL w0 w r b (.slice a n cp) L β T q sr m0 n (mu b n wr)) Qn) :
    Code.wp Try.prog lbody (Exit.then Qn (Exit.inBlock 0 (Exit.then K (bodyPost Try.prog Try.f27 (LoQ w0 w r b (.slice a n cp) L β T q m0))))) ⟨#[.pointer (some ⟨b, 0, none⟩), .int .i64 sr, .int .i64 now, undef, undef, undef, u6, .slice va vn vc, .slice ga gn gc, u9, u10, u11, u12, u13, u14, u15, u16, u17, u18, u19, u20, u21, u22, u23, u24, u25, u26, u27, u28, u29, u30, u31, u32, u33, u34, u35, u36, u37, u38, u39, u40, u41, u42, u43, u44, u45, u46, u47, u48, u49, u50, u51, u52, u53, u54, u55, u56, u57, u58, u59, u60, u61, u62, u63, u64, u65, u66, u67, u68, u69, u70, u71, u72, u73, u74, u75, u76, u77, u78, u79, u80, u81, u82, u83, u84, u85, u86, u87, u88, u89, u90, u91, u92, u93, u94, u95], []⟩ wr := by
  have e1 : T ++ [q, l] = (T ++ [q]) ++ [l] := by simp
  have HA2 : At L x ((T ++ [q]) ++ [l]) := by rw [← e1]; exact HA
  have hvn : vn = l.le.length := (RV.len (OR.rv recI HF.left.o)).1
  obtain ⟨_, _, _, _, _, c5, _, _⟩ := HF.db.cells
  rw [HA.ov] at c5
  have CN0 := next_lo w0 wr r1 b a n cp x (k, a1, c1) L HF.db hv hn hy hk
  unfold ndMark at CN0
  dsimp only at CN0
  have CN := Lib.hid CN0
  have HD : Done L { x with at_ := x.at_ + 1, er := 5, ov := true } := HA2.kind hy (by omega) rfl
  have HDD := Lib.hid HD
  clear HD
  have HFF := Lib.hid HF
  have HAA := Lib.hid HA
  have HA3 := Lib.hid HA2
  have HVN := Lib.hid hvn
  have HVV := Lib.hid hv
  have HS := Lib.hid hs
  have HLK := Lib.hid hl
  have bw : b < wr.heap.size := lt_of HF.db.o
  clear CN0 HF HA HA2 hv e1 hvn hs hl hy
  conv => arg 2; whnf
  go_wp2_with fail
  refine CN.out.mono ?_
  rintro e w6 ⟨rfl, r6, hD6, hk6⟩
  have F6 := HFF.out.keep hβ hD6 hk6 (fun c hc => by omega)
  have d5 : w6.cell? ⟨b, 5, none⟩ = some (.bool true) := by
    have := hD6.cells.2.2.2.2.2.1
    rw [this]
  have b6 : b < w6.heap.size := lt_of hD6.o
  obtain ⟨W7, hW7⟩ : ∃ W7, w6.alloc (.cells #[.int .i64 k, .int .i64 a1, .int .i64 c1] 43) = W7 := ⟨_, rfl⟩
  have F7 := F6.below hβ (β + 4) (show Below w6.heap.size w6 W7 by rw [← hW7]; go_grown)
  have HW7 := Lib.hid hW7
  have H7 := Lib.hid F7
  clear CN hD6 hk6 F6 hW7 F7 c5
  have HG := GL.over (T := T) (q := q) (sr := sr) (m0 := m0) HFF.out.db HAA.out hnl H7.out ⟨HLK.out, HS.out⟩ rfl HDD.out
  have HGG := Lib.hid HG
  clear HG H7
  go_wp2_with fail
  rw [HW7.out]
  exact hN _ _ _ _ _ _ _ _ _ _ _ _ _ _ _ _ _ _ _ _ _ _ _ _ _ _ _ _ _ _ _ _ _ _ _ _ _ _ _ _ _ _ _ _ _ _ _ _ _ _ _ _ _ _ _ _ _ _ _ _ _ _ _ _ _ _ _ _ _ _ _ _ _ _ _ _ _ _ _ _ _ _ _ _ _ _ _ _ _ _ _ HGG.out
set_option maxRecDepth 20000 in
set_option maxHeartbeats 4000000 in
theorem lo_hi {w0 w wr : World} {r r1 : Ro} {b n cp β m0 : Nat} {a : Option Addr} {L : List Mk} {T : List Fm} {q l : Fm} {x : Dx} {sr now k a1 c1 : Int} {va ga : Option Addr} {vn vc gn gc : Nat} {u6 u9 u10 u11 u12 u13 u14 u15 u16 u17 u18 u19 u20 u21 u22 u23 u24 u25 u26 u27 u28 u29 u30 u31 u32 u33 u34 u35 u36 u37 u38 u39 u40 u41 u42 u43 u44 u45 u46 u47 u48 u49 u50 u51 u52 u53 u54 u55 u56 u57 u58 u59 u60 u61 u62 u63 u64 u65 u66 u67 u68 u69 u70 u71 u72 u73 u74 u75 u76 u77 u78 u79 u80 u81 u82 u83 u84 u85 u86 u87 u88 u89 u90 u91 u92 u93 u94 u95 : Value} {Qn K : Act → World → Prop}
    (hβ : 8 ≤ β) (hv : RV 3 enN w0 (.slice a n cp) L) (hn : n ≤ 5000) (hnl : n = L.length) (HF : LH w0 w wr r r1 b (.slice a n cp) β x l (.slice va vn vc) (.slice ga gn gc)) (HA : At L x (T ++ [q, l])) (hm : m0 ≤ x.at_)
    (hq : q.now = now) (hl : l.kd = 2) (hs : l.lp = sr) (hy : L[x.at_]? = some (k, a1, c1)) (hk : 12 < k) 
    (hN : NXL b sr now (GL w0 w r b (.slice a n cp) L β T q sr m0 n (mu b n wr)) Qn) :
    Code.wp Try.prog lbody (Exit.then Qn (Exit.inBlock 0 (Exit.then K (bodyPost Try.prog Try.f27 (LoQ w0 w r b (.slice a n cp) L β T q m0))))) ⟨#[.pointer (some ⟨b, 0, none⟩), .int .i64 sr, .int .i64 now, undef, undef, undef, u6, .slice va vn vc, .slice ga gn gc, u9, u10, u11, u12, u13, u14, u15, u16, u17, u18, u19, u20, u21, u22, u23, u24, u25, u26, u27, u28, u29, u30, u31, u32, u33, u34, u35, u36, u37, u38, u39, u40, u41, u42, u43, u44, u45, u46, u47, u48, u49, u50, u51, u52, u53, u54, u55, u56, u57, u58, u59, u60, u61, u62, u63, u64, u65, u66, u67, u68, u69, u70, u71, u72, u73, u74, u75, u76, u77, u78, u79, u80, u81, u82, u83, u84, u85, u86, u87, u88, u89, u90, u91, u92, u93, u94, u95], []⟩ wr := by
  have e1 : T ++ [q, l] = (T ++ [q]) ++ [l] := by simp
  have HA2 : At L x ((T ++ [q]) ++ [l]) := by rw [← e1]; exact HA
  have hvn : vn = l.le.length := (RV.len (OR.rv recI HF.left.o)).1
  obtain ⟨_, _, _, _, _, c5, _, _⟩ := HF.db.cells
  rw [HA.ov] at c5
  have CN0 := next_hi w0 wr r1 b a n cp x (k, a1, c1) L HF.db hv hn hy hk
  unfold ndMark at CN0
  dsimp only at CN0
  have CN := Lib.hid CN0
  have HD : Done L { x with at_ := x.at_ + 1, er := 5, ov := true } := HA2.kind hy (by omega) rfl
  have HDD := Lib.hid HD
  clear HD
  have HFF := Lib.hid HF
  have HAA := Lib.hid HA
  have HA3 := Lib.hid HA2
  have HVN := Lib.hid hvn
  have HVV := Lib.hid hv
  have HS := Lib.hid hs
  have HLK := Lib.hid hl
  have bw : b < wr.heap.size := lt_of HF.db.o
  clear CN0 HF HA HA2 hv e1 hvn hs hl hy
  conv => arg 2; whnf
  go_wp2_with fail
  refine CN.out.mono ?_
  rintro e w6 ⟨rfl, r6, hD6, hk6⟩
  have F6 := HFF.out.keep hβ hD6 hk6 (fun c hc => by omega)
  have d5 : w6.cell? ⟨b, 5, none⟩ = some (.bool true) := by
    have := hD6.cells.2.2.2.2.2.1
    rw [this]
  have b6 : b < w6.heap.size := lt_of hD6.o
  obtain ⟨W7, hW7⟩ : ∃ W7, w6.alloc (.cells #[.int .i64 k, .int .i64 a1, .int .i64 c1] 43) = W7 := ⟨_, rfl⟩
  have F7 := F6.below hβ (β + 4) (show Below w6.heap.size w6 W7 by rw [← hW7]; go_grown)
  have HW7 := Lib.hid hW7
  have H7 := Lib.hid F7
  clear CN hD6 hk6 F6 hW7 F7 c5
  have HG := GL.over (T := T) (q := q) (sr := sr) (m0 := m0) HFF.out.db HAA.out hnl H7.out ⟨HLK.out, HS.out⟩ rfl HDD.out
  have HGG := Lib.hid HG
  clear HG H7
  go_wp2_with fail
  rw [HW7.out]
  exact hN _ _ _ _ _ _ _ _ _ _ _ _ _ _ _ _ _ _ _ _ _ _ _ _ _ _ _ _ _ _ _ _ _ _ _ _ _ _ _ _ _ _ _ _ _ _ _ _ _ _ _ _ _ _ _ _ _ _ _ _ _ _ _ _ _ _ _ _ _ _ _ _ _ _ _ _ _ _ _ _ _ _ _ _ _ _ _ _ _ _ _ HGG.out
set_option maxRecDepth 20000 in
set_option maxHeartbeats 4000000 in
theorem lo_w {w0 w wr : World} {r r1 : Ro} {b n cp β m0 : Nat} {a : Option Addr} {L : List Mk} {T : List Fm} {q l : Fm} {x : Dx} {sr now k a1 c1 : Int} {va ga : Option Addr} {vn vc gn gc : Nat} {u6 u9 u10 u11 u12 u13 u14 u15 u16 u17 u18 u19 u20 u21 u22 u23 u24 u25 u26 u27 u28 u29 u30 u31 u32 u33 u34 u35 u36 u37 u38 u39 u40 u41 u42 u43 u44 u45 u46 u47 u48 u49 u50 u51 u52 u53 u54 u55 u56 u57 u58 u59 u60 u61 u62 u63 u64 u65 u66 u67 u68 u69 u70 u71 u72 u73 u74 u75 u76 u77 u78 u79 u80 u81 u82 u83 u84 u85 u86 u87 u88 u89 u90 u91 u92 u93 u94 u95 : Value} {Qn K : Act → World → Prop}
    (hβ : 8 ≤ β) (hv : RV 3 enN w0 (.slice a n cp) L) (hn : n ≤ 5000) (hnl : n = L.length) (HF : LH w0 w wr r r1 b (.slice a n cp) β x l (.slice va vn vc) (.slice ga gn gc)) (HA : At L x (T ++ [q, l])) (hm : m0 ≤ x.at_)
    (hq : q.now = now) (hl : l.kd = 2) (hs : l.lp = sr) (hy : L[x.at_]? = some (k, a1, c1)) (h8 : ¬ k = 8) (h9 : ¬ k = 9) (hk1 : 1 ≤ k) (hk2 : k ≤ 12)
    (hN : NXL b sr now (GL w0 w r b (.slice a n cp) L β T q sr m0 n (mu b n wr)) Qn) :
    Code.wp Try.prog lbody (Exit.then Qn (Exit.inBlock 0 (Exit.then K (bodyPost Try.prog Try.f27 (LoQ w0 w r b (.slice a n cp) L β T q m0))))) ⟨#[.pointer (some ⟨b, 0, none⟩), .int .i64 sr, .int .i64 now, undef, undef, undef, u6, .slice va vn vc, .slice ga gn gc, u9, u10, u11, u12, u13, u14, u15, u16, u17, u18, u19, u20, u21, u22, u23, u24, u25, u26, u27, u28, u29, u30, u31, u32, u33, u34, u35, u36, u37, u38, u39, u40, u41, u42, u43, u44, u45, u46, u47, u48, u49, u50, u51, u52, u53, u54, u55, u56, u57, u58, u59, u60, u61, u62, u63, u64, u65, u66, u67, u68, u69, u70, u71, u72, u73, u74, u75, u76, u77, u78, u79, u80, u81, u82, u83, u84, u85, u86, u87, u88, u89, u90, u91, u92, u93, u94, u95], []⟩ wr := by
  have e1 : T ++ [q, l] = (T ++ [q]) ++ [l] := by simp
  have HA2 : At L x ((T ++ [q]) ++ [l]) := by rw [← e1]; exact HA
  have hvn : vn = l.le.length := (RV.len (OR.rv recI HF.left.o)).1
  have g8 : ¬ k = 8 := by omega
  have g8b : (k == 8) = false := by rw [beq_eq_false_iff_ne]; exact g8
  have g9 : ¬ k = 9 := by omega
  have g9b : (k == 9) = false := by rw [beq_eq_false_iff_ne]; exact g9
  have hcan : canB k a1 l = false := by
    have : k = 1 ∨ k = 2 ∨ k = 3 ∨ k = 4 ∨ k = 5 ∨ k = 6 ∨ k = 7 ∨ k = 10 ∨ k = 11 ∨ k = 12 := by omega
    rcases this with rfl | rfl | rfl | rfl | rfl | rfl | rfl | rfl | rfl | rfl <;> simp [canB, hl]
  obtain ⟨_, _, _, _, _, c5, _, _⟩ := HF.db.cells
  rw [HA.ov] at c5
  have CN0 := next_ok w0 wr r1 b a n cp x (k, a1, c1) L HF.db hv hn hy ⟨hk1, hk2⟩
  unfold ndMark at CN0
  dsimp only at CN0
  have CN := Lib.hid CN0
  have HFF := Lib.hid HF
  have HAA := Lib.hid HA
  have HA3 := Lib.hid HA2
  have HVN := Lib.hid hvn
  have HVV := Lib.hid hv
  have HS := Lib.hid hs
  have HLK := Lib.hid hl
  have HY := Lib.hid hy
  have hkn : x.at_ < L.length := (List.getElem?_eq_some_iff.1 hy).1
  have bw : b < wr.heap.size := lt_of HF.db.o
  clear CN0 HF HA HA2 hv e1 hvn hs hl hy
  conv => arg 2; whnf
  go_wp2_with fail
  refine CN.out.mono ?_
  rintro e w6 ⟨rfl, r6, hD6, hk6⟩
  have F6 := HFF.out.keep hβ hD6 hk6 (fun c hc => by omega)
  have d5 : w6.cell? ⟨b, 5, none⟩ = some (.bool false) := by
    have := hD6.cells.2.2.2.2.2.1
    rw [this]
    show some (Value.bool x.ov) = _; rw [HAA.out.ov]
  have b6 : b < w6.heap.size := lt_of hD6.o
  obtain ⟨W7, hW7⟩ : ∃ W7, w6.alloc (.cells #[.int .i64 k, .int .i64 a1, .int .i64 c1] 43) = W7 := ⟨_, rfl⟩
  have F7 := F6.below hβ (β + 4) (show Below w6.heap.size w6 W7 by rw [← hW7]; go_grown)
  have HW7 := Lib.hid hW7
  have H7 := Lib.hid F7
  clear CN hD6 hk6 F6 hW7 F7 c5
  go_wp2_with fail
  rw [HW7.out]
  refine (wrong_of w0 W7 _ b _ _ H7.out.db).mono ?_
  rintro e w8 ⟨rfl, r8, hD8, hk8⟩
  have F8 := H7.out.keep hβ hD8 hk8 (fun c hc => by omega)
  have HG := GL.over (T := T) (q := q) (sr := sr) (m0 := m0) HFF.out.db HAA.out hnl F8 ⟨HLK.out, HS.out⟩ rfl (HA3.out.form HY.out hk1 hk2 hcan rfl)
  have HGG := Lib.hid HG
  clear HG hD8 hk8 F8 H7 HW7 d5
  go_wp2_with fail
  exact hN _ _ _ _ _ _ _ _ _ _ _ _ _ _ _ _ _ _ _ _ _ _ _ _ _ _ _ _ _ _ _ _ _ _ _ _ _ _ _ _ _ _ _ _ _ _ _ _ _ _ _ _ _ _ _ _ _ _ _ _ _ _ _ _ _ _ _ _ _ _ _ _ _ _ _ _ _ _ _ _ _ _ _ _ _ _ _ _ _ _ _ HGG.out
set_option maxRecDepth 20000 in
set_option maxHeartbeats 4000000 in
theorem lo_w9 {w0 w wr : World} {r r1 : Ro} {b n cp β m0 : Nat} {a : Option Addr} {L : List Mk} {T : List Fm} {q l : Fm} {x : Dx} {sr now k a1 c1 : Int} {va ga : Option Addr} {vn vc gn gc : Nat} {u6 u9 u10 u11 u12 u13 u14 u15 u16 u17 u18 u19 u20 u21 u22 u23 u24 u25 u26 u27 u28 u29 u30 u31 u32 u33 u34 u35 u36 u37 u38 u39 u40 u41 u42 u43 u44 u45 u46 u47 u48 u49 u50 u51 u52 u53 u54 u55 u56 u57 u58 u59 u60 u61 u62 u63 u64 u65 u66 u67 u68 u69 u70 u71 u72 u73 u74 u75 u76 u77 u78 u79 u80 u81 u82 u83 u84 u85 u86 u87 u88 u89 u90 u91 u92 u93 u94 u95 : Value} {Qn K : Act → World → Prop}
    (hβ : 8 ≤ β) (hv : RV 3 enN w0 (.slice a n cp) L) (hn : n ≤ 5000) (hnl : n = L.length) (HF : LH w0 w wr r r1 b (.slice a n cp) β x l (.slice va vn vc) (.slice ga gn gc)) (HA : At L x (T ++ [q, l])) (hm : m0 ≤ x.at_)
    (hq : q.now = now) (hl : l.kd = 2) (hs : l.lp = sr) (hy : L[x.at_]? = some (9, a1, c1)) (hne : ¬ a1 = (vn : Int))
    (hN : NXL b sr now (GL w0 w r b (.slice a n cp) L β T q sr m0 n (mu b n wr)) Qn) :
    Code.wp Try.prog lbody (Exit.then Qn (Exit.inBlock 0 (Exit.then K (bodyPost Try.prog Try.f27 (LoQ w0 w r b (.slice a n cp) L β T q m0))))) ⟨#[.pointer (some ⟨b, 0, none⟩), .int .i64 sr, .int .i64 now, undef, undef, undef, u6, .slice va vn vc, .slice ga gn gc, u9, u10, u11, u12, u13, u14, u15, u16, u17, u18, u19, u20, u21, u22, u23, u24, u25, u26, u27, u28, u29, u30, u31, u32, u33, u34, u35, u36, u37, u38, u39, u40, u41, u42, u43, u44, u45, u46, u47, u48, u49, u50, u51, u52, u53, u54, u55, u56, u57, u58, u59, u60, u61, u62, u63, u64, u65, u66, u67, u68, u69, u70, u71, u72, u73, u74, u75, u76, u77, u78, u79, u80, u81, u82, u83, u84, u85, u86, u87, u88, u89, u90, u91, u92, u93, u94, u95], []⟩ wr := by
  have e1 : T ++ [q, l] = (T ++ [q]) ++ [l] := by simp
  have HA2 : At L x ((T ++ [q]) ++ [l]) := by rw [← e1]; exact HA
  have hvn : vn = l.le.length := (RV.len (OR.rv recI HF.left.o)).1
  have hk1 : (1 : Int) ≤ 9 := by omega
  have hk2 : (9 : Int) ≤ 12 := by omega
  have hneb : (a1 == (vn : Int)) = false := by rw [beq_eq_false_iff_ne]; exact hne
  have hcan : canB 9 a1 l = false := by
    have := (HA.loop hl).1
    unfold canB
    simp
    intro _
    rw [this, ← hvn]
    exact hne
  obtain ⟨_, _, _, _, _, c5, _, _⟩ := HF.db.cells
  rw [HA.ov] at c5
  have CN0 := next_ok w0 wr r1 b a n cp x (9, a1, c1) L HF.db hv hn hy ⟨hk1, hk2⟩
  unfold ndMark at CN0
  dsimp only at CN0
  have CN := Lib.hid CN0
  have HFF := Lib.hid HF
  have HAA := Lib.hid HA
  have HA3 := Lib.hid HA2
  have HVN := Lib.hid hvn
  have HVV := Lib.hid hv
  have HS := Lib.hid hs
  have HLK := Lib.hid hl
  have HY := Lib.hid hy
  have hkn : x.at_ < L.length := (List.getElem?_eq_some_iff.1 hy).1
  have bw : b < wr.heap.size := lt_of HF.db.o
  clear CN0 HF HA HA2 hv e1 hvn hs hl hy
  conv => arg 2; whnf
  go_wp2_with fail
  refine CN.out.mono ?_
  rintro e w6 ⟨rfl, r6, hD6, hk6⟩
  have F6 := HFF.out.keep hβ hD6 hk6 (fun c hc => by omega)
  have d5 : w6.cell? ⟨b, 5, none⟩ = some (.bool false) := by
    have := hD6.cells.2.2.2.2.2.1
    rw [this]
    show some (Value.bool x.ov) = _; rw [HAA.out.ov]
  have b6 : b < w6.heap.size := lt_of hD6.o
  obtain ⟨W7, hW7⟩ : ∃ W7, w6.alloc (.cells #[.int .i64 9, .int .i64 a1, .int .i64 c1] 43) = W7 := ⟨_, rfl⟩
  have F7 := F6.below hβ (β + 4) (show Below w6.heap.size w6 W7 by rw [← hW7]; go_grown)
  have HW7 := Lib.hid hW7
  have H7 := Lib.hid F7
  clear CN hD6 hk6 F6 hW7 F7 c5
  go_wp2_with fail
  rw [HW7.out]
  refine (wrong_of w0 W7 _ b _ _ H7.out.db).mono ?_
  rintro e w8 ⟨rfl, r8, hD8, hk8⟩
  have F8 := H7.out.keep hβ hD8 hk8 (fun c hc => by omega)
  have HG := GL.over (T := T) (q := q) (sr := sr) (m0 := m0) HFF.out.db HAA.out hnl F8 ⟨HLK.out, HS.out⟩ rfl (HA3.out.form HY.out hk1 hk2 hcan rfl)
  have HGG := Lib.hid HG
  clear HG hD8 hk8 F8 H7 HW7 d5
  go_wp2_with fail
  exact hN _ _ _ _ _ _ _ _ _ _ _ _ _ _ _ _ _ _ _ _ _ _ _ _ _ _ _ _ _ _ _ _ _ _ _ _ _ _ _ _ _ _ _ _ _ _ _ _ _ _ _ _ _ _ _ _ _ _ _ _ _ _ _ _ _ _ _ _ _ _ _ _ _ _ _ _ _ _ _ _ _ _ _ _ _ _ _ _ _ _ _ HGG.out
set_option maxRecDepth 20000 in
set_option maxHeartbeats 4000000 in
theorem lo_w8 {w0 w wr : World} {r r1 : Ro} {b n cp β m0 : Nat} {a : Option Addr} {L : List Mk} {T : List Fm} {q l : Fm} {x : Dx} {sr now k a1 c1 : Int} {va ga : Option Addr} {vn vc gn gc : Nat} {u6 u9 u10 u11 u12 u13 u14 u15 u16 u17 u18 u19 u20 u21 u22 u23 u24 u25 u26 u27 u28 u29 u30 u31 u32 u33 u34 u35 u36 u37 u38 u39 u40 u41 u42 u43 u44 u45 u46 u47 u48 u49 u50 u51 u52 u53 u54 u55 u56 u57 u58 u59 u60 u61 u62 u63 u64 u65 u66 u67 u68 u69 u70 u71 u72 u73 u74 u75 u76 u77 u78 u79 u80 u81 u82 u83 u84 u85 u86 u87 u88 u89 u90 u91 u92 u93 u94 u95 : Value} {Qn K : Act → World → Prop}
    (hβ : 8 ≤ β) (hv : RV 3 enN w0 (.slice a n cp) L) (hn : n ≤ 5000) (hnl : n = L.length) (HF : LH w0 w wr r r1 b (.slice a n cp) β x l (.slice va vn vc) (.slice ga gn gc)) (HA : At L x (T ++ [q, l])) (hm : m0 ≤ x.at_)
    (hq : q.now = now) (hl : l.kd = 2) (hs : l.lp = sr) (hy : L[x.at_]? = some (8, a1, c1)) (hne : ¬ a1 = sr)
    (hN : NXL b sr now (GL w0 w r b (.slice a n cp) L β T q sr m0 n (mu b n wr)) Qn) :
    Code.wp Try.prog lbody (Exit.then Qn (Exit.inBlock 0 (Exit.then K (bodyPost Try.prog Try.f27 (LoQ w0 w r b (.slice a n cp) L β T q m0))))) ⟨#[.pointer (some ⟨b, 0, none⟩), .int .i64 sr, .int .i64 now, undef, undef, undef, u6, .slice va vn vc, .slice ga gn gc, u9, u10, u11, u12, u13, u14, u15, u16, u17, u18, u19, u20, u21, u22, u23, u24, u25, u26, u27, u28, u29, u30, u31, u32, u33, u34, u35, u36, u37, u38, u39, u40, u41, u42, u43, u44, u45, u46, u47, u48, u49, u50, u51, u52, u53, u54, u55, u56, u57, u58, u59, u60, u61, u62, u63, u64, u65, u66, u67, u68, u69, u70, u71, u72, u73, u74, u75, u76, u77, u78, u79, u80, u81, u82, u83, u84, u85, u86, u87, u88, u89, u90, u91, u92, u93, u94, u95], []⟩ wr := by
  have e1 : T ++ [q, l] = (T ++ [q]) ++ [l] := by simp
  have HA2 : At L x ((T ++ [q]) ++ [l]) := by rw [← e1]; exact HA
  have hvn : vn = l.le.length := (RV.len (OR.rv recI HF.left.o)).1
  have hk1 : (1 : Int) ≤ 8 := by omega
  have hk2 : (8 : Int) ≤ 12 := by omega
  have hneb : (a1 == sr) = false := by rw [beq_eq_false_iff_ne]; exact hne
  have hcan : canB 8 a1 l = false := by
    unfold canB
    simp
    intro _ h
    exact absurd (h.trans hs) hne
  obtain ⟨_, _, _, _, _, c5, _, _⟩ := HF.db.cells
  rw [HA.ov] at c5
  have CN0 := next_ok w0 wr r1 b a n cp x (8, a1, c1) L HF.db hv hn hy ⟨hk1, hk2⟩
  unfold ndMark at CN0
  dsimp only at CN0
  have CN := Lib.hid CN0
  have HFF := Lib.hid HF
  have HAA := Lib.hid HA
  have HA3 := Lib.hid HA2
  have HVN := Lib.hid hvn
  have HVV := Lib.hid hv
  have HS := Lib.hid hs
  have HLK := Lib.hid hl
  have HY := Lib.hid hy
  have hkn : x.at_ < L.length := (List.getElem?_eq_some_iff.1 hy).1
  have bw : b < wr.heap.size := lt_of HF.db.o
  clear CN0 HF HA HA2 hv e1 hvn hs hl hy
  conv => arg 2; whnf
  go_wp2_with fail
  refine CN.out.mono ?_
  rintro e w6 ⟨rfl, r6, hD6, hk6⟩
  have F6 := HFF.out.keep hβ hD6 hk6 (fun c hc => by omega)
  have d5 : w6.cell? ⟨b, 5, none⟩ = some (.bool false) := by
    have := hD6.cells.2.2.2.2.2.1
    rw [this]
    show some (Value.bool x.ov) = _; rw [HAA.out.ov]
  have b6 : b < w6.heap.size := lt_of hD6.o
  obtain ⟨W7, hW7⟩ : ∃ W7, w6.alloc (.cells #[.int .i64 8, .int .i64 a1, .int .i64 c1] 43) = W7 := ⟨_, rfl⟩
  have F7 := F6.below hβ (β + 4) (show Below w6.heap.size w6 W7 by rw [← hW7]; go_grown)
  have HW7 := Lib.hid hW7
  have H7 := Lib.hid F7
  clear CN hD6 hk6 F6 hW7 F7 c5
  go_wp2_with fail
  rw [HW7.out]
  refine (wrong_of w0 W7 _ b _ _ H7.out.db).mono ?_
  rintro e w8 ⟨rfl, r8, hD8, hk8⟩
  have F8 := H7.out.keep hβ hD8 hk8 (fun c hc => by omega)
  have HG := GL.over (T := T) (q := q) (sr := sr) (m0 := m0) HFF.out.db HAA.out hnl F8 ⟨HLK.out, HS.out⟩ rfl (HA3.out.form HY.out hk1 hk2 hcan rfl)
  have HGG := Lib.hid HG
  clear HG hD8 hk8 F8 H7 HW7 d5
  go_wp2_with fail
  exact hN _ _ _ _ _ _ _ _ _ _ _ _ _ _ _ _ _ _ _ _ _ _ _ _ _ _ _ _ _ _ _ _ _ _ _ _ _ _ _ _ _ _ _ _ _ _ _ _ _ _ _ _ _ _ _ _ _ _ _ _ _ _ _ _ _ _ _ _ _ _ _ _ _ _ _ _ _ _ _ _ _ _ _ _ _ _ _ _ _ _ _ HGG.out
set_option maxRecDepth 20000 in
set_option maxHeartbeats 4000000 in
theorem lo_w8a {w0 w wr : World} {r r1 : Ro} {b n cp β m0 : Nat} {a : Option Addr} {L : List Mk} {T : List Fm} {q l : Fm} {x : Dx} {sr now k a1 c1 : Int} {va ga : Option Addr} {vn vc gn gc : Nat} {u6 u9 u10 u11 u12 u13 u14 u15 u16 u17 u18 u19 u20 u21 u22 u23 u24 u25 u26 u27 u28 u29 u30 u31 u32 u33 u34 u35 u36 u37 u38 u39 u40 u41 u42 u43 u44 u45 u46 u47 u48 u49 u50 u51 u52 u53 u54 u55 u56 u57 u58 u59 u60 u61 u62 u63 u64 u65 u66 u67 u68 u69 u70 u71 u72 u73 u74 u75 u76 u77 u78 u79 u80 u81 u82 u83 u84 u85 u86 u87 u88 u89 u90 u91 u92 u93 u94 u95 : Value} {Qn K : Act → World → Prop}
    (hβ : 8 ≤ β) (hv : RV 3 enN w0 (.slice a n cp) L) (hn : n ≤ 5000) (hnl : n = L.length) (HF : LH w0 w wr r r1 b (.slice a n cp) β x l (.slice va vn vc) (.slice ga gn gc)) (HA : At L x (T ++ [q, l])) (hm : m0 ≤ x.at_)
    (hq : q.now = now) (hl : l.kd = 2) (hs : l.lp = sr) (hy : L[x.at_]? = some (8, a1, c1)) (he : a1 = sr) (hz : vn = 0)
    (hN : NXL b sr now (GL w0 w r b (.slice a n cp) L β T q sr m0 n (mu b n wr)) Qn) :
    Code.wp Try.prog lbody (Exit.then Qn (Exit.inBlock 0 (Exit.then K (bodyPost Try.prog Try.f27 (LoQ w0 w r b (.slice a n cp) L β T q m0))))) ⟨#[.pointer (some ⟨b, 0, none⟩), .int .i64 sr, .int .i64 now, undef, undef, undef, u6, .slice va vn vc, .slice ga gn gc, u9, u10, u11, u12, u13, u14, u15, u16, u17, u18, u19, u20, u21, u22, u23, u24, u25, u26, u27, u28, u29, u30, u31, u32, u33, u34, u35, u36, u37, u38, u39, u40, u41, u42, u43, u44, u45, u46, u47, u48, u49, u50, u51, u52, u53, u54, u55, u56, u57, u58, u59, u60, u61, u62, u63, u64, u65, u66, u67, u68, u69, u70, u71, u72, u73, u74, u75, u76, u77, u78, u79, u80, u81, u82, u83, u84, u85, u86, u87, u88, u89, u90, u91, u92, u93, u94, u95], []⟩ wr := by
  have e1 : T ++ [q, l] = (T ++ [q]) ++ [l] := by simp
  have HA2 : At L x ((T ++ [q]) ++ [l]) := by rw [← e1]; exact HA
  have hvn : vn = l.le.length := (RV.len (OR.rv recI HF.left.o)).1
  have hk1 : (1 : Int) ≤ 8 := by omega
  have hk2 : (8 : Int) ≤ 12 := by omega
  have hcan : canB 8 a1 l = false := by
    have := (HA.loop hl).1
    unfold canB
    simp
    intro _ h
    rw [this, ← hvn, hz]
    simp
  subst hz
  have hsb : (a1 == sr) = true := by rw [he]; simp
  clear he
  obtain ⟨_, _, _, _, _, c5, _, _⟩ := HF.db.cells
  rw [HA.ov] at c5
  have CN0 := next_ok w0 wr r1 b a n cp x (8, a1, c1) L HF.db hv hn hy ⟨hk1, hk2⟩
  unfold ndMark at CN0
  dsimp only at CN0
  have CN := Lib.hid CN0
  have HFF := Lib.hid HF
  have HAA := Lib.hid HA
  have HA3 := Lib.hid HA2
  have HVN := Lib.hid hvn
  have HVV := Lib.hid hv
  have HS := Lib.hid hs
  have HLK := Lib.hid hl
  have HY := Lib.hid hy
  have hkn : x.at_ < L.length := (List.getElem?_eq_some_iff.1 hy).1
  have bw : b < wr.heap.size := lt_of HF.db.o
  clear CN0 HF HA HA2 hv e1 hvn hs hl hy
  conv => arg 2; whnf
  go_wp2_with fail
  refine CN.out.mono ?_
  rintro e w6 ⟨rfl, r6, hD6, hk6⟩
  have F6 := HFF.out.keep hβ hD6 hk6 (fun c hc => by omega)
  have d5 : w6.cell? ⟨b, 5, none⟩ = some (.bool false) := by
    have := hD6.cells.2.2.2.2.2.1
    rw [this]
    show some (Value.bool x.ov) = _; rw [HAA.out.ov]
  have b6 : b < w6.heap.size := lt_of hD6.o
  obtain ⟨W7, hW7⟩ : ∃ W7, w6.alloc (.cells #[.int .i64 8, .int .i64 a1, .int .i64 c1] 43) = W7 := ⟨_, rfl⟩
  have F7 := F6.below hβ (β + 4) (show Below w6.heap.size w6 W7 by rw [← hW7]; go_grown)
  have HW7 := Lib.hid hW7
  have H7 := Lib.hid F7
  clear CN hD6 hk6 F6 hW7 F7 c5
  go_wp2_with fail
  rw [HW7.out]
  refine (wrong_of w0 W7 _ b _ _ H7.out.db).mono ?_
  rintro e w8 ⟨rfl, r8, hD8, hk8⟩
  have F8 := H7.out.keep hβ hD8 hk8 (fun c hc => by omega)
  have HG := GL.over (T := T) (q := q) (sr := sr) (m0 := m0) HFF.out.db HAA.out hnl F8 ⟨HLK.out, HS.out⟩ rfl (HA3.out.form HY.out hk1 hk2 hcan rfl)
  have HGG := Lib.hid HG
  clear HG hD8 hk8 F8 H7 HW7 d5
  go_wp2_with fail
  exact hN _ _ _ _ _ _ _ _ _ _ _ _ _ _ _ _ _ _ _ _ _ _ _ _ _ _ _ _ _ _ _ _ _ _ _ _ _ _ _ _ _ _ _ _ _ _ _ _ _ _ _ _ _ _ _ _ _ _ _ _ _ _ _ _ _ _ _ _ _ _ _ _ _ _ _ _ _ _ _ _ _ _ _ _ _ _ _ _ _ _ _ HGG.out
set_option maxRecDepth 20000 in
set_option maxHeartbeats 4000000 in
theorem lo_ret {w0 w wr : World} {r r1 : Ro} {b n cp β m0 : Nat} {a : Option Addr} {L : List Mk} {T : List Fm} {q l : Fm} {x : Dx} {sr now k a1 c1 : Int} {va ga : Option Addr} {vn vc gn gc : Nat} {u6 u9 u10 u11 u12 u13 u14 u15 u16 u17 u18 u19 u20 u21 u22 u23 u24 u25 u26 u27 u28 u29 u30 u31 u32 u33 u34 u35 u36 u37 u38 u39 u40 u41 u42 u43 u44 u45 u46 u47 u48 u49 u50 u51 u52 u53 u54 u55 u56 u57 u58 u59 u60 u61 u62 u63 u64 u65 u66 u67 u68 u69 u70 u71 u72 u73 u74 u75 u76 u77 u78 u79 u80 u81 u82 u83 u84 u85 u86 u87 u88 u89 u90 u91 u92 u93 u94 u95 : Value} {Qn K : Act → World → Prop}
    (hβ : 8 ≤ β) (hv : RV 3 enN w0 (.slice a n cp) L) (hn : n ≤ 5000) (hnl : n = L.length) (HF : LH w0 w wr r r1 b (.slice a n cp) β x l (.slice va vn vc) (.slice ga gn gc)) (HA : At L x (T ++ [q, l])) (hm : m0 ≤ x.at_)
    (hq : q.now = now) (hl : l.kd = 2) (hs : l.lp = sr) (hy : L[x.at_]? = some (8, a1, c1)) (he : a1 = sr) (hz : 0 < vn)
    (hN : NXL b sr now (GL w0 w r b (.slice a n cp) L β T q sr m0 n (mu b n wr)) Qn) :
    Code.wp Try.prog lbody (Exit.then Qn (Exit.inBlock 0 (Exit.then K (bodyPost Try.prog Try.f27 (LoQ w0 w r b (.slice a n cp) L β T q m0))))) ⟨#[.pointer (some ⟨b, 0, none⟩), .int .i64 sr, .int .i64 now, undef, undef, undef, u6, .slice va vn vc, .slice ga gn gc, u9, u10, u11, u12, u13, u14, u15, u16, u17, u18, u19, u20, u21, u22, u23, u24, u25, u26, u27, u28, u29, u30, u31, u32, u33, u34, u35, u36, u37, u38, u39, u40, u41, u42, u43, u44, u45, u46, u47, u48, u49, u50, u51, u52, u53, u54, u55, u56, u57, u58, u59, u60, u61, u62, u63, u64, u65, u66, u67, u68, u69, u70, u71, u72, u73, u74, u75, u76, u77, u78, u79, u80, u81, u82, u83, u84, u85, u86, u87, u88, u89, u90, u91, u92, u93, u94, u95], []⟩ wr := by
  have e1 : T ++ [q, l] = (T ++ [q]) ++ [l] := by simp
  have HA2 : At L x ((T ++ [q]) ++ [l]) := by rw [← e1]; exact HA
  have hvn : vn = l.le.length := (RV.len (OR.rv recI HF.left.o)).1
  have hk1 : (1 : Int) ≤ 8 := by omega
  have hk2 : (8 : Int) ≤ 12 := by omega
  have hcan : canB 8 a1 l = true := by
    have := (HA.loop hl).1
    unfold canB
    simp
    exact ⟨⟨hl, by rw [he, hs]⟩, by rw [this, ← hvn]; omega⟩
  have hsb : (a1 == sr) = true := by rw [he]; simp
  have hzi : (0 : Int) < (vn : Int) := by omega
  clear he
  obtain ⟨_, _, _, _, _, c5, _, _⟩ := HF.db.cells
  rw [HA.ov] at c5
  have CN0 := next_ok w0 wr r1 b a n cp x (8, a1, c1) L HF.db hv hn hy ⟨hk1, hk2⟩
  unfold ndMark at CN0
  dsimp only at CN0
  have CN := Lib.hid CN0
  have HFF := Lib.hid HF
  have HAA := Lib.hid HA
  have HA3 := Lib.hid HA2
  have HVN := Lib.hid hvn
  have HVV := Lib.hid hv
  have HS := Lib.hid hs
  have HLK := Lib.hid hl
  have HY := Lib.hid hy
  have hkn : x.at_ < L.length := (List.getElem?_eq_some_iff.1 hy).1
  have bw : b < wr.heap.size := lt_of HF.db.o
  clear CN0 HF HA HA2 hv e1 hvn hs hl hy
  conv => arg 2; whnf
  go_wp2_with fail
  refine CN.out.mono ?_
  rintro e w6 ⟨rfl, r6, hD6, hk6⟩
  have F6 := HFF.out.keep hβ hD6 hk6 (fun c hc => by omega)
  have d5 : w6.cell? ⟨b, 5, none⟩ = some (.bool false) := by
    have := hD6.cells.2.2.2.2.2.1
    rw [this]
    show some (Value.bool x.ov) = _; rw [HAA.out.ov]
  have b6 : b < w6.heap.size := lt_of hD6.o
  obtain ⟨W7, hW7⟩ : ∃ W7, w6.alloc (.cells #[.int .i64 8, .int .i64 a1, .int .i64 c1] 43) = W7 := ⟨_, rfl⟩
  have F7 := F6.below hβ (β + 4) (show Below w6.heap.size w6 W7 by rw [← hW7]; go_grown)
  have HW7 := Lib.hid hW7
  have H7 := Lib.hid F7
  clear CN hD6 hk6 F6 hW7 F7 c5
  obtain ⟨r9, hD9, hk9, hr9⟩ := H7.out.ret hβ
  have HX := Lib.hid (And.intro hD9 (And.intro hk9 hr9))
  clear hD9 hk9 hr9 H7
  go_wp2_with fail
  rw [HW7.out]
  go_ret
  exact ⟨r9, _, _, rfl, HX.out.1, HX.out.2.1, .inr ⟨x, l, (8, a1, c1), rfl, hm, HAA.out, HY.out, rfl, hcan, HX.out.2.2⟩⟩
end Go.Proofs.Ytgbaaemocnjaoaa.dg
