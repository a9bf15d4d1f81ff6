/- The document's builder: an iteration of a loop (layer 30). -/
import Derived.Test.YtgbaaemocnjaoaaDgJ
namespace Go.Proofs.Ytgbaaemocnjaoaa.dg
open Go.ChangeShapes Go.WideShapes Go.ChangeAt Go.RowKit
open Go.Proofs.Ytgbaaemocnjaoaa.ro Go.Proofs.Ytgbaaemocnjaoaa.sn
attribute [local go_sem ↓] Go.wp_at_zero Go.wp_at_succ
set_option linter.unusedVariables false
set_option linter.unusedSimpArgs false
set_option maxRecDepth 20000 in
set_option maxHeartbeats 4000000 in
theorem lo_it0 {w0 w wr : World} {r r1 : Ro} {b n cp β m0 : Nat} {a : Option Addr} {L : List Mk} {T : List Fm} {q l : Fm} {x : Dx} {sr now k a1 c1 : Int} {va ga : Option Addr} {vn vc gn gc : Nat} {u6 u9 u10 u11 u12 u13 u14 u15 u16 u17 u18 u19 u20 u21 u22 u23 u24 u25 u26 u27 u28 u29 u30 u31 u32 u33 u34 u35 u36 u37 u38 u39 u40 u41 u42 u43 u44 u45 u46 u47 u48 u49 u50 u51 u52 u53 u54 u55 u56 u57 u58 u59 u60 u61 u62 u63 u64 u65 u66 u67 u68 u69 u70 u71 u72 u73 u74 u75 u76 u77 u78 u79 u80 u81 u82 u83 u84 u85 u86 u87 u88 u89 u90 u91 u92 u93 u94 u95 : Value} {Qn K : Act → World → Prop}
    (hβ : 8 ≤ β) (hv : RV 3 enN w0 (.slice a n cp) L) (hn : n ≤ 5000) (hnl : n = L.length) (HF : LH w0 w wr r r1 b (.slice a n cp) β x l (.slice va vn vc) (.slice ga gn gc)) (HA : At L x (T ++ [q, l])) (hm : m0 ≤ x.at_)
    (hq : q.now = now) (hl : l.kd = 2) (hs : l.lp = sr) (hy : L[x.at_]? = some (9, a1, c1)) (he : a1 = (vn : Int)) (hz : vn = 0) {M : Nat} (hM : L.length - m0 ≤ M) (IF : FrameC L M)
    (hN : NXL b sr now (GL w0 w r b (.slice a n cp) L β T q sr m0 n (mu b n wr)) Qn) :
    Code.wp Try.prog lbody (Exit.then Qn (Exit.inBlock 0 (Exit.then K (bodyPost Try.prog Try.f27 (LoQ w0 w r b (.slice a n cp) L β T q m0))))) ⟨#[.pointer (some ⟨b, 0, none⟩), .int .i64 sr, .int .i64 now, undef, undef, undef, u6, .slice va vn vc, .slice ga gn gc, u9, u10, u11, u12, u13, u14, u15, u16, u17, u18, u19, u20, u21, u22, u23, u24, u25, u26, u27, u28, u29, u30, u31, u32, u33, u34, u35, u36, u37, u38, u39, u40, u41, u42, u43, u44, u45, u46, u47, u48, u49, u50, u51, u52, u53, u54, u55, u56, u57, u58, u59, u60, u61, u62, u63, u64, u65, u66, u67, u68, u69, u70, u71, u72, u73, u74, u75, u76, u77, u78, u79, u80, u81, u82, u83, u84, u85, u86, u87, u88, u89, u90, u91, u92, u93, u94, u95], []⟩ wr := by
  have e1 : T ++ [q, l] = (T ++ [q]) ++ [l] := by simp
  have HA2 : At L x ((T ++ [q]) ++ [l]) := by rw [← e1]; exact HA
  have hvn : vn = l.le.length := (RV.len (OR.rv recI HF.left.o)).1
  have hk1 : (1 : Int) ≤ 9 := by omega
  have hk2 : (9 : Int) ≤ 12 := by omega
  have hbg : l.bg = (vn : Int) := by rw [hvn]; exact (HA.loop hl).1
  have hah := (HA.loop hl).2.1
  have hcan : canB 9 a1 l = true := by
    unfold canB
    simp
    exact ⟨hl, by rw [he, hbg]⟩
  have hsb : (a1 == (vn : Int)) = true := by rw [he]; simp
  have HPR : Hid (befI q l = now) := Lib.hid (by unfold befI; rw [if_neg (by rw [hbg, hz]; simp)]; exact hq)
  subst hz
  have HBG := Lib.hid hbg
  clear he hbg hah
  obtain ⟨_, _, _, _, _, c5, _, _⟩ := HF.db.cells
  rw [HA.ov] at c5
  have CN0 := next_ok w0 wr r1 b a n cp x (9, a1, c1) L HF.db hv hn hy ⟨hk1, hk2⟩
  unfold ndMark at CN0
  dsimp only at CN0
  have CN := Lib.hid CN0
  have HFF := Lib.hid HF
  have HAA := Lib.hid HA
  have HA3 := Lib.hid HA2
  have HVN := Lib.hid hvn
  have HVV := Lib.hid hv
  have HS := Lib.hid hs
  have HLK := Lib.hid hl
  have HY := Lib.hid hy
  have hkn : x.at_ < L.length := (List.getElem?_eq_some_iff.1 hy).1
  have bw : b < wr.heap.size := lt_of HF.db.o
  clear CN0 HF HA HA2 hv e1 hvn hs hl hy
  conv => arg 2; whnf
  go_wp2_with fail
  refine CN.out.mono ?_
  rintro e w6 ⟨rfl, r6, hD6, hk6⟩
  have F6 := HFF.out.keep hβ hD6 hk6 (fun c hc => by omega)
  have d5 : w6.cell? ⟨b, 5, none⟩ = some (.bool false) := by
    have := hD6.cells.2.2.2.2.2.1
    rw [this]
    show some (Value.bool x.ov) = _; rw [HAA.out.ov]
  have b6 : b < w6.heap.size := lt_of hD6.o
  obtain ⟨W7, hW7⟩ : ∃ W7, w6.alloc (.cells #[.int .i64 9, .int .i64 a1, .int .i64 c1] 43) = W7 := ⟨_, rfl⟩
  have F7 := F6.below hβ (β + 4) (show Below w6.heap.size w6 W7 by rw [← hW7]; go_grown)
  have HW7 := Lib.hid hW7
  have H7 := Lib.hid F7
  clear CN hD6 hk6 F6 hW7 F7 c5
  obtain ⟨W8, hW8⟩ : ∃ W8, W7.alloc (.cells #[.int .i64 sr, .int .i64 0, .int .i64 0] 64) = W8 := ⟨_, rfl⟩
  have hsz7 : W7.heap.size = w6.heap.size + 1 := by rw [← HW7.out]; simp
  have hsz8 : W8.heap.size = w6.heap.size + 1 + 1 := by rw [← hW8]; simp [hsz7]
  have hX8 := heap_new W7 (.cells #[.int .i64 sr, .int .i64 0, .int .i64 0] 64)
  have hb8 : Below W7.heap.size W7 W8 := by rw [← hW8]; go_grown
  have F8 := H7.out.below hβ (β + 4) hb8
  have hXr : ext (ext r6 w6.heap.size (β + 4)) W7.heap.size (β + 4) W7.heap.size = β + 4 := ext_ge _ _ (Nat.le_refl _)
  rw [hW8] at hX8
  have hb9 : Below W8.heap.size W8 (W8.alloc (.cells #[.int .i64 now] 3)) := by go_grown
  have F9 := F8.below hβ 6 hb9
  obtain ⟨hX9, hXr9⟩ := (F8.db.below 6 hb9).2.blk hX8 hXr (fun h => h)
  have CB0 := begin_of w0 _ _ b _ _ (sr, 0, 0) (some ⟨W8.heap.size, 0, none⟩, 1, 1) [now] F9.db (rd_one _ now) (Nat.le_trans HAA.out.p (by omega)) (Nat.le_trans HAA.out.n (by omega))
  unfold sl at CB0
  dsimp only at CB0
  have CB := Lib.hid CB0
  have HX9 := Lib.hid (And.intro hX9 hXr9)
  have HSZ7 := Lib.hid hsz7
  have HSZ8 := Lib.hid hsz8
  have HW8 := Lib.hid hW8
  have H9 := Lib.hid F9
  clear CB0 hsz7 hsz8 hX8 hb8 F8 hXr hb9 F9 hX9 hXr9 hW8
  go_wp2_with fail
  rw [HW7.out, HW8.out]
  try rw [← HSZ8.out]
  refine CB.out.mono ?_
  rintro e w9 ⟨v9, r9, x9, rfl, hD9, hk9, hB⟩
  have F9 := H9.out.keep hβ hD9 hk9 (fun c hc => by omega)
  obtain ⟨hX9, hXr9⟩ := hk9.blk HX9.out.1 HX9.out.2 (by omega)
  rw [HSZ7.out] at hX9 hXr9
  obtain ⟨X, hX⟩ : ∃ X, w6.heap.size + 1 = X := ⟨_, rfl⟩
  rw [hX] at hX9 hXr9 ⊢
  have b9 : b < w9.heap.size := lt_of hD9.o
  have X9 : X < w9.heap.size := lt_of hX9
  have s0 : w9.cell? ⟨X, 0, none⟩ = some (.int .i64 sr) := cel hX9 0
  have s1 : w9.cell? ⟨X, 1, none⟩ = some (.int .i64 0) := cel hX9 1
  have s2 : w9.cell? ⟨X, 2, none⟩ = some (.int .i64 0) := cel hX9 2
  have o5 : w9.cell? ⟨b, 5, none⟩ = some (.bool x9.ov) := hD9.cells.2.2.2.2.2.1
  rcases hB with ⟨hl9, rfl⟩ | ⟨hl9, rfl, pv, nv, us, rfl⟩
  · have HG := Lib.hid (GL.over (T := T) (q := q) (sr := sr) (m0 := m0) HFF.out.db HAA.out hnl F9 ⟨HLK.out, HS.out⟩ rfl (HA3.out.long HY.out hk1 hk2 hcan rfl hl9 rfl))
    clear CB hD9 hk9 F9 H7 H9 HW7 HW8 d5 HSZ8 HX9 hX9 hXr9 hX
    go_wp2_with fail
    exact hN _ _ _ _ _ _ _ _ _ _ _ _ _ _ _ _ _ _ _ _ _ _ _ _ _ _ _ _ _ _ _ _ _ _ _ _ _ _ _ _ _ _ _ _ _ _ _ _ _ _ _ _ _ _ _ _ _ _ _ _ _ _ _ _ _ _ _ _ _ _ _ _ _ _ _ _ _ _ _ _ _ _ _ _ _ _ _ _ _ _ _ HG.out
  · have o6 : w9.cell? ⟨b, 5, none⟩ = some (.bool false) := o5.trans (by show some (Value.bool x.ov) = _; rw [HAA.out.ov])
    have e9 : T ++ [q, { l with bg := l.bg + 1 }, ⟨3, (x.P.length : Int), [], l.lp, l.bg, 0, [], l.ah, 0, []⟩] = (T ++ [q, { l with bg := l.bg + 1 }]) ++ [⟨3, (x.P.length : Int), [], l.lp, l.bg, 0, [], l.ah, 0, []⟩] := by simp
    have hA9 : At L { x with at_ := x.at_ + 1, pv := pv, nv := nv, us := us, P := x.P ++ [[now]], N := x.N ++ [(sr, 0, (0 : Int))] } ((T ++ [q, { l with bg := l.bg + 1 }]) ++ [⟨3, (x.P.length : Int), [], l.lp, l.bg, 0, [], l.ah, 0, []⟩]) := by
      rw [← e9]
      exact HA3.out.step HY.out hk1 hk2 hcan (fun _ => hl9) (s' := iterP T q l ⟨(T ++ [q]) ++ [l], x.P, x.N, x.A⟩) (.iter T q l (by simp) rfl) HAA.out.ov HAA.out.er rfl (by show _ = x.P ++ [[befI q l]]; rw [HPR.out]) (by show _ = x.N ++ [(l.lp, l.bg, 0)]; rw [HS.out, HBG.out]; rfl) rfl
    have CF : Hid (Calls Try.prog 15 #[.pointer (some ⟨b, 0, none⟩), .int .i64 2, .agg #[.int .i64 sr, .int .i64 0, .int .i64 0], .int .i64 (x.P.length : Int), .slice ga gn gc] w9 (FrQ w0 w9 r9 b (.slice a n cp) L (β + 8) (T ++ [q, { l with bg := l.bg + 1 }]) 3 (x.at_ + 1))) := Lib.hid (by
      have := IF (show 8 ≤ β + 8 by omega) HVV.out hn hnl hD9 hA9 (by show L.length - (x.at_ + 1) < M; omega) (.inr (.inr ⟨rfl, rfl⟩)) rfl rfl rfl F9.ah rfl
      have e : (Value.agg #[.int .i64 l.lp, .int .i64 l.bg, .int .i64 0]) = .agg #[.int .i64 sr, .int .i64 0, .int .i64 0] := by rw [HS.out, HBG.out]; rfl
      dsimp only at this
      rw [e] at this
      exact this)
    have HF9 := Lib.hid F9
    clear CB hD9 hk9 F9 H7 H9 HW7 HW8 d5 HSZ8 HX9 o5 e9 hA9 hX9 hXr9 hX
    go_wp2_with fail
    refine CF.out.mono ?_
    rintro e wA ⟨rA, xA, vA, rfl, hDA, hkA, hBA⟩
    have FA := HF9.out.keep hβ hDA hkA (fun c hc => by unfold PB at hc; omega)
    have bA : b < wA.heap.size := lt_of hDA.o
    have oA : wA.cell? ⟨b, 5, none⟩ = some (.bool xA.ov) := hDA.cells.2.2.2.2.2.1
    rcases hBA with ⟨rfl, ho, hd⟩ | ⟨x1, g, y, rfl, hm1, hA1, hy1, hc1, hg1, h5⟩
    · have HG := Lib.hid (GL.over (T := T) (q := q) (sr := sr) (m0 := m0) HFF.out.db HAA.out hnl (f2 := { l with ah := [] }) ⟨FA.db, FA.kx, FA.left, RD.nil _ _ _⟩ ⟨HLK.out, HS.out⟩ ho hd)
      rw [ho] at oA
      clear CF hDA hkA FA HF9
      go_wp2_with fail
      exact hN _ _ _ _ _ _ _ _ _ _ _ _ _ _ _ _ _ _ _ _ _ _ _ _ _ _ _ _ _ _ _ _ _ _ _ _ _ _ _ _ _ _ _ _ _ _ _ _ _ _ _ _ _ _ _ _ _ _ _ _ _ _ _ _ _ _ _ _ _ _ _ _ _ _ _ _ _ _ _ _ _ _ _ _ _ _ _ _ _ _ _ HG.out
    · have oA' : wA.cell? ⟨b, 5, none⟩ = some (.bool false) := oA.trans (by show some (Value.bool x1.ov) = _; rw [hA1.ov])
      have h5' : y.1 = 10 ∧ RD 2 enP wA rA 6 vA (g.pa ++ [(g.sg, g.now)]) := by
        rcases h5 with ⟨h, _⟩ | ⟨_, h⟩
        · cases h
        · exact h
      obtain ⟨h10, hrd⟩ := h5'
      have hrdk := hrd
      obtain ⟨qa, qc, rfl, hqc1, hqc2, _, hat⟩ := hrd.o
      obtain ⟨j, hj⟩ : ∃ j, g.pa.length = j := ⟨_, rfl⟩
      have hjl : (g.pa ++ [(g.sg, g.now)]).length = j + 1 := by simp [hj]
      obtain ⟨gb, go, rfl, hgl, hcc⟩ := hat j (g.sg, g.now) (by rw [← hj]; simp)
      have t1 : wA.cell? ⟨gb, go + j * 2 + 1, none⟩ = some (.int .i64 g.now) := by simpa [Nat.add_assoc] using hcc 1 _ rfl
      obtain ⟨m, hmj⟩ : ∃ m, j + 1 = m := ⟨_, rfl⟩
      have hmi : (m : Int) - 1 = (j : Int) := by omega
      have hmi2 : (j : Int) < (m : Int) := by omega
      have hmi3 : (m : Int) ≤ 5001 := by have := hA1.um; omega
      rw [hjl, hmj] at hrdk hqc1 ⊢
      have FA2 : LH w0 w wA r rA b (.slice a n cp) β _ { l with bg := l.bg + 1, ah := g.pa ++ [(g.sg, g.now)] } (.slice va 0 vc) (.slice (some ⟨gb, go, none⟩) m qc) := ⟨FA.db, FA.kx, FA.left, hrdk⟩
      have HFB := Lib.hid (FA2.below hβ (β + 4) (show Below wA.heap.size wA (wA.alloc (.cells #[.int .i64 g.now] 3)) by go_grown))
      have hum : l.le.length ≤ 1000000 := by have := HA3.out.um; omega
      have HH := Lib.hid (And.intro hA1 (And.intro hy1 (And.intro hc1 h10)))
      clear CF hDA hkA FA FA2 HF9 oA hA1 hy1 hc1 h5 h10 hrd hrdk hat hcc hj hjl hmj
      go_wp2_with ((at_builtin; refine wpList_appR rfl _ _ 39 3 _ 8 rfl Try.underlying39 infI rfl (by decide) recI 0 (.slice va 0 vc) l.le rfl ⟨wA.heap.size, 0, none⟩ 1 rfl g.now HFB.out.left.o (rec_new rfl rfl) hum (Nat.zero_le _) ?_))
      intro v' wB hoB hgB horB
      obtain ⟨za, zn, zc, rfl⟩ := form3 hoB
      obtain ⟨rB, FB, hkB⟩ := HFB.out.appLe hβ hgB hoB (by simpa using horB)
      have HG : GL w0 w r b (.slice a n cp) L β T q sr m0 n (mu b n wr) (.slice za zn zc) (.slice (some ⟨gb, go, none⟩) m qc) wB := by
        have hm2 : x.at_ + 1 ≤ x1.at_ := hm1
        have h10 := HH.out.2.2.2
        refine GL.go HFF.out.db HAA.out hnl FB ⟨HLK.out, HS.out⟩ ?_ hm (by show x.at_ < x1.at_ + 1; omega)
        have := HH.out.1.step HH.out.2.1 (by omega) (by omega) HH.out.2.2.1 (fun e => by rw [h10] at e; cases e) (s' := doneP (T ++ [q]) { l with bg := l.bg + 1 } g ⟨(T ++ [q, { l with bg := l.bg + 1 }]) ++ [g], x1.P, x1.N, x1.A⟩) (x' := { x1 with at_ := x1.at_ + 1 }) (.done (T ++ [q]) { l with bg := l.bg + 1 } g (by simp) h10) HH.out.1.ov HH.out.1.er rfl rfl rfl rfl
        simpa [doneP] using this
      have HGG := Lib.hid HG
      clear hoB hgB horB HFB FB hkB oA' t1 bA hgl HH HG
      go_wp2_with fail
      exact hN _ _ _ _ _ _ _ _ _ _ _ _ _ _ _ _ _ _ _ _ _ _ _ _ _ _ _ _ _ _ _ _ _ _ _ _ _ _ _ _ _ _ _ _ _ _ _ _ _ _ _ _ _ _ _ _ _ _ _ _ _ _ _ _ _ _ _ _ _ _ _ _ _ _ _ _ _ _ _ _ _ _ _ _ _ _ _ _ _ _ _ HGG.out
set_option maxRecDepth 20000 in
set_option maxHeartbeats 4000000 in
theorem lo_it1 {w0 w wr : World} {r r1 : Ro} {b n cp β m0 : Nat} {a : Option Addr} {L : List Mk} {T : List Fm} {q l : Fm} {x : Dx} {sr now k a1 c1 : Int} {va ga : Option Addr} {vn vc gn gc : Nat} {u6 u9 u10 u11 u12 u13 u14 u15 u16 u17 u18 u19 u20 u21 u22 u23 u24 u25 u26 u27 u28 u29 u30 u31 u32 u33 u34 u35 u36 u37 u38 u39 u40 u41 u42 u43 u44 u45 u46 u47 u48 u49 u50 u51 u52 u53 u54 u55 u56 u57 u58 u59 u60 u61 u62 u63 u64 u65 u66 u67 u68 u69 u70 u71 u72 u73 u74 u75 u76 u77 u78 u79 u80 u81 u82 u83 u84 u85 u86 u87 u88 u89 u90 u91 u92 u93 u94 u95 : Value} {Qn K : Act → World → Prop}
    (hβ : 8 ≤ β) (hv : RV 3 enN w0 (.slice a n cp) L) (hn : n ≤ 5000) (hnl : n = L.length) (HF : LH w0 w wr r r1 b (.slice a n cp) β x l (.slice va vn vc) (.slice ga gn gc)) (HA : At L x (T ++ [q, l])) (hm : m0 ≤ x.at_)
    (hq : q.now = now) (hl : l.kd = 2) (hs : l.lp = sr) (hy : L[x.at_]? = some (9, a1, c1)) (he : a1 = (vn : Int)) (hz : 0 < vn) {M : Nat} (hM : L.length - m0 ≤ M) (IF : FrameC L M)
    (hN : NXL b sr now (GL w0 w r b (.slice a n cp) L β T q sr m0 n (mu b n wr)) Qn) :
    Code.wp Try.prog lbody (Exit.then Qn (Exit.inBlock 0 (Exit.then K (bodyPost Try.prog Try.f27 (LoQ w0 w r b (.slice a n cp) L β T q m0))))) ⟨#[.pointer (some ⟨b, 0, none⟩), .int .i64 sr, .int .i64 now, undef, undef, undef, u6, .slice va vn vc, .slice ga gn gc, u9, u10, u11, u12, u13, u14, u15, u16, u17, u18, u19, u20, u21, u22, u23, u24, u25, u26, u27, u28, u29, u30, u31, u32, u33, u34, u35, u36, u37, u38, u39, u40, u41, u42, u43, u44, u45, u46, u47, u48, u49, u50, u51, u52, u53, u54, u55, u56, u57, u58, u59, u60, u61, u62, u63, u64, u65, u66, u67, u68, u69, u70, u71, u72, u73, u74, u75, u76, u77, u78, u79, u80, u81, u82, u83, u84, u85, u86, u87, u88, u89, u90, u91, u92, u93, u94, u95], []⟩ wr := by
  have e1 : T ++ [q, l] = (T ++ [q]) ++ [l] := by simp
  have HA2 : At L x ((T ++ [q]) ++ [l]) := by rw [← e1]; exact HA
  have hvn : vn = l.le.length := (RV.len (OR.rv recI HF.left.o)).1
  have hk1 : (1 : Int) ≤ 9 := by omega
  have hk2 : (9 : Int) ≤ 12 := by omega
  have hbg : l.bg = (vn : Int) := by rw [hvn]; exact (HA.loop hl).1
  have hah := (HA.loop hl).2.1
  have hcan : canB 9 a1 l = true := by
    unfold canB
    simp
    exact ⟨hl, by rw [he, hbg]⟩
  have hsb : (a1 == (vn : Int)) = true := by rw [he]; simp
  have hzi : (0 : Int) < (vn : Int) := by omega
  have hzb : decide ((0 : Int) < (vn : Int)) = true := decide_eq_true hzi
  have hne : l.ah ≠ [] := hah (by rw [hbg]; exact hzi)
  obtain ⟨p0, pl, hpl⟩ := List.exists_cons_of_ne_nil hne
  obtain ⟨pr, hpr⟩ : ∃ pr, p0.2 = pr := ⟨_, rfl⟩
  have HPR : Hid (befI q l = pr) := Lib.hid (by unfold befI; rw [if_pos (by rw [hbg]; exact hzi), hpl]; exact hpr)
  obtain ⟨g0, o0, rfl, hg0, hc0⟩ := HF.ah.o.at 0 p0 (by rw [hpl]; rfl)
  have hgn : gn = pl.length + 1 := by have := (RV.len HF.ah.o).1; rw [hpl] at this; simpa using this
  have hgi : (0 : Int) < (gn : Int) := by omega
  have t0 : wr.cell? ⟨g0, o0 + 1, none⟩ = some (.int .i64 pr) := by rw [← hpr]; simpa using hc0 1 _ rfl
  have HT0 := Lib.hid t0
  clear hpl hpr hc0 hgn hne t0
  have HBG := Lib.hid hbg
  clear he hbg hah
  obtain ⟨_, _, _, _, _, c5, _, _⟩ := HF.db.cells
  rw [HA.ov] at c5
  have CN0 := next_ok w0 wr r1 b a n cp x (9, a1, c1) L HF.db hv hn hy ⟨hk1, hk2⟩
  unfold ndMark at CN0
  dsimp only at CN0
  have CN := Lib.hid CN0
  have HFF := Lib.hid HF
  have HAA := Lib.hid HA
  have HA3 := Lib.hid HA2
  have HVN := Lib.hid hvn
  have HVV := Lib.hid hv
  have HS := Lib.hid hs
  have HLK := Lib.hid hl
  have HY := Lib.hid hy
  have hkn : x.at_ < L.length := (List.getElem?_eq_some_iff.1 hy).1
  have bw : b < wr.heap.size := lt_of HF.db.o
  clear CN0 HF HA HA2 hv e1 hvn hs hl hy
  conv => arg 2; whnf
  go_wp2_with fail
  refine CN.out.mono ?_
  rintro e w6 ⟨rfl, r6, hD6, hk6⟩
  have F6 := HFF.out.keep hβ hD6 hk6 (fun c hc => by omega)
  have d5 : w6.cell? ⟨b, 5, none⟩ = some (.bool false) := by
    have := hD6.cells.2.2.2.2.2.1
    rw [this]
    show some (Value.bool x.ov) = _; rw [HAA.out.ov]
  have b6 : b < w6.heap.size := lt_of hD6.o
  obtain ⟨W7, hW7⟩ : ∃ W7, w6.alloc (.cells #[.int .i64 9, .int .i64 a1, .int .i64 c1] 43) = W7 := ⟨_, rfl⟩
  have F7 := F6.below hβ (β + 4) (show Below w6.heap.size w6 W7 by rw [← hW7]; go_grown)
  have HW7 := Lib.hid hW7
  have H7 := Lib.hid F7
  have t6 : w6.cell? ⟨g0, o0 + 1, none⟩ = some (.int .i64 pr) := by
    obtain ⟨_, _, e, hgz, hcz⟩ := F6.ah.o.at 0 ((l.ah).getD 0 (0, 0)) (by
      have := HT0
      have hlen := (RV.len HFF.out.ah.o).1
      rw [List.getD_eq_getElem?_getD, List.getElem?_eq_getElem (by omega)]; rfl)
    simp only [Option.some.injEq, Addr.mk.injEq] at e
    obtain ⟨rfl, rfl, _⟩ := e
    have hb : befI q l = ((l.ah).getD 0 (0, 0)).2 := by unfold befI; rw [if_pos (by rw [HBG.out]; exact hzi)]
    have h1 := hcz 1 _ rfl
    rw [← HPR.out, hb]
    simpa using h1
  have g6 : g0 < w6.heap.size := by
    obtain ⟨_, _, e, hgz, hcz⟩ := F6.ah.o.at 0 ((l.ah).getD 0 (0, 0)) (by
      have hlen := (RV.len HFF.out.ah.o).1
      rw [List.getD_eq_getElem?_getD, List.getElem?_eq_getElem (by omega)]; rfl)
    simp only [Option.some.injEq, Addr.mk.injEq] at e
    obtain ⟨rfl, rfl, _⟩ := e
    exact hgz
  clear CN hD6 hk6 F6 hW7 F7 c5
  obtain ⟨W8, hW8⟩ : ∃ W8, W7.alloc (.cells #[.int .i64 sr, .int .i64 (vn : Int), .int .i64 0] 64) = W8 := ⟨_, rfl⟩
  have hsz7 : W7.heap.size = w6.heap.size + 1 := by rw [← HW7.out]; simp
  have hsz8 : W8.heap.size = w6.heap.size + 1 + 1 := by rw [← hW8]; simp [hsz7]
  have hX8 := heap_new W7 (.cells #[.int .i64 sr, .int .i64 (vn : Int), .int .i64 0] 64)
  have hb8 : Below W7.heap.size W7 W8 := by rw [← hW8]; go_grown
  have F8 := H7.out.below hβ (β + 4) hb8
  have hXr : ext (ext r6 w6.heap.size (β + 4)) W7.heap.size (β + 4) W7.heap.size = β + 4 := ext_ge _ _ (Nat.le_refl _)
  rw [hW8] at hX8
  have hb9 : Below W8.heap.size W8 (W8.alloc (.cells #[.int .i64 pr] 3)) := by go_grown
  have F9 := F8.below hβ 6 hb9
  obtain ⟨hX9, hXr9⟩ := (F8.db.below 6 hb9).2.blk hX8 hXr (fun h => h)
  have CB0 := begin_of w0 _ _ b _ _ (sr, (vn : Int), 0) (some ⟨W8.heap.size, 0, none⟩, 1, 1) [pr] F9.db (rd_one _ pr) (Nat.le_trans HAA.out.p (by omega)) (Nat.le_trans HAA.out.n (by omega))
  unfold sl at CB0
  dsimp only at CB0
  have CB := Lib.hid CB0
  have HX9 := Lib.hid (And.intro hX9 hXr9)
  have HSZ7 := Lib.hid hsz7
  have HSZ8 := Lib.hid hsz8
  have HW8 := Lib.hid hW8
  have H9 := Lib.hid F9
  clear CB0 hsz7 hsz8 hX8 hb8 F8 hXr hb9 F9 hX9 hXr9 hW8
  go_wp2_with fail
  rw [HW7.out, HW8.out]
  try rw [← HSZ8.out]
  refine CB.out.mono ?_
  rintro e w9 ⟨v9, r9, x9, rfl, hD9, hk9, hB⟩
  have F9 := H9.out.keep hβ hD9 hk9 (fun c hc => by omega)
  obtain ⟨hX9, hXr9⟩ := hk9.blk HX9.out.1 HX9.out.2 (by omega)
  rw [HSZ7.out] at hX9 hXr9
  obtain ⟨X, hX⟩ : ∃ X, w6.heap.size + 1 = X := ⟨_, rfl⟩
  rw [hX] at hX9 hXr9 ⊢
  have b9 : b < w9.heap.size := lt_of hD9.o
  have X9 : X < w9.heap.size := lt_of hX9
  have s0 : w9.cell? ⟨X, 0, none⟩ = some (.int .i64 sr) := cel hX9 0
  have s1 : w9.cell? ⟨X, 1, none⟩ = some (.int .i64 (vn : Int)) := cel hX9 1
  have s2 : w9.cell? ⟨X, 2, none⟩ = some (.int .i64 0) := cel hX9 2
  have o5 : w9.cell? ⟨b, 5, none⟩ = some (.bool x9.ov) := hD9.cells.2.2.2.2.2.1
  rcases hB with ⟨hl9, rfl⟩ | ⟨hl9, rfl, pv, nv, us, rfl⟩
  · have HG := Lib.hid (GL.over (T := T) (q := q) (sr := sr) (m0 := m0) HFF.out.db HAA.out hnl F9 ⟨HLK.out, HS.out⟩ rfl (HA3.out.long HY.out hk1 hk2 hcan rfl hl9 rfl))
    clear CB hD9 hk9 F9 H7 H9 HW7 HW8 d5 HSZ8 HX9 hX9 hXr9 hX
    go_wp2_with fail
    exact hN _ _ _ _ _ _ _ _ _ _ _ _ _ _ _ _ _ _ _ _ _ _ _ _ _ _ _ _ _ _ _ _ _ _ _ _ _ _ _ _ _ _ _ _ _ _ _ _ _ _ _ _ _ _ _ _ _ _ _ _ _ _ _ _ _ _ _ _ _ _ _ _ _ _ _ _ _ _ _ _ _ _ _ _ _ _ _ _ _ _ _ HG.out
  · have o6 : w9.cell? ⟨b, 5, none⟩ = some (.bool false) := o5.trans (by show some (Value.bool x.ov) = _; rw [HAA.out.ov])
    have e9 : T ++ [q, { l with bg := l.bg + 1 }, ⟨3, (x.P.length : Int), [], l.lp, l.bg, 0, [], l.ah, 0, []⟩] = (T ++ [q, { l with bg := l.bg + 1 }]) ++ [⟨3, (x.P.length : Int), [], l.lp, l.bg, 0, [], l.ah, 0, []⟩] := by simp
    have hA9 : At L { x with at_ := x.at_ + 1, pv := pv, nv := nv, us := us, P := x.P ++ [[pr]], N := x.N ++ [(sr, (vn : Int), (0 : Int))] } ((T ++ [q, { l with bg := l.bg + 1 }]) ++ [⟨3, (x.P.length : Int), [], l.lp, l.bg, 0, [], l.ah, 0, []⟩]) := by
      rw [← e9]
      exact HA3.out.step HY.out hk1 hk2 hcan (fun _ => hl9) (s' := iterP T q l ⟨(T ++ [q]) ++ [l], x.P, x.N, x.A⟩) (.iter T q l (by simp) rfl) HAA.out.ov HAA.out.er rfl (by show _ = x.P ++ [[befI q l]]; rw [HPR.out]) (by show _ = x.N ++ [(l.lp, l.bg, 0)]; rw [HS.out, HBG.out]) rfl
    have CF : Hid (Calls Try.prog 15 #[.pointer (some ⟨b, 0, none⟩), .int .i64 2, .agg #[.int .i64 sr, .int .i64 (vn : Int), .int .i64 0], .int .i64 (x.P.length : Int), .slice (some ⟨g0, o0, none⟩) gn gc] w9 (FrQ w0 w9 r9 b (.slice a n cp) L (β + 8) (T ++ [q, { l with bg := l.bg + 1 }]) 3 (x.at_ + 1))) := Lib.hid (by
      have := IF (show 8 ≤ β + 8 by omega) HVV.out hn hnl hD9 hA9 (by show L.length - (x.at_ + 1) < M; omega) (.inr (.inr ⟨rfl, rfl⟩)) rfl rfl rfl F9.ah rfl
      have e : (Value.agg #[.int .i64 l.lp, .int .i64 l.bg, .int .i64 0]) = .agg #[.int .i64 sr, .int .i64 (vn : Int), .int .i64 0] := by rw [HS.out, HBG.out]
      dsimp only at this
      rw [e] at this
      exact this)
    have HF9 := Lib.hid F9
    clear CB hD9 hk9 F9 H7 H9 HW7 HW8 d5 HSZ8 HX9 o5 e9 hA9 hX9 hXr9 hX
    go_wp2_with fail
    refine CF.out.mono ?_
    rintro e wA ⟨rA, xA, vA, rfl, hDA, hkA, hBA⟩
    have FA := HF9.out.keep hβ hDA hkA (fun c hc => by unfold PB at hc; omega)
    have bA : b < wA.heap.size := lt_of hDA.o
    have oA : wA.cell? ⟨b, 5, none⟩ = some (.bool xA.ov) := hDA.cells.2.2.2.2.2.1
    rcases hBA with ⟨rfl, ho, hd⟩ | ⟨x1, g, y, rfl, hm1, hA1, hy1, hc1, hg1, h5⟩
    · have HG := Lib.hid (GL.over (T := T) (q := q) (sr := sr) (m0 := m0) HFF.out.db HAA.out hnl (f2 := { l with ah := [] }) ⟨FA.db, FA.kx, FA.left, RD.nil _ _ _⟩ ⟨HLK.out, HS.out⟩ ho hd)
      rw [ho] at oA
      clear CF hDA hkA FA HF9
      go_wp2_with fail
      exact hN _ _ _ _ _ _ _ _ _ _ _ _ _ _ _ _ _ _ _ _ _ _ _ _ _ _ _ _ _ _ _ _ _ _ _ _ _ _ _ _ _ _ _ _ _ _ _ _ _ _ _ _ _ _ _ _ _ _ _ _ _ _ _ _ _ _ _ _ _ _ _ _ _ _ _ _ _ _ _ _ _ _ _ _ _ _ _ _ _ _ _ HG.out
    · have oA' : wA.cell? ⟨b, 5, none⟩ = some (.bool false) := oA.trans (by show some (Value.bool x1.ov) = _; rw [hA1.ov])
      have h5' : y.1 = 10 ∧ RD 2 enP wA rA 6 vA (g.pa ++ [(g.sg, g.now)]) := by
        rcases h5 with ⟨h, _⟩ | ⟨_, h⟩
        · cases h
        · exact h
      obtain ⟨h10, hrd⟩ := h5'
      have hrdk := hrd
      obtain ⟨qa, qc, rfl, hqc1, hqc2, _, hat⟩ := hrd.o
      obtain ⟨j, hj⟩ : ∃ j, g.pa.length = j := ⟨_, rfl⟩
      have hjl : (g.pa ++ [(g.sg, g.now)]).length = j + 1 := by simp [hj]
      obtain ⟨gb, go, rfl, hgl, hcc⟩ := hat j (g.sg, g.now) (by rw [← hj]; simp)
      have t1 : wA.cell? ⟨gb, go + j * 2 + 1, none⟩ = some (.int .i64 g.now) := by simpa [Nat.add_assoc] using hcc 1 _ rfl
      obtain ⟨m, hmj⟩ : ∃ m, j + 1 = m := ⟨_, rfl⟩
      have hmi : (m : Int) - 1 = (j : Int) := by omega
      have hmi2 : (j : Int) < (m : Int) := by omega
      have hmi3 : (m : Int) ≤ 5001 := by have := hA1.um; omega
      rw [hjl, hmj] at hrdk hqc1 ⊢
      have FA2 : LH w0 w wA r rA b (.slice a n cp) β _ { l with bg := l.bg + 1, ah := g.pa ++ [(g.sg, g.now)] } (.slice va vn vc) (.slice (some ⟨gb, go, none⟩) m qc) := ⟨FA.db, FA.kx, FA.left, hrdk⟩
      have HFB := Lib.hid (FA2.below hβ (β + 4) (show Below wA.heap.size wA (wA.alloc (.cells #[.int .i64 g.now] 3)) by go_grown))
      have hum : l.le.length ≤ 1000000 := by have := HA3.out.um; omega
      have HH := Lib.hid (And.intro hA1 (And.intro hy1 (And.intro hc1 h10)))
      clear CF hDA hkA FA FA2 HF9 oA hA1 hy1 hc1 h5 h10 hrd hrdk hat hcc hj hjl hmj
      go_wp2_with ((at_builtin; refine wpList_appR rfl _ _ 39 3 _ 8 rfl Try.underlying39 infI rfl (by decide) recI 0 (.slice va vn vc) l.le rfl ⟨wA.heap.size, 0, none⟩ 1 rfl g.now HFB.out.left.o (rec_new rfl rfl) hum (Nat.zero_le _) ?_))
      intro v' wB hoB hgB horB
      obtain ⟨za, zn, zc, rfl⟩ := form3 hoB
      obtain ⟨rB, FB, hkB⟩ := HFB.out.appLe hβ hgB hoB (by simpa using horB)
      have HG : GL w0 w r b (.slice a n cp) L β T q sr m0 n (mu b n wr) (.slice za zn zc) (.slice (some ⟨gb, go, none⟩) m qc) wB := by
        have hm2 : x.at_ + 1 ≤ x1.at_ := hm1
        have h10 := HH.out.2.2.2
        refine GL.go HFF.out.db HAA.out hnl FB ⟨HLK.out, HS.out⟩ ?_ hm (by show x.at_ < x1.at_ + 1; omega)
        have := HH.out.1.step HH.out.2.1 (by omega) (by omega) HH.out.2.2.1 (fun e => by rw [h10] at e; cases e) (s' := doneP (T ++ [q]) { l with bg := l.bg + 1 } g ⟨(T ++ [q, { l with bg := l.bg + 1 }]) ++ [g], x1.P, x1.N, x1.A⟩) (x' := { x1 with at_ := x1.at_ + 1 }) (.done (T ++ [q]) { l with bg := l.bg + 1 } g (by simp) h10) HH.out.1.ov HH.out.1.er rfl rfl rfl rfl
        simpa [doneP] using this
      have HGG := Lib.hid HG
      clear hoB hgB horB HFB FB hkB oA' t1 bA hgl HH HG
      go_wp2_with fail
      exact hN _ _ _ _ _ _ _ _ _ _ _ _ _ _ _ _ _ _ _ _ _ _ _ _ _ _ _ _ _ _ _ _ _ _ _ _ _ _ _ _ _ _ _ _ _ _ _ _ _ _ _ _ _ _ _ _ _ _ _ _ _ _ _ _ _ _ _ _ _ _ _ _ _ _ _ _ _ _ _ _ _ _ _ _ _ _ _ _ _ _ _ HGG.out
end Go.Proofs.Ytgbaaemocnjaoaa.dg
