/- What the builder's calls do, and what they leave (layer 7). -/
import Derived.Test.YtdneblbaofhehaaBdK
namespace Go.Proofs.Ytdneblbaofhehaa.bd
open Go.ChangeShapes Go.WideShapes Go.ChangeAt Go.RowKit Go.Maps
open Go.Proofs.Ytdneblbaofhehaa.ro
open Go.Proofs.Ytdneblbaofhehaa.pr
attribute [local go_sem ↓] Go.wp_at_zero Go.wp_at_succ
set_option linter.unusedVariables false
set_option linter.unusedSimpArgs false
abbrev QK (n : Nat) : Nat → Prop := fun d => 100 + 4 * n ≤ d ∧ d ≤ 103 + 4 * n
section
variable {Q : Nat → Prop} {w0 w w' : World} {ρ ρ' : Ro} {Bb : Nat} {mem : Int} {fv : Value} {fs : List Fn} {j n : Nat} {x : Fn}
theorem BS.codeK (h : BS w0 w ρ Bb mem fv fs) (hx : fs[j]? = some x) {W : World} {v' : Value} {cs' : List I4} (hg : w.grownBy W x.cv.ownBlock) (ho : OR 4 enI W 0 33 v' cs') (hor : v'.ownBlock = x.cv.ownBlock ∨ v'.ownBlock = some w.heap.size) :
    KX (QK j) ρ (ext ρ w.heap.size (102 + 4 * j)) w (W.setCell ⟨x.F, 0, none⟩ v') := by
  have hf := h.fn j x hx
  obtain ⟨g1, g2⟩ := hf.c.grown hg ho hor
  have oW := g2.blk hf.o hf.ro (by omega)
  obtain ⟨D, hm, hl⟩ := hf.m
  have mW := g2.k (101 + 4 * j) (by omega) x.M hm.lt hf.rm
  have hs := KX.set (w := W) x.F 0 v' oW.2
  have hk : KX (fun d => 100 + 4 * j ≤ d ∧ d ≤ 103 + 4 * j) ρ (ext ρ w.heap.size (102 + 4 * j)) w (W.setCell ⟨x.F, 0, none⟩ v') := (g2.to hs).mono (fun c hc => by omega)
  exact hk
theorem BS.leapK (h : BS w0 w ρ Bb mem fv fs) (hx : fs[j]? = some x) {W : World} {v' : Value} {ls' : List (Int × ByteArray)} (hg : w.grownBy W x.lv.ownBlock) (ho : OR 2 enL W 0 72 v' ls') (hor : v'.ownBlock = x.lv.ownBlock ∨ v'.ownBlock = some w.heap.size) :
    KX (QK j) ρ (ext ρ w.heap.size (103 + 4 * j)) w (W.setCell ⟨x.F, 2, none⟩ v') := by
  have hf := h.fn j x hx
  obtain ⟨g1, g2⟩ := hf.l.grown hg ho hor
  have oW := g2.blk hf.o hf.ro (by omega)
  obtain ⟨D, hm, hl⟩ := hf.m
  have mW := g2.k (101 + 4 * j) (by omega) x.M hm.lt hf.rm
  have hs := KX.set (w := W) x.F 2 v' oW.2
  have hk : KX (fun d => 100 + 4 * j ≤ d ∧ d ≤ 103 + 4 * j) ρ (ext ρ w.heap.size (103 + 4 * j)) w (W.setCell ⟨x.F, 2, none⟩ v') := (g2.to hs).mono (fun c hc => by omega)
  exact hk
theorem BS.labelK (h : BS w0 w ρ Bb mem fv fs) (hx : fs[j]? = some x) {D : Dm} {f' : ByteArray → Option Int} (hg : w.grownBy w' (some x.M)) (hm : w'.ownsMap Try.prog 9 (plainElem (H := Unit) Try.prog 3) x.M (x.nl + 1) D) (hl : Lab D f') :
    KX (QK j) ρ (ext ρ w.heap.size 9) w w' := by
  have hf := h.fn j x hx
  obtain ⟨D0, hm0, _⟩ := hf.m
  have g2 : KX (· = 101 + 4 * j) ρ (ext ρ w.heap.size 9) w w' := ⟨hg.os, hg.tape, hg.output, hg.size, fun d hd q hq e => ⟨by rw [ro.ext_lt ρ 9 hq]; exact e, hg.block q hq (fun e2 => hd (by cases e2; rw [← e]; exact hf.rm))⟩⟩
  have hk : KX (fun d => 100 + 4 * j ≤ d ∧ d ≤ 103 + 4 * j) ρ (ext ρ w.heap.size 9) w w' := g2.mono (fun c hc => by omega)
  exact hk

set_option maxRecDepth 20000 in
theorem add_k (h : BS w0 w ρ Bb mem fv fs) (hn : fs.length = n + 1) (hx : fs[n]? = some x) (hk : n ≤ 1000) (hl : x.cs.length ≤ 100000) (g c : Nat) (p : I4) (hg : ∀ j u, (enI p)[j]? = some u → w.cell? ((⟨g, 0, none⟩ : Addr).add j) = some u) :
    Calls Try.prog 17 #[.pointer (some ⟨Bb, 0, none⟩), .slice (some ⟨g, 0, none⟩) 1 c] w fun e w' => e = .returned (.int .i64 ((x.cs.length + 1 : Nat) : Int)) ∧ ∃ ρ' cv', BS w0 w' ρ' Bb mem fv (fs.set n { x with cv := cv', cs := x.cs ++ [p] }) ∧ KX (QK n) ρ ρ' w w' := by
  have HL := Lib.hid (last_v h hn hx hk)
  have hF := h.fn n x hx
  obtain ⟨a, cp, hcv⟩ := OR.form hF.c.o
  obtain ⟨k, hkk⟩ : ∃ k, x.cs.length = k := ⟨_, rfl⟩
  rw [hkk] at hcv hl ⊢
  have c0 : w.cell? ⟨x.F, 0, none⟩ = some (.slice a k cp) := by rw [← hcv]; exact ro.cel hF.o 0
  have HF : Hid (x.F < w.heap.size) := Lib.hid hF.lt
  have H := Lib.hid h
  have HX := Lib.hid hx
  have HG := Lib.hid hg
  have HV := Lib.hid hcv
  have HKK := Lib.hid hkk
  clear h hn hx hF hcv hg hkk
  go_enter Try.func17, Try.ntmps17
  go_wp2_with (first | (go_at_call 24; (with_reducible refine HL.out.mono ?_); rintro _ _ ⟨rfl, m, rfl⟩) | (at_builtin; refine wpList_appR (en := enI) rfl _ _ 50 33 _ 32 rfl Try.underlying50 infoI rfl (by decide) recI 0 _ x.cs HV.out.symm ⟨g, 0, none⟩ c rfl p (OR.below (H.out.fn n x HX.out).c.o (by exact below_drewN _ _)) (fun j u hu => HG.out j u hu) (by rw [HKK.out]; omega) (Nat.zero_le _) ?_))
  intro v' w1 ho hg1 hor
  have h2 := H.out.below (below_drewN w m)
  have hF2 := h2.fn n x HX.out
  obtain ⟨g1, g2⟩ := hF2.c.grown hg1 ho hor
  have b1 := g2.blk hF2.o hF2.ro (by omega)
  have c1 : w1.cell? ⟨x.F, 0, none⟩ = some x.cv := ro.cel b1.1 0
  have f1 : w1.frozen? ⟨x.F, 0, none⟩ = false := ro.frz b1.1 0
  rw [HV.out] at c1
  obtain ⟨va, vc, hv⟩ := OR.form ho
  have hv1 : v' = .slice va (k + 1) vc := by rw [hv, List.length_append, HKK.out]; rfl
  subst hv1
  have HB := Lib.hid (h2.code HX.out (W := w1) (v' := .slice va (k + 1) vc) (cs' := x.cs ++ [p]) hg1 ho hor)
  have HK := Lib.hid ((KX.below (QK n) ρ 9 (below_drewN w m)).trans (h2.codeK HX.out (W := w1) (v' := .slice va (k + 1) vc) (cs' := x.cs ++ [p]) hg1 ho hor))
  clear h2 hF2 g1 g2 b1 hv ho hg1 hor c0
  go_wp2_with fail
  go_ret
  exact ⟨rfl, _, _, HB.out, HK.out⟩
set_option maxRecDepth 20000 in
theorem label_k (h : BS w0 w ρ Bb mem fv fs) (hn : fs.length = n + 1) (hx : fs[n]? = some x) (hk : n ≤ 1000) (hl : x.cs.length ≤ 100000) (s : ByteArray) (hs : s.size ≤ 1000) (hp : x.f s = none) (hnl : x.nl ≤ 100000) :
    Calls Try.prog 18 #[.pointer (some ⟨Bb, 0, none⟩), .string s] w fun e w' => e = .returned (.int .i64 0) ∧ ∃ ρ', BS w0 w' ρ' Bb mem fv (fs.set n { x with f := (fun q => if q = s then some (x.cs.length : Int) else x.f q), nl := x.nl + 1 }) ∧ KX (QK n) ρ ρ' w w' := by
  have HL := Lib.hid (last_v h hn hx hk)
  have hF := h.fn n x hx
  obtain ⟨D, hm, hD⟩ := hF.m
  have hh : Maps.has D (kl s) = false := by rw [(hD.2 s).1, hp]; rfl
  obtain ⟨a, cp, hcv⟩ := OR.form hF.c.o
  obtain ⟨k, hkk⟩ : ∃ k, x.cs.length = k := ⟨_, rfl⟩
  rw [hkk] at hcv hl ⊢
  have c0 : w.cell? ⟨x.F, 0, none⟩ = some (.slice a k cp) := by rw [← hcv]; exact ro.cel hF.o 0
  have c1 : w.cell? ⟨x.F, 1, none⟩ = some (.map (some x.M)) := ro.cel hF.o 1
  have HM := Lib.hid hm
  have HD := Lib.hid hD
  have H := Lib.hid h
  have HX := Lib.hid hx
  have HN := Lib.hid (show x.nl < maxLen by unfold maxLen; omega)
  have hkey : keyOf Try.prog 9 (.string s) = some (kl s) := WideMaps.keyOf_string_mk Try.underlying9 (by unfold maxLen; omega)
  clear h hn hx hF hm hD hp hnl hcv hkk
  go_enter Try.func18, Try.ntmps18
  go_wp2_with (first | (go_at_call 24; (with_reducible refine HL.out.mono ?_); rintro _ _ ⟨rfl, m, rfl⟩) | (at_lookup; refine wpList_lookup_own_ok_int _ rfl _ _ 64 rfl 9 3 .i64 law Try.underlying64 Try.underlying3 (zeroI _) x.M x.nl D rfl (ownsMap_blk HM.out rfl) _ (kl s) rfl hkey ?_; intro c hc hwc; rw [hh]))
  obtain ⟨W, hW⟩ : ∃ W, w.drewN m = W := ⟨_, rfl⟩
  rw [hW]
  obtain ⟨w2, hup, hm2, hg2⟩ := World.ownsMap.update (w := W.drew) (ownsMap_blk HM.out (by rw [← hW]; rfl)) law Try.underlying64 HN.out (val := .int .i64 (k : Int)) hkey (plainElem_int Try.underlying3 (WalkArith.wf_i64 (by omega)))
  have d0 : W.cell? ⟨x.F, 0, none⟩ = some (.slice a k cp) := by rw [← hW]; exact c0
  have d1 : W.cell? ⟨x.F, 1, none⟩ = some (.map (some x.M)) := by rw [← hW]; exact c1
  have hb : Below w.heap.size w W := by rw [← hW]; exact below_drewN w m
  have h2 := H.out.below hb
  have h3 := h2.below (w' := W.drew) (below_drewN W 1)
  have HB := Lib.hid (h3.label HX.out hg2 hm2 (HD.out.put s k))
  have HK := Lib.hid ((KX.below (QK n) ρ 9 hb).trans ((KX.below (QK n) _ 9 (below_drewN W 1)).trans (h3.labelK HX.out hg2 hm2 (HD.out.put s k))))
  clear h2 h3 hm2 hg2 hb c0 c1 hc hwc
  go_region
  all_goals
    go_wp2_with fail
    go_ret
    exact ⟨rfl, _, HB.out, HK.out⟩
set_option maxRecDepth 20000 in
set_option maxHeartbeats 2000000 in
theorem leap_k (h : BS w0 w ρ Bb mem fv fs) (hn : fs.length = n + 1) (hx : fs[n]? = some x) (hk : n ≤ 1000) (hl : x.cs.length ≤ 100000) (hll : x.ls.length ≤ 100000) (s : ByteArray) (p0 p1 p2 p3 : Int) :
    Calls Try.prog 23 #[.pointer (some ⟨Bb, 0, none⟩), .agg #[.int .i64 p0, .int .i64 p1, .int .i64 p2, .int .i64 p3], .string s] w fun e w' => e = .returned (.tuple #[]) ∧ ∃ ρ' cv lv, BS w0 w' ρ' Bb mem fv (fs.set n (lpd x (p0, p1, p2, p3) s cv lv)) ∧ KX (QK n) ρ ρ' w w' := by
  obtain ⟨w1, hw1⟩ : ∃ w1, w.alloc (.cells #[.int .i64 p0, .int .i64 p1, .int .i64 p2, .int .i64 p3] 33) = w1 := ⟨_, rfl⟩
  have h1 := h.below (w' := w1) (by rw [← hw1]; go_grown)
  have HL := Lib.hid (last_v h1 hn hx hk)
  have X1 : w1.heap[w.heap.size]? = some (.cells #[.int .i64 p0, .int .i64 p1, .int .i64 p2, .int .i64 p3] 33 (0, 0)) := by rw [← hw1]; exact heap_new _ _
  have hK1 := KX.below (w := w) (w' := w1) (QK n) ρ 9 (by rw [← hw1]; go_grown)
  have H := Lib.hid h1
  have HX := Lib.hid hx
  have HN := Lib.hid hn
  clear h h1 hn hx
  go_enter Try.func23, Try.ntmps23
  go_wp2_with ((go_at_call 24; (with_reducible refine HL.out.mono ?_); rintro _ _ ⟨rfl, m, rfl⟩))
  obtain ⟨W, hW⟩ : ∃ W, w1.drewN m = W := ⟨_, rfl⟩
  rw [hW]
  obtain ⟨X, hX⟩ : ∃ X, w.heap.size = X := ⟨_, rfl⟩
  rw [hX] at X1 H hK1 ⊢
  have hXs : X < w1.heap.size := ro.lt_of X1
  have rX : ext ρ X 9 X = 9 := ext_ge ρ 9 (Nat.le_refl _)
  have hbW : Below w1.heap.size w1 W := by rw [← hW]; exact below_drewN w1 m
  have XW : W.heap[X]? = some (.cells #[.int .i64 p0, .int .i64 p1, .int .i64 p2, .int .i64 p3] 33 (0, 0)) := (hbW.block X hXs).trans X1
  have h2 := H.out.below hbW
  obtain ⟨ρ2, hρ2⟩ : ∃ r, ext (ext ρ X 9) w1.heap.size 9 = r := ⟨_, rfl⟩
  have hK2 := hK1.trans (KX.below (QK n) (ext ρ X 9) 9 hbW)
  rw [hρ2] at h2 hK2
  have HK := Lib.hid hK2
  clear hK1 hK2
  have rX2 : ρ2 X = 9 := by rw [← hρ2, ext_lt _ _ hXs]; exact rX
  have hF := h2.fn n x HX.out
  obtain ⟨a, cp, hcv⟩ := OR.form hF.c.o
  obtain ⟨la, lc, hlv⟩ := OR.form hF.l.o
  obtain ⟨k, hkk⟩ : ∃ k, x.cs.length = k := ⟨_, rfl⟩
  rw [hkk] at hcv hl
  have c0 : W.cell? ⟨x.F, 0, none⟩ = some (.slice a k cp) := by rw [← hcv]; exact ro.cel hF.o 0
  have c2 : W.cell? ⟨x.F, 2, none⟩ = some (.slice la x.ls.length lc) := by rw [← hlv]; exact ro.cel hF.o 2
  have f2 : W.frozen? ⟨x.F, 2, none⟩ = false := ro.frz hF.o 2
  have n1 : x.F < W.heap.size := hF.lt
  have nF : X ≠ x.F := fun e => by have := hF.ro; rw [← e] at this; omega
  have HLV : Hid (x.lv = .slice la x.ls.length lc) := Lib.hid hlv
  have HCV : Hid (x.cv = .slice a k cp) := Lib.hid hcv
  have HKK := Lib.hid hkk
  have HGo : Hid (∀ w', Below W.heap.size W w' → OR 2 enL w' 0 72 x.lv x.ls) := Lib.hid fun w' hb => OR.below hF.l.o hb
  have HApp : Hid (∀ w3 w4 v', Below W.heap.size W w3 → Hid (OR 2 enL w4 0 72 v' (x.ls ++ [((k : Int), s)])) → w3.grownBy w4 x.lv.ownBlock → Hid (v'.ownBlock = x.lv.ownBlock ∨ v'.ownBlock = some w3.heap.size) → w4.cell? ⟨x.F, 2, none⟩ = some (.slice la x.ls.length lc) ∧ w4.frozen? ⟨x.F, 2, none⟩ = false ∧ Hid (∃ ρ', BS w0 (w4.setCell ⟨x.F, 2, none⟩ v') ρ' Bb mem fv (fs.set n { x with lv := v', ls := x.ls ++ [((k : Int), s)] }) ∧ (w4.setCell ⟨x.F, 2, none⟩ v').heap[X]? = some (.cells #[.int .i64 p0, .int .i64 p1, .int .i64 p2, .int .i64 p3] 33 (0, 0)) ∧ KX (QK n) ρ ρ' w (w4.setCell ⟨x.F, 2, none⟩ v'))) := Lib.hid fun w3 w4 v' hb ho hg hor => by
    have h3 := h2.below hb
    have hF3 := h3.fn n x HX.out
    obtain ⟨g1, g2⟩ := hF3.l.grown hg ho.out hor.out
    have b1 := g2.blk hF3.o hF3.ro (by omega)
    have XB := g2.blk ((hb.block X (by have := ro.lt_of XW; omega)).trans XW) (c := 9) (by rw [ext_lt _ _ (ro.lt_of XW)]; exact rX2) (by omega)
    refine ⟨by rw [← HLV.out]; exact ro.cel b1.1 2, ro.frz b1.1 2, Lib.hid ⟨_, h3.leap HX.out hg ho.out hor.out, ?_, HK.out.trans ((KX.below (QK n) ρ2 9 hb).trans (h3.leapK HX.out hg ho.out hor.out))⟩⟩
    rw [ro.set_oth _ _ _ _ _ nF]
    exact XB.1
  clear X1 H hXs rX hbW XW h2 hρ2 rX2 hF hcv hlv hX hW hw1 hkk
  go_wp2_with fail
  go_region_law ((refine step_appR rfl _ _ 65 72 _ 24 (by rfl) Try.underlying65 infoL rfl (by decide) recL x.lv x.ls ((k : Int), s) (by exact HLV.out.symm) W.heap.size 1 (by rfl) (HGo.out _ (by go_grown)) (rec_new (by go_simp) rfl) (by omega) ?_; intro va vn vc w4 ho4 hg4 hor4; obtain ⟨c4, z4, F4⟩ := HApp.out _ _ _ (by go_grown) ho4 hg4 hor4))
  all_goals
    obtain ⟨ρ4, hB4, X4, K4⟩ := F4.out
    clear F4 ho4 hg4 hor4 c4 z4 HApp HGo c0 c2 f2
    obtain ⟨W4, hW4⟩ : ∃ W4, w4.setCell ⟨x.F, 2, none⟩ (.slice va vn vc) = W4 := ⟨_, rfl⟩
    rw [hW4] at hB4 X4 K4 ⊢
    have HK4 := Lib.hid K4
    clear K4
    obtain ⟨y, hy⟩ : ∃ y, y = ({ x with lv := .slice va vn vc, ls := x.ls ++ [((k : Int), s)] } : Fn) := ⟨_, rfl⟩
    have hyi : (fs.set n { x with lv := .slice va vn vc, ls := x.ls ++ [((k : Int), s)] })[n]? = some y := by rw [hy]; exact List.getElem?_set_self (List.getElem?_eq_some_iff.1 HX.out).1
    have hF := hB4.fn n y hyi
    have yF : y.F = x.F := by rw [hy]
    have ycv : y.cv = x.cv := by rw [hy]
    have ycs : y.cs = x.cs := by rw [hy]
    have c0 : W4.cell? ⟨x.F, 0, none⟩ = some (.slice a k cp) := by rw [← HCV.out, ← yF, ← ycv]; exact ro.cel hF.o 0
    have f0 : W4.frozen? ⟨x.F, 0, none⟩ = false := by rw [← yF]; exact ro.frz hF.o 0
    have n4 : x.F < W4.heap.size := by rw [← yF]; exact hF.lt
    have x0 : W4.cell? ⟨X, 0, none⟩ = some (.int .i64 p0) := ro.cel X4 0
    have x1 : W4.cell? ⟨X, 1, none⟩ = some (.int .i64 p1) := ro.cel X4 1
    have x2 : W4.cell? ⟨X, 2, none⟩ = some (.int .i64 p2) := ro.cel X4 2
    have x3 : W4.cell? ⟨X, 3, none⟩ = some (.int .i64 p3) := ro.cel X4 3
    have nX4 : X < W4.heap.size := ro.lt_of X4
    have hcl : x.cs.length ≤ 1000000 := by have := HKK.out; omega
    have HGo : Hid (∀ w', Below W4.heap.size W4 w' → OR 4 enI w' 0 33 x.cv x.cs) := Lib.hid fun w' hb => by rw [← ycv, ← ycs]; exact OR.below hF.c.o hb
    have HApp : Hid (∀ w3 w5 v', Below W4.heap.size W4 w3 → Hid (OR 4 enI w5 0 33 v' (x.cs ++ [(p0, p1, p2, p3)])) → w3.grownBy w5 x.cv.ownBlock → Hid (v'.ownBlock = x.cv.ownBlock ∨ v'.ownBlock = some w3.heap.size) → w5.cell? ⟨x.F, 0, none⟩ = some (.slice a k cp) ∧ w5.frozen? ⟨x.F, 0, none⟩ = false ∧ Hid (∃ ρ' cv lv, BS w0 (w5.setCell ⟨x.F, 0, none⟩ v') ρ' Bb mem fv (fs.set n (lpd x (p0, p1, p2, p3) s cv lv)) ∧ KX (QK n) ρ ρ' w (w5.setCell ⟨x.F, 0, none⟩ v'))) := Lib.hid fun w3 w5 v' hb ho hg hor => by
      have h3 := hB4.below hb
      have hF3 := h3.fn n y hyi
      obtain ⟨g1, g2⟩ := hF3.c.grown (by rw [ycv]; exact hg) ho.out (by rw [ycv]; exact hor.out)
      have b1 := g2.blk hF3.o hF3.ro (by omega)
      have hc := h3.code hyi (W := w5) (v' := v') (cs' := x.cs ++ [(p0, p1, p2, p3)]) (by rw [ycv]; exact hg) ho.out (by rw [ycv]; exact hor.out)
      have hck := h3.codeK hyi (W := w5) (v' := v') (cs' := x.cs ++ [(p0, p1, p2, p3)]) (by rw [ycv]; exact hg) ho.out (by rw [ycv]; exact hor.out)
      have e : ({ y with cv := v', cs := x.cs ++ [(p0, p1, p2, p3)] } : Fn) = lpd x (p0, p1, p2, p3) s v' (.slice va vn vc) := by
        rw [hy]
        unfold lpd
        rw [HKK.out]
      rw [List.set_set, e] at hc
      rw [yF] at b1 hc hck
      exact ⟨by rw [← HCV.out, ← ycv]; exact ro.cel b1.1 0, ro.frz b1.1 0, Lib.hid ⟨_, v', .slice va vn vc, hc, HK4.out.trans ((KX.below (QK n) ρ4 9 hb).trans hck)⟩⟩
    clear hB4 X4 hW4 hy hyi hF yF ycv ycs
    go_wp2_with fail
    go_region_law ((refine step_appR rfl _ _ 50 33 _ 32 (by rfl) Try.underlying50 infoI rfl (by decide) recI x.cv x.cs (p0, p1, p2, p3) (by exact HCV.out.symm) W4.heap.size 1 (by rfl) (HGo.out _ (by go_grown)) (rec_new (by go_simp) rfl) hcl ?_; intro va' vn' vc' w6 ho6 hg6 hor6; obtain ⟨c6, z6, F6⟩ := HApp.out _ _ _ (by go_grown) ho6 hg6 hor6))
    all_goals
      clear ho6 hg6 hor6 c6 z6
      go_wp2_with fail
      go_end0
      exact ⟨rfl, F6.out⟩
end
end Go.Proofs.Ytdneblbaofhehaa.bd
