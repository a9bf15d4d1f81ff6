/- One step of putting a program together (layer 7). -/
import Derived.Test.YtdneblbaofhehaaBdO
import Derived.Test.YtdneblbaofhehaaBdJ
namespace Go.Proofs.Ytdneblbaofhehaa.bd
open Go.ChangeShapes Go.WideShapes Go.ChangeAt Go.RowKit Go.Maps
open Go.Proofs.Ytdneblbaofhehaa.ro
open Go.Proofs.Ytdneblbaofhehaa.pr
open Go.Proofs.Ytdneblbaofhehaa.ins (kb tr3)
attribute [local go_sem ↓] Go.wp_at_zero Go.wp_at_succ
set_option linter.unusedVariables false
set_option linter.unusedSimpArgs false
set_option maxRecDepth 20000 in
set_option maxHeartbeats 2000000 in
theorem func_k {w0 w : World} {ρ : Ro} {Bb : Nat} {mem : Int} {fv : Value} {fs : List Fn} (h : BS w0 w ρ Bb mem fv fs) (hl : fs.length ≤ 1000) :
    Calls Try.prog 16 #[.pointer (some ⟨Bb, 0, none⟩)] w fun e w' => ∃ ρ' fv' F M, e = .returned (.int .i64 (fs.length : Int)) ∧ BS w0 w' ρ' Bb mem fv' (fs ++ [⟨F, M, .slice none 0 0, .slice none 0 0, [], [], fun _ => none, 0⟩]) ∧ KX (fun d => d = 1 ∨ d = 2) ρ ρ' w w' := by
  obtain ⟨c0, c1, cf⟩ := h.cells
  have f1 := cf 1
  have H := Lib.hid h
  have hmm := @run_makeMap Try.prog
  obtain ⟨a, c, hfv, hcap, _⟩ := h.row
  subst hfv
  clear h cf
  obtain ⟨n, hn⟩ : ∃ n, fs.length = n := ⟨_, rfl⟩
  rw [hn] at hl c1 hcap ⊢
  have HN := Lib.hid hn
  have HL := Lib.hid hl
  rw [hn] at H
  clear hn hcap hl
  go_enter Try.func16, Try.ntmps16
  go_wp2_with (at_builtin; refine wpList_appR (en := enP) rfl _ _ 54 58 (.pointer none) 8 rfl Try.underlying54 infoP rfl (by decide) recP 0 _ (fs.map Fn.F) rfl ⟨w.heap.size + 1 + 1, 0, none⟩ 1 rfl (w.heap.size + 1) ?own ?cell (by rw [List.length_map, HN.out]; have := HL.out; omega) (Nat.zero_le _) ?_)
  case own => exact OR.below H.out.r.o (by go_grown)
  case cell =>
    intro j u hu
    cases j with
    | zero =>
      simp [enP] at hu
      subst hu
      exact ro.cel (three w _ _ _).2.2.1 0
    | succ j => simp [enP] at hu
  intro v' w1 ho hg hor
  obtain ⟨t1, t2, t3, t4, t5⟩ := three w (Obj.map #[] 0) (Obj.cells #[.slice none 0 0, .map (some w.heap.size), .slice none 0 0] 67) (Obj.cells #[.pointer (some ⟨w.heap.size + 1, 0, none⟩)] 58)
  obtain ⟨W3, hW3⟩ : ∃ W3, ((w.alloc (Obj.map #[] 0)).alloc (Obj.cells #[.slice none 0 0, .map (some w.heap.size), .slice none 0 0] 67)).alloc (Obj.cells #[.pointer (some ⟨w.heap.size + 1, 0, none⟩)] 58) = W3 := ⟨_, rfl⟩
  have hm0 : W3.ownsMap Try.prog 9 (plainElem (H := Unit) Try.prog 3) w.heap.size 0 (.map []) := by
    rw [← hW3]
    exact ((World.ownsMap_made w Try.prog 9 (plainElem (H := Unit) Try.prog 3)).alloc _).alloc _
  rw [hW3] at t1 t2 t3 t4 t5 hg
  rw [← t5] at hor
  have HK : Hid (∃ ρ1, (∀ k, k < w.heap.size → ρ1 k = ρ k) ∧ ρ1 w.heap.size = 101 + 4 * n ∧ ρ1 (w.heap.size + 1) = 100 + 4 * n ∧ KX (fun _ => False) ρ ρ1 w W3) := Lib.hid ⟨fun b => if b < w.heap.size then ρ b else if b = w.heap.size then 101 + 4 * n else if b = w.heap.size + 1 then 100 + 4 * n else 9, fun k hk => if_pos hk, by
      show (if _ then _ else _) = _
      rw [if_neg (by omega), if_pos rfl], by
      show (if _ then _ else _) = _
      rw [if_neg (by omega), if_neg (by omega), if_pos rfl], ⟨t4.os, t4.tape, t4.output, t4.size, fun d _ k hk e => ⟨by show (if _ then _ else _) = _; rw [if_pos hk]; exact e, t4.block k hk⟩⟩⟩
  obtain ⟨ρ1, k0, k1, k2, hK⟩ := HK.out
  have h1 := H.out.keep hK (fun _ _ h => h)
  have hor1 : RR 1 enP W3 ρ1 2 58 (.slice a n c) (fs.map Fn.F) := h1.r
  obtain ⟨g1, g2⟩ := hor1.grown hg ho hor
  have bW := g2.blk h1.o h1.rb (by omega)
  have FW := g2.blk t2 k2 (by omega)
  have MW := g2.k (101 + 4 * n) (by omega) w.heap.size (by rw [t5]; omega) k1
  have HKX : Hid (KX (fun d => d = 1 ∨ d = 2) ρ (ext ρ1 W3.heap.size 2) w (w1.setCell ⟨Bb, 1, none⟩ v')) := Lib.hid ((hK.mono (fun _ h => h.elim)).trans ((g2.to (KX.set (w := w1) Bb 1 v' bW.2)).mono (fun c hc => hc.elim Or.inr Or.inl)))
  have HB : Hid (BS w0 (w1.setCell ⟨Bb, 1, none⟩ v') (ext ρ1 W3.heap.size 2) Bb mem v' (fs ++ [⟨w.heap.size + 1, w.heap.size, .slice none 0 0, .slice none 0 0, [], [], fun _ => none, 0⟩])) := Lib.hid (by
    have hs := KX.set (w := w1) Bb 1 v' bW.2
    have hk := g2.to hs
    have hz := hk.bel (by omega) h1.z h1.b.size
    refine ⟨hz.2, h1.b.trans hz.1, by rw [ro.set_blk w1 Bb 1 v' bW.1]; rfl, bW.2, by rw [List.map_append]; exact g1.keep hs (by omega), fun j x hx => ?_⟩
    by_cases e : j < fs.length
    · rw [List.getElem?_append_left e] at hx
      exact (h1.fn j x hx).keep hk (fun d _ _ => by omega)
    · rw [List.getElem?_append_right (by omega)] at hx
      have hj : j - fs.length = 0 := by
        rcases Nat.eq_zero_or_pos (j - fs.length) with h | h
        · exact h
        · rw [List.getElem?_eq_none (by simp; omega)] at hx; cases hx
      rw [hj] at hx
      cases hx
      have hjn : j = n := by have := HN.out; omega
      subst hjn
      have Fs := hs.blk FW.1 FW.2 (by omega)
      have Ms := hs.k (101 + 4 * j) (by omega) w.heap.size (by have := g2.size; rw [t5] at this; omega) MW.1
      exact ⟨Fs.1, Fs.2, ⟨.map [], ownsMap_blk hm0 (Ms.2.trans MW.2), Lab.empty⟩, Ms.1, RR.nil _ _ _ _, RR.nil _ _ _ _⟩)
  have c1' : w1.cell? ⟨Bb, 1, none⟩ = some (.slice a n c) := ro.cel bW.1 1
  have f1' : w1.frozen? ⟨Bb, 1, none⟩ = false := ro.frz bW.1 1
  obtain ⟨va, vc, hvf⟩ : ∃ va vc, v' = .slice va (n + 1) vc := by
    obtain ⟨a', c', e⟩ := OR.form ho
    exact ⟨a', c', by rw [e, List.length_append, List.length_map, HN.out]; rfl⟩
  subst hvf
  have hn2 : n + 1 ≤ 1001 := by have := HL.out; omega
  have hw1 : IntKind.i64.wrap ((n + 1 : Nat) : Int) = ((n + 1 : Nat) : Int) := by rw [IntKind.wrap_i64]; omega
  have HWN := Lib.hid (show IntKind.i64.wrap (((n + 1 : Nat) : Int) - 1) = (n : Int) by rw [IntKind.wrap_i64]; omega)
  clear t1 t2 t3 t4 t5 hg hor hm0 HK k0 k1 k2 hK h1 hor1 g1 g2 bW FW MW ho hW3 c1 f1
  go_wp2_with fail
  go_ret
  exact ⟨_, _, _, _, rfl, HB.out, HKX.out⟩
def enN (x : Int) : List Value := [.int .i64 x]
theorem recN : Rec 1 enN := ⟨by omega, fun _ => rfl, fun x u hu => by simp [enN] at hu; rcases hu with rfl; rfl⟩
/-- the builder stands in a state, beside a row of answers. -/
def BP (w0 : World) (Bb : Nat) (mem : Int) (wv : Value) (ws : List Int) (ps : List PF) (w : World) : Prop :=
  ∃ ρ fv fs, BS w0 w ρ Bb mem fv fs ∧ fs.map toP = ps ∧ RR 1 enN w ρ 9 3 wv ws
section
variable {w0 w w' : World} {Bb : Nat} {mem : Int} {wv : Value} {ws : List Int} {ps : List PF}
theorem BP.below (h : BP w0 Bb mem wv ws ps w) (hb : Below w.heap.size w w') : BP w0 Bb mem wv ws ps w' := by
  obtain ⟨ρ, fv, fs, h1, h2, h3⟩ := h
  exact ⟨_, fv, fs, h1.below hb, h2, h3.keep (KX.below (fun _ => False) ρ 9 hb) (fun h => h)⟩
theorem BP.bel (h : BP w0 Bb mem wv ws ps w) : Below w0.heap.size w0 w := by
  obtain ⟨ρ, fv, fs, h1, h2, h3⟩ := h
  exact h1.b
theorem toP_at {fs : List Fn} {j : Nat} {p : PF} (h : (fs.map toP)[j]? = some p) : ∃ x, fs[j]? = some x ∧ toP x = p := by
  rw [List.getElem?_map] at h
  cases hx : fs[j]? with
  | none => rw [hx] at h; cases h
  | some x => rw [hx] at h; exact ⟨x, rfl, Option.some.inj h⟩
theorem set_toP (fs : List Fn) (n : Nat) (y : Fn) : (fs.set n y).map toP = (fs.map toP).set n (toP y) := List.map_set
theorem stp_some {ps : List PF} {o : St} {p : PF} (h : ps[ps.length - 1]? = some p) (h0 : ¬ o.k = 0) : stp ps o = ps.set (ps.length - 1) (inF p o) := by
  unfold stp
  rw [if_neg h0, h]
theorem stp_none {o : St} (h0 : ¬ o.k = 0) : stp [] o = [] := by
  unfold stp
  rw [if_neg h0]
  rfl
theorem ans_some {ps : List PF} {o : St} {p : PF} (h : ps[ps.length - 1]? = some p) (h0 : ¬ o.k = 0) : ans ps o = if o.k = 1 then ((p.cs.length + 1 : Nat) : Int) else if o.k = 2 then (if (p.f o.s).isSome then -3 else -2) else 0 := by
  unfold ans
  rw [if_neg h0, h]
/-- what a step does. -/
def StepP (w0 : World) (Bb : Nat) (mem : Int) (wv : Value) (ws : List Int) (ps : List PF) (o : St) (e : Ending) (w' : World) : Prop :=
  e = .returned (.int .i64 (ans ps o)) ∧ BP w0 Bb mem wv ws (stp ps o) w'
end
section
variable {w0 w : World} {Bb : Nat} {mem : Int} {wv : Value} {ws : List Int} {ps : List PF}
def boxO (w : World) (o : St) : World := w.alloc (.cells #[.int .i64 o.k, .int .i64 o.r, .string o.s, .int .i64 o.x.1, .int .i64 o.x.2.1, .int .i64 o.x.2.2.1, .int .i64 o.x.2.2.2] 35)
def opV (o : St) : Value := .agg #[.int .i64 o.k, .int .i64 o.r, .string o.s, .int .i64 o.x.1, .int .i64 o.x.2.1, .int .i64 o.x.2.2.1, .int .i64 o.x.2.2.2]
set_option maxRecDepth 20000 in
set_option maxHeartbeats 2000000 in
theorem step_0 (h : BP w0 Bb mem wv ws ps w) (hl : ps.length ≤ 400) (hp : ∀ (j : Nat) (p : PF), ps[j]? = some p → POk 400 p) (rg : Int) (s : ByteArray) (x0 x1 x2 x3 : Int) (hs : s.size ≤ 1000) :
    Calls Try.prog 10 #[.pointer (some ⟨Bb, 0, none⟩), .agg #[.int .i64 0, .int .i64 rg, .string s, .int .i64 x0, .int .i64 x1, .int .i64 x2, .int .i64 x3]] w (StepP w0 Bb mem wv ws ps ⟨0, rg, s, x0, x1, x2, x3⟩) := by
  obtain ⟨W, hW⟩ : ∃ W, w.alloc (.cells #[.int .i64 0, .int .i64 rg, .string s, .int .i64 x0, .int .i64 x1, .int .i64 x2, .int .i64 x3] 35) = W := ⟨_, rfl⟩
  have hb := h.below (w' := W) (by rw [← hW]; go_grown)
  have HB := Lib.hid hb
  obtain ⟨ρ, fv, fs, h1, h2, h3⟩ := hb
  have HC := Lib.hid (func_k h1 (by rw [← List.length_map (f := toP), h2]; omega))
  have H2 := Lib.hid h2
  have H3 := Lib.hid h3
  clear h1 h2 h3 hp hl
  have HW := Lib.hid hW
  clear h hW
  go_enter Try.func10, Try.ntmps10
  go_wp2_with fail
  rw [HW.out]
  refine HC.out.mono ?_
  rintro e w2 ⟨ρ2, fv2, F, M, rfl, hB2, hK⟩
  have HB2 := Lib.hid hB2
  have HK := Lib.hid hK
  clear hB2 hK HC
  go_wp2_with fail
  go_ret
  have e1 : ans ps ⟨0, rg, s, x0, x1, x2, x3⟩ = (fs.length : Int) := by
    unfold ans
    rw [if_pos rfl, ← H2.out, List.length_map]
  refine ⟨by rw [e1]; rfl, ρ2, fv2, _, HB2.out, ?_, H3.out.keep HK.out (by omega)⟩
  show _ = stp ps _
  unfold stp
  rw [if_pos rfl, ← H2.out, List.map_append]
  rfl
set_option maxRecDepth 20000 in
set_option maxHeartbeats 2000000 in
theorem step_1 (h : BP w0 Bb mem wv ws ps w) (hl : ps.length ≤ 400) (hp : ∀ (j : Nat) (p : PF), ps[j]? = some p → POk 400 p) (rg : Int) (s : ByteArray) (x0 x1 x2 x3 : Int) (hs : s.size ≤ 1000) {p : PF} (hx : ps[ps.length - 1]? = some p) :
    Calls Try.prog 10 #[.pointer (some ⟨Bb, 0, none⟩), .agg #[.int .i64 1, .int .i64 rg, .string s, .int .i64 x0, .int .i64 x1, .int .i64 x2, .int .i64 x3]] w (StepP w0 Bb mem wv ws ps ⟨1, rg, s, x0, x1, x2, x3⟩) := by
  obtain ⟨W, hW⟩ : ∃ W, w.alloc (.cells #[.int .i64 1, .int .i64 rg, .string s, .int .i64 x0, .int .i64 x1, .int .i64 x2, .int .i64 x3] 35) = W := ⟨_, rfl⟩
  have hb := h.below (w' := W) (by rw [← hW]; go_grown)
  have HB := Lib.hid hb
  obtain ⟨ρ, fv, fs, h1, h2, h3⟩ := hb
  obtain ⟨n, hn⟩ : ∃ n, fs.length = n + 1 := by
    have e1 : fs.length = ps.length := by rw [← h2, List.length_map]
    have e2 := (List.getElem?_eq_some_iff.1 hx).1
    exact ⟨fs.length - 1, by omega⟩
  have hpl : ps.length = n + 1 := by rw [← h2, List.length_map, hn]
  have hx0 := hx
  rw [hpl, Nat.add_sub_cancel, ← h2] at hx0
  obtain ⟨x, hx1, hx2⟩ := toP_at hx0
  have hok := hp _ p hx
  have hcs : x.cs = p.cs := by rw [← hx2]; rfl
  have hls : x.ls = p.ls := by rw [← hx2]; rfl
  have hff : x.f = p.f := by rw [← hx2]; rfl
  have hnl : x.nl = p.nl := by rw [← hx2]; rfl
  have hc1 := hok.c
  have hc2 := hok.l
  have hc3 := hok.nl
  obtain ⟨W1, hW1⟩ : ∃ W1, W.alloc (.cells #[.int .i64 x0, .int .i64 x1, .int .i64 x2, .int .i64 x3] 33) = W1 := ⟨_, rfl⟩
  have hb1 : Below W.heap.size W W1 := by rw [← hW1]; go_grown
  have hWs : W.heap.size = w.heap.size + 1 := by rw [← hW]; simp
  have HC := Lib.hid (add_k (h1.below hb1) hn hx1 (by omega) (by rw [hcs]; omega) (w.heap.size + 1) 1 (x0, x1, x2, x3) (by rw [← hW1]; exact rec_new hWs rfl))
  have HW1 := Lib.hid hW1
  have HKK := Lib.hid (KX.below (QK n) ρ 9 hb1)
  clear hW1 hb1 hWs
  have H2 := Lib.hid h2
  have H3 := Lib.hid h3
  have HX := Lib.hid hx
  have HPL := Lib.hid hpl
  have HX2 := Lib.hid hx2
  have HCS := Lib.hid hcs
  have HFF := Lib.hid hff
  clear h1 h2 h3 hp hl hx hpl hx0 hx1 hx2 hok hcs hls hff hnl hc1 hc2 hc3 hn
  have HW := Lib.hid hW
  clear h hW
  go_enter Try.func10, Try.ntmps10
  go_wp2_with fail
  rw [HW.out, HW1.out]
  refine HC.out.mono ?_
  rintro e w2 ⟨rfl, ρ2, cv2, hB2, hK⟩
  have HB2 := Lib.hid hB2
  have HK := Lib.hid (HKK.out.trans hK)
  clear hB2 hK HC
  go_wp2_with fail
  go_ret
  have e1 : ans ps ⟨1, rg, s, x0, x1, x2, x3⟩ = ((x.cs.length + 1 : Nat) : Int) := by
    rw [ans_some HX.out (by simp), if_pos rfl, HCS.out]
  refine ⟨by rw [e1]; rfl, ρ2, fv, _, HB2.out, ?_, H3.out.keep HK.out (by simp [QK]; omega)⟩
  rw [stp_some HX.out (by simp), set_toP, H2.out, HPL.out, Nat.add_sub_cancel, ← HX2.out]
  rfl
set_option maxRecDepth 20000 in
set_option maxHeartbeats 2000000 in
theorem step_2 (h : BP w0 Bb mem wv ws ps w) (hl : ps.length ≤ 400) (hp : ∀ (j : Nat) (p : PF), ps[j]? = some p → POk 400 p) (rg : Int) (s : ByteArray) (x0 x1 x2 x3 : Int) (hs : s.size ≤ 1000) {p : PF} (hx : ps[ps.length - 1]? = some p) (hq : p.f s = none) :
    Calls Try.prog 10 #[.pointer (some ⟨Bb, 0, none⟩), .agg #[.int .i64 2, .int .i64 rg, .string s, .int .i64 x0, .int .i64 x1, .int .i64 x2, .int .i64 x3]] w (StepP w0 Bb mem wv ws ps ⟨2, rg, s, x0, x1, x2, x3⟩) := by
  obtain ⟨W, hW⟩ : ∃ W, w.alloc (.cells #[.int .i64 2, .int .i64 rg, .string s, .int .i64 x0, .int .i64 x1, .int .i64 x2, .int .i64 x3] 35) = W := ⟨_, rfl⟩
  have hb := h.below (w' := W) (by rw [← hW]; go_grown)
  have HB := Lib.hid hb
  obtain ⟨ρ, fv, fs, h1, h2, h3⟩ := hb
  obtain ⟨n, hn⟩ : ∃ n, fs.length = n + 1 := by
    have e1 : fs.length = ps.length := by rw [← h2, List.length_map]
    have e2 := (List.getElem?_eq_some_iff.1 hx).1
    exact ⟨fs.length - 1, by omega⟩
  have hpl : ps.length = n + 1 := by rw [← h2, List.length_map, hn]
  have hx0 := hx
  rw [hpl, Nat.add_sub_cancel, ← h2] at hx0
  obtain ⟨x, hx1, hx2⟩ := toP_at hx0
  have hok := hp _ p hx
  have hcs : x.cs = p.cs := by rw [← hx2]; rfl
  have hls : x.ls = p.ls := by rw [← hx2]; rfl
  have hff : x.f = p.f := by rw [← hx2]; rfl
  have hnl : x.nl = p.nl := by rw [← hx2]; rfl
  have hc1 := hok.c
  have hc2 := hok.l
  have hc3 := hok.nl
  have HC := Lib.hid (label_k h1 hn hx1 (by omega) (by rw [hcs]; omega) s hs (by rw [hff]; exact hq) (by rw [hnl]; omega))
  have HQ := Lib.hid hq
  clear hq
  have H2 := Lib.hid h2
  have H3 := Lib.hid h3
  have HX := Lib.hid hx
  have HPL := Lib.hid hpl
  have HX2 := Lib.hid hx2
  have HCS := Lib.hid hcs
  have HFF := Lib.hid hff
  clear h1 h2 h3 hp hl hx hpl hx0 hx1 hx2 hok hcs hls hff hnl hc1 hc2 hc3 hn
  have HW := Lib.hid hW
  clear h hW
  go_enter Try.func10, Try.ntmps10
  go_wp2_with fail
  rw [HW.out]
  refine HC.out.mono ?_
  rintro e w2 ⟨rfl, ρ2, hB2, hK⟩
  have HB2 := Lib.hid hB2
  have HK := Lib.hid hK
  clear hB2 hK HC
  go_wp2_with fail
  go_ret
  have e1 : ans ps ⟨2, rg, s, x0, x1, x2, x3⟩ = -2 := by
    rw [ans_some HX.out (by simp), if_neg (by simp), if_pos rfl]
    show (if (p.f s).isSome then (-3 : Int) else -2) = -2
    rw [HQ.out]
    rfl
  refine ⟨by rw [e1]; rfl, ρ2, fv, _, HB2.out, ?_, H3.out.keep HK.out (by simp [QK]; omega)⟩
  rw [stp_some HX.out (by simp), set_toP, H2.out, HPL.out, Nat.add_sub_cancel]
  have e2 : inF p ⟨2, rg, s, x0, x1, x2, x3⟩ = pfL p s := by
    unfold inF
    rw [if_neg (by simp), if_pos rfl]
    show (if (p.f s).isSome then p else pfL p s) = _
    rw [HQ.out]
    rfl
  rw [e2, ← HX2.out]
  rfl
set_option maxRecDepth 20000 in
set_option maxHeartbeats 2000000 in
theorem step_2t (h : BP w0 Bb mem wv ws ps w) (hl : ps.length ≤ 400) (hp : ∀ (j : Nat) (p : PF), ps[j]? = some p → POk 400 p) (rg : Int) (s : ByteArray) (x0 x1 x2 x3 : Int) (hs : s.size ≤ 1000) {p : PF} (hx : ps[ps.length - 1]? = some p) {z : Int} (hq : p.f s = some z) :
    Calls Try.prog 10 #[.pointer (some ⟨Bb, 0, none⟩), .agg #[.int .i64 2, .int .i64 rg, .string s, .int .i64 x0, .int .i64 x1, .int .i64 x2, .int .i64 x3]] w (StepP w0 Bb mem wv ws ps ⟨2, rg, s, x0, x1, x2, x3⟩) := by
  obtain ⟨W, hW⟩ : ∃ W, w.alloc (.cells #[.int .i64 2, .int .i64 rg, .string s, .int .i64 x0, .int .i64 x1, .int .i64 x2, .int .i64 x3] 35) = W := ⟨_, rfl⟩
  have hb := h.below (w' := W) (by rw [← hW]; go_grown)
  have HB := Lib.hid hb
  obtain ⟨ρ, fv, fs, h1, h2, h3⟩ := hb
  obtain ⟨n, hn⟩ : ∃ n, fs.length = n + 1 := by
    have e1 : fs.length = ps.length := by rw [← h2, List.length_map]
    have e2 := (List.getElem?_eq_some_iff.1 hx).1
    exact ⟨fs.length - 1, by omega⟩
  have hpl : ps.length = n + 1 := by rw [← h2, List.length_map, hn]
  have hx0 := hx
  rw [hpl, Nat.add_sub_cancel, ← h2] at hx0
  obtain ⟨x, hx1, hx2⟩ := toP_at hx0
  have hok := hp _ p hx
  have hcs : x.cs = p.cs := by rw [← hx2]; rfl
  have hls : x.ls = p.ls := by rw [← hx2]; rfl
  have hff : x.f = p.f := by rw [← hx2]; rfl
  have hnl : x.nl = p.nl := by rw [← hx2]; rfl
  have hc1 := hok.c
  have hc2 := hok.l
  have hc3 := hok.nl
  have HC := Lib.hid (label_twice h1 hn hx1 (by omega) s hs (p := z) (by rw [hff]; exact hq))
  have HQ := Lib.hid hq
  clear hq
  have H2 := Lib.hid h2
  have H3 := Lib.hid h3
  have HX := Lib.hid hx
  have HPL := Lib.hid hpl
  have HX2 := Lib.hid hx2
  have HCS := Lib.hid hcs
  have HFF := Lib.hid hff
  clear h1 h2 h3 hp hl hx hpl hx0 hx1 hx2 hok hcs hls hff hnl hc1 hc2 hc3 hn
  have HW := Lib.hid hW
  clear h hW
  go_enter Try.func10, Try.ntmps10
  go_wp2_with fail
  rw [HW.out]
  refine HC.out.mono ?_
  rintro e w2 ⟨rfl, m, rfl⟩
  have HB2 := Lib.hid (HB.out.below (below_drewN W m))
  clear HC
  go_wp2_with fail
  go_ret
  have e1 : ans ps ⟨2, rg, s, x0, x1, x2, x3⟩ = -3 := by
    rw [ans_some HX.out (by simp), if_neg (by simp), if_pos rfl]
    show (if (p.f s).isSome then (-3 : Int) else -2) = -3
    rw [HQ.out]
    rfl
  have e2 : stp ps ⟨2, rg, s, x0, x1, x2, x3⟩ = ps := by
    rw [stp_some HX.out (by simp)]
    have e2 : inF p ⟨2, rg, s, x0, x1, x2, x3⟩ = p := by
      unfold inF
      rw [if_neg (by simp), if_pos rfl]
      show (if (p.f s).isSome then p else pfL p s) = _
      rw [HQ.out]
      rfl
    rw [e2]
    apply List.ext_getElem?
    intro i
    by_cases e : ps.length - 1 = i
    · subst e
      rw [List.getElem?_set_self (List.getElem?_eq_some_iff.1 HX.out).1, HX.out]
    · rw [List.getElem?_set_ne e]
  refine ⟨by rw [e1]; rfl, ?_⟩
  rw [e2]
  exact HB2.out
set_option maxRecDepth 20000 in
set_option maxHeartbeats 2000000 in
theorem step_3 (h : BP w0 Bb mem wv ws ps w) (hl : ps.length ≤ 400) (hp : ∀ (j : Nat) (p : PF), ps[j]? = some p → POk 400 p) (rg : Int) (s : ByteArray) (x0 x1 x2 x3 : Int) (hs : s.size ≤ 1000) {p : PF} (hx : ps[ps.length - 1]? = some p) :
    Calls Try.prog 10 #[.pointer (some ⟨Bb, 0, none⟩), .agg #[.int .i64 3, .int .i64 rg, .string s, .int .i64 x0, .int .i64 x1, .int .i64 x2, .int .i64 x3]] w (StepP w0 Bb mem wv ws ps ⟨3, rg, s, x0, x1, x2, x3⟩) := by
  obtain ⟨W, hW⟩ : ∃ W, w.alloc (.cells #[.int .i64 3, .int .i64 rg, .string s, .int .i64 x0, .int .i64 x1, .int .i64 x2, .int .i64 x3] 35) = W := ⟨_, rfl⟩
  have hb := h.below (w' := W) (by rw [← hW]; go_grown)
  have HB := Lib.hid hb
  obtain ⟨ρ, fv, fs, h1, h2, h3⟩ := hb
  obtain ⟨n, hn⟩ : ∃ n, fs.length = n + 1 := by
    have e1 : fs.length = ps.length := by rw [← h2, List.length_map]
    have e2 := (List.getElem?_eq_some_iff.1 hx).1
    exact ⟨fs.length - 1, by omega⟩
  have hpl : ps.length = n + 1 := by rw [← h2, List.length_map, hn]
  have hx0 := hx
  rw [hpl, Nat.add_sub_cancel, ← h2] at hx0
  obtain ⟨x, hx1, hx2⟩ := toP_at hx0
  have hok := hp _ p hx
  have hcs : x.cs = p.cs := by rw [← hx2]; rfl
  have hls : x.ls = p.ls := by rw [← hx2]; rfl
  have hff : x.f = p.f := by rw [← hx2]; rfl
  have hnl : x.nl = p.nl := by rw [← hx2]; rfl
  have hc1 := hok.c
  have hc2 := hok.l
  have hc3 := hok.nl
  have HC := Lib.hid (goto_of (leap_k h1 hn hx1 (by omega) (by rw [hcs]; omega) (by rw [hls]; omega) s 18 0 0 0))
  have H2 := Lib.hid h2
  have H3 := Lib.hid h3
  have HX := Lib.hid hx
  have HPL := Lib.hid hpl
  have HX2 := Lib.hid hx2
  have HCS := Lib.hid hcs
  have HFF := Lib.hid hff
  clear h1 h2 h3 hp hl hx hpl hx0 hx1 hx2 hok hcs hls hff hnl hc1 hc2 hc3 hn
  have HW := Lib.hid hW
  clear h hW
  go_enter Try.func10, Try.ntmps10
  go_wp2_with fail
  rw [HW.out]
  refine HC.out.mono ?_
  rintro e w2 ⟨rfl, ρ2, cv2, lv2, hB2, hK⟩
  have HB2 := Lib.hid hB2
  have HK := Lib.hid hK
  clear hB2 hK HC
  go_wp2_with fail
  go_ret
  have e1 : ans ps ⟨3, rg, s, x0, x1, x2, x3⟩ = 0 := by
    rw [ans_some HX.out (by simp), if_neg (by simp), if_neg (by simp)]
  refine ⟨by rw [e1]; rfl, ρ2, fv, _, HB2.out, ?_, H3.out.keep HK.out (by simp [QK]; omega)⟩
  rw [stp_some HX.out (by simp), set_toP, H2.out, HPL.out, Nat.add_sub_cancel, ← HX2.out]
  rfl
set_option maxRecDepth 20000 in
set_option maxHeartbeats 2000000 in
theorem step_4 (h : BP w0 Bb mem wv ws ps w) (hl : ps.length ≤ 400) (hp : ∀ (j : Nat) (p : PF), ps[j]? = some p → POk 400 p) (rg : Int) (s : ByteArray) (x0 x1 x2 x3 : Int) (hs : s.size ≤ 1000) {p : PF} (hx : ps[ps.length - 1]? = some p) :
    Calls Try.prog 10 #[.pointer (some ⟨Bb, 0, none⟩), .agg #[.int .i64 4, .int .i64 rg, .string s, .int .i64 x0, .int .i64 x1, .int .i64 x2, .int .i64 x3]] w (StepP w0 Bb mem wv ws ps ⟨4, rg, s, x0, x1, x2, x3⟩) := by
  obtain ⟨W, hW⟩ : ∃ W, w.alloc (.cells #[.int .i64 4, .int .i64 rg, .string s, .int .i64 x0, .int .i64 x1, .int .i64 x2, .int .i64 x3] 35) = W := ⟨_, rfl⟩
  have hb := h.below (w' := W) (by rw [← hW]; go_grown)
  have HB := Lib.hid hb
  obtain ⟨ρ, fv, fs, h1, h2, h3⟩ := hb
  obtain ⟨n, hn⟩ : ∃ n, fs.length = n + 1 := by
    have e1 : fs.length = ps.length := by rw [← h2, List.length_map]
    have e2 := (List.getElem?_eq_some_iff.1 hx).1
    exact ⟨fs.length - 1, by omega⟩
  have hpl : ps.length = n + 1 := by rw [← h2, List.length_map, hn]
  have hx0 := hx
  rw [hpl, Nat.add_sub_cancel, ← h2] at hx0
  obtain ⟨x, hx1, hx2⟩ := toP_at hx0
  have hok := hp _ p hx
  have hcs : x.cs = p.cs := by rw [← hx2]; rfl
  have hls : x.ls = p.ls := by rw [← hx2]; rfl
  have hff : x.f = p.f := by rw [← hx2]; rfl
  have hnl : x.nl = p.nl := by rw [← hx2]; rfl
  have hc1 := hok.c
  have hc2 := hok.l
  have hc3 := hok.nl
  have HC := Lib.hid (ifzero_of (leap_k h1 hn hx1 (by omega) (by rw [hcs]; omega) (by rw [hls]; omega) s 19 rg 0 0))
  have H2 := Lib.hid h2
  have H3 := Lib.hid h3
  have HX := Lib.hid hx
  have HPL := Lib.hid hpl
  have HX2 := Lib.hid hx2
  have HCS := Lib.hid hcs
  have HFF := Lib.hid hff
  clear h1 h2 h3 hp hl hx hpl hx0 hx1 hx2 hok hcs hls hff hnl hc1 hc2 hc3 hn
  have HW := Lib.hid hW
  clear h hW
  go_enter Try.func10, Try.ntmps10
  go_wp2_with fail
  rw [HW.out]
  refine HC.out.mono ?_
  rintro e w2 ⟨rfl, ρ2, cv2, lv2, hB2, hK⟩
  have HB2 := Lib.hid hB2
  have HK := Lib.hid hK
  clear hB2 hK HC
  go_wp2_with fail
  go_ret
  have e1 : ans ps ⟨4, rg, s, x0, x1, x2, x3⟩ = 0 := by
    rw [ans_some HX.out (by simp), if_neg (by simp), if_neg (by simp)]
  refine ⟨by rw [e1]; rfl, ρ2, fv, _, HB2.out, ?_, H3.out.keep HK.out (by simp [QK]; omega)⟩
  rw [stp_some HX.out (by simp), set_toP, H2.out, HPL.out, Nat.add_sub_cancel, ← HX2.out]
  rfl
set_option maxRecDepth 20000 in
set_option maxHeartbeats 2000000 in
theorem step_1n (h : BP w0 Bb mem wv ws ps w) (hl : ps.length ≤ 400) (hp : ∀ (j : Nat) (p : PF), ps[j]? = some p → POk 400 p) (rg : Int) (s : ByteArray) (x0 x1 x2 x3 : Int) (hs : s.size ≤ 1000) (hx : ps = []) :
    Calls Try.prog 10 #[.pointer (some ⟨Bb, 0, none⟩), .agg #[.int .i64 1, .int .i64 rg, .string s, .int .i64 x0, .int .i64 x1, .int .i64 x2, .int .i64 x3]] w (StepP w0 Bb mem wv ws ps ⟨1, rg, s, x0, x1, x2, x3⟩) := by
  obtain ⟨W, hW⟩ : ∃ W, w.alloc (.cells #[.int .i64 1, .int .i64 rg, .string s, .int .i64 x0, .int .i64 x1, .int .i64 x2, .int .i64 x3] 35) = W := ⟨_, rfl⟩
  have hb := h.below (w' := W) (by rw [← hW]; go_grown)
  have HB := Lib.hid hb
  subst hx
  obtain ⟨ρ, fv, fs, h1, h2, h3⟩ := hb
  obtain rfl : fs = [] := by simpa using h2
  obtain ⟨W1, hW1⟩ : ∃ W1, W.alloc (.cells #[.int .i64 x0, .int .i64 x1, .int .i64 x2, .int .i64 x3] 33) = W1 := ⟨_, rfl⟩
  have hb1 : Below W.heap.size W W1 := by rw [← hW1]; go_grown
  have HB1 := Lib.hid (HB.out.below hb1)
  have HC := Lib.hid (add_none (h1.below hb1) (.slice (some ⟨w.heap.size + 1, 0, none⟩) 1 1))
  have HW1 := Lib.hid hW1
  clear hW1 hb1 h1 h2 h3 hp hl
  have HW := Lib.hid hW
  clear h hW
  go_enter Try.func10, Try.ntmps10
  go_wp2_with fail
  rw [HW.out, HW1.out]
  refine HC.out.mono ?_
  rintro e w2 ⟨rfl, rfl⟩
  have HB2 := Lib.hid (HB1.out)
  clear HC
  go_wp2_with fail
  go_ret
  refine ⟨rfl, ?_⟩
  rw [stp_none (by simp)]
  exact HB2.out
set_option maxRecDepth 20000 in
set_option maxHeartbeats 2000000 in
theorem step_2n (h : BP w0 Bb mem wv ws ps w) (hl : ps.length ≤ 400) (hp : ∀ (j : Nat) (p : PF), ps[j]? = some p → POk 400 p) (rg : Int) (s : ByteArray) (x0 x1 x2 x3 : Int) (hs : s.size ≤ 1000) (hx : ps = []) :
    Calls Try.prog 10 #[.pointer (some ⟨Bb, 0, none⟩), .agg #[.int .i64 2, .int .i64 rg, .string s, .int .i64 x0, .int .i64 x1, .int .i64 x2, .int .i64 x3]] w (StepP w0 Bb mem wv ws ps ⟨2, rg, s, x0, x1, x2, x3⟩) := by
  obtain ⟨W, hW⟩ : ∃ W, w.alloc (.cells #[.int .i64 2, .int .i64 rg, .string s, .int .i64 x0, .int .i64 x1, .int .i64 x2, .int .i64 x3] 35) = W := ⟨_, rfl⟩
  have hb := h.below (w' := W) (by rw [← hW]; go_grown)
  have HB := Lib.hid hb
  subst hx
  obtain ⟨ρ, fv, fs, h1, h2, h3⟩ := hb
  obtain rfl : fs = [] := by simpa using h2
  have HB1 := HB
  have HC := Lib.hid (label_none h1 s)
  clear h1 h2 h3 hp hl
  have HW := Lib.hid hW
  clear h hW
  go_enter Try.func10, Try.ntmps10
  go_wp2_with fail
  rw [HW.out]
  refine HC.out.mono ?_
  rintro e w2 ⟨rfl, rfl⟩
  have HB2 := Lib.hid (HB1.out)
  clear HC
  go_wp2_with fail
  go_ret
  refine ⟨rfl, ?_⟩
  rw [stp_none (by simp)]
  exact HB2.out
set_option maxRecDepth 20000 in
set_option maxHeartbeats 2000000 in
theorem step_3n (h : BP w0 Bb mem wv ws ps w) (hl : ps.length ≤ 400) (hp : ∀ (j : Nat) (p : PF), ps[j]? = some p → POk 400 p) (rg : Int) (s : ByteArray) (x0 x1 x2 x3 : Int) (hs : s.size ≤ 1000) (hx : ps = []) :
    Calls Try.prog 10 #[.pointer (some ⟨Bb, 0, none⟩), .agg #[.int .i64 3, .int .i64 rg, .string s, .int .i64 x0, .int .i64 x1, .int .i64 x2, .int .i64 x3]] w (StepP w0 Bb mem wv ws ps ⟨3, rg, s, x0, x1, x2, x3⟩) := by
  obtain ⟨W, hW⟩ : ∃ W, w.alloc (.cells #[.int .i64 3, .int .i64 rg, .string s, .int .i64 x0, .int .i64 x1, .int .i64 x2, .int .i64 x3] 35) = W := ⟨_, rfl⟩
  have hb := h.below (w' := W) (by rw [← hW]; go_grown)
  have HB := Lib.hid hb
  subst hx
  obtain ⟨ρ, fv, fs, h1, h2, h3⟩ := hb
  obtain rfl : fs = [] := by simpa using h2
  have HB1 := HB
  have HC := Lib.hid (goto_of (leap_none h1 s 18 0 0 0))
  clear h1 h2 h3 hp hl
  have HW := Lib.hid hW
  clear h hW
  go_enter Try.func10, Try.ntmps10
  go_wp2_with fail
  rw [HW.out]
  refine HC.out.mono ?_
  rintro e w2 ⟨rfl, hb2⟩
  have HB2 := Lib.hid (HB1.out.below hb2)
  clear HC
  go_wp2_with fail
  go_ret
  refine ⟨rfl, ?_⟩
  rw [stp_none (by simp)]
  exact HB2.out
set_option maxRecDepth 20000 in
set_option maxHeartbeats 2000000 in
theorem step_4n (h : BP w0 Bb mem wv ws ps w) (hl : ps.length ≤ 400) (hp : ∀ (j : Nat) (p : PF), ps[j]? = some p → POk 400 p) (rg : Int) (s : ByteArray) (x0 x1 x2 x3 : Int) (hs : s.size ≤ 1000) (hx : ps = []) :
    Calls Try.prog 10 #[.pointer (some ⟨Bb, 0, none⟩), .agg #[.int .i64 4, .int .i64 rg, .string s, .int .i64 x0, .int .i64 x1, .int .i64 x2, .int .i64 x3]] w (StepP w0 Bb mem wv ws ps ⟨4, rg, s, x0, x1, x2, x3⟩) := by
  obtain ⟨W, hW⟩ : ∃ W, w.alloc (.cells #[.int .i64 4, .int .i64 rg, .string s, .int .i64 x0, .int .i64 x1, .int .i64 x2, .int .i64 x3] 35) = W := ⟨_, rfl⟩
  have hb := h.below (w' := W) (by rw [← hW]; go_grown)
  have HB := Lib.hid hb
  subst hx
  obtain ⟨ρ, fv, fs, h1, h2, h3⟩ := hb
  obtain rfl : fs = [] := by simpa using h2
  have HB1 := HB
  have HC := Lib.hid (ifzero_of (leap_none h1 s 19 rg 0 0))
  clear h1 h2 h3 hp hl
  have HW := Lib.hid hW
  clear h hW
  go_enter Try.func10, Try.ntmps10
  go_wp2_with fail
  rw [HW.out]
  refine HC.out.mono ?_
  rintro e w2 ⟨rfl, hb2⟩
  have HB2 := Lib.hid (HB1.out.below hb2)
  clear HC
  go_wp2_with fail
  go_ret
  refine ⟨rfl, ?_⟩
  rw [stp_none (by simp)]
  exact HB2.out
/-- any step. -/
theorem step_v (h : BP w0 Bb mem wv ws ps w) (hl : ps.length ≤ 400) (hp : ∀ (j : Nat) (p : PF), ps[j]? = some p → POk 400 p) (o : St) (hs : o.s.size ≤ 1000) (hk : kOk o) :
    Calls Try.prog 10 #[.pointer (some ⟨Bb, 0, none⟩), .agg #[.int .i64 o.k, .int .i64 o.r, .string o.s, .int .i64 o.x.1, .int .i64 o.x.2.1, .int .i64 o.x.2.2.1, .int .i64 o.x.2.2.2]] w (StepP w0 Bb mem wv ws ps o) := by
  obtain ⟨kd, rg, s, x0, x1, x2, x3⟩ := o
  obtain ⟨k0, k4⟩ := hk
  have hc : kd = 0 ∨ kd = 1 ∨ kd = 2 ∨ kd = 3 ∨ kd = 4 := by dsimp only at k0 k4; omega
  cases hx : ps[ps.length - 1]? with
  | none =>
    have he : ps = [] := by
      cases ps with
      | nil => rfl
      | cons q l => rw [List.getElem?_eq_none_iff] at hx; simp at hx; omega
    rcases hc with rfl | rfl | rfl | rfl | rfl
    · exact step_0 h hl hp rg s x0 x1 x2 x3 hs
    · exact step_1n h hl hp rg s x0 x1 x2 x3 hs he
    · exact step_2n h hl hp rg s x0 x1 x2 x3 hs he
    · exact step_3n h hl hp rg s x0 x1 x2 x3 hs he
    · exact step_4n h hl hp rg s x0 x1 x2 x3 hs he
  | some p =>
    rcases hc with rfl | rfl | rfl | rfl | rfl
    · exact step_0 h hl hp rg s x0 x1 x2 x3 hs
    · exact step_1 h hl hp rg s x0 x1 x2 x3 hs hx
    · cases hq : p.f s with
      | none => exact step_2 h hl hp rg s x0 x1 x2 x3 hs hx hq
      | some z => exact step_2t h hl hp rg s x0 x1 x2 x3 hs hx hq
    · exact step_3 h hl hp rg s x0 x1 x2 x3 hs hx
    · exact step_4 h hl hp rg s x0 x1 x2 x3 hs hx
end
end Go.Proofs.Ytdneblbaofhehaa.bd
