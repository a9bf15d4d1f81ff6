/- The strands of marks: Build, by the builder's steps (layer 30). -/
import Derived.Test.YtgbaaemocnjaoaaSnJ
import Derived.Test.YtgbaaemocnjaoaaMat
namespace Go.Proofs.Ytgbaaemocnjaoaa.sn
open Go.ChangeShapes Go.WideShapes Go.ChangeAt Go.RowKit
open Go.Proofs.Ytgbaaemocnjaoaa.ro
attribute [local go_sem ↓] Go.wp_at_zero Go.wp_at_succ
set_option linter.unusedVariables false
set_option linter.unusedSimpArgs false
def Steps (s : PS) : List (Int × Int × Int) → PS → Prop
  | [], s' => s = s'
  | m :: l, s' => ∃ f s1, (∃ T, s.S = T ++ [f]) ∧ errC m.1 m.2.1 f s.P.length = 0 ∧ Tk m.1 m.2.1 s s1 ∧ Steps s1 l s'
theorem Steps.snoc {m : Int × Int × Int} : ∀ {l : List (Int × Int × Int)} {s s1 s2 : PS} {f : Fm}, Steps s l s1 → (∃ T, s1.S = T ++ [f]) → errC m.1 m.2.1 f s1.P.length = 0 → Tk m.1 m.2.1 s1 s2 → Steps s (l ++ [m]) s2
  | [], s, s1, s2, f, h, h1, h2, h3 => by
    have e : s = s1 := h
    subst e
    exact ⟨f, s2, h1, h2, h3, rfl⟩
  | n :: l, s, s1, s2, f, h, h1, h2, h3 => by
    obtain ⟨g, t, a, b, c, d⟩ := h
    exact ⟨g, t, a, b, c, d.snoc h1 h2 h3⟩
def s0 : PS := ⟨[rootF], [[]], [(0, 0, 0)], []⟩
theorem inv0 : Inv 0 s0 := by
  refine ⟨.root _ rfl, fun f hf => ?_, by simp [s0], by simp [s0], rfl, by simp [s0], by simp [s0], fun i hi => ?_, fun p hp => by simp [s0] at hp⟩
  · simp [s0] at hf
    subst hf
    refine ⟨by simp [rootF, s0], by simp [rootF], by simp [rootF], by simp [rootF], by simp [rootF], by simp [rootF], by simp [rootF], by simp [rootF], by simp [rootF], by simp [rootF]⟩
  · have : i = 0 := by simp [s0] at hi; exact hi
    subst this
    simp [s0]
/-- What came out reads so. -/
structure DV (w : World) (pv nv av : Value) (s : PS) : Prop where
  p : MV w pv s.P
  n : RV 3 enN w nv s.N
  a : RV 3 enA w av s.A
def Fails (L : List (Int × Int × Int)) (c : Int) : Prop := ∃ (k : Nat) (f : Fm) (s : PS), k < L.length ∧ Steps s0 (L.take k) s ∧ (∃ T, s.S = T ++ [f]) ∧ errC (L.getD k (0, 0, 0)).1 (L.getD k (0, 0, 0)).2.1 f s.P.length = c
def BuildR (w : World) (L : List (Int × Int × Int)) (e : Ending) (w' : World) : Prop :=
  ∃ (c : Int) (pv nv av : Value), e = .returned (.tuple #[.agg #[pv, nv, av], .int .i64 c]) ∧ Below w.heap.size w w' ∧ ((c ≠ 0 ∧ pv = .slice none 0 0 ∧ nv = .slice none 0 0 ∧ av = .slice none 0 0 ∧ Fails L c) ∨ (c = 0 ∧ ∃ s, Steps s0 L s ∧ Inv L.length s ∧ DV w' pv nv av s))
theorem view_of_rv {w : World} {v : Value} {xs : List Int} (h : RV 1 enI w v xs) : View w v xs := by
  obtain ⟨a, cap, rfl, h1, h2, h3, h4⟩ := h
  refine ⟨a, cap, rfl, ⟨h1, h2⟩, fun e => ⟨by have := h3 e; omega, h3 e⟩, fun hne => ?_⟩
  cases xs with
  | nil => exact absurd rfl hne
  | cons p l =>
    obtain ⟨g, o, rfl, hg, _⟩ := h4 0 p rfl
    refine ⟨g, o, rfl, hg, h1, fun i hi => ?_⟩
    obtain ⟨g', o', e, _, hc⟩ := h4 i ((p :: l).getD i 0) (by rw [List.getD_eq_getElem?_getD, List.getElem?_eq_getElem hi]; rfl)
    simp only [Option.some.injEq, Addr.mk.injEq] at e
    obtain ⟨rfl, rfl, _⟩ := e
    simpa using hc 0 _ rfl
theorem SB.dv {w0 w : World} {r : Ro} {b : Nat} {x : Bx} (h : SB w0 w r b x) : DV w x.pv x.nv x.av x.ps := by
  refine ⟨?_, OR.rv recN h.p.no.o, OR.rv recA h.p.ac.o⟩
  obtain ⟨a, cap, h1, h2, h3, h4⟩ := RR.form recS h.p.pr
  refine ⟨a, cap, by rw [h1, h.p.pl]; rfl, by show x.P.length ≤ cap; rw [← h.p.pl]; exact h2, h3, fun i hi => ?_⟩
  have hi' : i < x.us.length := by rw [h.p.pl]; exact hi
  obtain ⟨g, rfl, hg, hc⟩ := h4 i x.us[i] (List.getElem?_eq_getElem hi')
  have hp := h.p.pe i _ (List.getElem?_eq_getElem hi')
  exact ⟨g, 0, sl x.us[i], rfl, hg, by simpa using hc 0 _ rfl, view_of_rv hp.o⟩
theorem SB.dvk {w0 w w' : World} {r r' : Ro} {b : Nat} {x : Bx} (h : SB w0 w r b x) (hk : KX (fun c => c = 0) r r' w w') : DV w' x.pv x.nv x.av x.ps := by
  refine ⟨?_, OR.rv recN (h.p.no.keep hk (by omega)).o, OR.rv recA (h.p.ac.keep hk (by omega)).o⟩
  obtain ⟨a, cap, h1, h2, h3, h4⟩ := RR.form recS (h.p.pr.keep hk (by omega))
  refine ⟨a, cap, by rw [h1, h.p.pl]; rfl, by show x.P.length ≤ cap; rw [← h.p.pl]; exact h2, h3, fun i hi => ?_⟩
  have hi' : i < x.us.length := by rw [h.p.pl]; exact hi
  obtain ⟨g, rfl, hg, hc⟩ := h4 i x.us[i] (List.getElem?_eq_getElem hi')
  have hp := (h.p.pe i _ (List.getElem?_eq_getElem hi')).keep hk (by omega)
  exact ⟨g, 0, sl x.us[i], rfl, hg, by simpa using hc 0 _ rfl, view_of_rv hp.o⟩
theorem DV.below {w w' : World} {pv nv av : Value} {s : PS} (h : DV w pv nv av s) (hb : Below w.heap.size w w') : DV w' pv nv av s := ⟨h.p.below hb, h.n.below hb, h.a.below hb⟩
def ro0 (n : Nat) : Ro := fun k => if k = n + 1 then 8 else if k = n + 2 then 2 else if k = n + 3 then 1 else 0
def rootX (F : Nat) : Fx := newX F 0 0 0 (.slice none 0 0) []
def x00 (n : Nat) : Bx := ⟨.slice (some ⟨n + 2, 0, none⟩) 1 1, .slice none 0 0, .slice none 0 0, .slice none 0 0, [rootX (n + 1)], [], [], [], []⟩
theorem sb0 (w w4 : World) (hb : Below w.heap.size w w4) (h1 : w4.heap[w.heap.size + 1]? = some (.cells (rootX (w.heap.size + 1)).cs 52 (0, 0))) (h2 : w4.heap[w.heap.size + 2]? = some (.cells #[.pointer (some ⟨w.heap.size + 1, 0, none⟩)] 47 (0, 0))) (h3 : w4.heap[w.heap.size + 3]? = some (.cells (x00 w.heap.size).cs 55 (0, 0))) : SB w w4 (ro0 w.heap.size) (w.heap.size + 3) (x00 w.heap.size) := by
  refine ⟨⟨by simp [ro0], ⟨⟨rfl, .inr ⟨w.heap.size + 2, 1, _, rfl, Nat.zero_le _, h2, Nat.le_refl _, by decide, rfl, rfl⟩⟩, fun g hg => by simp [x00, Value.ownBlock] at hg; subst hg; simp [ro0]⟩, RR.nil _ _ _ _, RR.nil _ _ _ _, RR.nil _ _ _ _, rfl, fun i u hu => by simp [x00] at hu, fun i y hy => ?_, fun k hk => by simp only [ro0]; rw [if_neg (by omega), if_neg (by omega), if_neg (by omega)], hb⟩, h3⟩
  have hi : i = 0 := by have := (List.getElem?_eq_some_iff.1 hy).1; simpa [x00] using this
  subst hi
  simp [x00] at hy
  subst hy
  exact ⟨⟨by simp [ro0, rootX, newX], RR.nil _ _ _ _, RR.nil _ _ _ _, RR.nil _ _ _ _, RD.nil _ _ _⟩, h1⟩
theorem new4 (w : World) (o1 o2 o3 o4 : Obj) : let W := (((w.alloc o1).alloc o2).alloc o3).alloc o4; W.heap[w.heap.size]? = some o1 ∧ W.heap[w.heap.size + 1]? = some o2 ∧ W.heap[w.heap.size + 2]? = some o3 ∧ W.heap[w.heap.size + 3]? = some o4 := by
  intro W
  have e : W.heap = (((w.heap.push o1).push o2).push o3).push o4 := rfl
  rw [e]
  refine ⟨?_, ?_, ?_, ?_⟩ <;> simp only [Array.getElem?_push, Array.size_push]
  · rw [if_neg (by omega), if_neg (by omega), if_neg (by omega), if_pos trivial]
  · rw [if_neg (by omega), if_neg (by omega), if_pos trivial]
  · rw [if_neg (by omega), if_pos trivial]
  · rw [if_pos trivial]
set_option maxHeartbeats 2000000 in
set_option maxRecDepth 20000 in
theorem build_of (w : World) (a : Option Addr) (n cap : Nat) (L : List (Int × Int × Int)) (h : RV 3 enN w (.slice a n cap) L) (hn : n ≤ 5000) :
    Calls Try.prog 7 #[.slice a n cap] w (BuildR w L) := by
  have hL := (RV.len h).1
  have HL := Lib.hid hL
  have HV := Lib.hid h
  clear hL h
  go_enter Try.func7, Try.ntmps7
  go_wp2_with fail
  obtain ⟨W, hW⟩ : ∃ W, ((((w.alloc (.cells #[.slice none 0 0, .slice none 0 0, .slice none 0 0] 28)).alloc (.cells #[.int .i64 0, .int .i64 0, .slice none 0 0, .int .i64 0, .int .i64 0, .int .i64 0, .slice none 0 0, .slice none 0 0, .int .i64 0, .slice none 0 0] 52)).alloc (.cells #[.pointer (some ⟨w.heap.size + 1, 0, none⟩)] 47)).alloc (.cells #[.slice (some ⟨w.heap.size + 1 + 1, 0, none⟩) 1 1, .slice none 0 0, .slice none 0 0, .slice none 0 0] 55)) = W := ⟨_, rfl⟩
  rw [hW]
  have hN := new4 w (.cells #[.slice none 0 0, .slice none 0 0, .slice none 0 0] 28) (.cells #[.int .i64 0, .int .i64 0, .slice none 0 0, .int .i64 0, .int .i64 0, .int .i64 0, .slice none 0 0, .slice none 0 0, .int .i64 0, .slice none 0 0] 52) (.cells #[.pointer (some ⟨w.heap.size + 1, 0, none⟩)] 47) (.cells #[.slice (some ⟨w.heap.size + 1 + 1, 0, none⟩) 1 1, .slice none 0 0, .slice none 0 0, .slice none 0 0] 55)
  rw [hW] at hN
  obtain ⟨hN0, hN1, hN2, hN3⟩ := hN
  have hbW : Below w.heap.size w W := by rw [← hW]; go_grown
  have hS0 := sb0 w W hbW hN1 hN2 hN3
  have hr0 : ro0 w.heap.size w.heap.size = 0 := by simp only [ro0]; rw [if_neg (by omega), if_neg (by omega), if_neg (by omega)]
  obtain ⟨b, hb⟩ : ∃ b, w.heap.size + 3 = b := ⟨_, rfl⟩
  rw [hb] at hS0
  rw [show w.heap.size + 1 + 1 + 1 = b from hb]
  have CT := Lib.hid (top_of w W _ b _ [] (rootX (w.heap.size + 1)) hS0 rfl (by simp))
  have H0 := Lib.hid (And.intro hS0 (And.intro hN0 hr0))
  clear hW hN0 hN1 hN2 hN3 hbW hS0 hr0 hb
  refine CT.out.mono ?_
  rintro e w2 ⟨rfl, n2, hw2⟩
  obtain ⟨hS2, hk2⟩ := H0.out.1.below 0 (show Below W.heap.size W w2 by rw [hw2]; exact below_drewN (Below.refl _ _) n2)
  obtain ⟨hM2, hr2⟩ := hk2.blk H0.out.2.1 H0.out.2.2 (fun h => h)
  have CS := Lib.hid (strand_of w w2 _ b 0 _ (rootX (w.heap.size + 1)) (none, 0, 0) [] hS2 rfl (RD.nil _ _ _) (by simp [x00]) (by simp [x00]))
  have H2 := Lib.hid (And.intro hM2 hr2)
  clear CT hS2 hk2 hM2 hr2 hw2 H0
  unfold sl at CS
  go_wp2_with fail
  refine CS.out.mono ?_
  rintro e w3 ⟨rfl, r3, pv3, nv3, us3, hS3, hk3⟩
  obtain ⟨hM3, hr3⟩ := hk3.blk H2.out.1 H2.out.2 (by omega)
  have HS3 : Hid (∃ x, SB w w3 r3 b x ∧ x.ps = s0) := Lib.hid ⟨_, hS3, by simp [Bx.ps, s0, x00, rootX, newX, rootF, nodeOf]⟩
  have H3 := Lib.hid (And.intro hM3 hr3)
  clear CS hS3 hk3 hM3 hr3 H2
  go_wp2_with fail
  go_loopw [6, 7, 19] (fun q z i wr => ∃ k : Nat, k ≤ n ∧ i = .int .i64 (k : Int) ∧ Hid (∃ r x, SB w wr r b x ∧ Inv k x.ps ∧ Steps s0 (L.take k) x.ps ∧ wr.heap[w.heap.size]? = some (.cells #[.slice none 0 0, .slice none 0 0, .slice none 0 0] 28 (0, 0)) ∧ r w.heap.size = 0)) (fun _ _ i _ => n - (intOf i).toNat)
  case atStart => 
    obtain ⟨x, hx, he⟩ := HS3.out
    exact ⟨0, by omega, rfl, Lib.hid ⟨r3, x, hx, by rw [he]; exact inv0, by rw [he]; rfl, H3.out.1, H3.out.2⟩⟩
  case round =>
    clear HS3 H3
    obtain ⟨k, hk, rfl, HR⟩ := hrel
    by_cases hlt : k < n
    · obtain ⟨r, x, hS, hI, hSt, hM, hr⟩ := HR.out
      obtain ⟨y, hy⟩ : ∃ y, L[k]? = some y := ⟨_, List.getElem?_eq_getElem (by have := HL.out; omega)⟩
      obtain ⟨g, o, rfl, hg, hc⟩ := HV.out.at k y hy
      have hb0 := hS.p.b
      have y0 : wr.cell? ⟨g, o + k * 3, none⟩ = some (.int .i64 y.1) := (hb0.cell (p := ⟨g, o + k * 3, none⟩) hg).trans (by simpa using hc 0 _ rfl)
      have y1 : wr.cell? ⟨g, o + k * 3 + 1, none⟩ = some (.int .i64 y.2.1) := (hb0.cell (p := ⟨g, o + k * 3 + 1, none⟩) hg).trans (by simpa [Nat.add_assoc] using hc 1 _ rfl)
      have y2 : wr.cell? ⟨g, o + k * 3 + 2, none⟩ = some (.int .i64 y.2.2) := (hb0.cell (p := ⟨g, o + k * 3 + 2, none⟩) hg).trans (by simpa [Nat.add_assoc] using hc 2 _ rfl)
      obtain ⟨hS1, hk1⟩ := hS.below (w' := wr.alloc (.cells #[.int .i64 y.1, .int .i64 y.2.1, .int .i64 y.2.2] 45)) 0 (by go_grown)
      obtain ⟨hM1, hr1⟩ := hk1.blk hM hr (fun h => h)
      have CK := Lib.hid (take_of w _ _ b x k y.1 y.2.1 y.2.2 hS1 hI (by omega))
      have HM1 := Lib.hid (And.intro hM1 hr1)
      have HST := Lib.hid (And.intro hSt (And.intro hI hy))
      have hgb : g < wr.heap.size := Nat.lt_of_lt_of_le hg hb0.size
      clear hS hI hSt hM hr hy hc hb0 hS1 hk1 hM1 hr1 HR hg
      go_wp2_with fail
      refine CK.out.mono ?_
      rintro e w5 ⟨f, cd, r5, s5, hT, he, rfl, ⟨x5, hS5, hx5, hk5⟩, htk⟩
      obtain ⟨hM5, hr5⟩ := hk5.blk HM1.out.1 HM1.out.2 (by simp)
      have hts : L.take (k + 1) = L.take k ++ [y] := by
        have hkL := (List.getElem?_eq_some_iff.1 HST.out.2.2).1
        rw [List.take_succ_eq_append_getElem hkL]
        have := HST.out.2.2
        rw [List.getElem?_eq_getElem hkL] at this
        simp at this
        rw [this]
      by_cases hcd : cd = 0
      · subst hcd
        have HN : Hid (∃ r x, SB w w5 r b x ∧ Inv (k + 1) x.ps ∧ Steps s0 (L.take (k + 1)) x.ps ∧ w5.heap[w.heap.size]? = some (.cells #[.slice none 0 0, .slice none 0 0, .slice none 0 0] 28 (0, 0)) ∧ r w.heap.size = 0) := Lib.hid ⟨r5, x5, hS5, by rw [hx5]; exact HST.out.2.1.step hT he (htk rfl), by rw [hx5, hts]; exact HST.out.1.snoc hT he (htk rfl), hM5, hr5⟩
        clear CK HST HM1 hT he hS5 hx5 hk5 htk hM5 hr5 hts y0 y1 y2
        go_wp2_with fail
        go_roundw
        case rel => exact ⟨k + 1, by omega, by go_num, HN⟩
        case measure => simp [intOf]; omega
      · have m0 : w5.cell? ⟨w.heap.size, 0, none⟩ = some (.slice none 0 0) := cel hM5 0
        have m1 : w5.cell? ⟨w.heap.size, 1, none⟩ = some (.slice none 0 0) := cel hM5 1
        have m2 : w5.cell? ⟨w.heap.size, 2, none⟩ = some (.slice none 0 0) := cel hM5 2
        have mf := frz hM5
        have mf0 := mf 0
        have mf1 := mf 1
        have mf2 := mf 2
        have hcb : (cd != 0) = true := by simpa using hcd
        have HF : Hid (Fails L cd) := Lib.hid ⟨k, f, x.ps, by have := HL.out; omega, HST.out.1, hT, by rw [List.getD_eq_getElem?_getD, HST.out.2.2]; exact he⟩
        have HB5 := Lib.hid hS5.p.b
        have HM5 := Lib.hid hM5
        clear CK HST HM1 hT he hS5 hx5 hk5 htk hM5 hr5 hts y0 y1 y2 mf
        go_wp2_with fail
        obtain ⟨wF, hwF⟩ : ∃ wF, (((w5.setCell ⟨w.heap.size, 0, none⟩ (.slice none 0 0)).setCell ⟨w.heap.size, 1, none⟩ (.slice none 0 0)).setCell ⟨w.heap.size, 2, none⟩ (.slice none 0 0)) = wF := ⟨_, rfl⟩
        have hF := set_blk _ w.heap.size 2 (.slice none 0 0) (set_blk _ w.heap.size 1 (.slice none 0 0) (set_blk _ w.heap.size 0 (.slice none 0 0) HM5.out))
        rw [hwF] at hF ⊢
        have g0 : wF.cell? ⟨w.heap.size, 0, none⟩ = some (.slice none 0 0) := cel hF 0
        have g1 : wF.cell? ⟨w.heap.size, 1, none⟩ = some (.slice none 0 0) := cel hF 1
        have g2 : wF.cell? ⟨w.heap.size, 2, none⟩ = some (.slice none 0 0) := cel hF 2
        have hbF : Below w.heap.size w wF := by rw [← hwF]; exact ((HB5.out.setCell (Nat.le_refl _) _).setCell (Nat.le_refl _) _).setCell (Nat.le_refl _) _
        refine bodyPost_ret (v := .tuple #[.agg #[.slice none 0 0, .slice none 0 0, .slice none 0 0], .int .i64 cd]) (by simp [results, Try.results7, go_sem, g0, g1, g2]) rfl ⟨cd, _, _, _, rfl, hbF, .inl ⟨hcd, rfl, rfl, rfl, HF.out⟩⟩
    · obtain rfl : k = n := by omega
      obtain ⟨r, x, hS, hI, hSt, hM, hr⟩ := HR.out
      obtain ⟨p1, p2, p3, hp⟩ := form3 hS.p.pr.o
      obtain ⟨q1, q2, q3, hq⟩ := form3 hS.p.no.o
      obtain ⟨t1, t2, t3, ht⟩ := form3 hS.p.ac.o
      have e1 : wr.cell? ⟨b, 1, none⟩ = some (.slice p1 p2 p3) := by rw [← hp]; exact cel hS.o 1
      have e2 : wr.cell? ⟨b, 2, none⟩ = some (.slice q1 q2 q3) := by rw [← hq]; exact cel hS.o 2
      have e3 : wr.cell? ⟨b, 3, none⟩ = some (.slice t1 t2 t3) := by rw [← ht]; exact cel hS.o 3
      have m0 : wr.cell? ⟨w.heap.size, 0, none⟩ = some (.slice none 0 0) := cel hM 0
      have m1 : wr.cell? ⟨w.heap.size, 1, none⟩ = some (.slice none 0 0) := cel hM 1
      have m2 : wr.cell? ⟨w.heap.size, 2, none⟩ = some (.slice none 0 0) := cel hM 2
      have mf := frz hM
      have mf0 := mf 0
      have mf1 := mf 1
      have mf2 := mf 2
      have HX := Lib.hid (And.intro hS (And.intro hM hr))
      have HS := Lib.hid (And.intro hSt hI)
      have HE := Lib.hid (And.intro hp (And.intro hq ht))
      clear hS hI hSt hM hr hp hq ht mf HR
      go_wp2_with fail
      obtain ⟨wF, hwF⟩ : ∃ wF, (((wr.setCell ⟨w.heap.size, 0, none⟩ (.slice p1 p2 p3)).setCell ⟨w.heap.size, 1, none⟩ (.slice q1 q2 q3)).setCell ⟨w.heap.size, 2, none⟩ (.slice t1 t2 t3)) = wF := ⟨_, rfl⟩
      have hF := set_blk _ w.heap.size 2 (.slice t1 t2 t3) (set_blk _ w.heap.size 1 (.slice q1 q2 q3) (set_blk _ w.heap.size 0 (.slice p1 p2 p3) HX.out.2.1))
      rw [hwF] at hF ⊢
      have g0 : wF.cell? ⟨w.heap.size, 0, none⟩ = some (.slice p1 p2 p3) := cel hF 0
      have g1 : wF.cell? ⟨w.heap.size, 1, none⟩ = some (.slice q1 q2 q3) := cel hF 1
      have g2 : wF.cell? ⟨w.heap.size, 2, none⟩ = some (.slice t1 t2 t3) := cel hF 2
      have hkF : KX (fun c => c = 0) r r wr wF := by
        rw [← hwF]
        have h1 := KX.set (w := wr) (r := r) w.heap.size 0 (.slice p1 p2 p3) HX.out.2.2
        have h2 := KX.set (w := wr.setCell ⟨w.heap.size, 0, none⟩ (.slice p1 p2 p3)) (r := r) w.heap.size 1 (.slice q1 q2 q3) HX.out.2.2
        have h3 := KX.set (w := (wr.setCell ⟨w.heap.size, 0, none⟩ (.slice p1 p2 p3)).setCell ⟨w.heap.size, 1, none⟩ (.slice q1 q2 q3)) (r := r) w.heap.size 2 (.slice t1 t2 t3) HX.out.2.2
        exact (h1.trans h2).trans h3
      have hbF : Below w.heap.size w wF := by rw [← hwF]; exact ((HX.out.1.p.b.setCell (Nat.le_refl _) _).setCell (Nat.le_refl _) _).setCell (Nat.le_refl _) _
      have hDV := HX.out.1.dvk hkF
      rw [HE.out.1, HE.out.2.1, HE.out.2.2] at hDV
      refine bodyPost_ret (v := .tuple #[.agg #[.slice p1 p2 p3, .slice q1 q2 q3, .slice t1 t2 t3], .int .i64 0]) (by simp [results, Try.results7, go_sem, g0, g1, g2]) rfl ⟨0, _, _, _, rfl, hbF, .inr ⟨rfl, x.ps, ?_, ?_, hDV⟩⟩
      · have := HS.out.1
        rw [List.take_of_length_le (by have := HL.out; omega)] at this
        exact this
      · have := HS.out.2
        rw [HL.out] at this
        exact this
end Go.Proofs.Ytgbaaemocnjaoaa.sn
