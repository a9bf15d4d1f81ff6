/- The strands of any marks, or what is wrong with them, are as the document says: the law StrandBuilds answers true. No condition. -/
import Derived.Test.YtgbaaemocnjaoaaDgN
namespace Go.Proofs.Ytgbaaemocnjaoaa.strandBuilds
open Go.ChangeShapes Go.WideShapes Go.ChangeAt Go.RowKit
open Go.Proofs.Ytgbaaemocnjaoaa.ro Go.Proofs.Ytgbaaemocnjaoaa.sn Go.Proofs.Ytgbaaemocnjaoaa.dg
attribute [local go_sem ↓] Go.wp_at_zero Go.wp_at_succ
set_option linter.unusedVariables false
set_option linter.unusedSimpArgs false
set_option maxHeartbeats 2000000 in
set_option maxRecDepth 20000 in
theorem core (a0 : Option Addr) (n cap0 : Nat) (L : List (Int × Int × Int)) (w : World) (h : RV 3 enN w (.slice a0 n cap0) L) (hn : n ≤ 2000) :
    Calls Try.prog 3 #[.slice a0 n cap0] w fun e w' => e = .returned (.bool true) ∧ Below w.heap.size w w' := by
  have hd : ¬ (2000 : Int) < (n : Int) := by omega
  have hd2 : decide (2000 < n) = false := by simp; omega
  have hLn := (RV.len h).1
  have HLn := Lib.hid hLn
  have HV := Lib.hid h
  clear h hLn
  go_enter Try.func3, Try.ntmps3
  go_wp2_with fail
  refine (works30 w).mono ?_
  rintro e w1 ⟨rfl, hb1⟩
  go_wp2_with fail
  refine (marks_of w1 a0 n cap0 L (RV.below HV.out hb1) (by omega)).mono ?_
  rintro e w2 ⟨a2, n2, c2, rfl, hv2, hb2⟩
  have hn2 : n2 = n := by rw [(RV.len hv2).1, (RV.len HV.out).1]
  subst hn2
  have HB2 := Lib.hid (hb1.trans (hb2.mono hb1.size))
  have C2 := Lib.hid (build_of w2 a2 n2 c2 L hv2 (by omega))
  clear hb1 hb2 hv2
  go_wp2_with fail
  refine C2.out.mono ?_
  rintro e w3 ⟨c, pv, nv, av, rfl, hb3, H⟩
  have HB3 := Lib.hid (HB2.out.trans (hb3.mono HB2.out.size))
  obtain ⟨W, hW⟩ : ∃ W, w3.alloc (.cells #[pv, nv, av] 28) = W := ⟨_, rfl⟩
  have hX := heap_new w3 (.cells #[pv, nv, av] 28)
  have hbW : Below w3.heap.size w3 W := by rw [← hW]; go_grown
  rw [hW] at hX
  have HBW := Lib.hid (HB3.out.trans (hbW.mono HB3.out.size))
  have C3 := Lib.hid (build_doc W a0 n2 cap0 L (RV.below HV.out HBW.out) (by omega))
  have HH : Hid ((c ≠ 0 ∧ pv = .slice none 0 0 ∧ nv = .slice none 0 0 ∧ av = .slice none 0 0 ∧ Fails L c) ∨ (c = 0 ∧ ∃ s, sn.Steps s0 L s ∧ Inv L.length s ∧ DV W pv nv av s)) := Lib.hid (H.imp id fun ⟨e, s, h1, h2, h3⟩ => ⟨e, s, h1, h2, h3.below hbW⟩)
  obtain ⟨X, hXe⟩ : ∃ X, w3.heap.size = X := ⟨_, rfl⟩
  rw [hXe] at hX
  have HX := Lib.hid hX
  have HXE := Lib.hid hXe
  have HW := Lib.hid hW
  have form : (∃ a n c, pv = .slice a n c) ∧ (∃ a n c, nv = .slice a n c) ∧ (∃ a n c, av = .slice a n c) := by
    rcases H with ⟨_, rfl, rfl, rfl, _⟩ | ⟨_, s, _, _, h⟩
    · exact ⟨⟨_, _, _, rfl⟩, ⟨_, _, _, rfl⟩, ⟨_, _, _, rfl⟩⟩
    · obtain ⟨⟨a, b, e1, _⟩, ⟨a', b', e2, _⟩, ⟨a'', b'', e3, _⟩⟩ := h
      exact ⟨⟨_, _, _, e1⟩, ⟨_, _, _, e2⟩, ⟨_, _, _, e3⟩⟩
  obtain ⟨⟨p1, p2, p3, rfl⟩, ⟨q1, q2, q3, rfl⟩, ⟨t1, t2, t3, rfl⟩⟩ := form
  clear hb3 H C2 HB2 hX hbW hXe hW
  go_wp2_with fail
  rw [HW.out, HXE.out]
  refine C3.out.mono ?_
  rintro e w4 ⟨D, c', l2, x, rfl, hb4, hD, H2⟩
  have hX4 := hb4.block X (lt_of HX.out)
  have hXX := hX4.trans HX.out
  have z0 : w4.cell? ⟨X, 0, none⟩ = some (.slice p1 p2 p3) := cel hXX 0
  have z1 : w4.cell? ⟨X, 1, none⟩ = some (.slice q1 q2 q3) := cel hXX 1
  have z2 : w4.cell? ⟨X, 2, none⟩ = some (.slice t1 t2 t3) := cel hXX 2
  have HB4 := Lib.hid (HBW.out.trans (hb4.mono HBW.out.size))
  have key : c = c' ∧ Calls Try.prog 10 #[.agg #[.slice p1 p2 p3, .slice q1 q2 q3, .slice t1 t2 t3], .pointer (some ⟨D, 0, none⟩)] w4 fun e w' => e = .returned (.bool true) ∧ Below w4.heap.size w4 w' := by
    rcases HH.out with ⟨hc, ep, eq, et, hf⟩ | ⟨rfl, s, hs, hI, hdv⟩
    · rcases H2 with ⟨hc', hf', e1, e2, e3⟩ | ⟨rfl, s', hs', _⟩
      · refine ⟨fails_one hf hf' hc hc', ?_⟩
        have m0 : ∀ w, MV w (.slice none 0 0) [] := fun w => ⟨none, 0, rfl, Nat.le_refl _, Nat.zero_le _, fun i hi => by simp at hi⟩
        rw [ep, eq, et]
        exact same_of w4 _ _ _ D l2 x [] [] [] (m0 w4) (RV.nil _) (RV.nil _) hD (by rw [e1]; exact m0 w4) (by rw [e2]; exact RV.nil _) (by rw [e3]; exact RV.nil _) rfl (by simp) (by simp)
      · exact absurd (fails_ok hf hs') hc
    · rcases H2 with ⟨hc', hf', e1, e2, e3⟩ | ⟨rfl, s', hs', g1, g2, g3⟩
      · exact absurd (fails_ok hf' hs) hc'
      · have e : s = s' := hs.run.trans hs'.run.symm
        subst e
        have hd4 := hdv.below hb4
        have := hI.pm
        have := hI.al
        have := HLn.out
        exact ⟨rfl, same_of w4 _ _ _ D l2 x s.P s.N s.A hd4.p hd4.n hd4.a hD g1 g2 g3 hI.pn (by omega) (by omega)⟩
  obtain ⟨hcc, CS⟩ := key
  subst hcc
  have hce : (c == c) = true := by simp
  have HCS := Lib.hid CS
  have X4 : X < w4.heap.size := lt_of hXX
  clear HH H2 hD hb4 hX4 hXX CS C3 HX HW HXE
  go_wp2_with fail
  refine HCS.out.mono ?_
  rintro e w5 ⟨rfl, hb5⟩
  go_wp2_with fail
  go_ret
  exact ⟨rfl, HB4.out.trans (hb5.mono HB4.out.size)⟩
theorem walk (a0 : Option Addr) (len0 cap0 : Nat) (z0 : Nat → Nat → Int) (w : World) (w0 : IsGrid [.i64, .i64, .i64] w a0 len0 cap0 z0) :
    Calls Try.prog 3 #[.slice a0 len0 cap0] w fun e w' => e = .returned (.bool true) ∧ Below w.heap.size w w' := by
  by_cases hl : len0 ≤ 2000
  · exact core a0 len0 cap0 _ w (rv_grid w0) hl
  · have hd : (2000 : Int) < (len0 : Int) := by omega
    have hd2 : decide (2000 < len0) = true := by simp; omega
    clear w0
    go_enter Try.func3, Try.ntmps3
    go_wp2_with fail
    refine (works30 w).mono ?_
    rintro e w1 ⟨rfl, hb1⟩
    go_wp2_with fail
    go_ret
    exact ⟨rfl, hb1⟩
end Go.Proofs.Ytgbaaemocnjaoaa.strandBuilds
