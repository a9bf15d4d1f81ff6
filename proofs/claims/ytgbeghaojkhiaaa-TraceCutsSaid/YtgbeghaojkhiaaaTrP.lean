/- The law's own events; what it tries first (layer 34). -/
import Derived.Test.YtgbeghaojkhiaaaTrO
import Derived.Deep.WholeRow
namespace Go.Proofs.Ytgbeghaojkhiaaa.tr
open Go.ChangeShapes Go.WideShapes Go.ChangeAt Go.RowKit Go.Maps
open Go.Proofs.Ytgbeghaojkhiaaa.ro
open Go.Proofs.Ytgbeghaojkhiaaa.gr (C2 enC recC d2 PM rec_new tr3 kb)
attribute [local go_sem ↓] Go.wp_at_zero Go.wp_at_succ
attribute [local go_sem] Oper.semAt_some
set_option linter.unusedVariables false
set_option linter.unusedSimpArgs false
abbrev rgC : Array Value := #[.int .i64 1, .int .i64 1, .int .i64 0, .int .i64 0, .int .i64 2, .int .i64 1, .int .i64 0, .int .i64 0, .int .i64 3, .int .i64 1, .int .i64 0, .int .i64 3, .int .i64 1, .int .i64 1, .int .i64 1, .int .i64 0, .int .i64 2, .int .i64 1, .int .i64 1, .int .i64 0, .int .i64 3, .int .i64 1, .int .i64 1, .int .i64 3, .int .i64 2, .int .i64 1, .int .i64 0, .int .i64 3, .int .i64 4, .int .i64 1, .int .i64 0, .int .i64 3, .int .i64 2, .int .i64 1, .int .i64 1, .int .i64 3, .int .i64 4, .int .i64 1, .int .i64 1, .int .i64 3, .int .i64 5, .int .i64 1, .int .i64 2, .int .i64 0]
abbrev rgD : Array Value := #[.int .i64 1, .int .i64 1, .int .i64 0, .int .i64 0, .int .i64 2, .int .i64 1, .int .i64 0, .int .i64 0, .int .i64 3, .int .i64 1, .int .i64 0, .int .i64 3, .int .i64 1, .int .i64 1, .int .i64 1, .int .i64 0, .int .i64 2, .int .i64 1, .int .i64 1, .int .i64 0, .int .i64 3, .int .i64 1, .int .i64 1, .int .i64 3, .int .i64 2, .int .i64 1, .int .i64 0, .int .i64 3, .int .i64 2, .int .i64 1, .int .i64 1, .int .i64 3, .int .i64 2, .int .i64 1, .int .i64 1, .int .i64 3, .int .i64 4, .int .i64 1, .int .i64 1, .int .i64 3, .int .i64 5, .int .i64 1, .int .i64 2, .int .i64 0]
def rg : List I4 := [(1, 1, 0, 0), (2, 1, 0, 0), (3, 1, 0, 3), (1, 1, 1, 0), (2, 1, 1, 0), (3, 1, 1, 3), (2, 1, 0, 3), (4, 1, 0, 3), (2, 1, 1, 3), (4, 1, 1, 3), (5, 1, 2, 0)]
def rg2 : List I4 := [(1, 1, 0, 0), (2, 1, 0, 0), (3, 1, 0, 3), (1, 1, 1, 0), (2, 1, 1, 0), (3, 1, 1, 3), (2, 1, 0, 3), (2, 1, 1, 3), (2, 1, 1, 3), (4, 1, 1, 3), (5, 1, 2, 0)]
theorem infoEv : (Try.prog.info? 45).map (fun i => (i.zero, i.size, i.bytes)) = some (some (.agg #[.int .i64 0, .int .i64 0, .int .i64 0, .int .i64 0]), 4, 32) := by kernel_rfl
theorem rv_rg {w : World} {g : Nat} (h : w.heap[g]? = some (.cells rgC 45 (0, 0))) : RV 4 enE w (.slice (some ⟨g, 0, none⟩) 11 11) rg := OR.rv recE (show OR 4 enE w g 45 _ rg from ⟨rfl, .inr ⟨g, 11, _, rfl, Nat.le_refl _, h, Nat.le_refl _, by decide, rfl, rfl⟩⟩)
theorem rv_rg2 {w : World} {g : Nat} (h : w.heap[g]? = some (.cells rgD 45 (0, 0))) : RV 4 enE w (.slice (some ⟨g, 0, none⟩) 11 11) rg2 := OR.rv recE (show OR 4 enE w g 45 _ rg2 from ⟨rfl, .inr ⟨g, 11, _, rfl, Nat.le_refl _, h, Nat.le_refl _, by decide, rfl, rfl⟩⟩)
theorem chk_rg : chk rg = (0, 0) := by decide
theorem chk_rg2 : chk rg2 = (7, 1) := by decide
theorem flw_rg : flw 1 rg = true := by decide
theorem rss_rg : (rss 1 rg).1.length = 2 := by decide
theorem bgn_rg : (bgn 1 rg).length = 4 := by decide
theorem wf_rg : ∀ x ∈ rg, (Lit.int .i64 x.2.1).wf = true := by decide
theorem wf_rg2 : ∀ x ∈ rg2, (Lit.int .i64 x.2.1).wf = true := by decide
theorem wfi_rg : ∀ x ∈ rg, (Lit.int .i64 x.2.2.1).wf = true := by decide
theorem set_below {w0 w : World} {b i : Nat} {v : Value} (hb : Below w0.heap.size w0 w) (h : w0.heap.size ≤ b) : Below w0.heap.size w0 (w.setCell ⟨b, i, none⟩ v) := hb.trans ⟨rfl, rfl, rfl, by rw [set_size]; exact Nat.le_refl _, fun p hp => set_oth _ _ _ _ _ (by omega)⟩
set_option maxRecDepth 20000 in
set_option maxHeartbeats 2000000 in
theorem right_v (w : World) : Calls Try.prog 21 #[] w fun e w' => ∃ g, e = .returned (.slice (some ⟨g, 0, none⟩) 11 11) ∧ w.heap.size ≤ g ∧ w'.heap[g]? = some (.cells rgC 45 (0, 0)) ∧ Below w.heap.size w w' := by
  go_enter Try.func21, Try.ntmps21
  go_wp2_with fail
  go_ret
  exact ⟨w.heap.size, rfl, Nat.le_refl _, heap_new _ _, by go_grown⟩
set_option maxRecDepth 20000 in
set_option maxHeartbeats 2000000 in
theorem own_v (a : Option Addr) (n c : Nat) (es : List I4) (w : World) (h : RV 4 enE w (.slice a n c) es) (hn : n ≤ 1000) :
    Calls Try.prog 8 #[.slice a n c] w fun e w' => ∃ a' m' c', e = .returned (.slice a' m' c') ∧ RV 4 enE w' (.slice a' m' c') es ∧ Below w.heap.size w w' := by
  have hlen : es.length ≤ 1000000 := by have := h.len.1; omega
  have HR := Lib.hid h
  clear h
  go_enter Try.func8, Try.ntmps8
  go_wp2_with ((at_builtin; refine wpList_copyR rfl _ _ 22 45 _ 32 rfl Try.underlying22 infoEv rfl (by decide) recE w.heap.size w.heap.size rfl (heap_new w _) (Nat.le_refl _) es (HR.out.below (by go_grown)) hlen ?_))
  intro v' w' ho hb
  obtain ⟨va, vc, rfl⟩ := ho.form
  have HO := Lib.hid (OR.rv recE ho)
  have HB : Hid (Below w.heap.size w w') := Lib.hid ((show Below w.heap.size w (w.alloc (.cells #[] 45)) by go_grown).trans hb)
  clear ho hb
  go_wp2_with fail
  go_ret
  exact ⟨_, _, _, rfl, HO.out, HB.out⟩
set_option maxRecDepth 20000 in
set_option maxHeartbeats 4000000 in
theorem works_v (w : World) : Calls Try.prog 6 #[] w fun e w' => e = .returned (.bool true) ∧ Below w.heap.size w w' := by
  have HRG := Lib.hid right_v
  have HC : Hid (∀ g w', w'.heap[g]? = some (.cells rgC 45 (0, 0)) → Calls Try.prog 7 #[.slice (some ⟨g, 0, none⟩) 11 11] w' fun e w'' => e = .returned (.tuple #[.int .i64 0, .int .i64 0]) ∧ Below w'.heap.size w' w'') := Lib.hid (fun g w' h => by have := check_v _ _ _ rg w' (rv_rg h) (by decide) wf_rg; rw [chk_rg] at this; exact this)
  have HC2 : Hid (∀ g w', w'.heap[g]? = some (.cells rgD 45 (0, 0)) → Calls Try.prog 7 #[.slice (some ⟨g, 0, none⟩) 11 11] w' fun e w'' => e = .returned (.tuple #[.int .i64 7, .int .i64 1]) ∧ Below w'.heap.size w' w'') := Lib.hid (fun g w' h => by have := check_v _ _ _ rg2 w' (rv_rg2 h) (by decide) wf_rg2; rw [chk_rg2] at this; exact this)
  have HFo : Hid (∀ g w', w'.heap[g]? = some (.cells rgC 45 (0, 0)) → Calls Try.prog 14 #[.slice (some ⟨g, 0, none⟩) 11 11, .int .i64 1] w' fun e w'' => e = .returned (.bool true) ∧ Below w'.heap.size w' w'') := Lib.hid (fun g w' h => by have := follows_v _ _ _ rg 1 w' (rv_rg h) (by decide) wfi_rg; rw [flw_rg] at this; exact this)
  have HRo : Hid (∀ g w', w'.heap[g]? = some (.cells rgC 45 (0, 0)) → Calls Try.prog 10 #[.slice (some ⟨g, 0, none⟩) 11 11, .int .i64 1] w' fun e w'' => ∃ a' c', e = .returned (.slice a' 2 c') ∧ Below w'.heap.size w' w'') := Lib.hid (fun g w' h => by
    refine (rows_v _ _ _ rg 1 w' (rv_rg h) (by decide) wfi_rg).mono ?_
    rintro e w'' ⟨a', m', c', rfl, h1, h2⟩
    have := h1.len.1
    rw [rss_rg] at this
    subst this
    exact ⟨_, _, rfl, h2⟩)
  have HBe : Hid (∀ g w', w'.heap[g]? = some (.cells rgC 45 (0, 0)) → Calls Try.prog 12 #[.slice (some ⟨g, 0, none⟩) 11 11, .int .i64 1] w' fun e w'' => ∃ a' c', e = .returned (.slice a' 4 c') ∧ Below w'.heap.size w' w'') := Lib.hid (fun g w' h => by
    refine (begun_v _ _ _ rg 1 w' (rv_rg h) (by decide)).mono ?_
    rintro e w'' ⟨a', m', c', rfl, h1, h2⟩
    have := (OR.rv recN h1).len.1
    rw [bgn_rg] at this
    subst this
    exact ⟨_, _, rfl, h2⟩)
  go_enter Try.func6, Try.ntmps6
  go_upto_region 2 with (first | (go_at_call 21; (with_reducible refine (HRG.out _).mono ?_); rintro _ wn ⟨gn, rfl, hgl, hgn, hbn⟩; have hbx : Below w.heap.size w wn := tr3 (by first | (with_reducible assumption) | exact Below.refl _ _) hbn; clear hbn) | (go_at_call 7; (with_reducible refine (HC.out _ _ (by with_reducible assumption)).mono ?_); rintro _ wm ⟨rfl, hbm⟩; have hby : Below w.heap.size w wm := tr3 (by with_reducible assumption) hbm; clear hbm))
  go_upto_region 3 with ((go_at_call 21; (with_reducible refine (HRG.out _).mono ?_); rintro _ wn ⟨gn, rfl, hgl, hgn, hbn⟩; have hbz : Below w.heap.size w wn := tr3 (by first | (with_reducible assumption) | exact Below.refl _ _) hbn; clear hbn))
  have HGN := Lib.hid hgn
  have HBX := Lib.hid hbz
  have HGE : Hid (w.heap.size ≤ gn) := Lib.hid (Nat.le_trans hby.size hgl)
  have c28 : wn.cell? ⟨gn, 28, none⟩ = some (.int .i64 4) := cel hgn 28
  have c29 : wn.cell? ⟨gn, 29, none⟩ = some (.int .i64 1) := cel hgn 29
  have c30 : wn.cell? ⟨gn, 30, none⟩ = some (.int .i64 0) := cel hgn 30
  have c31 : wn.cell? ⟨gn, 31, none⟩ = some (.int .i64 3) := cel hgn 31
  have c32 : wn.cell? ⟨gn, 32, none⟩ = some (.int .i64 2) := cel hgn 32
  have c33 : wn.cell? ⟨gn, 33, none⟩ = some (.int .i64 1) := cel hgn 33
  have c34 : wn.cell? ⟨gn, 34, none⟩ = some (.int .i64 1) := cel hgn 34
  have c35 : wn.cell? ⟨gn, 35, none⟩ = some (.int .i64 3) := cel hgn 35
  have f28 := frz hgn 28
  have f29 := frz hgn 29
  have f30 := frz hgn 30
  have f31 := frz hgn 31
  obtain ⟨W, hW⟩ : ∃ W, (((wn.setCell ⟨gn, 28, none⟩ (.int .i64 2)).setCell ⟨gn, 29, none⟩ (.int .i64 1)).setCell ⟨gn, 30, none⟩ (.int .i64 1)).setCell ⟨gn, 31, none⟩ (.int .i64 3) = W := ⟨_, rfl⟩
  have hWD : W.heap[gn]? = some (.cells rgD 45 (0, 0)) := by
    rw [← hW]
    exact set_blk _ _ _ _ (set_blk _ _ _ _ (set_blk _ _ _ _ (set_blk _ _ _ _ HGN.out)))
  have hWB : Below w.heap.size w W := by
    rw [← hW]
    exact set_below (set_below (set_below (set_below HBX.out HGE.out) HGE.out) HGE.out) HGE.out
  clear hgn hgl hbz hbx hby
  go_upto_region 4 with (fail)
  try rw [hW]
  clear c28 c29 c30 c31 c32 c33 c34 c35 f28 f29 f30 f31
  go_upto_region 5 with (go_at_call 7; (with_reducible refine (HC2.out _ _ (by with_reducible assumption)).mono ?_); rintro _ wm ⟨rfl, hbm⟩; have hby : Below w.heap.size w wm := tr3 (by with_reducible assumption) hbm; clear hbm)
  clear hWD
  go_wp2_with (first | (go_at_call 21; (with_reducible refine (HRG.out _).mono ?_); rintro _ wn ⟨gn, rfl, hgl, hgn, hbn⟩; have hbx : Below w.heap.size w wn := tr3 (by first | (with_reducible assumption) | exact Below.refl _ _) hbn; clear hbn) | (go_at_call 14; (with_reducible refine (HFo.out _ _ (by with_reducible assumption)).mono ?_); rintro _ wm ⟨rfl, hbm⟩; have hby : Below w.heap.size w wm := tr3 (by with_reducible assumption) hbm; clear hbm) | (go_at_call 10; (with_reducible refine (HRo.out _ _ (by with_reducible assumption)).mono ?_); rintro _ wm ⟨ra, rc, rfl, hbm⟩; have hby : Below w.heap.size w wm := tr3 (by with_reducible assumption) hbm; clear hbm) | (go_at_call 12; (with_reducible refine (HBe.out _ _ (by with_reducible assumption)).mono ?_); rintro _ wm ⟨ra, rc, rfl, hbm⟩; have hby : Below w.heap.size w wm := tr3 (by with_reducible assumption) hbm; clear hbm))
  go_ret
  exact ⟨rfl, by with_reducible assumption⟩
end Go.Proofs.Ytgbeghaojkhiaaa.tr
