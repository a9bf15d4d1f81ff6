/- The document's builder: a strand begins; the next mark; the stage ahead (layer 30). -/
import Derived.Test.YtgbaaemocnjaoaaDgA
namespace Go.Proofs.Ytgbaaemocnjaoaa.dg
open Go.ChangeShapes Go.WideShapes Go.ChangeAt Go.RowKit
open Go.Proofs.Ytgbaaemocnjaoaa.ro Go.Proofs.Ytgbaaemocnjaoaa.sn
attribute [local go_sem ↓] Go.wp_at_zero Go.wp_at_succ
set_option linter.unusedVariables false
set_option linter.unusedSimpArgs false
set_option maxRecDepth 20000 in
theorem begin_full (w0 w : World) (r : Ro) (b : Nat) (lv : Value) (x : Dx) (n : Int × Int × Int) (u : Sl) (h : DB w0 w r b lv x) (hl : x.P.length = 1000) :
    Calls Try.prog 16 #[.pointer (some ⟨b, 0, none⟩), .agg #[.int .i64 n.1, .int .i64 n.2.1, .int .i64 n.2.2], sl u] w (DgP (.int .i64 0) fun r' w' => DB w0 w' r' b lv { x with er := 9, ov := true } ∧ KX (fun c => c = 1) r r' w w') := by
  obtain ⟨pa, pc, hpv, -⟩ := RR.form recS h.p.pr
  rw [h.p.pl, hl] at hpv
  obtain ⟨c0, c1, c2, c3, c4, c5, c6, cf⟩ := h.cells
  rw [hpv] at c2
  have f5 := cf 5
  have f6 := cf 6
  have hbl := lt_of h.o
  obtain ⟨h1, k1⟩ := h.set { x with er := 9 } 6 (.int .i64 9) ⟨rfl, rfl, rfl, rfl, rfl, rfl, rfl⟩ rfl
  obtain ⟨h2, k2⟩ := h1.set { x with er := 9, ov := true } 5 (.bool true) ⟨rfl, rfl, rfl, rfl, rfl, rfl, rfl⟩ rfl
  obtain ⟨h3, k3⟩ := h2.below (w' := ((w.setCell ⟨b, 6, none⟩ (.int .i64 9)).setCell ⟨b, 5, none⟩ (.bool true)).alloc (.cells #[.int .i64 n.1, .int .i64 n.2.1, .int .i64 n.2.2] 64)) 0 (by go_grown)
  have HF := Lib.hid (And.intro h3 ((k1.trans k2).trans (k3.mono (fun _ h => h.elim))))
  obtain ⟨ua, un, uc⟩ := u
  obtain ⟨n0, n1, n2⟩ := n
  clear h h1 k1 h2 k2 h3 k3 cf hpv
  unfold sl
  go_enter Try.func16, Try.ntmps16
  go_wp2_with fail
  go_ret
  exact ⟨rfl, _, HF.out.1, HF.out.2⟩
set_option maxHeartbeats 1000000 in
set_option maxRecDepth 20000 in
theorem begin_yes (w0 w : World) (r : Ro) (b : Nat) (lv : Value) (x : Dx) (n : Int × Int × Int) (u : Sl) (ps : List Int) (h : DB w0 w r b lv x) (hu : RD 1 enI w r 6 (sl u) ps) (hl : ¬ x.P.length = 1000) (h1 : x.P.length ≤ 100000) (h2 : x.N.length ≤ 100000) :
    Calls Try.prog 16 #[.pointer (some ⟨b, 0, none⟩), .agg #[.int .i64 n.1, .int .i64 n.2.1, .int .i64 n.2.2], sl u] w (DgP (.int .i64 (x.P.length : Int)) fun r' w' => ∃ pv nv us, DB w0 w' r' b lv { x with pv := pv, nv := nv, us := us, P := x.P ++ [ps], N := x.N ++ [n] } ∧ KX (fun c => c = 1 ∨ c = 3 ∨ c = 4) r r' w w') := by
  obtain ⟨W, hW⟩ : ∃ W, w.alloc (.cells #[.int .i64 n.1, .int .i64 n.2.1, .int .i64 n.2.2] 64) = W := ⟨_, rfl⟩
  obtain ⟨hA, kA⟩ := h.below (w' := W) 0 (by rw [← hW]; go_grown)
  have hN := heap_new w (.cells #[.int .i64 n.1, .int .i64 n.2.1, .int .i64 n.2.2] 64)
  rw [hW] at hN
  have hrN : ext r w.heap.size 0 w.heap.size = 0 := ext_ge r 0 (Nat.le_refl _)
  have huA := hu.keep kA (fun h => h)
  obtain ⟨pa, pc, hpv, -⟩ := RR.form recS h.p.pr
  rw [h.p.pl] at hpv
  obtain ⟨L, hL⟩ : ∃ L, x.P.length = L := ⟨_, rfl⟩
  rw [hL] at hpv hl h1
  obtain ⟨c0, c1, c2, c3, c4, c5, c6, cf⟩ := h.cells
  rw [hpv] at c2
  have f2 := cf 2
  have hbl := lt_of h.o
  have hLi : ¬ (L : Int) = 1000 := by omega
  have hLb : ((L : Int) == 1000) = false := by rw [beq_eq_false_iff_ne]; exact hLi
  have HPV : Hid (Value.slice pa L pc = x.pv) := Lib.hid hpv.symm
  have hLL : x.us.length ≤ 1000000 := by rw [h.p.pl, hL]; omega
  obtain ⟨ua, un, uc⟩ := u
  obtain ⟨n0, n1, n2⟩ := n
  obtain ⟨hB, kB⟩ := hA.below (w' := W.alloc (.cells #[.slice ua un uc] 39)) 0 (by go_grown)
  have hNB : (W.alloc (.cells #[.slice ua un uc] 39)).heap[w.heap.size]? = some (.cells #[.int .i64 n0, .int .i64 n1, .int .i64 n2] 64 (0, 0)) ∧ _ := kB.blk hN hrN (fun h => h)
  have huB := huA.keep kB (fun h => h)
  have HG := Lib.hid (And.intro hB (And.intro huB (And.intro hNB (kA.trans kB))))
  have HW := Lib.hid hW
  have HSZ : Hid (W.heap.size = w.heap.size + 1) := Lib.hid (by rw [← hW]; simp)
  have HL := Lib.hid hL
  clear h hu hA kA hN hrN huA hpv cf hB kB hNB huB hW hL
  unfold sl
  go_enter Try.func16, Try.ntmps16
  go_wp2_with ((at_builtin; rw [HW.out]; refine wpList_appR rfl _ _ 24 39 _ 24 rfl Try.underlying24 infS rfl (by decide) recS 0 x.pv x.us HPV.out ⟨w.heap.size + 1, 0, none⟩ 1 rfl (ua, un, uc) HG.out.1.p.pr.o (rec_new HSZ.out rfl) hLL (Nat.zero_le _) ?_))
  intro v' w2 ho2 hg2 hor2
  obtain ⟨va, vc, hv2⟩ : ∃ va vc, v' = .slice va (L + 1) vc := by
    obtain ⟨va, vc, e⟩ := OR.form ho2
    refine ⟨va, vc, ?_⟩
    rw [e]
    simp [HG.out.1.p.pl, HL.out]
  subst hv2
  obtain ⟨r3, hb2, hS3, hk3⟩ := HG.out.1.appP HG.out.2.1 hg2 ho2 (by simpa using hor2)
  have e1 : w2.cell? ⟨b, 2, none⟩ = some x.pv := cel hb2 2
  have ef1 := frz hb2 2
  have n6 : b < w2.heap.size := by have := lt_of hS3.o; rwa [set_size] at this
  obtain ⟨hN3, hr3⟩ := hk3.blk HG.out.2.2.1.1 HG.out.2.2.1.2 (by omega)
  obtain ⟨W3, hW3⟩ : ∃ W3, w2.setCell ⟨b, 2, none⟩ (.slice va (L + 1) vc) = W3 := ⟨_, rfl⟩
  rw [hW3] at hS3 hk3 hN3
  have HW3 := Lib.hid hW3
  have HH := Lib.hid (And.intro hS3 ((HG.out.2.2.2).to hk3))
  have p0 : W3.cell? ⟨w.heap.size, 0, none⟩ = some (.int .i64 n0) := cel hN3 0
  have p1 : W3.cell? ⟨w.heap.size, 1, none⟩ = some (.int .i64 n1) := cel hN3 1
  have p2 : W3.cell? ⟨w.heap.size, 2, none⟩ = some (.int .i64 n2) := cel hN3 2
  have m1 : w.heap.size < W3.heap.size := lt_of hN3
  have m2 : b < W3.heap.size := lt_of hS3.o
  have q2 : W3.cell? ⟨b, 3, none⟩ = some x.nv := cel hS3.o 3
  have q3 := frz hS3.o 3
  have HGo : Hid (∀ w', Below W3.heap.size W3 w' → OR 3 enN w' 0 64 x.nv x.N) := Lib.hid fun w' hb => (hS3.below 0 hb).1.p.no.o
  have HApp : Hid (∀ w3 w4 v', Below W3.heap.size W3 w3 → Hid (OR 3 enN w4 0 64 v' (x.N ++ [(n0, n1, n2)])) → w3.grownBy w4 x.nv.ownBlock → Hid (v'.ownBlock = x.nv.ownBlock ∨ v'.ownBlock = some w3.heap.size) → w4.cell? ⟨b, 3, none⟩ = some x.nv ∧ w4.frozen? ⟨b, 3, none⟩ = false ∧ (w4.setCell ⟨b, 3, none⟩ v').cell? ⟨b, 2, none⟩ = some (.slice va (L + 1) vc) ∧ Hid (∃ r', ∃ pv nv us, DB w0 (w4.setCell ⟨b, 3, none⟩ v') r' b lv { x with pv := pv, nv := nv, us := us, P := x.P ++ [ps], N := x.N ++ [(n0, n1, n2)] } ∧ KX (fun c => c = 1 ∨ c = 3 ∨ c = 4) r r' w (w4.setCell ⟨b, 3, none⟩ v'))) := Lib.hid fun w3 w4 v' hb ho hg hor => by
    obtain ⟨hS4, hk4⟩ := hS3.below 0 hb
    obtain ⟨r', hb4, hS5, hk5⟩ := hS4.appN hg ho.out hor.out
    exact ⟨cel hb4 3, frz hb4 3, cel hS5.o 2, Lib.hid ⟨r', _, v', _, hS5, ((HH.out.2).to (hk4.to hk5)).mono (fun c hc => by simp only [or_false, false_or] at hc; omega)⟩⟩
  have hnN : x.N.length ≤ 1000000 := by omega
  clear HH hS3 hk3 hb2 ho2 hg2 hor2 HG hW3 hN3 hr3 c0 c1 c2 c3 c4 c5 c6 h2 hLL f2 hl
  obtain ⟨na, nn, nc, hnv⟩ : ∃ a n c, x.nv = .slice a n c := form3 (HGo.out W3 (Below.refl _ _))
  rw [hnv] at q2
  have HNV := Lib.hid hnv
  clear hnv
  go_wp2_with fail
  rw [HW3.out]
  clear e1 ef1 n6 HW3
  go_region_law ((refine step_appR rfl _ _ 59 64 _ 24 (by rfl) Try.underlying59 infD rfl (by decide) recN x.nv x.N (n0, n1, n2) (by exact HNV.out.symm) W3.heap.size 1 (by rfl) (HGo.out _ (by go_grown)) (rec_new (by go_simp) rfl) hnN ?_; intro va vn vc w4 ho4 hg4 hor4; obtain ⟨c4, z4, d4, F4⟩ := HApp.out _ _ _ (by go_grown) ho4 hg4 hor4))
  all_goals
    clear ho4 hg4 hor4 c4 z4
    go_wp2_with fail
    go_ret
    exact ⟨by rw [HL.out]; go_num, F4.out⟩
end Go.Proofs.Ytgbaaemocnjaoaa.dg
