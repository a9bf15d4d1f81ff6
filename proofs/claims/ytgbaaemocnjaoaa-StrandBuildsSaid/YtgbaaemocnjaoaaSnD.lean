/- What the builder's steps do (layer 30): an access; a stage ends; the stage ahead; a child returns. -/
import Derived.Test.YtgbaaemocnjaoaaSnC
namespace Go.Proofs.Ytgbaaemocnjaoaa.sn
open Go.ChangeShapes Go.WideShapes Go.ChangeAt Go.RowKit
open Go.Proofs.Ytgbaaemocnjaoaa.ro
attribute [local go_sem ↓] Go.wp_at_zero Go.wp_at_succ
set_option linter.unusedVariables false
set_option linter.unusedSimpArgs false
section
variable {w0 w w' : World} {r r' : Ro} {b i : Nat} {x : Bx} {y : Fx} {v' : Value}
theorem SB.appU (h : SB w0 w r b x) (hi : x.S[i]? = some y) {n : Int} (hg : w.grownBy w' y.uv.ownBlock) (ho : OR 1 enI w' 0 3 v' (y.f.um ++ [n])) (hor : v'.ownBlock = y.uv.ownBlock ∨ v'.ownBlock = some w.heap.size) :
    ∃ r', w'.heap[y.F]? = some (.cells y.cs 52 (0, 0)) ∧ SB w0 (w'.setCell ⟨y.F, 2, none⟩ v') r' b { x with S := x.S.set i { y with uv := v', f := { y.f with um := y.f.um ++ [n] } } } ∧ KX (fun c => c = 9 + 4 * i ∨ c = 8 + 4 * i) r r' w (w'.setCell ⟨y.F, 2, none⟩ v') := by
  have hf := h.p.fr i y hi
  obtain ⟨hr, hk⟩ := hf.p.um.grown hg ho hor
  have hb := hk.blk hf.o hf.p.ro (by omega)
  have hp : FP w' (ext r w.heap.size (9 + 4 * i)) i { y with uv := v', f := { y.f with um := y.f.um ++ [n] } } := ⟨hb.2, hr, hf.p.pa.keep hk (by omega), hf.p.le.keep hk (by omega), hf.p.ah.keep hk (by omega)⟩
  obtain ⟨h3, hk3⟩ := FP.set (y := y) hp 2 v' hb.1 rfl rfl
  exact ⟨_, hb.1, h.frame hi rfl (hk.to hk3) (fun c hc => by omega) h3, hk.to hk3⟩
theorem SB.appL (h : SB w0 w r b x) (hi : x.S[i]? = some y) {n : Int} (hg : w.grownBy w' y.lv.ownBlock) (ho : OR 1 enI w' 0 3 v' (y.f.le ++ [n])) (hor : v'.ownBlock = y.lv.ownBlock ∨ v'.ownBlock = some w.heap.size) :
    ∃ r', w'.heap[y.F]? = some (.cells y.cs 52 (0, 0)) ∧ SB w0 (w'.setCell ⟨y.F, 9, none⟩ v') r' b { x with S := x.S.set i { y with lv := v', f := { y.f with le := y.f.le ++ [n] } } } ∧ KX (fun c => c = 11 + 4 * i ∨ c = 8 + 4 * i) r r' w (w'.setCell ⟨y.F, 9, none⟩ v') := by
  have hf := h.p.fr i y hi
  obtain ⟨hr, hk⟩ := hf.p.le.grown hg ho hor
  have hb := hk.blk hf.o hf.p.ro (by omega)
  have hp : FP w' (ext r w.heap.size (11 + 4 * i)) i { y with lv := v', f := { y.f with le := y.f.le ++ [n] } } := ⟨hb.2, hf.p.um.keep hk (by omega), hf.p.pa.keep hk (by omega), hr, hf.p.ah.keep hk (by omega)⟩
  obtain ⟨h3, hk3⟩ := FP.set (y := y) hp 9 v' hb.1 rfl rfl
  exact ⟨_, hb.1, h.frame hi rfl (hk.to hk3) (fun c hc => by omega) h3, hk.to hk3⟩
theorem SB.appPa (h : SB w0 w r b x) (hi : x.S[i]? = some y) {n : Int × Int} (hg : w.grownBy w' y.pv.ownBlock) (ho : OR 2 enP w' 0 77 v' (y.f.pa ++ [n])) (hor : v'.ownBlock = y.pv.ownBlock ∨ v'.ownBlock = some w.heap.size) :
    ∃ r', w'.heap[y.F]? = some (.cells y.cs 52 (0, 0)) ∧ SB w0 (w'.setCell ⟨y.F, 6, none⟩ v') r' b { x with S := x.S.set i { y with pv := v', f := { y.f with pa := y.f.pa ++ [n] } } } ∧ KX (fun c => c = 10 + 4 * i ∨ c = 8 + 4 * i) r r' w (w'.setCell ⟨y.F, 6, none⟩ v') := by
  have hf := h.p.fr i y hi
  obtain ⟨hr, hk⟩ := hf.p.pa.grown hg ho hor
  have hb := hk.blk hf.o hf.p.ro (by omega)
  have hp : FP w' (ext r w.heap.size (10 + 4 * i)) i { y with pv := v', f := { y.f with pa := y.f.pa ++ [n] } } := ⟨hb.2, hf.p.um.keep hk (by omega), hr, hf.p.le.keep hk (by omega), hf.p.ah.keep hk (by omega)⟩
  obtain ⟨h3, hk3⟩ := FP.set (y := y) hp 6 v' hb.1 rfl rfl
  exact ⟨_, hb.1, h.frame hi rfl (hk.to hk3) (fun c hc => by omega) h3, hk.to hk3⟩
/-- a cell of a frame's object that is no row. -/
theorem SB.setF (h : SB w0 w r b x) (hi : x.S[i]? = some y) (y' : Fx) (j : Nat) (v : Value) (hF : y'.F = y.F) (hu : y'.uv = y.uv ∧ y'.f.um = y.f.um) (hp : y'.pv = y.pv ∧ y'.f.pa = y.f.pa) (hl : y'.lv = y.lv ∧ y'.f.le = y.f.le) (ha : RD 2 enP w r 6 y'.av y'.f.ah) (hc : y.cs.set! j v = y'.cs) : SB w0 (w.setCell ⟨y.F, j, none⟩ v) r b { x with S := x.S.set i y' } ∧ KX (fun c => c = 8 + 4 * i) r r w (w.setCell ⟨y.F, j, none⟩ v) := by
  have hf := h.p.fr i y hi
  have hp : FP w r i y' := ⟨by rw [hF]; exact hf.p.ro, by rw [hu.1, hu.2]; exact hf.p.um, by rw [hp.1, hp.2]; exact hf.p.pa, by rw [hl.1, hl.2]; exact hf.p.le, ha⟩
  obtain ⟨h3, hk3⟩ := FP.set (y := y) hp j v (by rw [hF]; exact hf.o) hF.symm hc
  rw [hF] at h3 hk3
  exact ⟨h.frame hi hF hk3 (fun c hc => by omega) h3, hk3⟩
end
theorem access_of (w0 w : World) (r : Ro) (b i : Nat) (x : Bx) (y : Fx) (wd : Int) (wr : Bool) (h : SB w0 w r b x) (hi : x.S[i]? = some y) (h1 : x.A.length ≤ 100000) :
    Calls Try.prog 19 #[.pointer (some ⟨b, 0, none⟩), .pointer (some ⟨y.F, 0, none⟩), .int .i64 wd, .bool wr] w (StkP fun r' w' => ∃ v', SB w0 w' r' b { x with av := v', A := x.A ++ [(y.f.now, wd, wr)] } ∧ KX (fun c => c = 5 ∨ c = 1) r r' w w') := by
  have q3 : w.cell? ⟨b, 3, none⟩ = some x.av := cel h.o 3
  have f3 := frz h.o 3
  have q1 : w.cell? ⟨y.F, 1, none⟩ = some (.int .i64 y.f.now) := cel (h.p.fr i y hi).o 1
  obtain ⟨n1, n2, n3, n4⟩ := h.ne hi
  have HGo : Hid (∀ w', Below w.heap.size w w' → OR 3 enA w' 0 41 x.av x.A) := Lib.hid fun w' hb => (h.below 0 hb).1.p.ac.o
  have HApp : Hid (∀ w3 w4 v', Below w.heap.size w w3 → Hid (OR 3 enA w4 0 41 v' (x.A ++ [(y.f.now, wd, wr)])) → w3.grownBy w4 x.av.ownBlock → Hid (v'.ownBlock = x.av.ownBlock ∨ v'.ownBlock = some w3.heap.size) → w4.cell? ⟨b, 3, none⟩ = some x.av ∧ w4.frozen? ⟨b, 3, none⟩ = false ∧ Hid (∃ r', SB w0 (w4.setCell ⟨b, 3, none⟩ v') r' b { x with av := v', A := x.A ++ [(y.f.now, wd, wr)] } ∧ KX (fun c => c = 5 ∨ c = 1) r r' w (w4.setCell ⟨b, 3, none⟩ v'))) := Lib.hid fun w3 w4 v' hb ho hg hor => by
    obtain ⟨hS3, hk3⟩ := h.below 0 hb
    obtain ⟨r', hb4, hS4, hk4⟩ := hS3.appA hg ho.out hor.out
    exact ⟨cel hb4 3, frz hb4 3, Lib.hid ⟨r', hS4, (hk3.to hk4).mono (fun c hc => by simp only [or_false, false_or] at hc; omega)⟩⟩
  have hnN : x.A.length ≤ 1000000 := by omega
  obtain ⟨na, nn, nc, hnv⟩ : ∃ a n c, x.av = .slice a n c := form3 (HGo.out w (Below.refl _ _))
  rw [hnv] at q3
  have HNV := Lib.hid hnv
  clear hnv h hi h1
  go_enter Try.func19, Try.ntmps19
  go_wp2_with fail
  go_region_law ((refine step_appR rfl _ _ 26 41 _ 24 (by rfl) Try.underlying26 infA rfl (by decide) recA x.av x.A (y.f.now, wd, wr) (by exact HNV.out.symm) w.heap.size 1 (by rfl) (HGo.out _ (by go_grown)) (rec_new (by go_simp) rfl) hnN ?_; intro va vn vc w4 ho4 hg4 hor4; obtain ⟨c4, z4, F4⟩ := HApp.out _ _ _ (by go_grown) ho4 hg4 hor4))
  all_goals
    clear ho4 hg4 hor4 c4 z4
    go_wp2_with fail
    go_end0
    obtain ⟨r', F5⟩ := F4.out
    exact ⟨rfl, r', _, F5⟩
set_option maxHeartbeats 1000000 in
theorem end_of (w0 w : World) (r : Ro) (b i : Nat) (x : Bx) (y : Fx) (h : SB w0 w r b x) (hi : x.S[i]? = some y) (h1 : y.f.pa.length ≤ 100000) :
    Calls Try.prog 30 #[.pointer (some ⟨y.F, 0, none⟩)] w (StkP fun r' w' => ∃ v', SB w0 w' r' b { x with S := x.S.set i { y with pv := v', f := { y.f with pa := y.f.pa ++ [(y.f.sg, y.f.now)] } } } ∧ KX (fun c => c = 10 + 4 * i ∨ c = 8 + 4 * i) r r' w w') := by
  have q6 : w.cell? ⟨y.F, 6, none⟩ = some y.pv := cel (h.p.fr i y hi).o 6
  have f6 := frz (h.p.fr i y hi).o 6
  have q1 : w.cell? ⟨y.F, 1, none⟩ = some (.int .i64 y.f.now) := cel (h.p.fr i y hi).o 1
  have q5 : w.cell? ⟨y.F, 5, none⟩ = some (.int .i64 y.f.sg) := cel (h.p.fr i y hi).o 5
  obtain ⟨_, _, _, n4⟩ := h.ne hi
  have HGo : Hid (∀ w', Below w.heap.size w w' → OR 2 enP w' 0 77 y.pv y.f.pa) := Lib.hid fun w' hb => ((h.below 0 hb).1.p.fr i y hi).p.pa.o
  have HApp : Hid (∀ w3 w4 v', Below w.heap.size w w3 → Hid (OR 2 enP w4 0 77 v' (y.f.pa ++ [(y.f.sg, y.f.now)])) → w3.grownBy w4 y.pv.ownBlock → Hid (v'.ownBlock = y.pv.ownBlock ∨ v'.ownBlock = some w3.heap.size) → w4.cell? ⟨y.F, 6, none⟩ = some y.pv ∧ w4.frozen? ⟨y.F, 6, none⟩ = false ∧ Hid (∃ r', SB w0 (w4.setCell ⟨y.F, 6, none⟩ v') r' b { x with S := x.S.set i { y with pv := v', f := { y.f with pa := y.f.pa ++ [(y.f.sg, y.f.now)] } } } ∧ KX (fun c => c = 10 + 4 * i ∨ c = 8 + 4 * i) r r' w (w4.setCell ⟨y.F, 6, none⟩ v'))) := Lib.hid fun w3 w4 v' hb ho hg hor => by
    obtain ⟨hS3, hk3⟩ := h.below 0 hb
    obtain ⟨r', hb4, hS4, hk4⟩ := hS3.appPa hi hg ho.out hor.out
    exact ⟨cel hb4 6, frz hb4 6, Lib.hid ⟨r', hS4, (hk3.to hk4).mono (fun c hc => by simp only [or_false, false_or] at hc; omega)⟩⟩
  have hnN : y.f.pa.length ≤ 1000000 := by omega
  obtain ⟨na, nn, nc, hnv⟩ : ∃ a n c, y.pv = .slice a n c := form3 (HGo.out w (Below.refl _ _))
  rw [hnv] at q6
  have HNV := Lib.hid hnv
  clear hnv h hi h1
  go_enter Try.func30, Try.ntmps30
  go_wp2_with fail
  go_region_law ((refine step_appR rfl _ _ 50 77 _ 16 (by rfl) Try.underlying50 infP rfl (by decide) recP y.pv y.f.pa (y.f.sg, y.f.now) (by exact HNV.out.symm) w.heap.size 1 (by rfl) (HGo.out _ (by go_grown)) (rec_new (by go_simp) rfl) hnN ?_; intro va vn vc w4 ho4 hg4 hor4; obtain ⟨c4, z4, F4⟩ := HApp.out _ _ _ (by go_grown) ho4 hg4 hor4))
  all_goals
    clear ho4 hg4 hor4 c4 z4
    go_wp2_with fail
    go_end0
    obtain ⟨r', F5⟩ := F4.out
    exact ⟨rfl, r', _, F5⟩
end Go.Proofs.Ytgbaaemocnjaoaa.sn
