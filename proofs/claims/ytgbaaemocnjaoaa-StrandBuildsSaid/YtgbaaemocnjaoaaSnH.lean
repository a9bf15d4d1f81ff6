/- An iteration begins (layer 30). -/
import Derived.Test.YtgbaaemocnjaoaaSnG
namespace Go.Proofs.Ytgbaaemocnjaoaa.sn
open Go.ChangeShapes Go.WideShapes Go.ChangeAt Go.RowKit
open Go.Proofs.Ytgbaaemocnjaoaa.ro
attribute [local go_sem ↓] Go.wp_at_zero Go.wp_at_succ
set_option linter.unusedVariables false
set_option linter.unusedSimpArgs false
def newX (F : Nat) (kd lp it : Int) (av : Value) (ah : List (Int × Int)) : Fx := ⟨F, .slice none 0 0, .slice none 0 0, av, .slice none 0 0, ⟨kd, 0, [], lp, it, 0, [], ah, 0, []⟩⟩
section
variable {w0 w w' : World} {r r' : Ro} {b i : Nat} {x : Bx} {y : Fx}
theorem SB.newF (h : SB w0 w r b x) (kd lp it : Int) (av : Value) (ah : List (Int × Int)) (ha : RD 2 enP w r 6 av ah) :
    SB w0 (w.alloc (.cells (newX w.heap.size kd lp it av ah).cs 52)) (ext r w.heap.size (8 + 4 * x.S.length)) b x ∧ FR (w.alloc (.cells (newX w.heap.size kd lp it av ah).cs 52)) (ext r w.heap.size (8 + 4 * x.S.length)) x.S.length (newX w.heap.size kd lp it av ah) ∧ KX (fun _ => False) r (ext r w.heap.size (8 + 4 * x.S.length)) w (w.alloc (.cells (newX w.heap.size kd lp it av ah).cs 52)) := by
  obtain ⟨hS, hk⟩ := h.below (w' := w.alloc (.cells (newX w.heap.size kd lp it av ah).cs 52)) (8 + 4 * x.S.length) (by go_grown)
  exact ⟨hS, ⟨⟨ext_ge r _ (Nat.le_refl _), RR.nil _ _ _ _, RR.nil _ _ _ _, RR.nil _ _ _ _, ha.keep hk (fun h => h)⟩, heap_new w _⟩, hk⟩
theorem SB.two {T : List Fx} {q l : Fx} (h : SB w0 w r b x) (hS : x.S = T ++ [q, l]) : ∃ g c, x.sv = .slice (some ⟨g, 0, none⟩) (T.length + 2) c ∧ T.length + 2 ≤ c ∧ c ≤ maxLen ∧ w.cell? ⟨g, T.length, none⟩ = some (.pointer (some ⟨q.F, 0, none⟩)) := by
  obtain ⟨a, c, h1, h2, h3, h4⟩ := RR.form recF h.p.st
  obtain ⟨g, rfl, _, hc⟩ := h4 T.length q.F (by rw [hS]; simp)
  have hl : (x.S.map Fx.F).length = T.length + 2 := by rw [hS]; simp
  rw [hl] at h1 h2
  exact ⟨g, c, h1, h2, h3, by simpa using hc 0 _ rfl⟩
theorem RD.first {v : Value} {l : List (Int × Int)} {c : Nat} (h : RD 2 enP w r c v l) (hne : l ≠ []) : ∃ g o n cp, v = .slice (some ⟨g, o, none⟩) n cp ∧ 0 < n ∧ g < w.heap.size ∧ w.cell? ⟨g, o + 1, none⟩ = some (.int .i64 (l.getD 0 (0, 0)).2) := by
  obtain ⟨a, cap, rfl, h1, h2, h3, h4⟩ := h.o
  cases l with
  | nil => exact absurd rfl hne
  | cons p l =>
    obtain ⟨g, o, rfl, hg, hc⟩ := h4 0 p rfl
    exact ⟨g, o, _, cap, rfl, by simp, hg, by simpa using hc 1 _ rfl⟩
end
def befI (q l : Fm) : Int := if 0 < l.bg then (l.ah.getD 0 (0, 0)).2 else q.now
def iterP (T : List Fm) (q l : Fm) (s : PS) : PS := ⟨T ++ [q, { l with bg := l.bg + 1 }, ⟨3, (s.P.length : Int), [], l.lp, l.bg, 0, [], l.ah, 0, []⟩], s.P ++ [[befI q l]], s.N ++ [(l.lp, l.bg, 0)], s.A⟩
/-- From the new iteration's frame on. -/
theorem iter_tail (w0 w wa w1 : World) (r ra : Ro) (b : Nat) (x : Bx) (T : List Fx) (q l : Fx) (nav : Value) (h : SB w0 wa ra b x) (hk : KX (fun c => c ≠ 0) r ra w wa) (hS : x.S = T ++ [q, l]) (hb : Below (wa.alloc (.cells (newX wa.heap.size 3 l.f.lp l.f.bg l.av l.f.ah).cs 52)).heap.size (wa.alloc (.cells (newX wa.heap.size 3 l.f.lp l.f.bg l.av l.f.ah).cs 52)) w1) :
    ∃ r1, SB w0 w1 r1 b x ∧ FR w1 r1 (T.length + 2) (newX wa.heap.size 3 l.f.lp l.f.bg l.av l.f.ah) ∧ KX (fun c => c ≠ 0) r r1 w w1 := by
  have hi : x.S[T.length + 1]? = some l := by rw [hS, List.getElem?_append_right (by omega)]; simp
  have hl := h.p.fr _ l hi
  obtain ⟨h1, h2, h3⟩ := h.newF 3 l.f.lp l.f.bg l.av l.f.ah hl.p.ah
  have hn : x.S.length = T.length + 2 := by rw [hS]; simp
  rw [hn] at h1 h2 h3
  obtain ⟨h4, h5⟩ := h1.below 0 hb
  exact ⟨_, h4, h2.keep h5 (fun h => h) (fun _ _ _ h => h), (hk.to (h3.to h5)).mono (fun c hc => by simp only [or_false, false_or] at hc; exact hc)⟩
set_option maxHeartbeats 1000000 in
set_option maxRecDepth 20000 in
theorem iterate_of (w0 w : World) (r : Ro) (b : Nat) (x : Bx) (T : List Fx) (q l : Fx) (h : SB w0 w r b x) (hS : x.S = T ++ [q, l]) (hm : T.length ≤ 10000) (h2 : x.P.length ≤ 100000) (h3 : x.N.length ≤ 100000) (h4 : 0 ≤ l.f.bg) (h4' : l.f.bg ≤ 100000) (h5 : 0 < l.f.bg → l.f.ah ≠ []) :
    Calls Try.prog 23 #[.pointer (some ⟨b, 0, none⟩), .pointer (some ⟨l.F, 0, none⟩)] w (StkP (PX w0 w r b (iterP (T.map Fx.f) q.f l.f x.ps))) := by
  have hi1 : x.S[T.length + 1]? = some l := by rw [hS, List.getElem?_append_right (by omega)]; simp
  have hi0 : x.S[T.length]? = some q := by rw [hS, get_last]
  obtain ⟨g, c, hv, hc1, hc2, hc⟩ := h.two hS
  have c0 : w.cell? ⟨b, 0, none⟩ = some x.sv := cel h.o 0
  rw [hv] at c0
  have q1 : w.cell? ⟨q.F, 1, none⟩ = some (.int .i64 q.f.now) := cel (h.p.fr _ q hi0).o 1
  have l8 : w.cell? ⟨l.F, 8, none⟩ = some (.int .i64 l.f.bg) := cel (h.p.fr _ l hi1).o 8
  have l7 : w.cell? ⟨l.F, 7, none⟩ = some l.av := cel (h.p.fr _ l hi1).o 7
  obtain ⟨L, hL⟩ : ∃ L, T.length = L := ⟨_, rfl⟩
  have HLL := Lib.hid hL
  obtain ⟨n, hn⟩ : ∃ n, L + 2 = n := ⟨_, rfl⟩
  rw [hL] at c0 hc hc1 hm
  rw [hn] at c0 hc1
  have e1 : (n : Int) - 2 = (L : Int) := by omega
  have e2 : ¬ (n : Int) - 2 < 0 := by omega
  have e3 : (L : Int) < (n : Int) := by omega
  have e4 : (n : Int) ≤ 100002 := by omega
  have H := Lib.hid h
  have HS := Lib.hid hS
  have HTM : Hid (T.length ≤ 10000) := Lib.hid (by rw [HLL.out]; exact hm)
  by_cases hbg : 0 < l.f.bg
  · obtain ⟨g2, o2, n2, cp2, hav, hn2, hg2, hq2⟩ := RD.first (h.p.fr _ l hi1).p.ah (h5 hbg)
    obtain ⟨bf, hbf⟩ : ∃ bf, (l.f.ah.getD 0 (0, 0)).2 = bf := ⟨_, rfl⟩
    rw [hbf] at hq2
    have HB : Hid (befI q.f l.f = bf) := Lib.hid (by unfold befI; rw [if_pos hbg]; exact hbf)
    obtain ⟨va, vn, vc, hva, hvn, hvc⟩ : ∃ (va : Option Addr) (vn vc : Nat), va = some ⟨g2, o2, none⟩ ∧ vn = n2 ∧ vc = cp2 := ⟨_, _, _, rfl, rfl, rfl⟩
    have HAV : Hid (l.av = .slice va vn vc) := Lib.hid (by rw [hva, hvn, hvc]; exact hav)
    rw [hav, ← hvn, ← hvc] at l7
    rw [← hvn] at hn2
    have HVA := Lib.hid hva
    clear h hS hv hL hn hi0 hi1 h5 hav hbf hvn hvc hva
    go_enter Try.func23, Try.ntmps23
    go_wp2_with fail
    go_quiet (fail)
    go_wp2_with fail
    obtain ⟨W, hW⟩ : ∃ W, w.drewN nq = W := ⟨_, rfl⟩
    rw [hW]
    have hbW : Below w.heap.size w W := by rw [← hW]; exact below_drewN (Below.refl _ _) nq
    obtain ⟨hSW, hkW⟩ := H.out.below 0 hbW
    have HW := Lib.hid (And.intro hSW (hkW.mono (P' := fun c => c ≠ 0) (fun c h => h.elim)))
    have hiW : x.S[T.length + 1]? = some l := by rw [HS.out, List.getElem?_append_right (by omega)]; simp
    have hlW := hSW.p.fr _ l hiW
    have k3 : W.cell? ⟨l.F, 3, none⟩ = some (.int .i64 l.f.lp) := cel hlW.o 3
    have k8 : W.cell? ⟨l.F, 8, none⟩ = some (.int .i64 l.f.bg) := cel hlW.o 8
    have k7 : W.cell? ⟨l.F, 7, none⟩ = some (.slice va vn vc) := by rw [← HAV.out]; exact cel hlW.o 7
    have n6 : l.F < W.heap.size := lt_of hlW.o
    clear hSW hkW hiW hlW hbW hW H c0 hc q1 l7 l8 e1 e2 e3 e4 hc1 hc2 hq2 hg2 hn2 hbg
    go_region_held3 (fun w' => w'.cell? ⟨l.F, 3, none⟩ = some (.int .i64 l.f.lp) ∧ w'.cell? ⟨l.F, 8, none⟩ = some (.int .i64 l.f.bg) ∧ w'.cell? ⟨l.F, 7, none⟩ = some (.slice va vn vc)) (first | (with_reducible assumption) | exact ⟨k3, k8, k7⟩ | (refine ⟨?_, ?_, ?_⟩ <;> go_simp)) (fail)
    rename_i hHeld
    clear hHeld
    have HY : Hid (∃ Y : Fx, Y = newX W.heap.size 3 l.f.lp l.f.bg l.av l.f.ah) := Lib.hid ⟨_, rfl⟩
    obtain ⟨w1, hw1⟩ : ∃ w1, (W.alloc (.cells #[.int .i64 3, .int .i64 0, .slice none 0 0, .int .i64 l.f.lp, .int .i64 l.f.bg, .int .i64 0, .slice none 0 0, .slice va vn vc, .int .i64 0, .slice none 0 0] 52)).drew = w1 := ⟨_, rfl⟩
    rw [hw1]
    have hcs : (newX W.heap.size 3 l.f.lp l.f.bg l.av l.f.ah).cs = #[.int .i64 3, .int .i64 0, .slice none 0 0, .int .i64 l.f.lp, .int .i64 l.f.bg, .int .i64 0, .slice none 0 0, .slice va vn vc, .int .i64 0, .slice none 0 0] := by unfold newX Fx.cs; rw [HAV.out]
    obtain ⟨r1, hS1, hY1, hk1⟩ := iter_tail w0 w W w1 r _ b x T q l l.av HW.out.1 HW.out.2 HS.out (by rw [hcs, ← hw1]; go_grown)
    obtain ⟨Y, hYe⟩ : ∃ Y, newX W.heap.size 3 l.f.lp l.f.bg l.av l.f.ah = Y := ⟨_, rfl⟩
    have hYF : Y.F = W.heap.size := by rw [← hYe]; rfl
    have hYf : Y.f = ⟨3, 0, [], l.f.lp, l.f.bg, 0, [], l.f.ah, 0, []⟩ := by rw [← hYe]; rfl
    rw [hYe] at hY1
    rw [← hYF]
    have hi1 : x.S[T.length + 1]? = some l := by rw [HS.out, List.getElem?_append_right (by omega)]; simp
    have hl1 := hS1.p.fr _ l hi1
    have k8' : w1.cell? ⟨l.F, 8, none⟩ = some (.int .i64 l.f.bg) := cel hl1.o 8
    have kf8 := frz hl1.o 8
    obtain ⟨hS2, hk2⟩ := hS1.setF hi1 ({ l with f := { l.f with bg := l.f.bg + 1 } }) 8 (.int .i64 (l.f.bg + 1)) rfl ⟨rfl, rfl⟩ ⟨rfl, rfl⟩ ⟨rfl, rfl⟩ hl1.p.ah rfl
    rw [show x.S.set (T.length + 1) { l with f := { l.f with bg := l.f.bg + 1 } } = (T ++ [q]) ++ [{ l with f := { l.f with bg := l.f.bg + 1 } }] by rw [HS.out, show T ++ [q, l] = (T ++ [q]) ++ [l] by simp, show T.length + 1 = (T ++ [q]).length by simp, set_last]] at hS2
    have hY2 := hY1.keep hk2 (by omega) (fun c _ _ => by omega)
    have CP := Lib.hid (push_of w0 _ _ b _ Y hS2 (by simpa using hY2) (by have := HTM.out; simp; omega))
    have HK2 := Lib.hid (hk1.to hk2)
    have HYF := Lib.hid hYf
    clear HY hcs hS1 hY1 hk1 hYe hYF hi1 hl1 hS2 hk2 hY2 k3 k8 k7 n6 hw1 HW HAV hYf
    go_wp2_with fail
    refine CP.out.mono ?_
    rintro e w3 ⟨rfl, r3, v3, hS3, hk3⟩
    have hb4 : Below w3.heap.size w3 (w3.alloc (.cells #[.int .i64 bf] 3)) := by go_grown
    obtain ⟨hS4, hk4⟩ := hS3.below 6 hb4
    have CS := Lib.hid (strand_of w0 _ _ b (T ++ [q] ++ [{ l with f := { l.f with bg := l.f.bg + 1 } }]).length _ Y (some ⟨w3.heap.size, 0, none⟩, 1, 1) [bf] hS4 (get_last _ Y []) (rd_one r3 bf) h2 h3)
    have HK4 := Lib.hid ((HK2.out.to hk3).to hk4)
    clear CP hS3 hk3 hb4 hS4 hk4 k8' kf8
    unfold sl at CS
    go_wp2_with fail
    refine CS.out.mono ?_
    rintro e w7 ⟨rfl, r7, qv, nv, us, hS7, hk7⟩
    rw [set_last] at hS7
    clear CS
    go_wp2_with fail
    go_end0
    exact ⟨rfl, r7, _, hS7, by simp [Bx.ps, iterP, nodeOf, HYF.out, HB.out], (HK4.out.to hk7).mono (fun c hc => by simp only [or_false, false_or] at hc; omega)⟩
  · obtain ⟨bf, hbf⟩ : ∃ bf, q.f.now = bf := ⟨_, rfl⟩
    rw [hbf] at q1
    have HB : Hid (befI q.f l.f = bf) := Lib.hid (by unfold befI; rw [if_neg hbg]; exact hbf)
    obtain ⟨va, vn, vc, hav⟩ : ∃ a n c, l.av = .slice a n c := by
      obtain ⟨a, c, e, _⟩ := (h.p.fr _ l hi1).p.ah.o
      exact ⟨_, _, _, e⟩
    rw [hav] at l7
    have HAV := Lib.hid hav
    clear h hS hv hL hn hi0 hi1 h5 hav hbf
    go_enter Try.func23, Try.ntmps23
    go_wp2_with fail
    go_quiet (fail)
    go_wp2_with fail
    obtain ⟨W, hW⟩ : ∃ W, w.drewN nq = W := ⟨_, rfl⟩
    rw [hW]
    have hbW : Below w.heap.size w W := by rw [← hW]; exact below_drewN (Below.refl _ _) nq
    obtain ⟨hSW, hkW⟩ := H.out.below 0 hbW
    have HW := Lib.hid (And.intro hSW (hkW.mono (P' := fun c => c ≠ 0) (fun c h => h.elim)))
    have hiW : x.S[T.length + 1]? = some l := by rw [HS.out, List.getElem?_append_right (by omega)]; simp
    have hlW := hSW.p.fr _ l hiW
    have k3 : W.cell? ⟨l.F, 3, none⟩ = some (.int .i64 l.f.lp) := cel hlW.o 3
    have k8 : W.cell? ⟨l.F, 8, none⟩ = some (.int .i64 l.f.bg) := cel hlW.o 8
    have k7 : W.cell? ⟨l.F, 7, none⟩ = some (.slice va vn vc) := by rw [← HAV.out]; exact cel hlW.o 7
    have n6 : l.F < W.heap.size := lt_of hlW.o
    clear hSW hkW hiW hlW hbW hW H c0 hc q1 l7 l8 e1 e2 e3 e4 hc1 hc2 hbg
    go_region_held3 (fun w' => w'.cell? ⟨l.F, 3, none⟩ = some (.int .i64 l.f.lp) ∧ w'.cell? ⟨l.F, 8, none⟩ = some (.int .i64 l.f.bg) ∧ w'.cell? ⟨l.F, 7, none⟩ = some (.slice va vn vc)) (first | (with_reducible assumption) | exact ⟨k3, k8, k7⟩ | (refine ⟨?_, ?_, ?_⟩ <;> go_simp)) (fail)
    rename_i hHeld
    clear hHeld
    have HY : Hid (∃ Y : Fx, Y = newX W.heap.size 3 l.f.lp l.f.bg l.av l.f.ah) := Lib.hid ⟨_, rfl⟩
    obtain ⟨w1, hw1⟩ : ∃ w1, (W.alloc (.cells #[.int .i64 3, .int .i64 0, .slice none 0 0, .int .i64 l.f.lp, .int .i64 l.f.bg, .int .i64 0, .slice none 0 0, .slice va vn vc, .int .i64 0, .slice none 0 0] 52)).drew = w1 := ⟨_, rfl⟩
    rw [hw1]
    have hcs : (newX W.heap.size 3 l.f.lp l.f.bg l.av l.f.ah).cs = #[.int .i64 3, .int .i64 0, .slice none 0 0, .int .i64 l.f.lp, .int .i64 l.f.bg, .int .i64 0, .slice none 0 0, .slice va vn vc, .int .i64 0, .slice none 0 0] := by unfold newX Fx.cs; rw [HAV.out]
    obtain ⟨r1, hS1, hY1, hk1⟩ := iter_tail w0 w W w1 r _ b x T q l l.av HW.out.1 HW.out.2 HS.out (by rw [hcs, ← hw1]; go_grown)
    obtain ⟨Y, hYe⟩ : ∃ Y, newX W.heap.size 3 l.f.lp l.f.bg l.av l.f.ah = Y := ⟨_, rfl⟩
    have hYF : Y.F = W.heap.size := by rw [← hYe]; rfl
    have hYf : Y.f = ⟨3, 0, [], l.f.lp, l.f.bg, 0, [], l.f.ah, 0, []⟩ := by rw [← hYe]; rfl
    rw [hYe] at hY1
    rw [← hYF]
    have hi1 : x.S[T.length + 1]? = some l := by rw [HS.out, List.getElem?_append_right (by omega)]; simp
    have hl1 := hS1.p.fr _ l hi1
    have k8' : w1.cell? ⟨l.F, 8, none⟩ = some (.int .i64 l.f.bg) := cel hl1.o 8
    have kf8 := frz hl1.o 8
    obtain ⟨hS2, hk2⟩ := hS1.setF hi1 ({ l with f := { l.f with bg := l.f.bg + 1 } }) 8 (.int .i64 (l.f.bg + 1)) rfl ⟨rfl, rfl⟩ ⟨rfl, rfl⟩ ⟨rfl, rfl⟩ hl1.p.ah rfl
    rw [show x.S.set (T.length + 1) { l with f := { l.f with bg := l.f.bg + 1 } } = (T ++ [q]) ++ [{ l with f := { l.f with bg := l.f.bg + 1 } }] by rw [HS.out, show T ++ [q, l] = (T ++ [q]) ++ [l] by simp, show T.length + 1 = (T ++ [q]).length by simp, set_last]] at hS2
    have hY2 := hY1.keep hk2 (by omega) (fun c _ _ => by omega)
    have CP := Lib.hid (push_of w0 _ _ b _ Y hS2 (by simpa using hY2) (by have := HTM.out; simp; omega))
    have HK2 := Lib.hid (hk1.to hk2)
    have HYF := Lib.hid hYf
    clear HY hcs hS1 hY1 hk1 hYe hYF hi1 hl1 hS2 hk2 hY2 k3 k8 k7 n6 hw1 HW HAV hYf
    go_wp2_with fail
    refine CP.out.mono ?_
    rintro e w3 ⟨rfl, r3, v3, hS3, hk3⟩
    have hb4 : Below w3.heap.size w3 (w3.alloc (.cells #[.int .i64 bf] 3)) := by go_grown
    obtain ⟨hS4, hk4⟩ := hS3.below 6 hb4
    have CS := Lib.hid (strand_of w0 _ _ b (T ++ [q] ++ [{ l with f := { l.f with bg := l.f.bg + 1 } }]).length _ Y (some ⟨w3.heap.size, 0, none⟩, 1, 1) [bf] hS4 (get_last _ Y []) (rd_one r3 bf) h2 h3)
    have HK4 := Lib.hid ((HK2.out.to hk3).to hk4)
    clear CP hS3 hk3 hb4 hS4 hk4 k8' kf8
    unfold sl at CS
    go_wp2_with fail
    refine CS.out.mono ?_
    rintro e w7 ⟨rfl, r7, qv, nv, us, hS7, hk7⟩
    rw [set_last] at hS7
    clear CS
    go_wp2_with fail
    go_end0
    exact ⟨rfl, r7, _, hS7, by simp [Bx.ps, iterP, nodeOf, HYF.out, HB.out], (HK4.out.to hk7).mono (fun c hc => by simp only [or_false, false_or] at hc; omega)⟩
end Go.Proofs.Ytgbaaemocnjaoaa.sn
