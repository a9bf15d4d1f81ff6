/- A child returns; an iteration begins, goes on, ends (layer 30). -/
import Derived.Test.YtgbaaemocnjaoaaSnE
namespace Go.Proofs.Ytgbaaemocnjaoaa.sn
open Go.ChangeShapes Go.WideShapes Go.ChangeAt Go.RowKit
open Go.Proofs.Ytgbaaemocnjaoaa.ro
attribute [local go_sem ↓] Go.wp_at_zero Go.wp_at_succ
set_option linter.unusedVariables false
set_option linter.unusedSimpArgs false
structure PS where
  S : List Fm
  P : List (List Int)
  N : List (Int × Int × Int)
  A : List (Int × Int × Bool)
def Bx.ps (x : Bx) : PS := ⟨x.S.map Fx.f, x.P, x.N, x.A⟩
def PX (w0 w : World) (r : Ro) (b : Nat) (s : PS) (r' : Ro) (w' : World) : Prop := ∃ x', SB w0 w' r' b x' ∧ x'.ps = s ∧ KX (fun c => c ≠ 0) r r' w w'
theorem set_last {α : Type} (T : List α) (a c : α) (l : List α) : (T ++ a :: l).set T.length c = T ++ c :: l := by
  rw [List.set_append_right _ _ (Nat.le_refl _)]; simp
theorem get_last {α : Type} (T : List α) (a : α) (l : List α) : (T ++ a :: l)[T.length]? = some a := by
  rw [List.getElem?_append_right (Nat.le_refl _)]; simp
theorem rd_one {w : World} (r : Ro) (n : Int) : RD 1 enI (w.alloc (.cells #[.int .i64 n] 3)) (ext r w.heap.size 6) 6 (.slice (some ⟨w.heap.size, 0, none⟩) 1 1) [n] := by
  refine ⟨⟨_, 1, rfl, Nat.le_refl _, by decide, fun e => (by cases e), fun i x hx => ⟨w.heap.size, 0, rfl, by simp, fun j u hu => ?_⟩⟩, fun g hg => ?_⟩
  · have hi : i = 0 := by have := (List.getElem?_eq_some_iff.1 hx).1; simpa using this
    subst hi
    simp at hx; subst hx
    have hj : j = 0 := by have := (List.getElem?_eq_some_iff.1 hu).1; simpa [enI] using this
    subst hj
    simp [enI] at hu
    subst hu
    exact (cel (heap_new w _) 0).trans rfl
  · simp [Value.ownBlock] at hg
    subst hg
    exact ⟨by simp, ext_ge r 6 (Nat.le_refl _)⟩
def retP (T : List Fm) (z y : Fm) (s : PS) : PS := ⟨T ++ [{ z with um := z.um ++ [y.now], now := (s.P.length : Int) }], s.P ++ [[z.now]], s.N ++ [nodeOf z], s.A⟩
set_option maxHeartbeats 1000000 in
set_option maxRecDepth 20000 in
theorem returns_of (w0 w : World) (r : Ro) (b : Nat) (x : Bx) (T : List Fx) (z y : Fx) (h : SB w0 w r b x) (hS : x.S = T ++ [z, y]) (hm : T.length ≤ 10000) (h1 : x.P.length ≤ 100000) (h2 : x.N.length ≤ 100000) (h3 : z.f.um.length ≤ 100000) :
    Calls Try.prog 21 #[.pointer (some ⟨b, 0, none⟩), .pointer (some ⟨y.F, 0, none⟩)] w (StkP (PX w0 w r b (retP (T.map Fx.f) z.f y.f x.ps))) := by
  have hS' : x.S = (T ++ [z]) ++ [y] := by rw [hS]; simp
  have C1 := Lib.hid (pop_of w0 w r b x (T ++ [z]) y h hS' (by simp; omega))
  have HY := Lib.hid (h.p.fr (T.length + 1) y (by rw [hS, List.getElem?_append_right (by omega)]; simp))
  have HZ := Lib.hid (h.p.fr T.length z (by rw [hS, get_last]))
  clear h hS hS'
  go_enter Try.func21, Try.ntmps21
  go_wp2_with fail
  refine C1.out.mono ?_
  rintro e w1 ⟨rfl, r1, v1, hS1, hk1⟩
  have hY1 := HY.out.keep hk1 (by omega) (fun c _ _ => by omega)
  clear C1
  go_wp2_with fail
  refine (top_of w0 w1 r1 b _ T z hS1 rfl (by omega)).mono ?_
  rintro e w2 ⟨rfl, n2, hw2⟩
  have hb2 : Below w1.heap.size w1 w2 := by rw [hw2]; exact below_drewN (Below.refl _ _) n2
  obtain ⟨hS2, hk2⟩ := hS1.below 0 hb2
  have hY2 := hY1.keep hk2 (fun h => h) (fun _ _ _ h => h)
  have hk02 := hk1.to hk2
  clear hS1 hk1 hY1 hk2 hw2 hb2 HY HZ
  have hi2 : (T ++ [z])[T.length]? = some z := get_last T z []
  have hZ2 := hS2.p.fr T.length z hi2
  have q2 : w2.cell? ⟨z.F, 2, none⟩ = some z.uv := cel hZ2.o 2
  have f2 := frz hZ2.o 2
  have q1 : w2.cell? ⟨y.F, 1, none⟩ = some (.int .i64 y.f.now) := cel hY2.o 1
  have n4 := lt_of hZ2.o
  have n5 := lt_of hY2.o
  have HGo : Hid (∀ w', Below w2.heap.size w2 w' → OR 1 enI w' 0 3 z.uv z.f.um) := Lib.hid fun w' hb => ((hS2.below 0 hb).1.p.fr _ z hi2).p.um.o
  have HApp : Hid (∀ w3 w4 v', Below w2.heap.size w2 w3 → Hid (OR 1 enI w4 0 3 v' (z.f.um ++ [y.f.now])) → w3.grownBy w4 z.uv.ownBlock → Hid (v'.ownBlock = z.uv.ownBlock ∨ v'.ownBlock = some w3.heap.size) → w4.cell? ⟨z.F, 2, none⟩ = some z.uv ∧ w4.frozen? ⟨z.F, 2, none⟩ = false ∧ Hid (∃ r', SB w0 (w4.setCell ⟨z.F, 2, none⟩ v') r' b ⟨v1, x.pv, x.nv, x.av, T ++ [{ z with uv := v', f := { z.f with um := z.f.um ++ [y.f.now] } }], x.us, x.P, x.N, x.A⟩ ∧ KX (fun c => c ≠ 0) r r' w (w4.setCell ⟨z.F, 2, none⟩ v'))) := Lib.hid fun w3 w4 v' hb ho hg hor => by
    obtain ⟨hS3, hk3⟩ := hS2.below 0 hb
    obtain ⟨r', hb4, hS4, hk4⟩ := hS3.appU hi2 hg ho.out hor.out
    rw [show ({ sv := v1, pv := x.pv, nv := x.nv, av := x.av, S := T ++ [z], us := x.us, P := x.P, N := x.N, A := x.A } : Bx).S = T ++ [z] from rfl, set_last] at hS4
    exact ⟨cel hb4 2, frz hb4 2, Lib.hid ⟨r', hS4, ((hk02.to hk3).to hk4).mono (fun c hc => by simp only [or_false, false_or] at hc; omega)⟩⟩
  have hnN : z.f.um.length ≤ 1000000 := by omega
  obtain ⟨na, nn, nc, hnv⟩ : ∃ a n c, z.uv = .slice a n c := form3 (HGo.out w2 (Below.refl _ _))
  rw [hnv] at q2
  have HNV := Lib.hid hnv
  clear hnv hS2 hY2 hZ2 hi2 hk02 h3
  go_wp2_with fail
  go_region_law ((refine step_appR rfl _ _ 39 3 _ 8 (by rfl) Try.underlying39 infI rfl (by decide) recI z.uv z.f.um y.f.now (by exact HNV.out.symm) w2.heap.size 1 (by rfl) (HGo.out _ (by go_grown)) (rec_new (by go_simp) rfl) hnN ?_; intro va vn vc w4 ho4 hg4 hor4; obtain ⟨c4, z4, F4⟩ := HApp.out _ _ _ (by go_grown) ho4 hg4 hor4))
  all_goals
    clear ho4 hg4 hor4 c4 z4
    obtain ⟨r5, hS5, hk5⟩ := F4.out
    obtain ⟨w5, hw5⟩ : ∃ w5, w4.setCell ⟨z.F, 2, none⟩ (.slice va vn vc) = w5 := ⟨_, rfl⟩
    rw [hw5] at hS5 hk5 ⊢
    clear hw5 F4 HApp HGo HNV q2 f2 q1 n4 n5
    have hi5 : (T ++ [({ z with uv := .slice va vn vc, f := { z.f with um := z.f.um ++ [y.f.now] } } : Fx)])[T.length]? = some _ := get_last T _ []
    have q1 : w5.cell? ⟨z.F, 1, none⟩ = some (.int .i64 z.f.now) := cel (hS5.p.fr _ _ hi5).o 1
    have hb6 : Below w5.heap.size w5 (w5.alloc (.cells #[.int .i64 z.f.now] 3)) := by go_grown
    obtain ⟨hS6, hk6⟩ := hS5.below 6 hb6
    have CS := Lib.hid (strand_of w0 _ _ b T.length _ _ (some ⟨w5.heap.size, 0, none⟩, 1, 1) [z.f.now] hS6 hi5 (rd_one r5 z.f.now) h1 h2)
    have HK := Lib.hid (hk5.to hk6)
    clear hS5 hS6 hk5 hk6 hb6 hi5
    unfold sl at CS
    go_wp2_with fail
    refine CS.out.mono ?_
    rintro e w7 ⟨rfl, r7, pv, nv, us, hS7, hk7⟩
    rw [set_last] at hS7
    clear CS q1
    go_wp2_with fail
    go_end0
    exact ⟨rfl, r7, _, hS7, by simp [Bx.ps, retP, nodeOf], (HK.out.to hk7).mono (fun c hc => by simp only [or_false, false_or] at hc; omega)⟩
end Go.Proofs.Ytgbaaemocnjaoaa.sn
