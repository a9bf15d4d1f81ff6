/- An iteration ends, goes on, begins (layer 30). -/
import Derived.Test.YtgbaaemocnjaoaaSnF
namespace Go.Proofs.Ytgbaaemocnjaoaa.sn
open Go.ChangeShapes Go.WideShapes Go.ChangeAt Go.RowKit
open Go.Proofs.Ytgbaaemocnjaoaa.ro
attribute [local go_sem ↓] Go.wp_at_zero Go.wp_at_succ
set_option linter.unusedVariables false
set_option linter.unusedSimpArgs false
section
variable {w0 w w' : World} {r r' : Ro} {b i : Nat} {x : Bx} {y : Fx}
/-- Roles that the builder does not know are turned. -/
theorem SB.turn (h : SB w0 w r b x) (c d : Nat) (hc : 8 + 4 * x.S.length ≤ c) : SB w0 w (fun k => if r k = c then d else r k) b x ∧ KX (· = c) r (fun k => if r k = c then d else r k) w w := by
  have hk := KX.turn r c d w
  have hb := hk.blk h.o h.p.ro (by omega)
  have hz := hk.bel (B := w0.heap.size) (by omega) h.p.z h.p.b.size
  exact ⟨⟨⟨hb.2, h.p.st.keep hk (by omega), h.p.pr.keep hk (by omega), h.p.no.keep hk (by omega), h.p.ac.keep hk (by omega), h.p.pl, fun i u hu => (h.p.pe i u hu).keep hk (by omega), fun i y hy => (h.p.fr i y hy).keep hk (by omega) (fun e h1 h2 => by have := (List.getElem?_eq_some_iff.1 hy).1; omega), hz.2, h.p.b⟩, hb.1⟩, hk⟩
end
def doneP (T : List Fm) (l y : Fm) (s : PS) : PS := ⟨T ++ [{ l with ah := y.pa ++ [(y.sg, y.now)], le := l.le ++ [y.now] }], s.P, s.N, s.A⟩
set_option maxHeartbeats 1000000 in
set_option maxRecDepth 20000 in
theorem done_of (w0 w : World) (r : Ro) (b : Nat) (x : Bx) (T : List Fx) (z y : Fx) (h : SB w0 w r b x) (hS : x.S = T ++ [z, y]) (hm : T.length ≤ 10000) (h1 : y.f.pa.length ≤ 100000) (h3 : z.f.le.length ≤ 100000) :
    Calls Try.prog 24 #[.pointer (some ⟨b, 0, none⟩), .pointer (some ⟨y.F, 0, none⟩)] w (StkP (PX w0 w r b (doneP (T.map Fx.f) z.f y.f x.ps))) := by
  have hi : x.S[T.length + 1]? = some y := by rw [hS, List.getElem?_append_right (by omega)]; simp
  have C1 := Lib.hid (end_of w0 w r b (T.length + 1) x y h hi h1)
  have hset : ∀ y' : Fx, x.S.set (T.length + 1) y' = (T ++ [z]) ++ [y'] := fun y' => by
    rw [hS, show T ++ [z, y] = (T ++ [z]) ++ [y] by simp, show T.length + 1 = (T ++ [z]).length by simp, set_last]
  have HSET := Lib.hid hset
  clear h hS hi hset h1
  go_enter Try.func24, Try.ntmps24
  go_wp2_with fail
  refine C1.out.mono ?_
  rintro e w1 ⟨rfl, r1, pv1, hS1, hk1⟩
  rw [HSET.out] at hS1
  clear C1
  go_wp2_with fail
  refine (pop_of w0 w1 r1 b _ (T ++ [z]) _ hS1 rfl (by simp; omega)).mono ?_
  rintro e w2 ⟨rfl, r2, v2, hS2, hk2⟩
  have hy1 := hS1.p.fr (T ++ [z]).length _ (get_last (T ++ [z]) _ [])
  rw [show (T ++ [z]).length = T.length + 1 by simp] at hy1
  have hy2 := hy1.keep hk2 (by omega) (fun c _ _ => by omega)
  have hk02 := hk1.to hk2
  clear hS1 hk1 hy1 hk2
  go_wp2_with fail
  refine (top_of w0 w2 r2 b _ T z hS2 rfl (by omega)).mono ?_
  rintro e w3 ⟨rfl, n3, hw3⟩
  have hb3 : Below w2.heap.size w2 w3 := by rw [hw3]; exact below_drewN (Below.refl _ _) n3
  obtain ⟨hS3, hk3⟩ := hS2.below 0 hb3
  have hy3 := hy2.keep hk3 (fun h => h) (fun _ _ _ h => h)
  have hk03 := hk02.to hk3
  clear hS2 hk02 hk3 hy2 hw3 hb3
  -- the iteration's stages are read from here on
  obtain ⟨hS4, hk4⟩ := hS3.turn (10 + 4 * (T.length + 1)) 6 (by simp)
  have hra := hy3.p.pa.turn recP 6
  have hyo := hk4.blk hy3.o hy3.p.ro (by omega)
  have hk04 := hk03.to hk4
  have hi4 : (T ++ [z])[T.length]? = some z := get_last T z []
  obtain ⟨pa, pn, pc, hpv⟩ : ∃ a n c, pv1 = .slice a n c := form3 hy3.p.pa.o
  subst hpv
  obtain ⟨hS5, hk5⟩ := hS4.setF hi4 ({ z with av := .slice pa pn pc, f := { z.f with ah := y.f.pa ++ [(y.f.sg, y.f.now)] } }) 7 (.slice pa pn pc) rfl ⟨rfl, rfl⟩ ⟨rfl, rfl⟩ ⟨rfl, rfl⟩ hra rfl
  have hz4 := hS4.p.fr _ z hi4
  have q4 : w3.cell? ⟨y.F, 6, none⟩ = some (.slice pa pn pc) := cel hyo.1 6
  have q7 : w3.cell? ⟨z.F, 7, none⟩ = some z.av := cel hz4.o 7
  have f7 := frz hz4.o 7
  have hne : z.F ≠ y.F := fun e => by
    have e1 := hz4.p.ro
    have e2 := hyo.2
    rw [e] at e1
    dsimp only at e1 e2
    omega
  have hyo5 := hk5.blk hyo.1 hyo.2 (by omega)
  have hk05 := Lib.hid (hk04.to hk5)
  clear hS3 hk03 hk4 hk04 hS4 hk5 hra hz4 hyo hy3
  rw [show ({ sv := v2, pv := x.pv, nv := x.nv, av := x.av, S := T ++ [z], us := x.us, P := x.P, N := x.N, A := x.A } : Bx).S = T ++ [z] from rfl, set_last] at hS5
  obtain ⟨w5, hw5⟩ : ∃ w5, w3.setCell ⟨z.F, 7, none⟩ (.slice pa pn pc) = w5 := ⟨_, rfl⟩
  rw [hw5] at hS5 hyo5
  replace hk05 := Lib.hid (hw5 ▸ hk05.out)
  go_wp2_with fail
  clear q4 q7 f7 hne hw5
  have hi5 : (T ++ [({ z with av := .slice pa pn pc, f := { z.f with ah := y.f.pa ++ [(y.f.sg, y.f.now)] } } : Fx)])[T.length]? = some _ := get_last T _ []
  have hz5 := hS5.p.fr _ _ hi5
  have q9 : w5.cell? ⟨z.F, 9, none⟩ = some z.lv := cel hz5.o 9
  have f9 := frz hz5.o 9
  have q1 : w5.cell? ⟨y.F, 1, none⟩ = some (.int .i64 y.f.now) := cel hyo5.1 1
  have n4 : z.F < w5.heap.size := lt_of hz5.o
  have n5 : y.F < w5.heap.size := lt_of hyo5.1
  have HGo : Hid (∀ w', Below w5.heap.size w5 w' → OR 1 enI w' 0 3 z.lv z.f.le) := Lib.hid fun w' hb => ((hS5.below 0 hb).1.p.fr _ _ hi5).p.le.o
  have HApp : Hid (∀ w6 w7 v', Below w5.heap.size w5 w6 → Hid (OR 1 enI w7 0 3 v' (z.f.le ++ [y.f.now])) → w6.grownBy w7 z.lv.ownBlock → Hid (v'.ownBlock = z.lv.ownBlock ∨ v'.ownBlock = some w6.heap.size) → w7.cell? ⟨z.F, 9, none⟩ = some z.lv ∧ w7.frozen? ⟨z.F, 9, none⟩ = false ∧ Hid (∃ r', PX w0 w r b (doneP (T.map Fx.f) z.f y.f x.ps) r' (w7.setCell ⟨z.F, 9, none⟩ v'))) := Lib.hid fun w6 w7 v' hb ho hg hor => by
    obtain ⟨hS6, hk6⟩ := hS5.below 0 hb
    obtain ⟨r', hb7, hS7, hk7⟩ := hS6.appL hi5 hg ho.out hor.out
    rw [set_last] at hS7
    exact ⟨cel hb7 9, frz hb7 9, Lib.hid ⟨r', _, hS7, by simp [Bx.ps, doneP], ((hk05.out.to hk6).to hk7).mono (fun c hc => by simp only [or_false, false_or] at hc; omega)⟩⟩
  have hnN : z.f.le.length ≤ 1000000 := by omega
  obtain ⟨na, nn, nc, hnv⟩ : ∃ a n c, z.lv = .slice a n c := form3 (HGo.out w5 (Below.refl _ _))
  rw [hnv] at q9
  have HNV := Lib.hid hnv
  clear hnv hS5 hyo5 hz5 hi5 hk05 h3 hi4
  go_wp2_with fail
  go_region_law ((refine step_appR rfl _ _ 39 3 _ 8 (by rfl) Try.underlying39 infI rfl (by decide) recI z.lv z.f.le y.f.now (by exact HNV.out.symm) w5.heap.size 1 (by rfl) (HGo.out _ (by go_grown)) (rec_new (by go_simp) rfl) hnN ?_; intro va vn vc w7 ho4 hg4 hor4; obtain ⟨c4, z4, F4⟩ := HApp.out _ _ _ (by go_grown) ho4 hg4 hor4))
  all_goals
    clear ho4 hg4 hor4 c4 z4
    go_wp2_with fail
    go_end0
    obtain ⟨r', F5⟩ := F4.out
    exact ⟨rfl, r', F5⟩
def goP (T : List Fm) (y : Fm) (k a : Int) (s : PS) : PS := ⟨T ++ [{ y with pa := y.pa ++ [(y.sg, y.now)], sg := a, now := (s.P.length : Int) }], s.P ++ [y.now :: if k = 11 ∧ 0 < y.it then [befP y.ah a] else []], s.N ++ [nodeOf { y with sg := a }], s.A⟩
set_option maxHeartbeats 1000000 in
set_option maxRecDepth 20000 in
theorem goTo_of (w0 w : World) (r : Ro) (b : Nat) (x : Bx) (T : List Fx) (y : Fx) (k a c : Int) (h : SB w0 w r b x) (hS : x.S = T ++ [y]) (hk : k = 11 ∨ k = 12) (hm : T.length ≤ 10000) (h1 : y.f.pa.length ≤ 100000) (h2 : x.P.length ≤ 100000) (h3 : x.N.length ≤ 100000) (h4 : y.f.ah.length ≤ 100000) (h5 : 0 < y.f.it → y.f.ah ≠ []) :
    Calls Try.prog 25 #[.pointer (some ⟨b, 0, none⟩), .pointer (some ⟨y.F, 0, none⟩), .agg #[.int .i64 k, .int .i64 a, .int .i64 c]] w (StkP (PX w0 w r b (goP (T.map Fx.f) y.f k a x.ps))) := by
  have hi : x.S[T.length]? = some y := by rw [hS, get_last]
  have hb1 : Below w.heap.size w (w.alloc (.cells #[.int .i64 k, .int .i64 a, .int .i64 c] 45)) := by go_grown
  obtain ⟨hS1, hk1⟩ := h.below 0 hb1
  have hM1 := heap_new w (.cells #[.int .i64 k, .int .i64 a, .int .i64 c] 45)
  have hr1 : ext r w.heap.size 0 w.heap.size = 0 := ext_ge r 0 (Nat.le_refl _)
  have C1 := Lib.hid (end_of w0 _ _ b T.length x y hS1 hi h1)
  have HSET := Lib.hid (fun y' : Fx => (show x.S.set T.length y' = T ++ [y'] by rw [hS, set_last]))
  have HM1 := Lib.hid (And.intro hM1 hr1)
  have HK1 := Lib.hid hk1
  clear h hS hi h1 hS1 hk1 hM1 hr1 hb1
  by_cases hc : k = 11 ∧ 0 < y.f.it
  · obtain ⟨rfl, hit⟩ := hc
    go_enter Try.func25, Try.ntmps25
    go_wp2_with fail
    refine C1.out.mono ?_
    rintro e w2 ⟨rfl, r2, pv2, hS2, hk2⟩
    rw [HSET.out] at hS2
    obtain ⟨hM2, hr2⟩ := hk2.blk HM1.out.1 HM1.out.2 (by omega)
    have hi2 : (T ++ [({ y with pv := pv2, f := { y.f with pa := y.f.pa ++ [(y.f.sg, y.f.now)] } } : Fx)])[T.length]? = some _ := get_last T _ []
    have hy2 := hS2.p.fr _ _ hi2
    have hk02 := HK1.out.to hk2
    have q1 : w2.cell? ⟨y.F, 1, none⟩ = some (.int .i64 y.f.now) := cel hy2.o 1
    have q4 : w2.cell? ⟨y.F, 4, none⟩ = some (.int .i64 y.f.it) := cel hy2.o 4
    have m0 : w2.cell? ⟨w.heap.size, 0, none⟩ = some (.int .i64 11) := cel hM2 0
    have m1 : w2.cell? ⟨w.heap.size, 1, none⟩ = some (.int .i64 a) := cel hM2 1
    have n4 : y.F < w2.heap.size := lt_of hy2.o
    have n5 : w.heap.size < w2.heap.size := lt_of hM2
    clear C1 hk2 HK1
    have q7 : w2.cell? ⟨y.F, 7, none⟩ = some y.av := cel hy2.o 7
    have hb3 : Below w2.heap.size w2 (w2.alloc (.cells #[.int .i64 y.f.now] 3)) := by go_grown
    obtain ⟨hS3, hk3⟩ := hS2.below 0 hb3
    have hy3 := hS3.p.fr _ _ hi2
    have CB := Lib.hid (before_of _ _ y.F y.av y.f.ah a (cel hy3.o 7) hy3.p.ah (h5 hit) h4)
    have ho3 : OR 1 enI (w2.alloc (.cells #[.int .i64 y.f.now] 3)) w2.heap.size 3 (.slice (some ⟨w2.heap.size, 0, none⟩) 1 1) [y.f.now] := ⟨rfl, .inr ⟨w2.heap.size, 1, #[.int .i64 y.f.now], rfl, Nat.le_refl _, heap_new _ _, Nat.le_refl _, by decide, rfl, rfl⟩⟩
    have HO3 := Lib.hid (And.intro ho3 hb3)
    have HS2 := Lib.hid hS2
    have HM2 := Lib.hid (And.intro hM2 hr2)
    have HK2 := Lib.hid hk02
    clear hS2 hS3 hk3 hy3 hy2 hi2 hb3 ho3 hM2 hr2 h4 h5 hk02
    go_wp2_with fail
    refine CB.out.mono ?_
    rintro e w3 ⟨rfl, hb⟩
    have hb23 := HO3.out.2.trans (hb.mono HO3.out.2.size)
    have ho3 := OR.below HO3.out.1 hb
    have hbA : Below w3.heap.size w3 (w3.alloc (.cells #[.int .i64 (befP y.f.ah a)] 3)) := by go_grown
    have ho4 := OR.below ho3 hbA
    have hsz3 := hb23.size
    have hbw := hb23.trans (hbA.mono hsz3)
    have HO4 := Lib.hid (And.intro ho4 hbw)
    have hB : w2.heap.size ≤ (w3.alloc (.cells #[.int .i64 (befP y.f.ah a)] 3)).heap.size := hbw.size
    clear CB HO3 ho3 ho4 hb hbA hb23 q7 hbw
    go_wp2_with ((at_builtin; refine wpList_appR rfl _ _ 39 3 _ 8 rfl Try.underlying39 infI rfl (by decide) recI w2.heap.size (.slice (some ⟨w2.heap.size, 0, none⟩) 1 1) [y.f.now] rfl ⟨w3.heap.size, 0, none⟩ 1 rfl (befP y.f.ah a) HO4.out.1 (rec_new rfl rfl) (by simp) hB ?_))
    intro v' w6 ho6 hg6 hor6
    obtain ⟨va, vn, vc, rfl⟩ := form3 ho6
    have hb6 : Below w2.heap.size w2 w6 := HO4.out.2.grown hg6 hB (fun k e => by simp [Value.ownBlock] at e; omega)
    obtain ⟨hS6, hk6⟩ := HS2.out.below 6 hb6
    have hu3 : RD 1 enI w6 (ext r2 w2.heap.size 6) 6 (.slice va vn vc) ([y.f.now] ++ [befP y.f.ah a]) := RD.new ho6 recI
    obtain ⟨hM3, hr3⟩ := hk6.blk HM2.out.1 HM2.out.2 (fun h => h)
    have hk03 := HK2.out.to hk6
    have hS3 := hS6
    clear HO4 HS2 HM2 HK2 ho6 hg6 hor6 hb6 hS6 hk6 hB q1 q4 m0 m1 n4 n5 hr3 hsz3
    have hi3 : (T ++ [({ y with pv := pv2, f := { y.f with pa := y.f.pa ++ [(y.f.sg, y.f.now)] } } : Fx)])[T.length]? = some _ := get_last T _ []
    have hy3 := hS3.p.fr _ _ hi3
    have p5 : w6.cell? ⟨y.F, 5, none⟩ = some (.int .i64 y.f.sg) := cel hy3.o 5
    have pf5 := frz hy3.o 5
    have p1 : w6.cell? ⟨w.heap.size, 1, none⟩ = some (.int .i64 a) := cel hM3 1
    obtain ⟨hS4, hk4⟩ := hS3.setF hi3 ({ y with pv := pv2, f := { y.f with pa := y.f.pa ++ [(y.f.sg, y.f.now)], sg := a } }) 5 (.int .i64 a) rfl ⟨rfl, rfl⟩ ⟨rfl, rfl⟩ ⟨rfl, rfl⟩ hy3.p.ah rfl
    rw [set_last] at hS4
    have hu4 := hu3.keep hk4 (by omega)
    have CS := Lib.hid (strand_of w0 _ _ b T.length _ _ (va, vn, vc) ([y.f.now] ++ [befP y.f.ah a]) hS4 (get_last T _ []) hu4 h2 h3)
    have HK4 := Lib.hid (hk03.to hk4)
    clear hS3 hS4 hk4 hu3 hu4 hy3 hi3 hk03 hM3
    unfold sl at CS
    go_wp2_with fail
    refine CS.out.mono ?_
    rintro e w7 ⟨rfl, r7, qv, nv, us, hS7, hk7⟩
    rw [set_last] at hS7
    clear CS p5 pf5 p1
    go_wp2_with fail
    go_end0
    exact ⟨rfl, r7, _, hS7, by simp [Bx.ps, goP, nodeOf, hit], (HK4.out.to hk7).mono (fun c hc => by simp only [or_false, false_or] at hc; omega)⟩
  · rcases hk with rfl | rfl
    · have hit : ¬ 0 < y.f.it := fun e => hc ⟨rfl, e⟩
      clear h4 h5
      go_enter Try.func25, Try.ntmps25
      go_wp2_with fail
      refine C1.out.mono ?_
      rintro e w2 ⟨rfl, r2, pv2, hS2, hk2⟩
      rw [HSET.out] at hS2
      obtain ⟨hM2, hr2⟩ := hk2.blk HM1.out.1 HM1.out.2 (by omega)
      have hi2 : (T ++ [({ y with pv := pv2, f := { y.f with pa := y.f.pa ++ [(y.f.sg, y.f.now)] } } : Fx)])[T.length]? = some _ := get_last T _ []
      have hy2 := hS2.p.fr _ _ hi2
      have hk02 := HK1.out.to hk2
      have q1 : w2.cell? ⟨y.F, 1, none⟩ = some (.int .i64 y.f.now) := cel hy2.o 1
      have q4 : w2.cell? ⟨y.F, 4, none⟩ = some (.int .i64 y.f.it) := cel hy2.o 4
      have m0 : w2.cell? ⟨w.heap.size, 0, none⟩ = some (.int .i64 11) := cel hM2 0
      have m1 : w2.cell? ⟨w.heap.size, 1, none⟩ = some (.int .i64 a) := cel hM2 1
      have n4 : y.F < w2.heap.size := lt_of hy2.o
      have n5 : w.heap.size < w2.heap.size := lt_of hM2
      clear C1 hk2 HK1
      obtain ⟨hS3, hk3⟩ := hS2.below (w' := w2.alloc (.cells #[.int .i64 y.f.now] 3)) 6 (by go_grown)
      obtain ⟨w3, hw3⟩ : ∃ w3, w2.alloc (.cells #[.int .i64 y.f.now] 3) = w3 := ⟨_, rfl⟩
      have hu3 := rd_one (w := w2) r2 y.f.now
      obtain ⟨hM3, hr3⟩ := hk3.blk hM2 hr2 (fun h => h)
      have hk03 := hk02.to hk3
      rw [hw3] at hS3 hk3 hu3 hM3 hk03
      have e0 : w3.cell? ⟨w.heap.size, 0, none⟩ = some (.int .i64 11) := cel hM3 0
      have e4 : w3.cell? ⟨y.F, 4, none⟩ = some (.int .i64 y.f.it) := cel (hS3.p.fr _ _ hi2).o 4
      clear hS2 hk02 hy2 hi2 hM2 hr2 q4 m0 m1 hk3 hr3
      have hi3 : (T ++ [({ y with pv := pv2, f := { y.f with pa := y.f.pa ++ [(y.f.sg, y.f.now)] } } : Fx)])[T.length]? = some _ := get_last T _ []
      have hy3 := hS3.p.fr _ _ hi3
      have p5 : w3.cell? ⟨y.F, 5, none⟩ = some (.int .i64 y.f.sg) := cel hy3.o 5
      have pf5 := frz hy3.o 5
      have p1 : w3.cell? ⟨w.heap.size, 1, none⟩ = some (.int .i64 a) := cel hM3 1
      obtain ⟨hS4, hk4⟩ := hS3.setF hi3 ({ y with pv := pv2, f := { y.f with pa := y.f.pa ++ [(y.f.sg, y.f.now)], sg := a } }) 5 (.int .i64 a) rfl ⟨rfl, rfl⟩ ⟨rfl, rfl⟩ ⟨rfl, rfl⟩ hy3.p.ah rfl
      rw [set_last] at hS4
      have hu4 := hu3.keep hk4 (by omega)
      have CS := Lib.hid (strand_of w0 _ _ b T.length _ _ (some ⟨w2.heap.size, 0, none⟩, 1, 1) [y.f.now] hS4 (get_last T _ []) hu4 h2 h3)
      have HK4 := Lib.hid (hk03.to hk4)
      clear hS3 hS4 hk4 hu3 hu4 hy3 hi3 hk03 hM3
      unfold sl at CS
      go_wp2_with fail
      refine CS.out.mono ?_
      rintro e w7 ⟨rfl, r7, qv, nv, us, hS7, hk7⟩
      rw [set_last] at hS7
      clear CS p5 pf5 p1
      go_wp2_with fail
      go_end0
      exact ⟨rfl, r7, _, hS7, by simp [Bx.ps, goP, nodeOf, hit], (HK4.out.to hk7).mono (fun c hc => by simp only [or_false, false_or] at hc; omega)⟩
    · clear h4 h5
      go_enter Try.func25, Try.ntmps25
      go_wp2_with fail
      refine C1.out.mono ?_
      rintro e w2 ⟨rfl, r2, pv2, hS2, hk2⟩
      rw [HSET.out] at hS2
      obtain ⟨hM2, hr2⟩ := hk2.blk HM1.out.1 HM1.out.2 (by omega)
      have hi2 : (T ++ [({ y with pv := pv2, f := { y.f with pa := y.f.pa ++ [(y.f.sg, y.f.now)] } } : Fx)])[T.length]? = some _ := get_last T _ []
      have hy2 := hS2.p.fr _ _ hi2
      have hk02 := HK1.out.to hk2
      have q1 : w2.cell? ⟨y.F, 1, none⟩ = some (.int .i64 y.f.now) := cel hy2.o 1
      have q4 : w2.cell? ⟨y.F, 4, none⟩ = some (.int .i64 y.f.it) := cel hy2.o 4
      have m0 : w2.cell? ⟨w.heap.size, 0, none⟩ = some (.int .i64 12) := cel hM2 0
      have m1 : w2.cell? ⟨w.heap.size, 1, none⟩ = some (.int .i64 a) := cel hM2 1
      have n4 : y.F < w2.heap.size := lt_of hy2.o
      have n5 : w.heap.size < w2.heap.size := lt_of hM2
      clear C1 hk2 HK1
      obtain ⟨hS3, hk3⟩ := hS2.below (w' := w2.alloc (.cells #[.int .i64 y.f.now] 3)) 6 (by go_grown)
      obtain ⟨w3, hw3⟩ : ∃ w3, w2.alloc (.cells #[.int .i64 y.f.now] 3) = w3 := ⟨_, rfl⟩
      have hu3 := rd_one (w := w2) r2 y.f.now
      obtain ⟨hM3, hr3⟩ := hk3.blk hM2 hr2 (fun h => h)
      have hk03 := hk02.to hk3
      rw [hw3] at hS3 hk3 hu3 hM3 hk03
      have e0 : w3.cell? ⟨w.heap.size, 0, none⟩ = some (.int .i64 12) := cel hM3 0
      have e4 : w3.cell? ⟨y.F, 4, none⟩ = some (.int .i64 y.f.it) := cel (hS3.p.fr _ _ hi2).o 4
      clear hS2 hk02 hy2 hi2 hM2 hr2 q4 m0 m1 hk3 hr3
      have hi3 : (T ++ [({ y with pv := pv2, f := { y.f with pa := y.f.pa ++ [(y.f.sg, y.f.now)] } } : Fx)])[T.length]? = some _ := get_last T _ []
      have hy3 := hS3.p.fr _ _ hi3
      have p5 : w3.cell? ⟨y.F, 5, none⟩ = some (.int .i64 y.f.sg) := cel hy3.o 5
      have pf5 := frz hy3.o 5
      have p1 : w3.cell? ⟨w.heap.size, 1, none⟩ = some (.int .i64 a) := cel hM3 1
      obtain ⟨hS4, hk4⟩ := hS3.setF hi3 ({ y with pv := pv2, f := { y.f with pa := y.f.pa ++ [(y.f.sg, y.f.now)], sg := a } }) 5 (.int .i64 a) rfl ⟨rfl, rfl⟩ ⟨rfl, rfl⟩ ⟨rfl, rfl⟩ hy3.p.ah rfl
      rw [set_last] at hS4
      have hu4 := hu3.keep hk4 (by omega)
      have CS := Lib.hid (strand_of w0 _ _ b T.length _ _ (some ⟨w2.heap.size, 0, none⟩, 1, 1) [y.f.now] hS4 (get_last T _ []) hu4 h2 h3)
      have HK4 := Lib.hid (hk03.to hk4)
      clear hS3 hS4 hk4 hu3 hu4 hy3 hi3 hk03 hM3
      unfold sl at CS
      go_wp2_with fail
      refine CS.out.mono ?_
      rintro e w7 ⟨rfl, r7, qv, nv, us, hS7, hk7⟩
      rw [set_last] at hS7
      clear CS p5 pf5 p1
      go_wp2_with fail
      go_end0
      exact ⟨rfl, r7, _, hS7, by simp [Bx.ps, goP, nodeOf], (HK4.out.to hk7).mono (fun c hc => by simp only [or_false, false_or] at hc; omega)⟩
end Go.Proofs.Ytgbaaemocnjaoaa.sn
