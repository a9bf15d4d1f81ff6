/- The builder takes a mark (layer 30). -/
import Derived.Test.YtgbaaemocnjaoaaSnI
namespace Go.Proofs.Ytgbaaemocnjaoaa.sn
open Go.ChangeShapes Go.WideShapes Go.ChangeAt Go.RowKit
open Go.Proofs.Ytgbaaemocnjaoaa.ro
attribute [local go_sem ↓] Go.wp_at_zero Go.wp_at_succ
set_option linter.unusedVariables false
set_option linter.unusedSimpArgs false
set_option maxHeartbeats 1000000 in
set_option maxRecDepth 20000 in
theorem take_7 (w0 w : World) (r : Ro) (b : Nat) (x : Bx) (m : Nat) (a c : Int) (h : SB w0 w r b x) (hI : Inv m x.ps) (hm : m ≤ 5000) :
    Calls Try.prog 14 #[.pointer (some ⟨b, 0, none⟩), .agg #[.int .i64 7, .int .i64 a, .int .i64 c]] w (TakeR w0 w r b x.ps 7 a) := by
  obtain ⟨T, y, hS⟩ : ∃ T y, x.S = T ++ [y] := by
    obtain ⟨f, Q, e⟩ := hI.ok.ne
    rcases List.eq_nil_or_concat x.S with h0 | ⟨T, y, h0⟩
    · simp [Bx.ps, h0] at e
    · exact ⟨T, y, by simpa using h0⟩
  have hps : x.ps.S = T.map Fx.f ++ [y.f] := by simp [Bx.ps, hS]
  have hTl : T.length ≤ 5000 := by have := hI.sl; rw [hps] at this; simp at this; omega
  have hrg : Rg x.P.length m y.f := hI.rg y.f (by rw [hps]; simp)
  have hPl : x.P.length ≤ 1000 := hI.pm
  have hNl : x.N.length ≤ 1000 := by have := hI.pn; show x.N.length ≤ 1000; have e : x.N.length = x.P.length := this; omega
  have hAl : x.A.length ≤ 5000 := by have := hI.al; have e : x.A.length ≤ m := this; omega
  have hi : x.S[T.length]? = some y := by rw [hS, get_last]
  have HI := Lib.hid hI
  have HPS := Lib.hid hps
  have HSS := Lib.hid hS
  have HIX := Lib.hid hi
  have A1 : At3 w0 w (w.alloc (.cells #[.int .i64 7, .int .i64 a, .int .i64 c] 45)) r (ext r w.heap.size 0) b w.heap.size x 7 a c :=
    ⟨(h.below 0 (by go_grown)).1, (h.below 0 (by go_grown)).2.mono (fun c hc => hc.elim), heap_new w _⟩
  have CT := Lib.hid (top_of w0 _ _ b x T y A1.s hS (by omega))
  have HA1 := Lib.hid A1
  clear h hI hS hps hi A1
  go_enter Try.func14, Try.ntmps14
  go_wp2_with fail
  refine CT.out.mono ?_
  rintro e w2 ⟨rfl, n2, hw2⟩
  have A2 := HA1.out.below (w4 := w2) (by rw [hw2]; exact below_drewN (Below.refl _ _) n2)
  have k0 : w2.cell? ⟨w.heap.size, 0, none⟩ = some (.int .i64 7) := cel A2.m 0
  have k1 : w2.cell? ⟨w.heap.size, 1, none⟩ = some (.int .i64 a) := cel A2.m 1
  have k2 : w2.cell? ⟨w.heap.size, 2, none⟩ = some (.int .i64 c) := cel A2.m 2
  have CC := Lib.hid (can_of y.F y.f 7 a c w2 (FC.of (A2.s.p.fr _ y HIX.out)))
  have HA2 := Lib.hid A2
  clear hw2 A2 CT HA1
  go_wp2_with fail
  refine CC.out.mono ?_
  rintro e w3 ⟨rfl, hb3⟩
  have A3 := HA2.out.below hb3
  clear k0 k1 k2
  have k0 : w3.cell? ⟨w.heap.size, 0, none⟩ = some (.int .i64 7) := cel A3.m 0
  have k1 : w3.cell? ⟨w.heap.size, 1, none⟩ = some (.int .i64 a) := cel A3.m 1
  have k2 : w3.cell? ⟨w.heap.size, 2, none⟩ = some (.int .i64 c) := cel A3.m 2
  obtain ⟨pva, pvc, hpv, -⟩ := RR.form recS A3.s.p.pr
  obtain ⟨L, hL⟩ : ∃ L, x.P.length = L := ⟨_, rfl⟩
  have b1 : w3.cell? ⟨b, 1, none⟩ = some (.slice pva L pvc) := by rw [← hL, ← A3.s.p.pl, ← hpv]; exact cel A3.s.o 1
  have nb : b < w3.heap.size := lt_of A3.s.o
  have nM : w.heap.size < w3.heap.size := lt_of A3.m
  have nF : y.F < w3.heap.size := lt_of (A3.s.p.fr _ y HIX.out).o
  have HL := Lib.hid hL
  rw [hL] at hPl
  have HA3 := Lib.hid A3
  clear HA2 CC hb3 A3 hpv hL
  cases hv : canB 7 a y.f
  · have HV := Lib.hid hv
    clear hv
    go_wp2_with fail
    go_ret
    exact ⟨y.f, 4, _, x.ps, ⟨_, HPS.out⟩, errC_form (by decide) (by decide) HV.out, rfl, ⟨x, HA3.out.s, rfl, HA3.out.kx⟩, fun e => by cases e⟩
  · have HV := Lib.hid hv
    clear hv
    have CB := Lib.hid (begins_of 7 w3 (by decide) (by decide))
    go_wp2_with fail
    refine CB.out.mono ?_
    rintro e w4 ⟨rfl, hw4⟩
    obtain rfl : w3 = w4 := hw4.symm
    clear hw4
    rw [show begB 7 = false from by decide]
    clear CB
    have HEC : Hid (errC 7 a y.f x.ps.P.length = 0) := Lib.hid (errC_eq (by decide) (by decide) HV.out (fun e => by cases e))
    obtain ⟨r4, hN⟩ : ∃ r4, SB w0 (w3.alloc (.cells (newX w3.heap.size 2 a 0 (.slice none 0 0) []).cs 52)) r4 b x ∧ FR (w3.alloc (.cells (newX w3.heap.size 2 a 0 (.slice none 0 0) []).cs 52)) r4 x.S.length (newX w3.heap.size 2 a 0 (.slice none 0 0) []) ∧ KX (fun _ => False) _ r4 w3 (w3.alloc (.cells (newX w3.heap.size 2 a 0 (.slice none 0 0) []).cs 52)) := ⟨_, HA3.out.s.newF 2 a 0 (.slice none 0 0) [] (RD.nil _ _ _)⟩
    have hcs : (newX w3.heap.size 2 a 0 (.slice none 0 0) []).cs = #[.int .i64 2, .int .i64 0, .slice none 0 0, .int .i64 a, .int .i64 0, .int .i64 0, .slice none 0 0, .slice none 0 0, .int .i64 0, .slice none 0 0] := rfl
    rw [hcs] at hN
    obtain ⟨Y, hYe⟩ : ∃ Y, newX w3.heap.size 2 a 0 (.slice none 0 0) [] = Y := ⟨_, rfl⟩
    have hYF : w3.heap.size = Y.F := by rw [← hYe]; rfl
    have hYf : Y.f = ⟨2, 0, [], a, 0, 0, [], [], 0, []⟩ := by rw [← hYe]; rfl
    rw [hYe] at hN
    have CP := Lib.hid (push_of w0 _ _ b x Y hN.1 hN.2.1 (by rw [HSS.out]; simp; omega))
    have HK := Lib.hid (HA3.out.kx.to hN.2.2)
    have HYf := Lib.hid hYf
    have HYF := Lib.hid hYF
    clear hN hcs hYe hYF hYf
    go_wp2_with fail
    rw [HYF.out]
    refine CP.out.mono ?_
    rintro e w5 ⟨rfl, r5, v5, hS5, hk5⟩
    clear CP k0 k1 k2 b1
    go_wp2_with fail
    go_ret
    exact ⟨y.f, 0, r5, loopP (T.map Fx.f) y.f a x.ps, ⟨_, HPS.out⟩, HEC.out, rfl, ⟨_, hS5, by simp [Bx.ps, loopP, loopF, HSS.out, HYf.out], (HK.out.to hk5).mono (fun c hc => by simp only [or_false, false_or, ne_eq] at hc ⊢; omega)⟩, fun _ => .loop _ _ HPS.out rfl⟩
set_option maxHeartbeats 1000000 in
set_option maxRecDepth 20000 in
theorem take_8 (w0 w : World) (r : Ro) (b : Nat) (x : Bx) (m : Nat) (a c : Int) (h : SB w0 w r b x) (hI : Inv m x.ps) (hm : m ≤ 5000) :
    Calls Try.prog 14 #[.pointer (some ⟨b, 0, none⟩), .agg #[.int .i64 8, .int .i64 a, .int .i64 c]] w (TakeR w0 w r b x.ps 8 a) := by
  obtain ⟨T, y, hS⟩ : ∃ T y, x.S = T ++ [y] := by
    obtain ⟨f, Q, e⟩ := hI.ok.ne
    rcases List.eq_nil_or_concat x.S with h0 | ⟨T, y, h0⟩
    · simp [Bx.ps, h0] at e
    · exact ⟨T, y, by simpa using h0⟩
  have hps : x.ps.S = T.map Fx.f ++ [y.f] := by simp [Bx.ps, hS]
  have hTl : T.length ≤ 5000 := by have := hI.sl; rw [hps] at this; simp at this; omega
  have hrg : Rg x.P.length m y.f := hI.rg y.f (by rw [hps]; simp)
  have hPl : x.P.length ≤ 1000 := hI.pm
  have hNl : x.N.length ≤ 1000 := by have := hI.pn; show x.N.length ≤ 1000; have e : x.N.length = x.P.length := this; omega
  have hAl : x.A.length ≤ 5000 := by have := hI.al; have e : x.A.length ≤ m := this; omega
  have hi : x.S[T.length]? = some y := by rw [hS, get_last]
  have HI := Lib.hid hI
  have HPS := Lib.hid hps
  have HSS := Lib.hid hS
  have HIX := Lib.hid hi
  have A1 : At3 w0 w (w.alloc (.cells #[.int .i64 8, .int .i64 a, .int .i64 c] 45)) r (ext r w.heap.size 0) b w.heap.size x 8 a c :=
    ⟨(h.below 0 (by go_grown)).1, (h.below 0 (by go_grown)).2.mono (fun c hc => hc.elim), heap_new w _⟩
  have CT := Lib.hid (top_of w0 _ _ b x T y A1.s hS (by omega))
  have HA1 := Lib.hid A1
  clear h hI hS hps hi A1
  go_enter Try.func14, Try.ntmps14
  go_wp2_with fail
  refine CT.out.mono ?_
  rintro e w2 ⟨rfl, n2, hw2⟩
  have A2 := HA1.out.below (w4 := w2) (by rw [hw2]; exact below_drewN (Below.refl _ _) n2)
  have k0 : w2.cell? ⟨w.heap.size, 0, none⟩ = some (.int .i64 8) := cel A2.m 0
  have k1 : w2.cell? ⟨w.heap.size, 1, none⟩ = some (.int .i64 a) := cel A2.m 1
  have k2 : w2.cell? ⟨w.heap.size, 2, none⟩ = some (.int .i64 c) := cel A2.m 2
  have CC := Lib.hid (can_of y.F y.f 8 a c w2 (FC.of (A2.s.p.fr _ y HIX.out)))
  have HA2 := Lib.hid A2
  clear hw2 A2 CT HA1
  go_wp2_with fail
  refine CC.out.mono ?_
  rintro e w3 ⟨rfl, hb3⟩
  have A3 := HA2.out.below hb3
  clear k0 k1 k2
  have k0 : w3.cell? ⟨w.heap.size, 0, none⟩ = some (.int .i64 8) := cel A3.m 0
  have k1 : w3.cell? ⟨w.heap.size, 1, none⟩ = some (.int .i64 a) := cel A3.m 1
  have k2 : w3.cell? ⟨w.heap.size, 2, none⟩ = some (.int .i64 c) := cel A3.m 2
  obtain ⟨pva, pvc, hpv, -⟩ := RR.form recS A3.s.p.pr
  obtain ⟨L, hL⟩ : ∃ L, x.P.length = L := ⟨_, rfl⟩
  have b1 : w3.cell? ⟨b, 1, none⟩ = some (.slice pva L pvc) := by rw [← hL, ← A3.s.p.pl, ← hpv]; exact cel A3.s.o 1
  have nb : b < w3.heap.size := lt_of A3.s.o
  have nM : w.heap.size < w3.heap.size := lt_of A3.m
  have nF : y.F < w3.heap.size := lt_of (A3.s.p.fr _ y HIX.out).o
  have HL := Lib.hid hL
  rw [hL] at hPl
  have HA3 := Lib.hid A3
  clear HA2 CC hb3 A3 hpv hL
  cases hv : canB 8 a y.f
  · have HV := Lib.hid hv
    clear hv
    go_wp2_with fail
    go_ret
    exact ⟨y.f, 4, _, x.ps, ⟨_, HPS.out⟩, errC_form (by decide) (by decide) HV.out, rfl, ⟨x, HA3.out.s, rfl, HA3.out.kx⟩, fun e => by cases e⟩
  · have HV := Lib.hid hv
    clear hv
    have CB := Lib.hid (begins_of 8 w3 (by decide) (by decide))
    go_wp2_with fail
    refine CB.out.mono ?_
    rintro e w4 ⟨rfl, hw4⟩
    obtain rfl : w3 = w4 := hw4.symm
    clear hw4
    rw [show begB 8 = true from by decide]
    clear CB
    by_cases hl : 1000 ≤ L
    · have hld : decide (1000 ≤ L) = true := by simpa using hl
      have hli : (1000 : Int) ≤ (L : Int) := by omega
      go_wp2_with fail
      go_ret
      exact ⟨y.f, 9, _, x.ps, ⟨_, HPS.out⟩, errC_long (by decide) (by decide) HV.out (by decide) (by rw [show x.ps.P.length = L from HL.out]; exact hl), rfl, ⟨x, HA3.out.s, rfl, HA3.out.kx⟩, fun e => by cases e⟩
    · have HEC : Hid (errC 8 a y.f x.ps.P.length = 0) := Lib.hid (errC_eq (by decide) (by decide) HV.out (fun _ => by rw [show x.ps.P.length = L from HL.out]; omega))
      have hld : decide (1000 ≤ L) = false := by simpa using hl
      have hli : ¬ (1000 : Int) ≤ (L : Int) := by omega
      have hz : ∃ U z, T = U ++ [z] := by
        have ok := HI.out.ok
        rw [HPS.out] at ok
        have ok' : Ok (y.f :: (T.map Fx.f).reverse) := by simpa using ok
        have hkd : y.f.kd = 2 := by
          have := HV.out
          unfold canB at this
          simp at this
          exact this.1.1
        rcases List.eq_nil_or_concat T with h0 | ⟨U, z, h0⟩
        · subst h0
          simp at ok'
          cases ok' with
          | root _ h => omega
        · exact ⟨U, z, by simpa using h0⟩
      obtain ⟨U, z, rfl⟩ := hz
      have hS2 : x.S = U ++ [z, y] := by rw [HSS.out]; simp
      have hps2 : x.ps.S = U.map Fx.f ++ [z.f, y.f] := by rw [HPS.out]; simp
      have hUl : U.length ≤ 10000 := by simp at hTl; omega
      have hzr : Rg x.P.length m z.f := HI.out.rg z.f (by rw [hps2]; simp)
      have CPO := Lib.hid (pop_of w0 w3 _ b x (U ++ [z]) y HA3.out.s HSS.out (by simp; omega))
      have HY3 := Lib.hid (HA3.out.s.p.fr _ y HIX.out)
      have HPS2 := Lib.hid hps2
      clear hS2 hps2
      go_wp2_with fail
      refine CPO.out.mono ?_
      rintro e w5 ⟨rfl, r5, v5, hS5, hk5⟩
      have hy5 := HY3.out.keep hk5 (by omega) (fun c _ _ => by omega)
      obtain ⟨la, ln, lc, hlv⟩ := form3 hy5.p.le.o
      have q9 : w5.cell? ⟨y.F, 9, none⟩ = some (.slice la ln lc) := by rw [← hlv]; exact cel hy5.o 9
      have nF5 : y.F < w5.heap.size := lt_of hy5.o
      have hru := hy5.p.le.turn recI 6
      rw [hlv] at hru
      have hul : (U ++ [z]).length = U.length + 1 := by simp
      rw [hul] at hru
      obtain ⟨hS6, hk6⟩ := hS5.turn (11 + 4 * (U.length + 1)) 6 (by simp)
      have HKL := Lib.hid ((HA3.out.kx.to hk5).to hk6)
      have HTOP : Hid (∀ w', Below w5.heap.size w5 w' → Calls Try.prog 13 #[.pointer (some ⟨b, 0, none⟩)] w' fun e w'' => e = .returned (.pointer (some ⟨z.F, 0, none⟩)) ∧ Below w5.heap.size w5 w'' ∧ w''.cell? ⟨y.F, 9, none⟩ = some (.slice la ln lc)) := Lib.hid fun w' hb => by
        refine (top_of w0 w' _ b _ U z (hS5.below 0 hb).1 rfl (by omega)).mono ?_
        rintro e w'' ⟨rfl, n, rfl⟩
        have hb2 := below_drewN hb n
        exact ⟨rfl, hb2, (hb2.cell (p := ⟨y.F, 9, none⟩) nF5).trans q9⟩
      have HST : Hid (∀ w6, Below w5.heap.size w5 w6 → Calls Try.prog 12 #[.pointer (some ⟨b, 0, none⟩), .pointer (some ⟨z.F, 0, none⟩), .slice la ln lc] w6 fun e w9 => e = .returned (.tuple #[]) ∧ Hid (∃ r9, PX w0 w r b (leaveP (U.map Fx.f) z.f y.f x.ps) r9 w9)) := Lib.hid fun w6 hb => by
        obtain ⟨hS7, hk7⟩ := hS6.below 0 hb
        refine (strand_of w0 w6 _ b U.length _ z (la, ln, lc) y.f.le hS7 (get_last U z []) (hru.keep hk7 (fun h => h)) (by have := HL.out; show x.P.length ≤ _; omega) (by show x.N.length ≤ _; omega)).mono ?_
        rintro e w9 ⟨rfl, r9, pv9, nv9, us9, h9, k9⟩
        rw [set_last] at h9
        exact ⟨rfl, Lib.hid ⟨r9, _, h9, by simp [Bx.ps, leaveP], ((HKL.out.to hk7).to k9).mono (fun c hc => by simp only [or_false, false_or, ne_eq] at hc ⊢; omega)⟩⟩
      clear CPO HY3 hS5 hk5 hy5 hlv hru hS6 hk6 hul k0 k1 k2 b1
      go_wp2_with fail
      go_region_law (first
        | ((go_simp; (with_reducible refine (HST.out _ hbT).mono ?_); rintro e w9 ⟨rfl, HX9⟩))
        | ((go_simp; (with_reducible refine (HTOP.out _ (by go_grown)).mono ?_); rintro e wT ⟨rfl, hbT, qT⟩)))
      all_goals
        clear hbT qT HST HTOP
        go_wp2_with fail
        go_ret
        obtain ⟨rA, hA⟩ := HX9.out
        exact ⟨y.f, 0, rA, leaveP (U.map Fx.f) z.f y.f x.ps, ⟨_, HPS.out⟩, HEC.out, rfl, hA, fun _ => .leave _ _ _ HPS2.out rfl⟩
set_option maxHeartbeats 1000000 in
set_option maxRecDepth 20000 in
theorem take_9 (w0 w : World) (r : Ro) (b : Nat) (x : Bx) (m : Nat) (a c : Int) (h : SB w0 w r b x) (hI : Inv m x.ps) (hm : m ≤ 5000) :
    Calls Try.prog 14 #[.pointer (some ⟨b, 0, none⟩), .agg #[.int .i64 9, .int .i64 a, .int .i64 c]] w (TakeR w0 w r b x.ps 9 a) := by
  obtain ⟨T, y, hS⟩ : ∃ T y, x.S = T ++ [y] := by
    obtain ⟨f, Q, e⟩ := hI.ok.ne
    rcases List.eq_nil_or_concat x.S with h0 | ⟨T, y, h0⟩
    · simp [Bx.ps, h0] at e
    · exact ⟨T, y, by simpa using h0⟩
  have hps : x.ps.S = T.map Fx.f ++ [y.f] := by simp [Bx.ps, hS]
  have hTl : T.length ≤ 5000 := by have := hI.sl; rw [hps] at this; simp at this; omega
  have hrg : Rg x.P.length m y.f := hI.rg y.f (by rw [hps]; simp)
  have hPl : x.P.length ≤ 1000 := hI.pm
  have hNl : x.N.length ≤ 1000 := by have := hI.pn; show x.N.length ≤ 1000; have e : x.N.length = x.P.length := this; omega
  have hAl : x.A.length ≤ 5000 := by have := hI.al; have e : x.A.length ≤ m := this; omega
  have hi : x.S[T.length]? = some y := by rw [hS, get_last]
  have HI := Lib.hid hI
  have HPS := Lib.hid hps
  have HSS := Lib.hid hS
  have HIX := Lib.hid hi
  have A1 : At3 w0 w (w.alloc (.cells #[.int .i64 9, .int .i64 a, .int .i64 c] 45)) r (ext r w.heap.size 0) b w.heap.size x 9 a c :=
    ⟨(h.below 0 (by go_grown)).1, (h.below 0 (by go_grown)).2.mono (fun c hc => hc.elim), heap_new w _⟩
  have CT := Lib.hid (top_of w0 _ _ b x T y A1.s hS (by omega))
  have HA1 := Lib.hid A1
  clear h hI hS hps hi A1
  go_enter Try.func14, Try.ntmps14
  go_wp2_with fail
  refine CT.out.mono ?_
  rintro e w2 ⟨rfl, n2, hw2⟩
  have A2 := HA1.out.below (w4 := w2) (by rw [hw2]; exact below_drewN (Below.refl _ _) n2)
  have k0 : w2.cell? ⟨w.heap.size, 0, none⟩ = some (.int .i64 9) := cel A2.m 0
  have k1 : w2.cell? ⟨w.heap.size, 1, none⟩ = some (.int .i64 a) := cel A2.m 1
  have k2 : w2.cell? ⟨w.heap.size, 2, none⟩ = some (.int .i64 c) := cel A2.m 2
  have CC := Lib.hid (can_of y.F y.f 9 a c w2 (FC.of (A2.s.p.fr _ y HIX.out)))
  have HA2 := Lib.hid A2
  clear hw2 A2 CT HA1
  go_wp2_with fail
  refine CC.out.mono ?_
  rintro e w3 ⟨rfl, hb3⟩
  have A3 := HA2.out.below hb3
  clear k0 k1 k2
  have k0 : w3.cell? ⟨w.heap.size, 0, none⟩ = some (.int .i64 9) := cel A3.m 0
  have k1 : w3.cell? ⟨w.heap.size, 1, none⟩ = some (.int .i64 a) := cel A3.m 1
  have k2 : w3.cell? ⟨w.heap.size, 2, none⟩ = some (.int .i64 c) := cel A3.m 2
  obtain ⟨pva, pvc, hpv, -⟩ := RR.form recS A3.s.p.pr
  obtain ⟨L, hL⟩ : ∃ L, x.P.length = L := ⟨_, rfl⟩
  have b1 : w3.cell? ⟨b, 1, none⟩ = some (.slice pva L pvc) := by rw [← hL, ← A3.s.p.pl, ← hpv]; exact cel A3.s.o 1
  have nb : b < w3.heap.size := lt_of A3.s.o
  have nM : w.heap.size < w3.heap.size := lt_of A3.m
  have nF : y.F < w3.heap.size := lt_of (A3.s.p.fr _ y HIX.out).o
  have HL := Lib.hid hL
  rw [hL] at hPl
  have HA3 := Lib.hid A3
  clear HA2 CC hb3 A3 hpv hL
  cases hv : canB 9 a y.f
  · have HV := Lib.hid hv
    clear hv
    go_wp2_with fail
    go_ret
    exact ⟨y.f, 4, _, x.ps, ⟨_, HPS.out⟩, errC_form (by decide) (by decide) HV.out, rfl, ⟨x, HA3.out.s, rfl, HA3.out.kx⟩, fun e => by cases e⟩
  · have HV := Lib.hid hv
    clear hv
    have CB := Lib.hid (begins_of 9 w3 (by decide) (by decide))
    go_wp2_with fail
    refine CB.out.mono ?_
    rintro e w4 ⟨rfl, hw4⟩
    obtain rfl : w3 = w4 := hw4.symm
    clear hw4
    rw [show begB 9 = true from by decide]
    clear CB
    by_cases hl : 1000 ≤ L
    · have hld : decide (1000 ≤ L) = true := by simpa using hl
      have hli : (1000 : Int) ≤ (L : Int) := by omega
      go_wp2_with fail
      go_ret
      exact ⟨y.f, 9, _, x.ps, ⟨_, HPS.out⟩, errC_long (by decide) (by decide) HV.out (by decide) (by rw [show x.ps.P.length = L from HL.out]; exact hl), rfl, ⟨x, HA3.out.s, rfl, HA3.out.kx⟩, fun e => by cases e⟩
    · have HEC : Hid (errC 9 a y.f x.ps.P.length = 0) := Lib.hid (errC_eq (by decide) (by decide) HV.out (fun _ => by rw [show x.ps.P.length = L from HL.out]; omega))
      have hld : decide (1000 ≤ L) = false := by simpa using hl
      have hli : ¬ (1000 : Int) ≤ (L : Int) := by omega
      have hz : ∃ U z, T = U ++ [z] := by
        have ok := HI.out.ok
        rw [HPS.out] at ok
        have ok' : Ok (y.f :: (T.map Fx.f).reverse) := by simpa using ok
        have hkd : y.f.kd = 2 := by
          have := HV.out
          unfold canB at this
          simp at this
          exact this.1
        rcases List.eq_nil_or_concat T with h0 | ⟨U, z, h0⟩
        · subst h0
          simp at ok'
          cases ok' with
          | root _ h => omega
        · exact ⟨U, z, by simpa using h0⟩
      obtain ⟨U, z, rfl⟩ := hz
      have hS2 : x.S = U ++ [z, y] := by rw [HSS.out]; simp
      have hps2 : x.ps.S = U.map Fx.f ++ [z.f, y.f] := by rw [HPS.out]; simp
      have hUl : U.length ≤ 10000 := by simp at hTl; omega
      have hzr : Rg x.P.length m z.f := HI.out.rg z.f (by rw [hps2]; simp)
      have hah : 0 < y.f.bg → y.f.ah ≠ [] := by
        have ok := HI.out.ok
        rw [hps2] at ok
        have ok' : Ok (y.f :: z.f :: (U.map Fx.f).reverse) := by simpa using ok
        have hkd : y.f.kd = 2 := by
          have := HV.out
          unfold canB at this
          simp at this
          exact this.1
        generalize (U.map Fx.f).reverse = Q at ok'
        cases ok' with
        | child _ _ _ h hq hf => omega
        | loop _ _ _ h hq hf hb ha => exact ha
        | iter _ _ q R h hq hl hb hf ha => omega
      have CR := Lib.hid (iterate_of w0 w3 _ b x U z y HA3.out.s hS2 hUl (by have := HL.out; omega) (by omega) hrg.bg.1 (by have := hrg.bg.2; omega) hah)
      have HPS2 := Lib.hid hps2
      clear hS2 hps2 hah
      go_wp2_with fail
      refine CR.out.mono ?_
      rintro e w9 ⟨rfl, r9, x9, hS9, hx9, hk9⟩
      clear CR k0 k1 k2 b1
      go_wp2_with fail
      go_ret
      exact ⟨y.f, 0, r9, iterP (U.map Fx.f) z.f y.f x.ps, ⟨_, HPS.out⟩, HEC.out, rfl, ⟨_, hS9, hx9, HA3.out.kx.trans hk9⟩, fun _ => .iter _ _ _ HPS2.out rfl⟩
set_option maxHeartbeats 1000000 in
set_option maxRecDepth 20000 in
theorem take_10 (w0 w : World) (r : Ro) (b : Nat) (x : Bx) (m : Nat) (a c : Int) (h : SB w0 w r b x) (hI : Inv m x.ps) (hm : m ≤ 5000) :
    Calls Try.prog 14 #[.pointer (some ⟨b, 0, none⟩), .agg #[.int .i64 10, .int .i64 a, .int .i64 c]] w (TakeR w0 w r b x.ps 10 a) := by
  obtain ⟨T, y, hS⟩ : ∃ T y, x.S = T ++ [y] := by
    obtain ⟨f, Q, e⟩ := hI.ok.ne
    rcases List.eq_nil_or_concat x.S with h0 | ⟨T, y, h0⟩
    · simp [Bx.ps, h0] at e
    · exact ⟨T, y, by simpa using h0⟩
  have hps : x.ps.S = T.map Fx.f ++ [y.f] := by simp [Bx.ps, hS]
  have hTl : T.length ≤ 5000 := by have := hI.sl; rw [hps] at this; simp at this; omega
  have hrg : Rg x.P.length m y.f := hI.rg y.f (by rw [hps]; simp)
  have hPl : x.P.length ≤ 1000 := hI.pm
  have hNl : x.N.length ≤ 1000 := by have := hI.pn; show x.N.length ≤ 1000; have e : x.N.length = x.P.length := this; omega
  have hAl : x.A.length ≤ 5000 := by have := hI.al; have e : x.A.length ≤ m := this; omega
  have hi : x.S[T.length]? = some y := by rw [hS, get_last]
  have HI := Lib.hid hI
  have HPS := Lib.hid hps
  have HSS := Lib.hid hS
  have HIX := Lib.hid hi
  have A1 : At3 w0 w (w.alloc (.cells #[.int .i64 10, .int .i64 a, .int .i64 c] 45)) r (ext r w.heap.size 0) b w.heap.size x 10 a c :=
    ⟨(h.below 0 (by go_grown)).1, (h.below 0 (by go_grown)).2.mono (fun c hc => hc.elim), heap_new w _⟩
  have CT := Lib.hid (top_of w0 _ _ b x T y A1.s hS (by omega))
  have HA1 := Lib.hid A1
  clear h hI hS hps hi A1
  go_enter Try.func14, Try.ntmps14
  go_wp2_with fail
  refine CT.out.mono ?_
  rintro e w2 ⟨rfl, n2, hw2⟩
  have A2 := HA1.out.below (w4 := w2) (by rw [hw2]; exact below_drewN (Below.refl _ _) n2)
  have k0 : w2.cell? ⟨w.heap.size, 0, none⟩ = some (.int .i64 10) := cel A2.m 0
  have k1 : w2.cell? ⟨w.heap.size, 1, none⟩ = some (.int .i64 a) := cel A2.m 1
  have k2 : w2.cell? ⟨w.heap.size, 2, none⟩ = some (.int .i64 c) := cel A2.m 2
  have CC := Lib.hid (can_of y.F y.f 10 a c w2 (FC.of (A2.s.p.fr _ y HIX.out)))
  have HA2 := Lib.hid A2
  clear hw2 A2 CT HA1
  go_wp2_with fail
  refine CC.out.mono ?_
  rintro e w3 ⟨rfl, hb3⟩
  have A3 := HA2.out.below hb3
  clear k0 k1 k2
  have k0 : w3.cell? ⟨w.heap.size, 0, none⟩ = some (.int .i64 10) := cel A3.m 0
  have k1 : w3.cell? ⟨w.heap.size, 1, none⟩ = some (.int .i64 a) := cel A3.m 1
  have k2 : w3.cell? ⟨w.heap.size, 2, none⟩ = some (.int .i64 c) := cel A3.m 2
  obtain ⟨pva, pvc, hpv, -⟩ := RR.form recS A3.s.p.pr
  obtain ⟨L, hL⟩ : ∃ L, x.P.length = L := ⟨_, rfl⟩
  have b1 : w3.cell? ⟨b, 1, none⟩ = some (.slice pva L pvc) := by rw [← hL, ← A3.s.p.pl, ← hpv]; exact cel A3.s.o 1
  have nb : b < w3.heap.size := lt_of A3.s.o
  have nM : w.heap.size < w3.heap.size := lt_of A3.m
  have nF : y.F < w3.heap.size := lt_of (A3.s.p.fr _ y HIX.out).o
  have HL := Lib.hid hL
  rw [hL] at hPl
  have HA3 := Lib.hid A3
  clear HA2 CC hb3 A3 hpv hL
  cases hv : canB 10 a y.f
  · have HV := Lib.hid hv
    clear hv
    go_wp2_with fail
    go_ret
    exact ⟨y.f, 4, _, x.ps, ⟨_, HPS.out⟩, errC_form (by decide) (by decide) HV.out, rfl, ⟨x, HA3.out.s, rfl, HA3.out.kx⟩, fun e => by cases e⟩
  · have HV := Lib.hid hv
    clear hv
    have CB := Lib.hid (begins_of 10 w3 (by decide) (by decide))
    go_wp2_with fail
    refine CB.out.mono ?_
    rintro e w4 ⟨rfl, hw4⟩
    obtain rfl : w3 = w4 := hw4.symm
    clear hw4
    rw [show begB 10 = false from by decide]
    clear CB
    have HEC : Hid (errC 10 a y.f x.ps.P.length = 0) := Lib.hid (errC_eq (by decide) (by decide) HV.out (fun e => by cases e))
    have hz : ∃ U z, T = U ++ [z] := by
      have ok := HI.out.ok
      rw [HPS.out] at ok
      have ok' : Ok (y.f :: (T.map Fx.f).reverse) := by simpa using ok
      have hkd : y.f.kd = 3 := by
        have := HV.out
        unfold canB at this
        simp at this
        exact this.1
      rcases List.eq_nil_or_concat T with h0 | ⟨U, z, h0⟩
      · subst h0
        simp at ok'
        cases ok' with
        | root _ h => omega
      · exact ⟨U, z, by simpa using h0⟩
    obtain ⟨U, z, rfl⟩ := hz
    have hS2 : x.S = U ++ [z, y] := by rw [HSS.out]; simp
    have hps2 : x.ps.S = U.map Fx.f ++ [z.f, y.f] := by rw [HPS.out]; simp
    have hUl : U.length ≤ 10000 := by simp at hTl; omega
    have hzr : Rg x.P.length m z.f := HI.out.rg z.f (by rw [hps2]; simp)
    have CR := Lib.hid (done_of w0 w3 _ b x U z y HA3.out.s hS2 hUl (by have := hrg.l2; omega) (by have := hzr.l4; omega))
    have HPS2 := Lib.hid hps2
    clear hS2 hps2
    go_wp2_with fail
    refine CR.out.mono ?_
    rintro e w9 ⟨rfl, r9, x9, hS9, hx9, hk9⟩
    clear CR k0 k1 k2 b1
    go_wp2_with fail
    go_ret
    exact ⟨y.f, 0, r9, doneP (U.map Fx.f) z.f y.f x.ps, ⟨_, HPS.out⟩, HEC.out, rfl, ⟨_, hS9, hx9, HA3.out.kx.trans hk9⟩, fun _ => .done _ _ _ HPS2.out rfl⟩
set_option maxHeartbeats 1000000 in
set_option maxRecDepth 20000 in
theorem take_11 (w0 w : World) (r : Ro) (b : Nat) (x : Bx) (m : Nat) (a c : Int) (h : SB w0 w r b x) (hI : Inv m x.ps) (hm : m ≤ 5000) :
    Calls Try.prog 14 #[.pointer (some ⟨b, 0, none⟩), .agg #[.int .i64 11, .int .i64 a, .int .i64 c]] w (TakeR w0 w r b x.ps 11 a) := by
  obtain ⟨T, y, hS⟩ : ∃ T y, x.S = T ++ [y] := by
    obtain ⟨f, Q, e⟩ := hI.ok.ne
    rcases List.eq_nil_or_concat x.S with h0 | ⟨T, y, h0⟩
    · simp [Bx.ps, h0] at e
    · exact ⟨T, y, by simpa using h0⟩
  have hps : x.ps.S = T.map Fx.f ++ [y.f] := by simp [Bx.ps, hS]
  have hTl : T.length ≤ 5000 := by have := hI.sl; rw [hps] at this; simp at this; omega
  have hrg : Rg x.P.length m y.f := hI.rg y.f (by rw [hps]; simp)
  have hPl : x.P.length ≤ 1000 := hI.pm
  have hNl : x.N.length ≤ 1000 := by have := hI.pn; show x.N.length ≤ 1000; have e : x.N.length = x.P.length := this; omega
  have hAl : x.A.length ≤ 5000 := by have := hI.al; have e : x.A.length ≤ m := this; omega
  have hi : x.S[T.length]? = some y := by rw [hS, get_last]
  have HI := Lib.hid hI
  have HPS := Lib.hid hps
  have HSS := Lib.hid hS
  have HIX := Lib.hid hi
  have A1 : At3 w0 w (w.alloc (.cells #[.int .i64 11, .int .i64 a, .int .i64 c] 45)) r (ext r w.heap.size 0) b w.heap.size x 11 a c :=
    ⟨(h.below 0 (by go_grown)).1, (h.below 0 (by go_grown)).2.mono (fun c hc => hc.elim), heap_new w _⟩
  have CT := Lib.hid (top_of w0 _ _ b x T y A1.s hS (by omega))
  have HA1 := Lib.hid A1
  clear h hI hS hps hi A1
  go_enter Try.func14, Try.ntmps14
  go_wp2_with fail
  refine CT.out.mono ?_
  rintro e w2 ⟨rfl, n2, hw2⟩
  have A2 := HA1.out.below (w4 := w2) (by rw [hw2]; exact below_drewN (Below.refl _ _) n2)
  have k0 : w2.cell? ⟨w.heap.size, 0, none⟩ = some (.int .i64 11) := cel A2.m 0
  have k1 : w2.cell? ⟨w.heap.size, 1, none⟩ = some (.int .i64 a) := cel A2.m 1
  have k2 : w2.cell? ⟨w.heap.size, 2, none⟩ = some (.int .i64 c) := cel A2.m 2
  have CC := Lib.hid (can_of y.F y.f 11 a c w2 (FC.of (A2.s.p.fr _ y HIX.out)))
  have HA2 := Lib.hid A2
  clear hw2 A2 CT HA1
  go_wp2_with fail
  refine CC.out.mono ?_
  rintro e w3 ⟨rfl, hb3⟩
  have A3 := HA2.out.below hb3
  clear k0 k1 k2
  have k0 : w3.cell? ⟨w.heap.size, 0, none⟩ = some (.int .i64 11) := cel A3.m 0
  have k1 : w3.cell? ⟨w.heap.size, 1, none⟩ = some (.int .i64 a) := cel A3.m 1
  have k2 : w3.cell? ⟨w.heap.size, 2, none⟩ = some (.int .i64 c) := cel A3.m 2
  obtain ⟨pva, pvc, hpv, -⟩ := RR.form recS A3.s.p.pr
  obtain ⟨L, hL⟩ : ∃ L, x.P.length = L := ⟨_, rfl⟩
  have b1 : w3.cell? ⟨b, 1, none⟩ = some (.slice pva L pvc) := by rw [← hL, ← A3.s.p.pl, ← hpv]; exact cel A3.s.o 1
  have nb : b < w3.heap.size := lt_of A3.s.o
  have nM : w.heap.size < w3.heap.size := lt_of A3.m
  have nF : y.F < w3.heap.size := lt_of (A3.s.p.fr _ y HIX.out).o
  have HL := Lib.hid hL
  rw [hL] at hPl
  have HA3 := Lib.hid A3
  clear HA2 CC hb3 A3 hpv hL
  cases hv : canB 11 a y.f
  · have HV := Lib.hid hv
    clear hv
    go_wp2_with fail
    go_ret
    exact ⟨y.f, 4, _, x.ps, ⟨_, HPS.out⟩, errC_form (by decide) (by decide) HV.out, rfl, ⟨x, HA3.out.s, rfl, HA3.out.kx⟩, fun e => by cases e⟩
  · have HV := Lib.hid hv
    clear hv
    have CB := Lib.hid (begins_of 11 w3 (by decide) (by decide))
    go_wp2_with fail
    refine CB.out.mono ?_
    rintro e w4 ⟨rfl, hw4⟩
    obtain rfl : w3 = w4 := hw4.symm
    clear hw4
    rw [show begB 11 = true from by decide]
    clear CB
    by_cases hl : 1000 ≤ L
    · have hld : decide (1000 ≤ L) = true := by simpa using hl
      have hli : (1000 : Int) ≤ (L : Int) := by omega
      go_wp2_with fail
      go_ret
      exact ⟨y.f, 9, _, x.ps, ⟨_, HPS.out⟩, errC_long (by decide) (by decide) HV.out (by decide) (by rw [show x.ps.P.length = L from HL.out]; exact hl), rfl, ⟨x, HA3.out.s, rfl, HA3.out.kx⟩, fun e => by cases e⟩
    · have HEC : Hid (errC 11 a y.f x.ps.P.length = 0) := Lib.hid (errC_eq (by decide) (by decide) HV.out (fun _ => by rw [show x.ps.P.length = L from HL.out]; omega))
      have hld : decide (1000 ≤ L) = false := by simpa using hl
      have hli : ¬ (1000 : Int) ≤ (L : Int) := by omega
      have hah : 0 < y.f.it → y.f.ah ≠ [] := by
        have ok := HI.out.ok
        rw [HPS.out] at ok
        have ok' : Ok (y.f :: (T.map Fx.f).reverse) := by simpa using ok
        have hkd : y.f.kd = 3 := by
          have := HV.out
          unfold canB at this
          simp at this
          exact this.1
        generalize (T.map Fx.f).reverse = Q at ok'
        cases ok' with
        | root _ h => omega
        | child _ _ _ h hq hf => omega
        | loop _ _ _ h hq hf hb ha => omega
        | iter _ _ q R h hq hl hb hf ha => exact ha
      have CR := Lib.hid (goTo_of w0 w3 _ b x T y 11 a c HA3.out.s HSS.out (by decide) (by omega) (by have := hrg.l2; omega) (by have := HL.out; omega) (by omega) (by have := hrg.l3; omega) hah)
      clear hah
      go_wp2_with fail
      refine CR.out.mono ?_
      rintro e w9 ⟨rfl, r9, x9, hS9, hx9, hk9⟩
      clear CR k0 k1 k2 b1
      go_wp2_with fail
      go_ret
      exact ⟨y.f, 0, r9, goP (T.map Fx.f) y.f 11 a x.ps, ⟨_, HPS.out⟩, HEC.out, rfl, ⟨_, hS9, hx9, HA3.out.kx.trans hk9⟩, fun _ => .go _ _ HPS.out (by decide)⟩
set_option maxHeartbeats 1000000 in
set_option maxRecDepth 20000 in
theorem take_12 (w0 w : World) (r : Ro) (b : Nat) (x : Bx) (m : Nat) (a c : Int) (h : SB w0 w r b x) (hI : Inv m x.ps) (hm : m ≤ 5000) :
    Calls Try.prog 14 #[.pointer (some ⟨b, 0, none⟩), .agg #[.int .i64 12, .int .i64 a, .int .i64 c]] w (TakeR w0 w r b x.ps 12 a) := by
  obtain ⟨T, y, hS⟩ : ∃ T y, x.S = T ++ [y] := by
    obtain ⟨f, Q, e⟩ := hI.ok.ne
    rcases List.eq_nil_or_concat x.S with h0 | ⟨T, y, h0⟩
    · simp [Bx.ps, h0] at e
    · exact ⟨T, y, by simpa using h0⟩
  have hps : x.ps.S = T.map Fx.f ++ [y.f] := by simp [Bx.ps, hS]
  have hTl : T.length ≤ 5000 := by have := hI.sl; rw [hps] at this; simp at this; omega
  have hrg : Rg x.P.length m y.f := hI.rg y.f (by rw [hps]; simp)
  have hPl : x.P.length ≤ 1000 := hI.pm
  have hNl : x.N.length ≤ 1000 := by have := hI.pn; show x.N.length ≤ 1000; have e : x.N.length = x.P.length := this; omega
  have hAl : x.A.length ≤ 5000 := by have := hI.al; have e : x.A.length ≤ m := this; omega
  have hi : x.S[T.length]? = some y := by rw [hS, get_last]
  have HI := Lib.hid hI
  have HPS := Lib.hid hps
  have HSS := Lib.hid hS
  have HIX := Lib.hid hi
  have A1 : At3 w0 w (w.alloc (.cells #[.int .i64 12, .int .i64 a, .int .i64 c] 45)) r (ext r w.heap.size 0) b w.heap.size x 12 a c :=
    ⟨(h.below 0 (by go_grown)).1, (h.below 0 (by go_grown)).2.mono (fun c hc => hc.elim), heap_new w _⟩
  have CT := Lib.hid (top_of w0 _ _ b x T y A1.s hS (by omega))
  have HA1 := Lib.hid A1
  clear h hI hS hps hi A1
  go_enter Try.func14, Try.ntmps14
  go_wp2_with fail
  refine CT.out.mono ?_
  rintro e w2 ⟨rfl, n2, hw2⟩
  have A2 := HA1.out.below (w4 := w2) (by rw [hw2]; exact below_drewN (Below.refl _ _) n2)
  have k0 : w2.cell? ⟨w.heap.size, 0, none⟩ = some (.int .i64 12) := cel A2.m 0
  have k1 : w2.cell? ⟨w.heap.size, 1, none⟩ = some (.int .i64 a) := cel A2.m 1
  have k2 : w2.cell? ⟨w.heap.size, 2, none⟩ = some (.int .i64 c) := cel A2.m 2
  have CC := Lib.hid (can_of y.F y.f 12 a c w2 (FC.of (A2.s.p.fr _ y HIX.out)))
  have HA2 := Lib.hid A2
  clear hw2 A2 CT HA1
  go_wp2_with fail
  refine CC.out.mono ?_
  rintro e w3 ⟨rfl, hb3⟩
  have A3 := HA2.out.below hb3
  clear k0 k1 k2
  have k0 : w3.cell? ⟨w.heap.size, 0, none⟩ = some (.int .i64 12) := cel A3.m 0
  have k1 : w3.cell? ⟨w.heap.size, 1, none⟩ = some (.int .i64 a) := cel A3.m 1
  have k2 : w3.cell? ⟨w.heap.size, 2, none⟩ = some (.int .i64 c) := cel A3.m 2
  obtain ⟨pva, pvc, hpv, -⟩ := RR.form recS A3.s.p.pr
  obtain ⟨L, hL⟩ : ∃ L, x.P.length = L := ⟨_, rfl⟩
  have b1 : w3.cell? ⟨b, 1, none⟩ = some (.slice pva L pvc) := by rw [← hL, ← A3.s.p.pl, ← hpv]; exact cel A3.s.o 1
  have nb : b < w3.heap.size := lt_of A3.s.o
  have nM : w.heap.size < w3.heap.size := lt_of A3.m
  have nF : y.F < w3.heap.size := lt_of (A3.s.p.fr _ y HIX.out).o
  have HL := Lib.hid hL
  rw [hL] at hPl
  have HA3 := Lib.hid A3
  clear HA2 CC hb3 A3 hpv hL
  cases hv : canB 12 a y.f
  · have HV := Lib.hid hv
    clear hv
    go_wp2_with fail
    go_ret
    exact ⟨y.f, 4, _, x.ps, ⟨_, HPS.out⟩, errC_form (by decide) (by decide) HV.out, rfl, ⟨x, HA3.out.s, rfl, HA3.out.kx⟩, fun e => by cases e⟩
  · have HV := Lib.hid hv
    clear hv
    have CB := Lib.hid (begins_of 12 w3 (by decide) (by decide))
    go_wp2_with fail
    refine CB.out.mono ?_
    rintro e w4 ⟨rfl, hw4⟩
    obtain rfl : w3 = w4 := hw4.symm
    clear hw4
    rw [show begB 12 = true from by decide]
    clear CB
    by_cases hl : 1000 ≤ L
    · have hld : decide (1000 ≤ L) = true := by simpa using hl
      have hli : (1000 : Int) ≤ (L : Int) := by omega
      go_wp2_with fail
      go_ret
      exact ⟨y.f, 9, _, x.ps, ⟨_, HPS.out⟩, errC_long (by decide) (by decide) HV.out (by decide) (by rw [show x.ps.P.length = L from HL.out]; exact hl), rfl, ⟨x, HA3.out.s, rfl, HA3.out.kx⟩, fun e => by cases e⟩
    · have HEC : Hid (errC 12 a y.f x.ps.P.length = 0) := Lib.hid (errC_eq (by decide) (by decide) HV.out (fun _ => by rw [show x.ps.P.length = L from HL.out]; omega))
      have hld : decide (1000 ≤ L) = false := by simpa using hl
      have hli : ¬ (1000 : Int) ≤ (L : Int) := by omega
      have hah : 0 < y.f.it → y.f.ah ≠ [] := by
        have ok := HI.out.ok
        rw [HPS.out] at ok
        have ok' : Ok (y.f :: (T.map Fx.f).reverse) := by simpa using ok
        have hkd : y.f.kd = 3 := by
          have := HV.out
          unfold canB at this
          simp at this
          exact this.1
        generalize (T.map Fx.f).reverse = Q at ok'
        cases ok' with
        | root _ h => omega
        | child _ _ _ h hq hf => omega
        | loop _ _ _ h hq hf hb ha => omega
        | iter _ _ q R h hq hl hb hf ha => exact ha
      have CR := Lib.hid (goTo_of w0 w3 _ b x T y 12 a c HA3.out.s HSS.out (by decide) (by omega) (by have := hrg.l2; omega) (by have := HL.out; omega) (by omega) (by have := hrg.l3; omega) hah)
      clear hah
      go_wp2_with fail
      refine CR.out.mono ?_
      rintro e w9 ⟨rfl, r9, x9, hS9, hx9, hk9⟩
      clear CR k0 k1 k2 b1
      go_wp2_with fail
      go_ret
      exact ⟨y.f, 0, r9, goP (T.map Fx.f) y.f 12 a x.ps, ⟨_, HPS.out⟩, HEC.out, rfl, ⟨_, hS9, hx9, HA3.out.kx.trans hk9⟩, fun _ => .go _ _ HPS.out (by decide)⟩
theorem take_of (w0 w : World) (r : Ro) (b : Nat) (x : Bx) (m : Nat) (k a c : Int) (h : SB w0 w r b x) (hI : Inv m x.ps) (hm : m ≤ 5000) :
    Calls Try.prog 14 #[.pointer (some ⟨b, 0, none⟩), .agg #[.int .i64 k, .int .i64 a, .int .i64 c]] w (TakeR w0 w r b x.ps k a) := by
  by_cases hk : k < 1 ∨ 12 < k
  · exact take_none w0 w r b x m k a c h hI hm hk
  have hk : k = 1 ∨ k = 2 ∨ k = 3 ∨ k = 4 ∨ k = 5 ∨ k = 6 ∨ k = 7 ∨ k = 8 ∨ k = 9 ∨ k = 10 ∨ k = 11 ∨ k = 12 := by omega
  rcases hk with rfl | rfl | rfl | rfl | rfl | rfl | rfl | rfl | rfl | rfl | rfl | rfl
  · exact take_1 w0 w r b x m a c h hI hm
  · exact take_2 w0 w r b x m a c h hI hm
  · exact take_3 w0 w r b x m a c h hI hm
  · exact take_4 w0 w r b x m a c h hI hm
  · exact take_5 w0 w r b x m a c h hI hm
  · exact take_6 w0 w r b x m a c h hI hm
  · exact take_7 w0 w r b x m a c h hI hm
  · exact take_8 w0 w r b x m a c h hI hm
  · exact take_9 w0 w r b x m a c h hI hm
  · exact take_10 w0 w r b x m a c h hI hm
  · exact take_11 w0 w r b x m a c h hI hm
  · exact take_12 w0 w r b x m a c h hI hm
end Go.Proofs.Ytgbaaemocnjaoaa.sn
