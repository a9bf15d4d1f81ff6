/- The builder takes a mark (layer 30). -/
import Derived.Test.YtgbaaemocnjaoaaSnP
namespace Go.Proofs.Ytgbaaemocnjaoaa.sn
open Go.ChangeShapes Go.WideShapes Go.ChangeAt Go.RowKit
open Go.Proofs.Ytgbaaemocnjaoaa.ro
attribute [local go_sem ↓] Go.wp_at_zero Go.wp_at_succ
set_option linter.unusedVariables false
set_option linter.unusedSimpArgs false
theorem errC_eq {k a : Int} {f : Fm} {n : Nat} (h1 : 1 ≤ k) (h2 : k ≤ 12) (hv : canB k a f = true) (hn : begB k = true → n < 1000) : errC k a f n = 0 := by
  unfold errC
  rw [if_neg (by omega), if_neg (by rw [hv]; simp), if_neg (fun e => by have := hn e.1; omega)]
theorem errC_kind {k a : Int} {f : Fm} {n : Nat} (h : k < 1 ∨ 12 < k) : errC k a f n = 5 := by unfold errC; rw [if_pos h]
theorem errC_form {k a : Int} {f : Fm} {n : Nat} (h1 : 1 ≤ k) (h2 : k ≤ 12) (hv : canB k a f = false) : errC k a f n = 4 := by
  unfold errC; rw [if_neg (by omega), if_pos hv]
theorem errC_long {k a : Int} {f : Fm} {n : Nat} (h1 : 1 ≤ k) (h2 : k ≤ 12) (hv : canB k a f = true) (hb : begB k = true) (hn : 1000 ≤ n) : errC k a f n = 9 := by
  unfold errC; rw [if_neg (by omega), if_neg (by rw [hv]; simp), if_pos ⟨hb, hn⟩]
def TakeR (w0 w : World) (r : Ro) (b : Nat) (s : PS) (k a : Int) (e : Ending) (w' : World) : Prop :=
  ∃ (f : Fm) (cd : Int) (r' : Ro) (s' : PS), (∃ T, s.S = T ++ [f]) ∧ errC k a f s.P.length = cd ∧ e = .returned (.int .i64 cd) ∧ PX w0 w r b s' r' w' ∧ (cd = 0 → Tk k a s s')
theorem run_appV {α : Type} {k : Nat} {en : α → List Value} {w : World} (ty B : Nat) (t e : TypeId) (z : Value) (bytes : Nat) (ht : Try.prog.underlying t = some (.slice e)) (hinfo : (Try.prog.info? e).map (fun i => (i.zero, i.size, i.bytes)) = some (some z, k, bytes)) (hzs : z.cells.size = k) (hby : bytes ≤ 1000) (hr : Rec k en)
    (v u : Value) (xs ys : List α) (hown : OR k en w B e v xs) (hv : RV k en w u ys) (h1 : xs.length ≤ 100000) (h2 : ys.length ≤ 100000) (hB : B ≤ w.heap.size) :
    ∃ v' w', (Builtin.append_ #[t, t] ty #[v, u]).run Try.prog w = .ok v' w' ∧ OR k en w' B e v' (xs ++ ys) ∧ w.grownBy w' v.ownBlock := by
  obtain ⟨i0, hi, hz0, hz1, hz2⟩ := info_parts hinfo
  obtain ⟨ad, cap, rfl, hle, hm, hnil, hc⟩ := hv
  have hfl : flat en (xs ++ ys) = flat en xs ++ flat en ys := by simp [flat]
  cases ad with
  | none =>
    obtain rfl : cap = 0 := hnil rfl
    obtain rfl : ys = [] := List.eq_nil_of_length_eq_zero (by omega)
    exact ⟨_, w, run_append_owned_none (P := Try.prog) (w := w) B t ty e i0 k ht hi _ _ _ hown, by simpa using hown, World.grownBy.refl _ _⟩
  | some ad =>
    have hnews : ∀ j u, (flat en ys)[j]? = some u → w.cell? (ad.add j) = some u := by
      intro j u hj
      obtain ⟨i, p, j', hip, rfl, hu⟩ := flat_inv hr ys j u hj
      obtain ⟨b', o', e', _, c0⟩ := hc i p hip
      simp only [Option.some.injEq] at e'
      subst e'
      rw [Go.WideShapes.add_plain]
      exact c0 j' u hu
    have hb1 : (xs.length + ys.length) * bytes ≤ 140737488355328 := by
      have := Nat.mul_le_mul (show xs.length + ys.length ≤ 200000 by omega) hby
      omega
    obtain ⟨v', w', r1, r2, r3, _⟩ := run_append_own_at (P := Try.prog) w B t ty e i0 z k bytes ht hi hz0 hz1 hz2 hzs hr.1 v xs.length _ hown ad ys.length cap (flat en ys) (flat_len hr ys) hnews (flat_one hr ys) (by unfold maxLen; omega) hb1 hB
    exact ⟨v', w', r1, by unfold OR; rw [hfl, List.length_append]; exact r2, r3⟩
theorem step_appV {α : Type} {k : Nat} {en : α → List Value} {ops : Array Oper} {o : Oper} {a : Act} {w : World} {K : Act → World → Prop} {Q : Exit → Act → World → Prop} {E : Prop} (hgd : o.guard = none) (s x : Operand) (t e : TypeId) (z : Value) (bytes : Nat)
    (ho : o.op = .call { callee := .builtin .append, args := #[s, x], argTypes := #[t, t] }) (ht : Try.prog.underlying t = some (.slice e)) (hinfo : (Try.prog.info? e).map (fun i => (i.zero, i.size, i.bytes)) = some (some z, k, bytes)) (hzs : z.cells.size = k) (hby : bytes ≤ 1000) (hr : Rec k en)
    (B : Nat) (v u : Value) (xs ys : List α) (hs : a.eval s = v) (hx : a.eval x = u) (hown : OR k en w B e v xs) (hv : RV k en w u ys) (h1 : xs.length ≤ 100000) (h2 : ys.length ≤ 100000) (hB : B ≤ w.heap.size)
    (h : ∀ va vn vc w', Hid (OR k en w' B e (.slice va vn vc) (xs ++ ys)) → w.grownBy w' v.ownBlock → K (a.put o.dst (.slice va vn vc)) w') :
    if Region.wanted o (yielded ops a.tmps) = true then Oper.wp Try.prog o a w K Q else E := by
  have hw : Region.wanted o (yielded ops a.tmps) = true := by simp [Region.wanted, hgd]
  rw [if_pos hw]
  obtain ⟨v', w', r1, r2, r3⟩ := run_appV o.type B t e z bytes ht hinfo hzs hby hr v u xs ys hown hv h1 h2 hB
  obtain ⟨va, vn, vc, rfl⟩ := form3 r2
  unfold Oper.wp execOp
  simp only [ho, resolve, invoke, builtin, Sem.run_bind, Sem.run_pure, Result.andThen_ok, List.map_toArray, List.map_cons, List.map_nil, hs, hx, r1]
  exact h va vn vc w' (Lib.hid r2) r3
theorem SB.clrU {w0 w : World} {r : Ro} {b i : Nat} {x : Bx} {y : Fx} (h : SB w0 w r b x) (hi : x.S[i]? = some y) : SB w0 (w.setCell ⟨y.F, 2, none⟩ (.slice none 0 0)) r b { x with S := x.S.set i { y with uv := .slice none 0 0, f := { y.f with um := [] } } } ∧ KX (fun c => c = 8 + 4 * i) r r w (w.setCell ⟨y.F, 2, none⟩ (.slice none 0 0)) := by
  have hf := h.p.fr i y hi
  have hp : FP w r i { y with uv := .slice none 0 0, f := { y.f with um := [] } } := ⟨hf.p.ro, RR.nil _ _ _ _, hf.p.pa, hf.p.le, hf.p.ah⟩
  obtain ⟨h3, hk3⟩ := FP.set (y := y) hp 2 (.slice none 0 0) hf.o rfl rfl
  exact ⟨h.frame hi rfl hk3 (fun c hc => by omega) h3, hk3⟩
/-- What the walk knows behind the first two tests. -/
structure At3 (w0 w w3 : World) (r r3 : Ro) (b M : Nat) (x : Bx) (k a c : Int) : Prop where
  s : SB w0 w3 r3 b x
  kx : KX (fun c => c ≠ 0) r r3 w w3
  m : w3.heap[M]? = some (.cells #[.int .i64 k, .int .i64 a, .int .i64 c] 45 (0, 0))
theorem At3.below {w0 w w3 w4 : World} {r r3 : Ro} {b M : Nat} {x : Bx} {k a c : Int} (h : At3 w0 w w3 r r3 b M x k a c) (hb : Below w3.heap.size w3 w4) : At3 w0 w w4 r (ext r3 w3.heap.size 0) b M x k a c :=
  ⟨(h.s.below 0 hb).1, (h.kx.to (h.s.below 0 hb).2).mono (fun c hc => by simp only [or_false] at hc; exact hc), (hb.block M (lt_of h.m)).trans h.m⟩
set_option maxHeartbeats 1000000 in
set_option maxRecDepth 20000 in
theorem take_none (w0 w : World) (r : Ro) (b : Nat) (x : Bx) (m : Nat) (k a c : Int) (h : SB w0 w r b x) (hI : Inv m x.ps) (hm : m ≤ 5000) (hk : k < 1 ∨ 12 < k) :
    Calls Try.prog 14 #[.pointer (some ⟨b, 0, none⟩), .agg #[.int .i64 k, .int .i64 a, .int .i64 c]] w (TakeR w0 w r b x.ps k a) := by
  obtain ⟨T, y, hS⟩ : ∃ T y, x.S = T ++ [y] := by
    obtain ⟨f, Q, e⟩ := hI.ok.ne
    rcases List.eq_nil_or_concat x.S with h0 | ⟨T, y, h0⟩
    · simp [Bx.ps, h0] at e
    · exact ⟨T, y, by simpa using h0⟩
  have hps : x.ps.S = T.map Fx.f ++ [y.f] := by simp [Bx.ps, hS]
  have hTl : T.length ≤ 5000 := by have := hI.sl; rw [hps] at this; simp at this; omega
  have hrg : Rg x.P.length m y.f := hI.rg y.f (by rw [hps]; simp)
  have hPl : x.P.length ≤ 1000 := hI.pm
  have hNl : x.N.length ≤ 1000 := by have := hI.pn; show x.N.length ≤ 1000; have e : x.N.length = x.P.length := this; omega
  have hAl : x.A.length ≤ 5000 := by have := hI.al; have e : x.A.length ≤ m := this; omega
  have hi : x.S[T.length]? = some y := by rw [hS, get_last]
  have HI := Lib.hid hI
  have HPS := Lib.hid hps
  have HSS := Lib.hid hS
  have HIX := Lib.hid hi
  have A1 : At3 w0 w (w.alloc (.cells #[.int .i64 k, .int .i64 a, .int .i64 c] 45)) r (ext r w.heap.size 0) b w.heap.size x k a c :=
    ⟨(h.below 0 (by go_grown)).1, (h.below 0 (by go_grown)).2.mono (fun c hc => hc.elim), heap_new w _⟩
  have CT := Lib.hid (top_of w0 _ _ b x T y A1.s hS (by omega))
  have HA1 := Lib.hid A1
  clear h hI hS hps hi A1
  rcases hk with hk | hk
  · have hk1 : decide (k < 1) = true := by simpa using hk
    go_enter Try.func14, Try.ntmps14
    go_wp2_with fail
    refine CT.out.mono ?_
    rintro e w2 ⟨rfl, n2, hw2⟩
    have A2 := HA1.out.below (w4 := w2) (by rw [hw2]; exact below_drewN (Below.refl _ _) n2)
    have k0 : w2.cell? ⟨w.heap.size, 0, none⟩ = some (.int .i64 k) := cel A2.m 0
    have k1 : w2.cell? ⟨w.heap.size, 1, none⟩ = some (.int .i64 a) := cel A2.m 1
    have k2 : w2.cell? ⟨w.heap.size, 2, none⟩ = some (.int .i64 c) := cel A2.m 2
    have CC := Lib.hid (can_of y.F y.f k a c w2 (FC.of (A2.s.p.fr _ y HIX.out)))
    have HA2 := Lib.hid A2
    clear hw2 A2 CT HA1
    go_wp2_with fail
    go_ret
    exact ⟨y.f, 5, _, x.ps, ⟨_, HPS.out⟩, errC_kind (.inl hk), rfl, ⟨x, HA2.out.s, rfl, HA2.out.kx⟩, fun e => by cases e⟩
  · have hk1 : decide (k < 1) = false := by simp; omega
    have hk2 : decide (12 < k) = true := by simpa using hk
    go_enter Try.func14, Try.ntmps14
    go_wp2_with fail
    refine CT.out.mono ?_
    rintro e w2 ⟨rfl, n2, hw2⟩
    have A2 := HA1.out.below (w4 := w2) (by rw [hw2]; exact below_drewN (Below.refl _ _) n2)
    have k0 : w2.cell? ⟨w.heap.size, 0, none⟩ = some (.int .i64 k) := cel A2.m 0
    have k1 : w2.cell? ⟨w.heap.size, 1, none⟩ = some (.int .i64 a) := cel A2.m 1
    have k2 : w2.cell? ⟨w.heap.size, 2, none⟩ = some (.int .i64 c) := cel A2.m 2
    have CC := Lib.hid (can_of y.F y.f k a c w2 (FC.of (A2.s.p.fr _ y HIX.out)))
    have HA2 := Lib.hid A2
    clear hw2 A2 CT HA1
    go_wp2_with fail
    go_ret
    exact ⟨y.f, 5, _, x.ps, ⟨_, HPS.out⟩, errC_kind (.inr hk), rfl, ⟨x, HA2.out.s, rfl, HA2.out.kx⟩, fun e => by cases e⟩
set_option maxHeartbeats 1000000 in
set_option maxRecDepth 20000 in
theorem take_1 (w0 w : World) (r : Ro) (b : Nat) (x : Bx) (m : Nat) (a c : Int) (h : SB w0 w r b x) (hI : Inv m x.ps) (hm : m ≤ 5000) :
    Calls Try.prog 14 #[.pointer (some ⟨b, 0, none⟩), .agg #[.int .i64 1, .int .i64 a, .int .i64 c]] w (TakeR w0 w r b x.ps 1 a) := by
  obtain ⟨T, y, hS⟩ : ∃ T y, x.S = T ++ [y] := by
    obtain ⟨f, Q, e⟩ := hI.ok.ne
    rcases List.eq_nil_or_concat x.S with h0 | ⟨T, y, h0⟩
    · simp [Bx.ps, h0] at e
    · exact ⟨T, y, by simpa using h0⟩
  have hps : x.ps.S = T.map Fx.f ++ [y.f] := by simp [Bx.ps, hS]
  have hTl : T.length ≤ 5000 := by have := hI.sl; rw [hps] at this; simp at this; omega
  have hrg : Rg x.P.length m y.f := hI.rg y.f (by rw [hps]; simp)
  have hPl : x.P.length ≤ 1000 := hI.pm
  have hNl : x.N.length ≤ 1000 := by have := hI.pn; show x.N.length ≤ 1000; have e : x.N.length = x.P.length := this; omega
  have hAl : x.A.length ≤ 5000 := by have := hI.al; have e : x.A.length ≤ m := this; omega
  have hi : x.S[T.length]? = some y := by rw [hS, get_last]
  have HI := Lib.hid hI
  have HPS := Lib.hid hps
  have HSS := Lib.hid hS
  have HIX := Lib.hid hi
  have A1 : At3 w0 w (w.alloc (.cells #[.int .i64 1, .int .i64 a, .int .i64 c] 45)) r (ext r w.heap.size 0) b w.heap.size x 1 a c :=
    ⟨(h.below 0 (by go_grown)).1, (h.below 0 (by go_grown)).2.mono (fun c hc => hc.elim), heap_new w _⟩
  have CT := Lib.hid (top_of w0 _ _ b x T y A1.s hS (by omega))
  have HA1 := Lib.hid A1
  clear h hI hS hps hi A1
  go_enter Try.func14, Try.ntmps14
  go_wp2_with fail
  refine CT.out.mono ?_
  rintro e w2 ⟨rfl, n2, hw2⟩
  have A2 := HA1.out.below (w4 := w2) (by rw [hw2]; exact below_drewN (Below.refl _ _) n2)
  have k0 : w2.cell? ⟨w.heap.size, 0, none⟩ = some (.int .i64 1) := cel A2.m 0
  have k1 : w2.cell? ⟨w.heap.size, 1, none⟩ = some (.int .i64 a) := cel A2.m 1
  have k2 : w2.cell? ⟨w.heap.size, 2, none⟩ = some (.int .i64 c) := cel A2.m 2
  have CC := Lib.hid (can_of y.F y.f 1 a c w2 (FC.of (A2.s.p.fr _ y HIX.out)))
  have HA2 := Lib.hid A2
  clear hw2 A2 CT HA1
  go_wp2_with fail
  refine CC.out.mono ?_
  rintro e w3 ⟨rfl, hb3⟩
  have A3 := HA2.out.below hb3
  clear k0 k1 k2
  have k0 : w3.cell? ⟨w.heap.size, 0, none⟩ = some (.int .i64 1) := cel A3.m 0
  have k1 : w3.cell? ⟨w.heap.size, 1, none⟩ = some (.int .i64 a) := cel A3.m 1
  have k2 : w3.cell? ⟨w.heap.size, 2, none⟩ = some (.int .i64 c) := cel A3.m 2
  obtain ⟨pva, pvc, hpv, -⟩ := RR.form recS A3.s.p.pr
  obtain ⟨L, hL⟩ : ∃ L, x.P.length = L := ⟨_, rfl⟩
  have b1 : w3.cell? ⟨b, 1, none⟩ = some (.slice pva L pvc) := by rw [← hL, ← A3.s.p.pl, ← hpv]; exact cel A3.s.o 1
  have nb : b < w3.heap.size := lt_of A3.s.o
  have nM : w.heap.size < w3.heap.size := lt_of A3.m
  have nF : y.F < w3.heap.size := lt_of (A3.s.p.fr _ y HIX.out).o
  have HL := Lib.hid hL
  rw [hL] at hPl
  have HA3 := Lib.hid A3
  clear HA2 CC hb3 A3 hpv hL
  cases hv : canB 1 a y.f
  · have HV := Lib.hid hv
    clear hv
    go_wp2_with fail
    go_ret
    exact ⟨y.f, 4, _, x.ps, ⟨_, HPS.out⟩, errC_form (by decide) (by decide) HV.out, rfl, ⟨x, HA3.out.s, rfl, HA3.out.kx⟩, fun e => by cases e⟩
  · have HV := Lib.hid hv
    clear hv
    have CB := Lib.hid (begins_of 1 w3 (by decide) (by decide))
    go_wp2_with fail
    refine CB.out.mono ?_
    rintro e w4 ⟨rfl, hw4⟩
    obtain rfl : w3 = w4 := hw4.symm
    clear hw4
    rw [show begB 1 = false from by decide]
    clear CB
    have HEC : Hid (errC 1 a y.f x.ps.P.length = 0) := Lib.hid (errC_eq (by decide) (by decide) HV.out (fun e => by cases e))
    have CA := Lib.hid (access_of w0 w3 _ b T.length x y a false HA3.out.s HIX.out (by omega))
    go_wp2_with fail
    refine CA.out.mono ?_
    rintro e w9 ⟨rfl, r9, v9, hS9, hk9⟩
    clear CA k0 k1 k2 b1
    go_wp2_with fail
    go_ret
    exact ⟨y.f, 0, r9, accP (T.map Fx.f) y.f 1 a x.ps, ⟨_, HPS.out⟩, HEC.out, rfl, ⟨_, hS9, by simp [Bx.ps, accP, HSS.out], (HA3.out.kx.to hk9).mono (fun c hc => by simp only [or_false, false_or, ne_eq] at hc ⊢; omega)⟩, fun _ => .acc _ _ HPS.out (by decide)⟩
set_option maxHeartbeats 1000000 in
set_option maxRecDepth 20000 in
theorem take_2 (w0 w : World) (r : Ro) (b : Nat) (x : Bx) (m : Nat) (a c : Int) (h : SB w0 w r b x) (hI : Inv m x.ps) (hm : m ≤ 5000) :
    Calls Try.prog 14 #[.pointer (some ⟨b, 0, none⟩), .agg #[.int .i64 2, .int .i64 a, .int .i64 c]] w (TakeR w0 w r b x.ps 2 a) := by
  obtain ⟨T, y, hS⟩ : ∃ T y, x.S = T ++ [y] := by
    obtain ⟨f, Q, e⟩ := hI.ok.ne
    rcases List.eq_nil_or_concat x.S with h0 | ⟨T, y, h0⟩
    · simp [Bx.ps, h0] at e
    · exact ⟨T, y, by simpa using h0⟩
  have hps : x.ps.S = T.map Fx.f ++ [y.f] := by simp [Bx.ps, hS]
  have hTl : T.length ≤ 5000 := by have := hI.sl; rw [hps] at this; simp at this; omega
  have hrg : Rg x.P.length m y.f := hI.rg y.f (by rw [hps]; simp)
  have hPl : x.P.length ≤ 1000 := hI.pm
  have hNl : x.N.length ≤ 1000 := by have := hI.pn; show x.N.length ≤ 1000; have e : x.N.length = x.P.length := this; omega
  have hAl : x.A.length ≤ 5000 := by have := hI.al; have e : x.A.length ≤ m := this; omega
  have hi : x.S[T.length]? = some y := by rw [hS, get_last]
  have HI := Lib.hid hI
  have HPS := Lib.hid hps
  have HSS := Lib.hid hS
  have HIX := Lib.hid hi
  have A1 : At3 w0 w (w.alloc (.cells #[.int .i64 2, .int .i64 a, .int .i64 c] 45)) r (ext r w.heap.size 0) b w.heap.size x 2 a c :=
    ⟨(h.below 0 (by go_grown)).1, (h.below 0 (by go_grown)).2.mono (fun c hc => hc.elim), heap_new w _⟩
  have CT := Lib.hid (top_of w0 _ _ b x T y A1.s hS (by omega))
  have HA1 := Lib.hid A1
  clear h hI hS hps hi A1
  go_enter Try.func14, Try.ntmps14
  go_wp2_with fail
  refine CT.out.mono ?_
  rintro e w2 ⟨rfl, n2, hw2⟩
  have A2 := HA1.out.below (w4 := w2) (by rw [hw2]; exact below_drewN (Below.refl _ _) n2)
  have k0 : w2.cell? ⟨w.heap.size, 0, none⟩ = some (.int .i64 2) := cel A2.m 0
  have k1 : w2.cell? ⟨w.heap.size, 1, none⟩ = some (.int .i64 a) := cel A2.m 1
  have k2 : w2.cell? ⟨w.heap.size, 2, none⟩ = some (.int .i64 c) := cel A2.m 2
  have CC := Lib.hid (can_of y.F y.f 2 a c w2 (FC.of (A2.s.p.fr _ y HIX.out)))
  have HA2 := Lib.hid A2
  clear hw2 A2 CT HA1
  go_wp2_with fail
  refine CC.out.mono ?_
  rintro e w3 ⟨rfl, hb3⟩
  have A3 := HA2.out.below hb3
  clear k0 k1 k2
  have k0 : w3.cell? ⟨w.heap.size, 0, none⟩ = some (.int .i64 2) := cel A3.m 0
  have k1 : w3.cell? ⟨w.heap.size, 1, none⟩ = some (.int .i64 a) := cel A3.m 1
  have k2 : w3.cell? ⟨w.heap.size, 2, none⟩ = some (.int .i64 c) := cel A3.m 2
  obtain ⟨pva, pvc, hpv, -⟩ := RR.form recS A3.s.p.pr
  obtain ⟨L, hL⟩ : ∃ L, x.P.length = L := ⟨_, rfl⟩
  have b1 : w3.cell? ⟨b, 1, none⟩ = some (.slice pva L pvc) := by rw [← hL, ← A3.s.p.pl, ← hpv]; exact cel A3.s.o 1
  have nb : b < w3.heap.size := lt_of A3.s.o
  have nM : w.heap.size < w3.heap.size := lt_of A3.m
  have nF : y.F < w3.heap.size := lt_of (A3.s.p.fr _ y HIX.out).o
  have HL := Lib.hid hL
  rw [hL] at hPl
  have HA3 := Lib.hid A3
  clear HA2 CC hb3 A3 hpv hL
  cases hv : canB 2 a y.f
  · have HV := Lib.hid hv
    clear hv
    go_wp2_with fail
    go_ret
    exact ⟨y.f, 4, _, x.ps, ⟨_, HPS.out⟩, errC_form (by decide) (by decide) HV.out, rfl, ⟨x, HA3.out.s, rfl, HA3.out.kx⟩, fun e => by cases e⟩
  · have HV := Lib.hid hv
    clear hv
    have CB := Lib.hid (begins_of 2 w3 (by decide) (by decide))
    go_wp2_with fail
    refine CB.out.mono ?_
    rintro e w4 ⟨rfl, hw4⟩
    obtain rfl : w3 = w4 := hw4.symm
    clear hw4
    rw [show begB 2 = false from by decide]
    clear CB
    have HEC : Hid (errC 2 a y.f x.ps.P.length = 0) := Lib.hid (errC_eq (by decide) (by decide) HV.out (fun e => by cases e))
    have CA := Lib.hid (access_of w0 w3 _ b T.length x y a true HA3.out.s HIX.out (by omega))
    go_wp2_with fail
    refine CA.out.mono ?_
    rintro e w9 ⟨rfl, r9, v9, hS9, hk9⟩
    clear CA k0 k1 k2 b1
    go_wp2_with fail
    go_ret
    exact ⟨y.f, 0, r9, accP (T.map Fx.f) y.f 2 a x.ps, ⟨_, HPS.out⟩, HEC.out, rfl, ⟨_, hS9, by simp [Bx.ps, accP, HSS.out], (HA3.out.kx.to hk9).mono (fun c hc => by simp only [or_false, false_or, ne_eq] at hc ⊢; omega)⟩, fun _ => .acc _ _ HPS.out (by decide)⟩
set_option maxHeartbeats 1000000 in
set_option maxRecDepth 20000 in
theorem take_3 (w0 w : World) (r : Ro) (b : Nat) (x : Bx) (m : Nat) (a c : Int) (h : SB w0 w r b x) (hI : Inv m x.ps) (hm : m ≤ 5000) :
    Calls Try.prog 14 #[.pointer (some ⟨b, 0, none⟩), .agg #[.int .i64 3, .int .i64 a, .int .i64 c]] w (TakeR w0 w r b x.ps 3 a) := by
  obtain ⟨T, y, hS⟩ : ∃ T y, x.S = T ++ [y] := by
    obtain ⟨f, Q, e⟩ := hI.ok.ne
    rcases List.eq_nil_or_concat x.S with h0 | ⟨T, y, h0⟩
    · simp [Bx.ps, h0] at e
    · exact ⟨T, y, by simpa using h0⟩
  have hps : x.ps.S = T.map Fx.f ++ [y.f] := by simp [Bx.ps, hS]
  have hTl : T.length ≤ 5000 := by have := hI.sl; rw [hps] at this; simp at this; omega
  have hrg : Rg x.P.length m y.f := hI.rg y.f (by rw [hps]; simp)
  have hPl : x.P.length ≤ 1000 := hI.pm
  have hNl : x.N.length ≤ 1000 := by have := hI.pn; show x.N.length ≤ 1000; have e : x.N.length = x.P.length := this; omega
  have hAl : x.A.length ≤ 5000 := by have := hI.al; have e : x.A.length ≤ m := this; omega
  have hi : x.S[T.length]? = some y := by rw [hS, get_last]
  have HI := Lib.hid hI
  have HPS := Lib.hid hps
  have HSS := Lib.hid hS
  have HIX := Lib.hid hi
  have A1 : At3 w0 w (w.alloc (.cells #[.int .i64 3, .int .i64 a, .int .i64 c] 45)) r (ext r w.heap.size 0) b w.heap.size x 3 a c :=
    ⟨(h.below 0 (by go_grown)).1, (h.below 0 (by go_grown)).2.mono (fun c hc => hc.elim), heap_new w _⟩
  have CT := Lib.hid (top_of w0 _ _ b x T y A1.s hS (by omega))
  have HA1 := Lib.hid A1
  clear h hI hS hps hi A1
  go_enter Try.func14, Try.ntmps14
  go_wp2_with fail
  refine CT.out.mono ?_
  rintro e w2 ⟨rfl, n2, hw2⟩
  have A2 := HA1.out.below (w4 := w2) (by rw [hw2]; exact below_drewN (Below.refl _ _) n2)
  have k0 : w2.cell? ⟨w.heap.size, 0, none⟩ = some (.int .i64 3) := cel A2.m 0
  have k1 : w2.cell? ⟨w.heap.size, 1, none⟩ = some (.int .i64 a) := cel A2.m 1
  have k2 : w2.cell? ⟨w.heap.size, 2, none⟩ = some (.int .i64 c) := cel A2.m 2
  have CC := Lib.hid (can_of y.F y.f 3 a c w2 (FC.of (A2.s.p.fr _ y HIX.out)))
  have HA2 := Lib.hid A2
  clear hw2 A2 CT HA1
  go_wp2_with fail
  refine CC.out.mono ?_
  rintro e w3 ⟨rfl, hb3⟩
  have A3 := HA2.out.below hb3
  clear k0 k1 k2
  have k0 : w3.cell? ⟨w.heap.size, 0, none⟩ = some (.int .i64 3) := cel A3.m 0
  have k1 : w3.cell? ⟨w.heap.size, 1, none⟩ = some (.int .i64 a) := cel A3.m 1
  have k2 : w3.cell? ⟨w.heap.size, 2, none⟩ = some (.int .i64 c) := cel A3.m 2
  obtain ⟨pva, pvc, hpv, -⟩ := RR.form recS A3.s.p.pr
  obtain ⟨L, hL⟩ : ∃ L, x.P.length = L := ⟨_, rfl⟩
  have b1 : w3.cell? ⟨b, 1, none⟩ = some (.slice pva L pvc) := by rw [← hL, ← A3.s.p.pl, ← hpv]; exact cel A3.s.o 1
  have nb : b < w3.heap.size := lt_of A3.s.o
  have nM : w.heap.size < w3.heap.size := lt_of A3.m
  have nF : y.F < w3.heap.size := lt_of (A3.s.p.fr _ y HIX.out).o
  have HL := Lib.hid hL
  rw [hL] at hPl
  have HA3 := Lib.hid A3
  clear HA2 CC hb3 A3 hpv hL
  cases hv : canB 3 a y.f
  · have HV := Lib.hid hv
    clear hv
    go_wp2_with fail
    go_ret
    exact ⟨y.f, 4, _, x.ps, ⟨_, HPS.out⟩, errC_form (by decide) (by decide) HV.out, rfl, ⟨x, HA3.out.s, rfl, HA3.out.kx⟩, fun e => by cases e⟩
  · have HV := Lib.hid hv
    clear hv
    have CB := Lib.hid (begins_of 3 w3 (by decide) (by decide))
    go_wp2_with fail
    refine CB.out.mono ?_
    rintro e w4 ⟨rfl, hw4⟩
    obtain rfl : w3 = w4 := hw4.symm
    clear hw4
    rw [show begB 3 = false from by decide]
    clear CB
    have HEC : Hid (errC 3 a y.f x.ps.P.length = 0) := Lib.hid (errC_eq (by decide) (by decide) HV.out (fun e => by cases e))
    have CA := Lib.hid (access_of w0 w3 _ b T.length x y (-1) true HA3.out.s HIX.out (by omega))
    go_wp2_with fail
    refine CA.out.mono ?_
    rintro e w9 ⟨rfl, r9, v9, hS9, hk9⟩
    clear CA k0 k1 k2 b1
    go_wp2_with fail
    go_ret
    exact ⟨y.f, 0, r9, accP (T.map Fx.f) y.f 3 a x.ps, ⟨_, HPS.out⟩, HEC.out, rfl, ⟨_, hS9, by simp [Bx.ps, accP, HSS.out], (HA3.out.kx.to hk9).mono (fun c hc => by simp only [or_false, false_or, ne_eq] at hc ⊢; omega)⟩, fun _ => .acc _ _ HPS.out (by decide)⟩
set_option maxHeartbeats 1000000 in
set_option maxRecDepth 20000 in
theorem take_4 (w0 w : World) (r : Ro) (b : Nat) (x : Bx) (m : Nat) (a c : Int) (h : SB w0 w r b x) (hI : Inv m x.ps) (hm : m ≤ 5000) :
    Calls Try.prog 14 #[.pointer (some ⟨b, 0, none⟩), .agg #[.int .i64 4, .int .i64 a, .int .i64 c]] w (TakeR w0 w r b x.ps 4 a) := by
  obtain ⟨T, y, hS⟩ : ∃ T y, x.S = T ++ [y] := by
    obtain ⟨f, Q, e⟩ := hI.ok.ne
    rcases List.eq_nil_or_concat x.S with h0 | ⟨T, y, h0⟩
    · simp [Bx.ps, h0] at e
    · exact ⟨T, y, by simpa using h0⟩
  have hps : x.ps.S = T.map Fx.f ++ [y.f] := by simp [Bx.ps, hS]
  have hTl : T.length ≤ 5000 := by have := hI.sl; rw [hps] at this; simp at this; omega
  have hrg : Rg x.P.length m y.f := hI.rg y.f (by rw [hps]; simp)
  have hPl : x.P.length ≤ 1000 := hI.pm
  have hNl : x.N.length ≤ 1000 := by have := hI.pn; show x.N.length ≤ 1000; have e : x.N.length = x.P.length := this; omega
  have hAl : x.A.length ≤ 5000 := by have := hI.al; have e : x.A.length ≤ m := this; omega
  have hi : x.S[T.length]? = some y := by rw [hS, get_last]
  have HI := Lib.hid hI
  have HPS := Lib.hid hps
  have HSS := Lib.hid hS
  have HIX := Lib.hid hi
  have A1 : At3 w0 w (w.alloc (.cells #[.int .i64 4, .int .i64 a, .int .i64 c] 45)) r (ext r w.heap.size 0) b w.heap.size x 4 a c :=
    ⟨(h.below 0 (by go_grown)).1, (h.below 0 (by go_grown)).2.mono (fun c hc => hc.elim), heap_new w _⟩
  have CT := Lib.hid (top_of w0 _ _ b x T y A1.s hS (by omega))
  have HA1 := Lib.hid A1
  clear h hI hS hps hi A1
  go_enter Try.func14, Try.ntmps14
  go_wp2_with fail
  refine CT.out.mono ?_
  rintro e w2 ⟨rfl, n2, hw2⟩
  have A2 := HA1.out.below (w4 := w2) (by rw [hw2]; exact below_drewN (Below.refl _ _) n2)
  have k0 : w2.cell? ⟨w.heap.size, 0, none⟩ = some (.int .i64 4) := cel A2.m 0
  have k1 : w2.cell? ⟨w.heap.size, 1, none⟩ = some (.int .i64 a) := cel A2.m 1
  have k2 : w2.cell? ⟨w.heap.size, 2, none⟩ = some (.int .i64 c) := cel A2.m 2
  have CC := Lib.hid (can_of y.F y.f 4 a c w2 (FC.of (A2.s.p.fr _ y HIX.out)))
  have HA2 := Lib.hid A2
  clear hw2 A2 CT HA1
  go_wp2_with fail
  refine CC.out.mono ?_
  rintro e w3 ⟨rfl, hb3⟩
  have A3 := HA2.out.below hb3
  clear k0 k1 k2
  have k0 : w3.cell? ⟨w.heap.size, 0, none⟩ = some (.int .i64 4) := cel A3.m 0
  have k1 : w3.cell? ⟨w.heap.size, 1, none⟩ = some (.int .i64 a) := cel A3.m 1
  have k2 : w3.cell? ⟨w.heap.size, 2, none⟩ = some (.int .i64 c) := cel A3.m 2
  obtain ⟨pva, pvc, hpv, -⟩ := RR.form recS A3.s.p.pr
  obtain ⟨L, hL⟩ : ∃ L, x.P.length = L := ⟨_, rfl⟩
  have b1 : w3.cell? ⟨b, 1, none⟩ = some (.slice pva L pvc) := by rw [← hL, ← A3.s.p.pl, ← hpv]; exact cel A3.s.o 1
  have nb : b < w3.heap.size := lt_of A3.s.o
  have nM : w.heap.size < w3.heap.size := lt_of A3.m
  have nF : y.F < w3.heap.size := lt_of (A3.s.p.fr _ y HIX.out).o
  have HL := Lib.hid hL
  rw [hL] at hPl
  have HA3 := Lib.hid A3
  clear HA2 CC hb3 A3 hpv hL
  cases hv : canB 4 a y.f
  · have HV := Lib.hid hv
    clear hv
    go_wp2_with fail
    go_ret
    exact ⟨y.f, 4, _, x.ps, ⟨_, HPS.out⟩, errC_form (by decide) (by decide) HV.out, rfl, ⟨x, HA3.out.s, rfl, HA3.out.kx⟩, fun e => by cases e⟩
  · have HV := Lib.hid hv
    clear hv
    have CB := Lib.hid (begins_of 4 w3 (by decide) (by decide))
    go_wp2_with fail
    refine CB.out.mono ?_
    rintro e w4 ⟨rfl, hw4⟩
    obtain rfl : w3 = w4 := hw4.symm
    clear hw4
    rw [show begB 4 = true from by decide]
    clear CB
    by_cases hl : 1000 ≤ L
    · have hld : decide (1000 ≤ L) = true := by simpa using hl
      have hli : (1000 : Int) ≤ (L : Int) := by omega
      go_wp2_with fail
      go_ret
      exact ⟨y.f, 9, _, x.ps, ⟨_, HPS.out⟩, errC_long (by decide) (by decide) HV.out (by decide) (by rw [show x.ps.P.length = L from HL.out]; exact hl), rfl, ⟨x, HA3.out.s, rfl, HA3.out.kx⟩, fun e => by cases e⟩
    · have HEC : Hid (errC 4 a y.f x.ps.P.length = 0) := Lib.hid (errC_eq (by decide) (by decide) HV.out (fun _ => by rw [show x.ps.P.length = L from HL.out]; omega))
      have hld : decide (1000 ≤ L) = false := by simpa using hl
      have hli : ¬ (1000 : Int) ≤ (L : Int) := by omega
      obtain ⟨r4, hN⟩ : ∃ r4, SB w0 (w3.alloc (.cells (newX w3.heap.size 1 0 0 (.slice none 0 0) []).cs 52)) r4 b x ∧ FR (w3.alloc (.cells (newX w3.heap.size 1 0 0 (.slice none 0 0) []).cs 52)) r4 x.S.length (newX w3.heap.size 1 0 0 (.slice none 0 0) []) ∧ KX (fun _ => False) _ r4 w3 (w3.alloc (.cells (newX w3.heap.size 1 0 0 (.slice none 0 0) []).cs 52)) := ⟨_, HA3.out.s.newF 1 0 0 (.slice none 0 0) [] (RD.nil _ _ _)⟩
      have hcs : (newX w3.heap.size 1 0 0 (.slice none 0 0) []).cs = #[.int .i64 1, .int .i64 0, .slice none 0 0, .int .i64 0, .int .i64 0, .int .i64 0, .slice none 0 0, .slice none 0 0, .int .i64 0, .slice none 0 0] := rfl
      rw [hcs] at hN
      obtain ⟨Y, hYe⟩ : ∃ Y, newX w3.heap.size 1 0 0 (.slice none 0 0) [] = Y := ⟨_, rfl⟩
      have hYF : w3.heap.size = Y.F := by rw [← hYe]; rfl
      have hYf : Y.f = ⟨1, 0, [], 0, 0, 0, [], [], 0, []⟩ := by rw [← hYe]; rfl
      rw [hYe] at hN
      have CP := Lib.hid (push_of w0 _ _ b x Y hN.1 hN.2.1 (by rw [HSS.out]; simp; omega))
      have HK := Lib.hid (HA3.out.kx.to hN.2.2)
      have HYf := Lib.hid hYf
      have HYF := Lib.hid hYF
      clear hN hcs hYe hYF hYf
      go_wp2_with fail
      rw [HYF.out]
      refine CP.out.mono ?_
      rintro e w5 ⟨rfl, r5, v5, hS5, hk5⟩
      have hi5 : (x.S ++ [Y])[T.length]? = some y := by rw [HSS.out]; simp
      have q1 : w5.cell? ⟨y.F, 1, none⟩ = some (.int .i64 y.f.now) := cel (hS5.p.fr _ y hi5).o 1
      obtain ⟨hS6, hk6⟩ := hS5.below (w' := w5.alloc (.cells #[.int .i64 y.f.now] 3)) 6 (by go_grown)
      have CS := Lib.hid (strand_of w0 _ _ b x.S.length _ Y (some ⟨w5.heap.size, 0, none⟩, 1, 1) [y.f.now] hS6 (get_last x.S Y []) (rd_one r5 y.f.now) (by have := HL.out; show x.P.length ≤ _; omega) (by show x.N.length ≤ _; omega))
      have HK6 := Lib.hid ((HK.out.to hk5).to hk6)
      clear CP hS5 hk5 hS6 hk6 hi5 k0 k1 k2 b1
      unfold sl at CS
      go_wp2_with fail
      refine CS.out.mono ?_
      rintro e w9 ⟨rfl, r9, qv, nv, us, hS9, hk9⟩
      rw [set_last] at hS9
      clear CS q1
      go_wp2_with fail
      go_ret
      exact ⟨y.f, 0, r9, forkP (T.map Fx.f) y.f x.ps, ⟨_, HPS.out⟩, HEC.out, rfl, ⟨_, hS9, by simp [Bx.ps, forkP, kidF, HSS.out, HYf.out, nodeOf], (HK6.out.to hk9).mono (fun c hc => by simp only [or_false, false_or, ne_eq] at hc ⊢; omega)⟩, fun _ => .fork _ _ HPS.out rfl⟩
set_option maxHeartbeats 1000000 in
set_option maxRecDepth 20000 in
theorem take_5 (w0 w : World) (r : Ro) (b : Nat) (x : Bx) (m : Nat) (a c : Int) (h : SB w0 w r b x) (hI : Inv m x.ps) (hm : m ≤ 5000) :
    Calls Try.prog 14 #[.pointer (some ⟨b, 0, none⟩), .agg #[.int .i64 5, .int .i64 a, .int .i64 c]] w (TakeR w0 w r b x.ps 5 a) := by
  obtain ⟨T, y, hS⟩ : ∃ T y, x.S = T ++ [y] := by
    obtain ⟨f, Q, e⟩ := hI.ok.ne
    rcases List.eq_nil_or_concat x.S with h0 | ⟨T, y, h0⟩
    · simp [Bx.ps, h0] at e
    · exact ⟨T, y, by simpa using h0⟩
  have hps : x.ps.S = T.map Fx.f ++ [y.f] := by simp [Bx.ps, hS]
  have hTl : T.length ≤ 5000 := by have := hI.sl; rw [hps] at this; simp at this; omega
  have hrg : Rg x.P.length m y.f := hI.rg y.f (by rw [hps]; simp)
  have hPl : x.P.length ≤ 1000 := hI.pm
  have hNl : x.N.length ≤ 1000 := by have := hI.pn; show x.N.length ≤ 1000; have e : x.N.length = x.P.length := this; omega
  have hAl : x.A.length ≤ 5000 := by have := hI.al; have e : x.A.length ≤ m := this; omega
  have hi : x.S[T.length]? = some y := by rw [hS, get_last]
  have HI := Lib.hid hI
  have HPS := Lib.hid hps
  have HSS := Lib.hid hS
  have HIX := Lib.hid hi
  have A1 : At3 w0 w (w.alloc (.cells #[.int .i64 5, .int .i64 a, .int .i64 c] 45)) r (ext r w.heap.size 0) b w.heap.size x 5 a c :=
    ⟨(h.below 0 (by go_grown)).1, (h.below 0 (by go_grown)).2.mono (fun c hc => hc.elim), heap_new w _⟩
  have CT := Lib.hid (top_of w0 _ _ b x T y A1.s hS (by omega))
  have HA1 := Lib.hid A1
  clear h hI hS hps hi A1
  go_enter Try.func14, Try.ntmps14
  go_wp2_with fail
  refine CT.out.mono ?_
  rintro e w2 ⟨rfl, n2, hw2⟩
  have A2 := HA1.out.below (w4 := w2) (by rw [hw2]; exact below_drewN (Below.refl _ _) n2)
  have k0 : w2.cell? ⟨w.heap.size, 0, none⟩ = some (.int .i64 5) := cel A2.m 0
  have k1 : w2.cell? ⟨w.heap.size, 1, none⟩ = some (.int .i64 a) := cel A2.m 1
  have k2 : w2.cell? ⟨w.heap.size, 2, none⟩ = some (.int .i64 c) := cel A2.m 2
  have CC := Lib.hid (can_of y.F y.f 5 a c w2 (FC.of (A2.s.p.fr _ y HIX.out)))
  have HA2 := Lib.hid A2
  clear hw2 A2 CT HA1
  go_wp2_with fail
  refine CC.out.mono ?_
  rintro e w3 ⟨rfl, hb3⟩
  have A3 := HA2.out.below hb3
  clear k0 k1 k2
  have k0 : w3.cell? ⟨w.heap.size, 0, none⟩ = some (.int .i64 5) := cel A3.m 0
  have k1 : w3.cell? ⟨w.heap.size, 1, none⟩ = some (.int .i64 a) := cel A3.m 1
  have k2 : w3.cell? ⟨w.heap.size, 2, none⟩ = some (.int .i64 c) := cel A3.m 2
  obtain ⟨pva, pvc, hpv, -⟩ := RR.form recS A3.s.p.pr
  obtain ⟨L, hL⟩ : ∃ L, x.P.length = L := ⟨_, rfl⟩
  have b1 : w3.cell? ⟨b, 1, none⟩ = some (.slice pva L pvc) := by rw [← hL, ← A3.s.p.pl, ← hpv]; exact cel A3.s.o 1
  have nb : b < w3.heap.size := lt_of A3.s.o
  have nM : w.heap.size < w3.heap.size := lt_of A3.m
  have nF : y.F < w3.heap.size := lt_of (A3.s.p.fr _ y HIX.out).o
  have HL := Lib.hid hL
  rw [hL] at hPl
  have HA3 := Lib.hid A3
  clear HA2 CC hb3 A3 hpv hL
  cases hv : canB 5 a y.f
  · have HV := Lib.hid hv
    clear hv
    go_wp2_with fail
    go_ret
    exact ⟨y.f, 4, _, x.ps, ⟨_, HPS.out⟩, errC_form (by decide) (by decide) HV.out, rfl, ⟨x, HA3.out.s, rfl, HA3.out.kx⟩, fun e => by cases e⟩
  · have HV := Lib.hid hv
    clear hv
    have CB := Lib.hid (begins_of 5 w3 (by decide) (by decide))
    go_wp2_with fail
    refine CB.out.mono ?_
    rintro e w4 ⟨rfl, hw4⟩
    obtain rfl : w3 = w4 := hw4.symm
    clear hw4
    rw [show begB 5 = true from by decide]
    clear CB
    by_cases hl : 1000 ≤ L
    · have hld : decide (1000 ≤ L) = true := by simpa using hl
      have hli : (1000 : Int) ≤ (L : Int) := by omega
      go_wp2_with fail
      go_ret
      exact ⟨y.f, 9, _, x.ps, ⟨_, HPS.out⟩, errC_long (by decide) (by decide) HV.out (by decide) (by rw [show x.ps.P.length = L from HL.out]; exact hl), rfl, ⟨x, HA3.out.s, rfl, HA3.out.kx⟩, fun e => by cases e⟩
    · have HEC : Hid (errC 5 a y.f x.ps.P.length = 0) := Lib.hid (errC_eq (by decide) (by decide) HV.out (fun _ => by rw [show x.ps.P.length = L from HL.out]; omega))
      have hld : decide (1000 ≤ L) = false := by simpa using hl
      have hli : ¬ (1000 : Int) ≤ (L : Int) := by omega
      have hz : ∃ U z, T = U ++ [z] := by
        have ok := HI.out.ok
        rw [HPS.out] at ok
        have ok' : Ok (y.f :: (T.map Fx.f).reverse) := by simpa using ok
        have hkd : y.f.kd = 1 := by
          have := HV.out
          unfold canB at this
          simp at this
          exact this
        rcases List.eq_nil_or_concat T with h0 | ⟨U, z, h0⟩
        · subst h0
          simp at ok'
          cases ok' with
          | root _ h => omega
        · exact ⟨U, z, by simpa using h0⟩
      obtain ⟨U, z, rfl⟩ := hz
      have hS2 : x.S = U ++ [z, y] := by rw [HSS.out]; simp
      have hps2 : x.ps.S = U.map Fx.f ++ [z.f, y.f] := by rw [HPS.out]; simp
      have hUl : U.length ≤ 10000 := by simp at hTl; omega
      have hzr : Rg x.P.length m z.f := HI.out.rg z.f (by rw [hps2]; simp)
      have CR := Lib.hid (returns_of w0 w3 _ b x U z y HA3.out.s hS2 hUl (by have := HL.out; omega) (by omega) (by have := hzr.l1; omega))
      have HPS2 := Lib.hid hps2
      clear hS2 hps2
      go_wp2_with fail
      refine CR.out.mono ?_
      rintro e w9 ⟨rfl, r9, x9, hS9, hx9, hk9⟩
      clear CR k0 k1 k2 b1
      go_wp2_with fail
      go_ret
      exact ⟨y.f, 0, r9, retP (U.map Fx.f) z.f y.f x.ps, ⟨_, HPS.out⟩, HEC.out, rfl, ⟨_, hS9, hx9, HA3.out.kx.trans hk9⟩, fun _ => .ret _ _ _ HPS2.out rfl⟩
set_option maxHeartbeats 1000000 in
set_option maxRecDepth 20000 in
theorem take_6 (w0 w : World) (r : Ro) (b : Nat) (x : Bx) (m : Nat) (a c : Int) (h : SB w0 w r b x) (hI : Inv m x.ps) (hm : m ≤ 5000) :
    Calls Try.prog 14 #[.pointer (some ⟨b, 0, none⟩), .agg #[.int .i64 6, .int .i64 a, .int .i64 c]] w (TakeR w0 w r b x.ps 6 a) := by
  obtain ⟨T, y, hS⟩ : ∃ T y, x.S = T ++ [y] := by
    obtain ⟨f, Q, e⟩ := hI.ok.ne
    rcases List.eq_nil_or_concat x.S with h0 | ⟨T, y, h0⟩
    · simp [Bx.ps, h0] at e
    · exact ⟨T, y, by simpa using h0⟩
  have hps : x.ps.S = T.map Fx.f ++ [y.f] := by simp [Bx.ps, hS]
  have hTl : T.length ≤ 5000 := by have := hI.sl; rw [hps] at this; simp at this; omega
  have hrg : Rg x.P.length m y.f := hI.rg y.f (by rw [hps]; simp)
  have hPl : x.P.length ≤ 1000 := hI.pm
  have hNl : x.N.length ≤ 1000 := by have := hI.pn; show x.N.length ≤ 1000; have e : x.N.length = x.P.length := this; omega
  have hAl : x.A.length ≤ 5000 := by have := hI.al; have e : x.A.length ≤ m := this; omega
  have hi : x.S[T.length]? = some y := by rw [hS, get_last]
  have HI := Lib.hid hI
  have HPS := Lib.hid hps
  have HSS := Lib.hid hS
  have HIX := Lib.hid hi
  have A1 : At3 w0 w (w.alloc (.cells #[.int .i64 6, .int .i64 a, .int .i64 c] 45)) r (ext r w.heap.size 0) b w.heap.size x 6 a c :=
    ⟨(h.below 0 (by go_grown)).1, (h.below 0 (by go_grown)).2.mono (fun c hc => hc.elim), heap_new w _⟩
  have CT := Lib.hid (top_of w0 _ _ b x T y A1.s hS (by omega))
  have HA1 := Lib.hid A1
  clear h hI hS hps hi A1
  go_enter Try.func14, Try.ntmps14
  go_wp2_with fail
  refine CT.out.mono ?_
  rintro e w2 ⟨rfl, n2, hw2⟩
  have A2 := HA1.out.below (w4 := w2) (by rw [hw2]; exact below_drewN (Below.refl _ _) n2)
  have k0 : w2.cell? ⟨w.heap.size, 0, none⟩ = some (.int .i64 6) := cel A2.m 0
  have k1 : w2.cell? ⟨w.heap.size, 1, none⟩ = some (.int .i64 a) := cel A2.m 1
  have k2 : w2.cell? ⟨w.heap.size, 2, none⟩ = some (.int .i64 c) := cel A2.m 2
  have CC := Lib.hid (can_of y.F y.f 6 a c w2 (FC.of (A2.s.p.fr _ y HIX.out)))
  have HA2 := Lib.hid A2
  clear hw2 A2 CT HA1
  go_wp2_with fail
  refine CC.out.mono ?_
  rintro e w3 ⟨rfl, hb3⟩
  have A3 := HA2.out.below hb3
  clear k0 k1 k2
  have k0 : w3.cell? ⟨w.heap.size, 0, none⟩ = some (.int .i64 6) := cel A3.m 0
  have k1 : w3.cell? ⟨w.heap.size, 1, none⟩ = some (.int .i64 a) := cel A3.m 1
  have k2 : w3.cell? ⟨w.heap.size, 2, none⟩ = some (.int .i64 c) := cel A3.m 2
  obtain ⟨pva, pvc, hpv, -⟩ := RR.form recS A3.s.p.pr
  obtain ⟨L, hL⟩ : ∃ L, x.P.length = L := ⟨_, rfl⟩
  have b1 : w3.cell? ⟨b, 1, none⟩ = some (.slice pva L pvc) := by rw [← hL, ← A3.s.p.pl, ← hpv]; exact cel A3.s.o 1
  have nb : b < w3.heap.size := lt_of A3.s.o
  have nM : w.heap.size < w3.heap.size := lt_of A3.m
  have nF : y.F < w3.heap.size := lt_of (A3.s.p.fr _ y HIX.out).o
  have HL := Lib.hid hL
  rw [hL] at hPl
  have HA3 := Lib.hid A3
  clear HA2 CC hb3 A3 hpv hL
  cases hv : canB 6 a y.f
  · have HV := Lib.hid hv
    clear hv
    go_wp2_with fail
    go_ret
    exact ⟨y.f, 4, _, x.ps, ⟨_, HPS.out⟩, errC_form (by decide) (by decide) HV.out, rfl, ⟨x, HA3.out.s, rfl, HA3.out.kx⟩, fun e => by cases e⟩
  · have HV := Lib.hid hv
    clear hv
    have CB := Lib.hid (begins_of 6 w3 (by decide) (by decide))
    go_wp2_with fail
    refine CB.out.mono ?_
    rintro e w4 ⟨rfl, hw4⟩
    obtain rfl : w3 = w4 := hw4.symm
    clear hw4
    rw [show begB 6 = true from by decide]
    clear CB
    by_cases hl : 1000 ≤ L
    · have hld : decide (1000 ≤ L) = true := by simpa using hl
      have hli : (1000 : Int) ≤ (L : Int) := by omega
      go_wp2_with fail
      go_ret
      exact ⟨y.f, 9, _, x.ps, ⟨_, HPS.out⟩, errC_long (by decide) (by decide) HV.out (by decide) (by rw [show x.ps.P.length = L from HL.out]; exact hl), rfl, ⟨x, HA3.out.s, rfl, HA3.out.kx⟩, fun e => by cases e⟩
    · have HEC : Hid (errC 6 a y.f x.ps.P.length = 0) := Lib.hid (errC_eq (by decide) (by decide) HV.out (fun _ => by rw [show x.ps.P.length = L from HL.out]; omega))
      have hld : decide (1000 ≤ L) = false := by simpa using hl
      have hli : ¬ (1000 : Int) ≤ (L : Int) := by omega
      have hi3 := HIX.out
      have hy3 := HA3.out.s.p.fr _ y hi3
      have q1 : w3.cell? ⟨y.F, 1, none⟩ = some (.int .i64 y.f.now) := cel hy3.o 1
      obtain ⟨ua, un, uc, huv⟩ := form3 hy3.p.um.o
      have q2 : w3.cell? ⟨y.F, 2, none⟩ = some (.slice ua un uc) := by rw [← huv]; exact cel hy3.o 2
      have HUV := Lib.hid huv
      have HUM : Hid (∀ w', Below w3.heap.size w3 w' → RV 1 enI w' (.slice ua un uc) y.f.um) := Lib.hid fun w' hb => by rw [← HUV.out]; exact RV.below (OR.rv recI hy3.p.um.o) hb
      have HST : Hid (∀ w4 va vn vc, Below w3.heap.size w3 w4 → Hid (OR 1 enI w4 w3.heap.size 3 (.slice va vn vc) ([y.f.now] ++ y.f.um)) → Calls Try.prog 12 #[.pointer (some ⟨b, 0, none⟩), .pointer (some ⟨y.F, 0, none⟩), .slice va vn vc] w4 fun e w9 => e = .returned (.tuple #[]) ∧ Hid (∃ r9 x9, SB w0 w9 r9 b x9 ∧ x9.S[T.length]? = some { y with f := { y.f with now := (x.P.length : Int) } } ∧ x9 = ⟨x.sv, x9.pv, x9.nv, x.av, x.S.set T.length { y with f := { y.f with now := (x.P.length : Int) } }, x9.us, x.P ++ [[y.f.now] ++ y.f.um], x.N ++ [nodeOf y.f], x.A⟩ ∧ KX (fun c => c ≠ 0) r r9 w w9)) := Lib.hid fun w4 va vn vc hb ho => by
        obtain ⟨hS4, hk4⟩ := HA3.out.s.below 6 hb
        refine (strand_of w0 w4 _ b T.length x y (va, vn, vc) ([y.f.now] ++ y.f.um) hS4 HIX.out (RD.new ho.out recI) (by have := HL.out; omega) (by omega)).mono ?_
        rintro e w9 ⟨rfl, r9, pv9, nv9, us9, h9, k9⟩
        refine ⟨rfl, Lib.hid ⟨r9, _, h9, List.getElem?_set_self (List.getElem?_eq_some_iff.1 HIX.out).1, rfl, ((HA3.out.kx.to hk4).to k9).mono (fun c hc => by simp only [or_false, false_or, ne_eq] at hc ⊢; omega)⟩⟩
      have hum : y.f.um.length ≤ 100000 := by have := hrg.l1; omega
      have ho3 : Hid (∀ w', Below (w3.alloc (.cells #[.int .i64 y.f.now] 3)).heap.size (w3.alloc (.cells #[.int .i64 y.f.now] 3)) w' → OR 1 enI w' w3.heap.size 3 (.slice (some ⟨w3.heap.size, 0, none⟩) 1 1) [y.f.now]) := Lib.hid fun w' hb => OR.below ⟨rfl, .inr ⟨w3.heap.size, 1, #[.int .i64 y.f.now], rfl, Nat.le_refl _, heap_new _ _, Nat.le_refl _, by decide, rfl, rfl⟩⟩ hb
      have hoD : Hid (∀ w', Below (w3.drew.alloc (.cells #[.int .i64 y.f.now] 3)).heap.size (w3.drew.alloc (.cells #[.int .i64 y.f.now] 3)) w' → OR 1 enI w' w3.heap.size 3 (.slice (some ⟨w3.heap.size, 0, none⟩) 1 1) [y.f.now]) := Lib.hid fun w' hb => OR.below ⟨rfl, .inr ⟨w3.heap.size, 1, #[.int .i64 y.f.now], rfl, Nat.le_refl _, heap_new w3.drew _, Nat.le_refl _, by decide, rfl, rfl⟩⟩ hb
      clear hi3 hy3 huv
      go_wp2_with fail
      go_region_law (first
        | ((refine step_appV rfl _ _ 39 3 _ 8 (by rfl) Try.underlying39 infI rfl (by decide) recI w3.heap.size (.slice (some ⟨w3.heap.size, 0, none⟩) 1 1) (.slice ua un uc) [y.f.now] y.f.um (by rfl) (by rfl) (by first | exact ho3.out _ (Below.refl _ _) | exact hoD.out _ (Below.refl _ _) | exact ho3.out _ (by go_grown) | exact hoD.out _ (by go_grown)) (HUM.out _ (by go_grown)) (by simp) hum (by simp) ?_; intro va vn vc w4 ho4 hg4; have hb4 : Below w3.heap.size w3 w4 := Below.grown (by go_grown) hg4 (by simp) (fun k e => by simp [Value.ownBlock] at e; omega)))
        | ((go_simp; (with_reducible refine (HST.out _ _ _ _ hb4 ho4).mono ?_); rintro e w9 ⟨rfl, HX9⟩)))
      all_goals
        obtain ⟨r9, x9, hS9, hi9, hx9, hk9⟩ := HX9.out
        have hfr := hS9.p.fr T.length _ hi9
        have e2 : w9.cell? ⟨y.F, 2, none⟩ = some (.slice ua un uc) := by rw [← HUV.out]; exact cel hfr.o 2
        have ef2 := frz hfr.o 2
        obtain ⟨hSA, hkA⟩ := hS9.clrU hi9
        have e9 : x9.S = T ++ [({ y with f := { y.f with now := (x.P.length : Int) } } : Fx)] := (congrArg Bx.S hx9).trans (by show x.S.set _ _ = _; rw [HSS.out, set_last])
        have eP : x9.P = x.P ++ [[y.f.now] ++ y.f.um] := congrArg Bx.P hx9
        have eN : x9.N = x.N ++ [nodeOf y.f] := congrArg Bx.N hx9
        have eA : x9.A = x.A := (congrArg Bx.A hx9).trans rfl
        have FIN : Hid (∃ r', PX w0 w r b (meetP (T.map Fx.f) y.f x.ps) r' (w9.setCell ⟨y.F, 2, none⟩ (.slice none 0 0))) := Lib.hid ⟨r9, _, hSA, by simp [Bx.ps, meetP, e9, eP, eN, eA, set_last], (hk9.to hkA).mono (fun c hc => by simp only [or_false, false_or, ne_eq] at hc ⊢; omega)⟩
        clear HX9 hS9 hi9 hx9 hk9 hfr hSA hkA e9 eP eN eA ho4 hg4 hb4 HST HUM ho3 hoD k0 k1 k2 b1 q1 q2
        go_wp2_with fail
        go_ret
        obtain ⟨rA, hA⟩ := FIN.out
        exact ⟨y.f, 0, rA, meetP (T.map Fx.f) y.f x.ps, ⟨_, HPS.out⟩, HEC.out, rfl, hA, fun _ => .meet _ _ HPS.out rfl⟩
end Go.Proofs.Ytgbaaemocnjaoaa.sn
