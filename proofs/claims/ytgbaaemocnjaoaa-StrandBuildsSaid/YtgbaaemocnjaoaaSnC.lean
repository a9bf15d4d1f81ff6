/- What the builder's small steps do (layer 30): the top, push, pop, a strand begins, an access. -/
import Derived.Test.YtgbaaemocnjaoaaSnB
import Derived.RegionTactic
import Derived.ChangeAlike
import Derived.StillTailTactics
import Derived.Deep.RegionHeld3
import Derived.Deep.RegionLaw
import Derived.Deep.DrawnRows
namespace Go.Proofs.Ytgbaaemocnjaoaa.sn
open Go.ChangeShapes Go.WideShapes Go.ChangeAt Go.RowKit
open Go.Proofs.Ytgbaaemocnjaoaa.ro
attribute [local go_sem ↓] Go.wp_at_zero Go.wp_at_succ
set_option linter.unusedVariables false
set_option linter.unusedSimpArgs false
section
variable {w0 w w' : World} {r r' : Ro} {b i : Nat} {x : Bx} {y : Fx}
theorem SB.cells (h : SB w0 w r b x) : w.cell? ⟨b, 0, none⟩ = some x.sv ∧ w.cell? ⟨b, 1, none⟩ = some x.pv ∧ w.cell? ⟨b, 2, none⟩ = some x.nv ∧ w.cell? ⟨b, 3, none⟩ = some x.av ∧ ∀ i, w.frozen? ⟨b, i, none⟩ = false :=
  ⟨cel h.o 0, cel h.o 1, cel h.o 2, cel h.o 3, frz h.o⟩
theorem FR.cells (h : FR w r i y) : w.cell? ⟨y.F, 0, none⟩ = some (.int .i64 y.f.kd) ∧ w.cell? ⟨y.F, 1, none⟩ = some (.int .i64 y.f.now) ∧ w.cell? ⟨y.F, 2, none⟩ = some y.uv ∧ w.cell? ⟨y.F, 3, none⟩ = some (.int .i64 y.f.lp) ∧ w.cell? ⟨y.F, 4, none⟩ = some (.int .i64 y.f.it) ∧ w.cell? ⟨y.F, 5, none⟩ = some (.int .i64 y.f.sg) ∧ w.cell? ⟨y.F, 6, none⟩ = some y.pv ∧ w.cell? ⟨y.F, 7, none⟩ = some y.av ∧ w.cell? ⟨y.F, 8, none⟩ = some (.int .i64 y.f.bg) ∧ w.cell? ⟨y.F, 9, none⟩ = some y.lv ∧ ∀ i, w.frozen? ⟨y.F, i, none⟩ = false :=
  ⟨cel h.o 0, cel h.o 1, cel h.o 2, cel h.o 3, cel h.o 4, cel h.o 5, cel h.o 6, cel h.o 7, cel h.o 8, cel h.o 9, frz h.o⟩
theorem SB.ne (h : SB w0 w r b x) (hi : x.S[i]? = some y) : b ≠ y.F ∧ y.F ≠ b ∧ b < w.heap.size ∧ y.F < w.heap.size := by
  have h1 := h.p.ro
  have h2 := (h.p.fr i y hi).p.ro
  exact ⟨fun e => by rw [e] at h1; omega, fun e => by rw [← e] at h1; omega, lt_of h.o, lt_of (h.p.fr i y hi).o⟩
theorem RR.form {α : Type} {k : Nat} {en : α → List Value} (hr : Rec k en) {c e : Nat} {v : Value} {xs : List α} (h : RR k en w r c e v xs) : ∃ a cap, v = .slice a xs.length cap ∧ xs.length ≤ cap ∧ cap ≤ maxLen ∧ ∀ j x, xs[j]? = some x → ∃ g, a = some ⟨g, 0, none⟩ ∧ g < w.heap.size ∧ ∀ q u, (en x)[q]? = some u → w.cell? ⟨g, j * k + q, none⟩ = some u := by
  have ho := h.o
  unfold OR at ho
  obtain ⟨hl, ⟨rfl, h0⟩ | ⟨g, cap, cur, rfl, hg, hh, h1, h2, h3, h4⟩⟩ := ho
  · obtain rfl : xs = [] := List.eq_nil_of_length_eq_zero h0
    exact ⟨none, 0, rfl, Nat.le_refl _, Nat.zero_le _, fun j x hx => by simp at hx⟩
  · refine ⟨_, cap, rfl, h1, h2, fun j x hx => ⟨g, rfl, lt_of hh, fun q u hu => ?_⟩⟩
    have h5 := flat_at hr xs j x q u hx hu
    have hlt := (List.getElem?_eq_some_iff.1 h5).1
    rw [hl] at hlt
    rw [← h4, List.getElem?_take_of_lt hlt] at h5
    have h6 : cur[j * k + q]? = some u := by simpa using h5
    simp [World.cell?, hh, h6]
theorem form3 {α : Type} {k : Nat} {en : α → List Value} {w : World} {B e : Nat} {v : Value} {xs : List α} (h : OR k en w B e v xs) : ∃ a n cap, v = .slice a n cap := by
  obtain ⟨a, c, h⟩ := OR.form h
  exact ⟨a, _, c, h⟩
theorem SB.topc {T : List Fx} (h : SB w0 w r b x) (hS : x.S = T ++ [y]) : ∃ g c, x.sv = .slice (some ⟨g, 0, none⟩) (T.length + 1) c ∧ T.length + 1 ≤ c ∧ c ≤ maxLen ∧ w.cell? ⟨g, T.length, none⟩ = some (.pointer (some ⟨y.F, 0, none⟩)) := by
  obtain ⟨a, c, h1, h2, h3, h4⟩ := RR.form recF h.p.st
  obtain ⟨g, rfl, _, hc⟩ := h4 T.length y.F (by rw [hS]; simp)
  have hl : (x.S.map Fx.F).length = T.length + 1 := by rw [hS]; simp
  rw [hl] at h1 h2
  exact ⟨g, c, h1, h2, h3, by simpa using hc 0 _ rfl⟩
end
set_option maxRecDepth 20000 in
theorem top_of (w0 w : World) (r : Ro) (b : Nat) (x : Bx) (T : List Fx) (y : Fx) (h : SB w0 w r b x) (hS : x.S = T ++ [y]) (hm : T.length ≤ 100000) :
    Calls Try.prog 13 #[.pointer (some ⟨b, 0, none⟩)] w fun e w' => e = .returned (.pointer (some ⟨y.F, 0, none⟩)) ∧ ∃ n, w' = w.drewN n := by
  obtain ⟨g, c, hv, hc1, hc2, hc⟩ := h.topc hS
  obtain ⟨c0, _⟩ := h.cells
  rw [hv] at c0
  obtain ⟨L, hL⟩ : ∃ L, T.length = L := ⟨_, rfl⟩
  obtain ⟨n, hn⟩ : ∃ n, L + 1 = n := ⟨_, rfl⟩
  rw [hL] at c0 hc hc1 hm
  rw [hn] at c0 hc1
  have e1 : (n : Int) - 1 = (L : Int) := by omega
  have e2 : ¬ (n : Int) - 1 < 0 := by omega
  have e3 : (L : Int) < (n : Int) := by omega
  have e4 : (n : Int) ≤ 100001 := by omega
  clear h hS hv hL hn
  go_enter Try.func13, Try.ntmps13
  go_wp2_with fail
  go_quiet (fail)
  go_wp2_with fail
  go_ret
  exact ⟨rfl, _, rfl⟩
theorem rec_new {α : Type} {en : α → List Value} {w : World} {cs : Array Value} {e g : Nat} (hg : w.heap.size = g) {p : α} (hp : cs.toList = en p) : ∀ j u, (en p)[j]? = some u → (w.alloc (.cells cs e)).cell? ((⟨g, 0, none⟩ : Addr).add j) = some u := by
  intro j u hu
  subst hg
  rw [← hp] at hu
  have h2 : cs[j]? = some u := by simpa using hu
  have := heap_new w (.cells cs e)
  rw [Go.WideShapes.add_plain, Nat.zero_add]
  simp only [World.cell?]
  rw [this]
  exact h2
theorem step_appR {α : Type} {k : Nat} {en : α → List Value} {ops : Array Oper} {o : Oper} {a : Act} {w : World} {K : Act → World → Prop} {Q : Exit → Act → World → Prop} {E : Prop} (hgd : o.guard = none) (s x : Operand) (t e : TypeId) (z : Value) (bytes : Nat)
    (ho : o.op = .call { callee := .builtin .append, args := #[s, x], argTypes := #[t, t] }) (ht : Try.prog.underlying t = some (.slice e)) (hinfo : (Try.prog.info? e).map (fun i => (i.zero, i.size, i.bytes)) = some (some z, k, bytes)) (hzs : z.cells.size = k) (hby : bytes ≤ 1000) (hr : Rec k en)
    (v : Value) (xs : List α) (p : α) (hs : a.eval s = v) (g c : Nat) (hx : a.eval x = .slice (some ⟨g, 0, none⟩) 1 c) (hown : OR k en w 0 e v xs) (hu : ∀ j u, (en p)[j]? = some u → w.cell? ((⟨g, 0, none⟩ : Addr).add j) = some u) (hsm : xs.length ≤ 1000000)
    (h : ∀ va vn vc w', Hid (OR k en w' 0 e (.slice va vn vc) (xs ++ [p])) → w.grownBy w' v.ownBlock → Hid ((Value.slice va vn vc).ownBlock = v.ownBlock ∨ (Value.slice va vn vc).ownBlock = some w.heap.size) → K (a.put o.dst (.slice va vn vc)) w') :
    if Region.wanted o (yielded ops a.tmps) = true then Oper.wp Try.prog o a w K Q else E := by
  have hw : Region.wanted o (yielded ops a.tmps) = true := by simp [Region.wanted, hgd]
  rw [if_pos hw]
  obtain ⟨i0, hi, hz0, hz1, hz2⟩ := info_parts hinfo
  have hb1 : (xs.length + 1) * bytes ≤ 140737488355328 := by
    have := Nat.mul_le_mul (show xs.length + 1 ≤ 1000001 by omega) hby
    omega
  obtain ⟨v', w', r1, r2, r3, _, r5⟩ := run_append_own_at (P := Try.prog) w 0 t o.type e i0 z k bytes ht hi hz0 hz1 hz2 hzs hr.1 v xs.length _ hown ⟨g, 0, none⟩ 1 c (en p) (by rw [hr.2.1]; omega) hu (hr.2.2 p) (by unfold maxLen; omega) hb1 (Nat.zero_le _)
  have r2' : OR k en w' 0 e v' (xs ++ [p]) := by unfold OR; rw [flat_snoc, List.length_append]; exact r2
  obtain ⟨va, vn, vc, rfl⟩ := form3 r2'
  unfold Oper.wp execOp
  simp only [ho, resolve, invoke, builtin, Sem.run_bind, Sem.run_pure, Result.andThen_ok, List.map_toArray, List.map_cons, List.map_nil, hs, hx, r1]
  exact h va vn vc w' (Lib.hid r2') r3 (Lib.hid r5)
def StkP (P : Ro → World → Prop) (e : Ending) (w' : World) : Prop := e = .returned (.tuple #[]) ∧ ∃ r', P r' w'
set_option maxRecDepth 20000 in
theorem push_of (w0 w : World) (r : Ro) (b : Nat) (x : Bx) (y : Fx) (h : SB w0 w r b x) (hy : FR w r x.S.length y) (hm : x.S.length ≤ 100000) :
    Calls Try.prog 20 #[.pointer (some ⟨b, 0, none⟩), .pointer (some ⟨y.F, 0, none⟩)] w (StkP fun r' w' => ∃ v', SB w0 w' r' b { x with sv := v', S := x.S ++ [y] } ∧ KX (fun c => c = 2 ∨ c = 1) r r' w w') := by
  obtain ⟨c0, _, _, _, cf⟩ := h.cells
  have f0 := cf 0
  have HS := Lib.hid h
  have HY := Lib.hid hy
  have HG := Lib.hid (h.below (w' := w.alloc (.cells #[.pointer (some ⟨y.F, 0, none⟩)] 47)) 0 (by go_grown))
  have hm2 : (x.S.map Fx.F).length ≤ 1000000 := by rw [List.length_map]; omega
  clear h hy cf hm
  go_enter Try.func20, Try.ntmps20
  go_wp2_with ((at_builtin; refine wpList_appR rfl _ _ 53 47 _ 8 rfl Try.underlying53 infF rfl (by decide) recF 0 x.sv (x.S.map Fx.F) rfl ⟨w.heap.size, 0, none⟩ 1 rfl y.F HG.out.1.p.st.o (rec_new rfl rfl) hm2 (Nat.zero_le _) ?_))
  intro v' w2 ho2 hg2 hor2
  obtain ⟨va, vn, vc, rfl⟩ := form3 ho2
  obtain ⟨r', hb2, hS2, hk2⟩ := HG.out.1.push ((HY.out.keep HG.out.2 (fun h => h) (fun _ _ _ h => h))) hg2 ho2 (by simpa using hor2)
  have d0 := frz hb2 0
  have e0 : w2.cell? ⟨b, 0, none⟩ = some x.sv := cel hb2 0
  have FIN := Lib.hid (And.intro hS2 (KX.trans (HG.out.2.mono (fun _ h => h.elim)) hk2))
  clear hb2 hS2 hk2 ho2 hg2 hor2 HG HY HS c0 f0
  go_wp2_with fail
  go_end0
  exact ⟨rfl, r', _, FIN.out.1, FIN.out.2⟩
theorem pop_of (w0 w : World) (r : Ro) (b : Nat) (x : Bx) (T : List Fx) (y : Fx) (h : SB w0 w r b x) (hS : x.S = T ++ [y]) (hm : T.length ≤ 100000) :
    Calls Try.prog 22 #[.pointer (some ⟨b, 0, none⟩)] w (StkP fun r' w' => ∃ v', SB w0 w' r' b { x with sv := v', S := T } ∧ KX (fun c => c = 1) r r' w w') := by
  obtain ⟨g, c, hv, hc1, hc2, hc⟩ := h.topc hS
  obtain ⟨c0, _, _, _, cf⟩ := h.cells
  have f0 := cf 0
  have FIN := Lib.hid (h.pop hv hS)
  rw [hv] at c0
  obtain ⟨L, hL⟩ : ∃ L, T.length = L := ⟨_, rfl⟩
  obtain ⟨n, hn⟩ : ∃ n, L + 1 = n := ⟨_, rfl⟩
  rw [hL] at c0 hc hc1 hm FIN
  rw [hn] at c0 hc1
  have e1 : (n : Int) - 1 = (L : Int) := by omega
  have e2 : ¬ (n : Int) - 1 < 0 := by omega
  have e3 : (L : Int) < (n : Int) := by omega
  have e4 : (n : Int) ≤ 100001 := by omega
  have e5 : (L : Int) ≤ (c : Int) := by omega
  clear h hS hv hL hn cf
  go_enter Try.func22, Try.ntmps22
  go_wp2_with fail
  go_region
  go_wp2_with fail
  go_end0
  exact ⟨rfl, _, _, (FIN.out.1.below 0 (by go_grown)).1, (FIN.out.2.trans ((FIN.out.1.below 0 (by go_grown)).2.mono (fun _ h => h.elim)))⟩
def nodeOf (f : Fm) : Int × Int × Int := if f.kd = 3 then (f.lp, f.it, f.sg) else (0, 0, 0)
def StrX (w0 w : World) (r : Ro) (b i : Nat) (x : Bx) (y : Fx) (ps : List Int) (r' : Ro) (w' : World) : Prop :=
  ∃ pv nv us, SB w0 w' r' b ⟨x.sv, pv, nv, x.av, x.S.set i { y with f := { y.f with now := (x.P.length : Int) } }, us, x.P ++ [ps], x.N ++ [nodeOf y.f], x.A⟩ ∧ KX (fun c => c = 1 ∨ c = 3 ∨ c = 4 ∨ c = 8 + 4 * i) r r' w w'
set_option maxRecDepth 20000 in
theorem strand_yes (w0 w : World) (r : Ro) (b i : Nat) (x : Bx) (y : Fx) (u : Sl) (ps : List Int) (h : SB w0 w r b x) (hi : x.S[i]? = some y) (hu : RD 1 enI w r 6 (sl u) ps) (h1 : x.P.length ≤ 100000) (h2 : x.N.length ≤ 100000) (hk : y.f.kd = 3) :
    Calls Try.prog 12 #[.pointer (some ⟨b, 0, none⟩), .pointer (some ⟨y.F, 0, none⟩), sl u] w (StkP (StrX w0 w r b i x y ps)) := by
  obtain ⟨c0, c1, c2, c3, cf⟩ := h.cells
  obtain ⟨d0, d1, d2, d3, d4, d5, d6, d7, d8, d9, df⟩ := (h.p.fr i y hi).cells
  have f1 := df 1
  obtain ⟨n1, n2, n3, n4⟩ := h.ne hi
  obtain ⟨pa, pc, hpv, -⟩ := RR.form recS h.p.pr
  rw [hpv, h.p.pl] at c1
  obtain ⟨L, hL⟩ : ∃ L, x.P.length = L := ⟨_, rfl⟩
  rw [hL] at c1 h1
  have hyy : FR (w.setCell ⟨y.F, 1, none⟩ (.int .i64 (L : Int))) r i { y with f := { y.f with now := (L : Int) } } ∧ _ := FP.set (x := { y with f := { y.f with now := (L : Int) } }) (y := y) ⟨(h.p.fr i y hi).p.ro, (h.p.fr i y hi).p.um, (h.p.fr i y hi).p.pa, (h.p.fr i y hi).p.le, (h.p.fr i y hi).p.ah⟩ 1 (.int .i64 (L : Int)) (h.p.fr i y hi).o rfl rfl
  obtain ⟨hy1, hk1⟩ := hyy
  have hS1 := h.frame hi (y' := { y with f := { y.f with now := (L : Int) } }) rfl hk1 (fun c hc => by omega) hy1
  have hu1 := hu.keep hk1 (by omega)
  have hLL : x.us.length ≤ 1000000 := by rw [h.p.pl, hL]; omega
  obtain ⟨ua, un, uc⟩ := u
  have HL := Lib.hid hL
  have hg2 := hS1.below (w' := (w.setCell ⟨y.F, 1, none⟩ (.int .i64 (L : Int))).alloc (.cells #[.slice ua un uc] 39)) 0 (by go_grown)
  have hu2 := hu1.keep hg2.2 (fun h => h)
  have HG := Lib.hid (And.intro hg2.1 (And.intro (KX.to hk1 hg2.2) hu2))
  have HSZ := Lib.hid (set_size w y.F 1 (.int .i64 (L : Int)))
  have HPV : Hid (Value.slice pa L pc = x.pv) := Lib.hid (by rw [hpv, h.p.pl, hL])
  rw [hk] at d0
  have HI := Lib.hid hi
  have HK := Lib.hid hk
  clear hk
  clear h hi hu hL hpv hy1 hk1 hS1 hu1 cf df hg2 hu2
  unfold sl
  go_enter Try.func12, Try.ntmps12
  go_wp2_with ((at_builtin; refine wpList_appR rfl _ _ 24 39 _ 24 rfl Try.underlying24 infS rfl (by decide) recS 0 x.pv x.us HPV.out ⟨w.heap.size, 0, none⟩ 1 rfl (ua, un, uc) HG.out.1.p.pr.o (rec_new HSZ.out rfl) hLL (Nat.zero_le _) ?_))
  intro v' w2 ho2 hg2 hor2
  obtain ⟨va, vn, vc, rfl⟩ := form3 ho2
  obtain ⟨r3, hb2, hS3, hk3⟩ := HG.out.1.appP HG.out.2.2 hg2 ho2 (by simpa [HSZ.out] using hor2)
  have e1 : w2.cell? ⟨b, 1, none⟩ = some x.pv := cel hb2 1
  have ef1 := frz hb2 1
  have hi3 : (x.S.set i { y with f := { y.f with now := (L : Int) } })[i]? = some { y with f := { y.f with now := (L : Int) } } := List.getElem?_set_self (List.getElem?_eq_some_iff.1 HI.out).1
  have hfr := hS3.p.fr i _ hi3
  obtain ⟨g0, g1, g2, g3, g4, g5, _⟩ := hfr.cells
  have n5 : y.F < w2.heap.size := by have := lt_of hfr.o; rwa [set_size] at this
  have n6 : b < w2.heap.size := by have := lt_of hS3.o; rwa [set_size] at this
  have HH := Lib.hid (And.intro hS3 ((HG.out.2.1).to hk3))
  clear hb2 hS3 hk3 ho2 hg2 hor2 HG hfr hi3 d0 d1 d2 d3 d4 d5 d6 d7 d8 d9 c0 c1 c2 c3 HPV
  rw [show ({ y with f := { y.f with now := (L : Int) } } : Fx).f.kd = 3 from HK.out] at g0
  dsimp only at g1 g3 g4 g5
  go_wp2_with fail
  obtain ⟨W, hW⟩ : ∃ W, (w2.setCell ⟨b, 1, none⟩ (.slice va vn vc)).alloc (.cells #[.int .i64 y.f.lp, .int .i64 y.f.it, .int .i64 y.f.sg] 49) = W := ⟨_, rfl⟩
  rw [hW]
  have hXW : W.heap[w2.heap.size]? = some (.cells #[.int .i64 y.f.lp, .int .i64 y.f.it, .int .i64 y.f.sg] 49 (0, 0)) := by
    have := heap_new (w2.setCell ⟨b, 1, none⟩ (.slice va vn vc)) (.cells #[.int .i64 y.f.lp, .int .i64 y.f.it, .int .i64 y.f.sg] 49)
    rw [hW, set_size] at this
    exact this
  obtain ⟨hSW, hkW⟩ := HH.out.1.below (w' := W) 0 (by rw [← hW]; go_grown)
  obtain ⟨X, hX⟩ : ∃ X, w2.heap.size = X := ⟨_, rfl⟩
  rw [hX] at hXW ⊢
  have p0 : W.cell? ⟨X, 0, none⟩ = some (.int .i64 y.f.lp) := cel hXW 0
  have p1 : W.cell? ⟨X, 1, none⟩ = some (.int .i64 y.f.it) := cel hXW 1
  have p2 : W.cell? ⟨X, 2, none⟩ = some (.int .i64 y.f.sg) := cel hXW 2
  have q2 : W.cell? ⟨b, 2, none⟩ = some x.nv := cel hSW.o 2
  have q3 := frz hSW.o 2
  have m1 : X < W.heap.size := lt_of hXW
  have m2 : b < W.heap.size := lt_of hSW.o
  have HGo : Hid (∀ w', Below W.heap.size W w' → OR 3 enN w' 0 49 x.nv x.N) := Lib.hid fun w' hb => (hSW.below 0 hb).1.p.no.o
  have HApp : Hid (∀ w3 w4 v', Below W.heap.size W w3 → Hid (OR 3 enN w4 0 49 v' (x.N ++ [(y.f.lp, y.f.it, y.f.sg)])) → w3.grownBy w4 x.nv.ownBlock → Hid (v'.ownBlock = x.nv.ownBlock ∨ v'.ownBlock = some w3.heap.size) → w4.cell? ⟨b, 2, none⟩ = some x.nv ∧ w4.frozen? ⟨b, 2, none⟩ = false ∧ Hid (∃ r', StrX w0 w r b i x y ps r' (w4.setCell ⟨b, 2, none⟩ v'))) := Lib.hid fun w3 w4 v' hb ho hg hor => by
    obtain ⟨hS3, hk3⟩ := hSW.below 0 hb
    obtain ⟨r', hb4, hS4, hk4⟩ := hS3.appN hg ho.out hor.out
    refine ⟨cel hb4 2, frz hb4 2, Lib.hid ⟨r', .slice va vn vc, v', x.us ++ [(ua, un, uc)], ?_, ((HH.out.2.to hkW).to (hk3.to hk4)).mono (fun c hc => by simp only [or_false, false_or] at hc; omega)⟩⟩
    rw [HL.out]
    have e : nodeOf y.f = (y.f.lp, y.f.it, y.f.sg) := by unfold nodeOf; rw [if_pos HK.out]
    rw [e]
    exact hS4
  have hnN : x.N.length ≤ 1000000 := by omega
  clear HH hSW hkW hX hW hXW g0 g1 g2 g3 g4 g5 e1 ef1 n5 n6 f1 n1 n2 n3 n4 h1 h2 hLL 
  obtain ⟨na, nn, nc, hnv⟩ : ∃ a n c, x.nv = .slice a n c := form3 (HGo.out W (Below.refl _ _))
  rw [hnv] at q2
  have HNV := Lib.hid hnv
  clear hnv
  go_region_law ((refine step_appR rfl _ _ 25 49 _ 24 (by rfl) Try.underlying25 infN rfl (by decide) recN x.nv x.N (y.f.lp, y.f.it, y.f.sg) (by exact HNV.out.symm) W.heap.size 1 (by rfl) (HGo.out _ (by go_grown)) (rec_new (by go_simp) rfl) hnN ?_; intro va vn vc w4 ho4 hg4 hor4; obtain ⟨c4, z4, F4⟩ := HApp.out _ _ _ (by go_grown) ho4 hg4 hor4))
  all_goals
    clear ho4 hg4 hor4 c4 z4
    go_wp2_with fail
    go_end0
    exact ⟨rfl, F4.out⟩
set_option maxRecDepth 20000 in
theorem strand_no (w0 w : World) (r : Ro) (b i : Nat) (x : Bx) (y : Fx) (u : Sl) (ps : List Int) (h : SB w0 w r b x) (hi : x.S[i]? = some y) (hu : RD 1 enI w r 6 (sl u) ps) (h1 : x.P.length ≤ 100000) (h2 : x.N.length ≤ 100000) (hk : ¬ y.f.kd = 3) :
    Calls Try.prog 12 #[.pointer (some ⟨b, 0, none⟩), .pointer (some ⟨y.F, 0, none⟩), sl u] w (StkP (StrX w0 w r b i x y ps)) := by
  obtain ⟨c0, c1, c2, c3, cf⟩ := h.cells
  obtain ⟨d0, d1, d2, d3, d4, d5, d6, d7, d8, d9, df⟩ := (h.p.fr i y hi).cells
  have f1 := df 1
  obtain ⟨n1, n2, n3, n4⟩ := h.ne hi
  obtain ⟨pa, pc, hpv, -⟩ := RR.form recS h.p.pr
  rw [hpv, h.p.pl] at c1
  obtain ⟨L, hL⟩ : ∃ L, x.P.length = L := ⟨_, rfl⟩
  rw [hL] at c1 h1
  have hyy : FR (w.setCell ⟨y.F, 1, none⟩ (.int .i64 (L : Int))) r i { y with f := { y.f with now := (L : Int) } } ∧ _ := FP.set (x := { y with f := { y.f with now := (L : Int) } }) (y := y) ⟨(h.p.fr i y hi).p.ro, (h.p.fr i y hi).p.um, (h.p.fr i y hi).p.pa, (h.p.fr i y hi).p.le, (h.p.fr i y hi).p.ah⟩ 1 (.int .i64 (L : Int)) (h.p.fr i y hi).o rfl rfl
  obtain ⟨hy1, hk1⟩ := hyy
  have hS1 := h.frame hi (y' := { y with f := { y.f with now := (L : Int) } }) rfl hk1 (fun c hc => by omega) hy1
  have hu1 := hu.keep hk1 (by omega)
  have hLL : x.us.length ≤ 1000000 := by rw [h.p.pl, hL]; omega
  obtain ⟨ua, un, uc⟩ := u
  have HL := Lib.hid hL
  have hg2 := hS1.below (w' := (w.setCell ⟨y.F, 1, none⟩ (.int .i64 (L : Int))).alloc (.cells #[.slice ua un uc] 39)) 0 (by go_grown)
  have hu2 := hu1.keep hg2.2 (fun h => h)
  have HG := Lib.hid (And.intro hg2.1 (And.intro (KX.to hk1 hg2.2) hu2))
  have HSZ := Lib.hid (set_size w y.F 1 (.int .i64 (L : Int)))
  have HPV : Hid (Value.slice pa L pc = x.pv) := Lib.hid (by rw [hpv, h.p.pl, hL])
  have HI := Lib.hid hi
  have hkb : (y.f.kd == 3) = false := by rw [beq_eq_false_iff_ne]; exact hk
  have HKN := Lib.hid hk
  clear hk
  clear h hi hu hL hpv hy1 hk1 hS1 hu1 cf df hg2 hu2
  unfold sl
  go_enter Try.func12, Try.ntmps12
  go_wp2_with ((at_builtin; refine wpList_appR rfl _ _ 24 39 _ 24 rfl Try.underlying24 infS rfl (by decide) recS 0 x.pv x.us HPV.out ⟨w.heap.size, 0, none⟩ 1 rfl (ua, un, uc) HG.out.1.p.pr.o (rec_new HSZ.out rfl) hLL (Nat.zero_le _) ?_))
  intro v' w2 ho2 hg2 hor2
  obtain ⟨va, vn, vc, rfl⟩ := form3 ho2
  obtain ⟨r3, hb2, hS3, hk3⟩ := HG.out.1.appP HG.out.2.2 hg2 ho2 (by simpa [HSZ.out] using hor2)
  have e1 : w2.cell? ⟨b, 1, none⟩ = some x.pv := cel hb2 1
  have ef1 := frz hb2 1
  have hi3 : (x.S.set i { y with f := { y.f with now := (L : Int) } })[i]? = some { y with f := { y.f with now := (L : Int) } } := List.getElem?_set_self (List.getElem?_eq_some_iff.1 HI.out).1
  have hfr := hS3.p.fr i _ hi3
  obtain ⟨g0, g1, g2, g3, g4, g5, _⟩ := hfr.cells
  have n5 : y.F < w2.heap.size := by have := lt_of hfr.o; rwa [set_size] at this
  have n6 : b < w2.heap.size := by have := lt_of hS3.o; rwa [set_size] at this
  have HH := Lib.hid (And.intro hS3 ((HG.out.2.1).to hk3))
  clear hb2 hS3 hk3 ho2 hg2 hor2 HG hfr hi3 d0 d1 d2 d3 d4 d5 d6 d7 d8 d9 c0 c1 c2 c3 HPV
  dsimp only at g0 g1 g3 g4 g5
  go_wp2_with fail
  obtain ⟨W, hW⟩ : ∃ W, (w2.setCell ⟨b, 1, none⟩ (.slice va vn vc)).alloc (.cells #[.int .i64 0, .int .i64 0, .int .i64 0] 49) = W := ⟨_, rfl⟩
  rw [hW]
  have hXW : W.heap[w2.heap.size]? = some (.cells #[.int .i64 0, .int .i64 0, .int .i64 0] 49 (0, 0)) := by
    have := heap_new (w2.setCell ⟨b, 1, none⟩ (.slice va vn vc)) (.cells #[.int .i64 0, .int .i64 0, .int .i64 0] 49)
    rw [hW, set_size] at this
    exact this
  obtain ⟨hSW, hkW⟩ := HH.out.1.below (w' := W) 0 (by rw [← hW]; go_grown)
  obtain ⟨X, hX⟩ : ∃ X, w2.heap.size = X := ⟨_, rfl⟩
  rw [hX] at hXW ⊢
  have p0 : W.cell? ⟨X, 0, none⟩ = some (.int .i64 0) := cel hXW 0
  have p1 : W.cell? ⟨X, 1, none⟩ = some (.int .i64 0) := cel hXW 1
  have p2 : W.cell? ⟨X, 2, none⟩ = some (.int .i64 0) := cel hXW 2
  have q2 : W.cell? ⟨b, 2, none⟩ = some x.nv := cel hSW.o 2
  have q3 := frz hSW.o 2
  have m1 : X < W.heap.size := lt_of hXW
  have m2 : b < W.heap.size := lt_of hSW.o
  have HGo : Hid (∀ w', Below W.heap.size W w' → OR 3 enN w' 0 49 x.nv x.N) := Lib.hid fun w' hb => (hSW.below 0 hb).1.p.no.o
  have HApp : Hid (∀ w3 w4 v', Below W.heap.size W w3 → Hid (OR 3 enN w4 0 49 v' (x.N ++ [((0 : Int), (0 : Int), (0 : Int))])) → w3.grownBy w4 x.nv.ownBlock → Hid (v'.ownBlock = x.nv.ownBlock ∨ v'.ownBlock = some w3.heap.size) → w4.cell? ⟨b, 2, none⟩ = some x.nv ∧ w4.frozen? ⟨b, 2, none⟩ = false ∧ Hid (∃ r', StrX w0 w r b i x y ps r' (w4.setCell ⟨b, 2, none⟩ v'))) := Lib.hid fun w3 w4 v' hb ho hg hor => by
    obtain ⟨hS3, hk3⟩ := hSW.below 0 hb
    obtain ⟨r', hb4, hS4, hk4⟩ := hS3.appN hg ho.out hor.out
    refine ⟨cel hb4 2, frz hb4 2, Lib.hid ⟨r', .slice va vn vc, v', x.us ++ [(ua, un, uc)], ?_, ((HH.out.2.to hkW).to (hk3.to hk4)).mono (fun c hc => by simp only [or_false, false_or] at hc; omega)⟩⟩
    rw [HL.out]
    have e : nodeOf y.f = ((0 : Int), (0 : Int), (0 : Int)) := by unfold nodeOf; rw [if_neg HKN.out]
    rw [e]
    exact hS4
  have hnN : x.N.length ≤ 1000000 := by omega
  clear HH hSW hkW hX hW hXW g0 g1 g2 g3 g4 g5 e1 ef1 n5 n6 f1 n1 n2 n3 n4 h1 h2 hLL hkb
  obtain ⟨na, nn, nc, hnv⟩ : ∃ a n c, x.nv = .slice a n c := form3 (HGo.out W (Below.refl _ _))
  rw [hnv] at q2
  have HNV := Lib.hid hnv
  clear hnv
  go_region_law ((refine step_appR rfl _ _ 25 49 _ 24 (by rfl) Try.underlying25 infN rfl (by decide) recN x.nv x.N ((0 : Int), (0 : Int), (0 : Int)) (by exact HNV.out.symm) W.heap.size 1 (by rfl) (HGo.out _ (by go_grown)) (rec_new (by go_simp) rfl) hnN ?_; intro va vn vc w4 ho4 hg4 hor4; obtain ⟨c4, z4, F4⟩ := HApp.out _ _ _ (by go_grown) ho4 hg4 hor4))
  all_goals
    clear ho4 hg4 hor4 c4 z4
    go_wp2_with fail
    go_end0
    exact ⟨rfl, F4.out⟩
theorem strand_of (w0 w : World) (r : Ro) (b i : Nat) (x : Bx) (y : Fx) (u : Sl) (ps : List Int) (h : SB w0 w r b x) (hi : x.S[i]? = some y) (hu : RD 1 enI w r 6 (sl u) ps) (h1 : x.P.length ≤ 100000) (h2 : x.N.length ≤ 100000) :
    Calls Try.prog 12 #[.pointer (some ⟨b, 0, none⟩), .pointer (some ⟨y.F, 0, none⟩), sl u] w (StkP (StrX w0 w r b i x y ps)) := by
  by_cases hk : y.f.kd = 3
  · exact strand_yes w0 w r b i x y u ps h hi hu h1 h2 hk
  · exact strand_no w0 w r b i x y u ps h hi hu h1 h2 hk
end Go.Proofs.Ytgbaaemocnjaoaa.sn
