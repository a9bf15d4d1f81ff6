/- Rows: what a loop's iterations have come to (layer 34). -/
import Derived.Test.YtgbeghaojkhiaaaTrJ
import Derived.Test.YtgbeghaojkhiaaaGrids
import Derived.RegionTactic
import Derived.ChangeAlike
import Derived.StillTailTactics
import Derived.Deep.RegionLaw
import Derived.Deep.RegionHeld3
import Derived.Deep.DrawnRows
import Derived.WalkKit
import Derived.OwnWalkIn
import Derived.TacticsInMore
import Derived.LoopNIn
import Derived.LoopIn
import Derived.Laws.MakeOwn
namespace Go.Proofs.Ytgbeghaojkhiaaa.tr
open Go.ChangeShapes Go.WideShapes Go.ChangeAt Go.RowKit Go.Maps
open Go.Proofs.Ytgbeghaojkhiaaa.ro
open Go.Proofs.Ytgbeghaojkhiaaa.gr (C2 enC recC d2 PM rec_new)
attribute [local go_sem ↓] Go.wp_at_zero Go.wp_at_succ
attribute [local go_sem] Oper.semAt_some
set_option linter.unusedVariables false
set_option linter.unusedSimpArgs false
theorem step_appR {α : Type} {k : Nat} {en : α → List Value} {ops : Array Oper} {o : Oper} {a : Act} {w : World} {K : Act → World → Prop} {Q : Exit → Act → World → Prop} {E : Prop} (hgd : o.guard = none) (s x : Operand) (t e : TypeId) (z : Value) (bytes : Nat)
    (ho : o.op = .call { callee := .builtin .append, args := #[s, x], argTypes := #[t, t] }) (ht : Try.prog.underlying t = some (.slice e)) (hinfo : (Try.prog.info? e).map (fun i => (i.zero, i.size, i.bytes)) = some (some z, k, bytes)) (hzs : z.cells.size = k) (hby : bytes ≤ 1000) (hr : Rec k en)
    (v : Value) (xs : List α) (p : α) (hs : a.eval s = v) (g c : Nat) (hx : a.eval x = .slice (some ⟨g, 0, none⟩) 1 c) (hown : OR k en w 0 e v xs) (hu : ∀ j u, (en p)[j]? = some u → w.cell? ((⟨g, 0, none⟩ : Addr).add j) = some u) (hsm : xs.length ≤ 1000000)
    (h : ∀ va vn vc w', Hid (OR k en w' 0 e (.slice va vn vc) (xs ++ [p])) → w.grownBy w' v.ownBlock → Hid ((Value.slice va vn vc).ownBlock = v.ownBlock ∨ (Value.slice va vn vc).ownBlock = some w.heap.size) → K (a.put o.dst (.slice va vn vc)) w') :
    if Region.wanted o (yielded ops a.tmps) = true then Oper.wp Try.prog o a w K Q else E := by
  have hw : Region.wanted o (yielded ops a.tmps) = true := by simp [Region.wanted, hgd]
  rw [if_pos hw]
  obtain ⟨i0, hi, hz0, hz1, hz2⟩ := info_parts hinfo
  have hb1 : (xs.length + 1) * bytes ≤ 140737488355328 := by
    have := Nat.mul_le_mul (show xs.length + 1 ≤ 1000001 by omega) hby
    omega
  obtain ⟨v', w', r1, r2, r3, _, r5⟩ := run_append_own_at (P := Try.prog) w 0 t o.type e i0 z k bytes ht hi hz0 hz1 hz2 hzs hr.1 v xs.length _ hown ⟨g, 0, none⟩ 1 c (en p) (by rw [hr.2.1]; omega) hu (hr.2.2 p) (by unfold maxLen; omega) hb1 (Nat.zero_le _)
  have r2' : OR k en w' 0 e v' (xs ++ [p]) := by unfold OR; rw [flat_snoc, List.length_append]; exact r2
  obtain ⟨va, vc, hvv⟩ := OR.form r2'
  obtain ⟨vn, hvn⟩ : ∃ vn, (xs ++ [p]).length = vn := ⟨_, rfl⟩
  rw [hvn] at hvv
  subst hvv
  unfold Oper.wp execOp
  simp only [ho, resolve, invoke, builtin, Sem.run_bind, Sem.run_pure, Result.andThen_ok, List.map_toArray, List.map_cons, List.map_nil, hs, hx, r1]
  exact h va vn vc w' (Lib.hid r2') r3 (Lib.hid r5)

theorem zeroI (w : World) : (zeroValue 3).run Try.prog w = .ok (.int .i64 0) w := by kernel_rfl
theorem inE_some (n : Int) : inE (.int .i64 n) = some (.lit (.int .i64 n), []) := rfl
theorem wpList_look_in (w : World) {ops : Array Oper} {rest : List Oper} {o : Oper} {a : Act} {Q : Exit → Act → World → Prop}
    (hg : o.guard = none) (m x : Operand) (hop : o.op = Op.lookup 60 m x false) (b n : Nat) (D : Dm) (hm : a.eval m = .map (some b)) (hown : w.ownsMap Try.prog 3 inE b n D) (z : Int) (hx : a.eval x = .int .i64 z) (hz : (Lit.int .i64 z).wf = true)
    (f : Int → Option Nat) (hL : Li D f) (v : Int) (hv : (match f z with | some B => (B : Int) | none => 0) = v)
    (hK : wpList Try.prog ops Q rest (a.put o.dst (.int .i64 v)) w) :
    wpList Try.prog ops Q (o :: rest) a w := by
  refine wpList_plain hg fun K' hK' => ?_
  obtain ⟨u, ps, hrun, hu⟩ := hown.lookup law Try.underlying60 (zeroI w) (show inE (.int .i64 0) = some (zi, []) from rfl) (keyZ hz)
  rw [hL.2 z] at hu
  have : u = .int .i64 v := by
    rw [← hv]
    cases e : f z with
    | none => rw [e] at hu; exact inE_inv hu
    | some B => rw [e] at hu; exact inE_inv hu
  subst this
  unfold Oper.wp
  simp [execOp, hop, hm, hx, hrun, Result.andThen]
  exact hK' _ _ hK
theorem RW.up {w0 w : World} {ρ : Ro} {Mb cnt : Nat} {v : Value} {ss : List Sl} {x : St} (h : RW w0 w ρ Mb cnt v ss x) : RW w0 w ρ Mb (cnt + 1) v ss x := by
  obtain ⟨D, n, h1, h2, h3⟩ := h.m
  exact ⟨h.z, h.b, h.r, h.len, h.it, ⟨D, n, h1, h2, Nat.le_succ_of_le h3⟩, h.rm⟩
theorem RW.row {w0 w : World} {ρ : Ro} {Mb cnt : Nat} {v : Value} {ss : List Sl} {x : St} (h : RW w0 w ρ Mb cnt v ss x) (j : Nat) (hj : j < x.1.length) :
    ∃ g cp s l, v = .slice (some ⟨g, 0, none⟩) x.1.length cp ∧ ss[j]? = some s ∧ x.1[j]? = some l ∧ g < w.heap.size ∧ w.cell? ⟨g, j, none⟩ = some (slV s) := by
  have his : j < ss.length := by rw [h.len]; exact hj
  obtain ⟨hl, ⟨e0, h0⟩ | ⟨g, cap, cur, e0, _, hh, h1, h2, h3, h4⟩⟩ := h.r.o
  · omega
  · have hs : ss[j]? = some ss[j] := List.getElem?_eq_getElem his
    refine ⟨g, cap, ss[j], x.1[j], by rw [e0, h.len], hs, List.getElem?_eq_getElem hj, lt_of hh, ?_⟩
    rw [cel hh j]
    have h5 := congrArg (fun l => l[j]?) h4
    simp only [Nat.mul_one] at h5
    rw [List.getElem?_take_of_lt his, flat_map, List.getElem?_map, hs] at h5
    simpa using h5
set_option maxRecDepth 20000 in
set_option maxHeartbeats 4000000 in
theorem rows_v (a : Option Addr) (n c : Nat) (es : List I4) (lp : Int) (w : World) (h : RV 4 enE w (.slice a n c) es) (hn : n ≤ 1000) (hwf : ∀ x ∈ es, (Lit.int .i64 x.2.2.1).wf = true) :
    Calls Try.prog 10 #[.slice a n c, .int .i64 lp] w fun e w' => ∃ a' m' c', e = .returned (.slice a' m' c') ∧ PM w' (.slice a' m' c') (rss lp es).1 ∧ Below w.heap.size w w' := by
  obtain ⟨hnl, hnc, hcm⟩ := h.len
  have HR := Lib.hid h
  have HN := Lib.hid hnl
  have HWF := Lib.hid hwf
  have hmm := @run_makeMap Try.prog
  obtain ⟨P, hP⟩ : ∃ P : Ending → World → Prop, (fun (e : Ending) (w' : World) => ∃ a' m' c', e = .returned (.slice a' m' c') ∧ PM w' (.slice a' m' c') (rss lp es).1 ∧ Below w.heap.size w w') = P := ⟨_, rfl⟩
  have HF : Hid (∀ a' m' c' w', PM w' (.slice a' m' c') (rss lp es).1 → Below w.heap.size w w' → P (.returned (.slice a' m' c')) w') := Lib.hid (by rintro a' m' c' w' ho hb; rw [← hP]; exact ⟨_, _, _, rfl, ho, hb⟩)
  rw [hP]
  clear h hnl hP hwf
  go_enter Try.func10, Try.ntmps10
  go_wp2_with fail
  have HI : Hid (∃ ρ ss, RW w (w.alloc (.map #[] 0)) ρ w.heap.size 0 (.slice none 0 0) ss (rss lp (es.take 0))) := Lib.hid (by
    have hb : Below w.heap.size w (w.alloc (.map #[] 0)) := by go_grown
    exact ⟨fun b => if b < w.heap.size then 0 else 2, [], fun k hk => if_pos hk, hb, RR.nil _ _ _ _, rfl, fun i s l hs => by simp at hs, ⟨.map [], 0, World.ownsMap_made w Try.prog 3 inE, Li.empty, Nat.le_refl _⟩, if_neg (by omega)⟩)
  obtain ⟨Mb, hMb⟩ : ∃ Mb, w.heap.size = Mb := ⟨_, rfl⟩
  rw [hMb] at HI ⊢
  have HMB := Lib.hid hMb
  clear hMb
  go_loopw [5, 13] (fun l i wr => ∃ (k : Nat) (a' : Option Addr) (m' c' : Nat), i = .int .i64 (k : Int) ∧ l = .slice a' m' c' ∧ k ≤ n ∧ Hid (∃ ρ ss, RW w wr ρ Mb k (.slice a' m' c') ss (rss lp (es.take k)))) (fun l i _ => n - (intOf i).toNat)
  case atStart => exact ⟨0, none, 0, 0, rfl, rfl, by omega, HI⟩
  case round =>
    clear HI
    obtain ⟨k, va, vn, vc, rfl, rfl, hk, HK⟩ := hrel
    by_cases hlt : k < n
    · obtain ⟨⟨k0, z, i0, s0⟩, hx⟩ : ∃ x, es[k]? = some x := ⟨es[k]'(by rw [← HN.out]; exact hlt), by simp⟩
      have HBK : Hid (Below w.heap.size w wr) := Lib.hid (by obtain ⟨ρ, ss, hh⟩ := HK.out; exact hh.b)
      obtain ⟨b, o, rfl, hbl, c0, c1, c2, c3⟩ := RV.fourE (HR.out.below HBK.out) k hx
      have d1 : (k : Int) < (n : Int) := by omega
      have HZ : Hid ((Lit.int .i64 i0).wf = true) := Lib.hid (HWF.out _ (List.mem_of_getElem? hx))
      have HOK : Hid (ROK k (rss lp (es.take k))) := Lib.hid (rok lp es k (by rw [← HN.out]; exact hk))
      obtain ⟨W, hW⟩ : ∃ W, wr.alloc (.cells #[.int .i64 k0, .int .i64 z, .int .i64 i0, .int .i64 s0] 45) = W := ⟨_, rfl⟩
      have hbW : Below wr.heap.size wr W := by rw [← hW]; go_grown
      have hXW : W.heap[wr.heap.size]? = some (.cells #[.int .i64 k0, .int .i64 z, .int .i64 i0, .int .i64 s0] 45 (0, 0)) := by rw [← hW]; exact heap_new _ _
      have e0 : W.cell? ⟨wr.heap.size, 0, none⟩ = some (.int .i64 k0) := cel hXW 0
      have e1 : W.cell? ⟨wr.heap.size, 1, none⟩ = some (.int .i64 z) := cel hXW 1
      have e2 : W.cell? ⟨wr.heap.size, 2, none⟩ = some (.int .i64 i0) := cel hXW 2
      have e3 : W.cell? ⟨wr.heap.size, 3, none⟩ = some (.int .i64 s0) := cel hXW 3
      have HW : Hid (∃ ρ ss, RW w W ρ Mb k (.slice va vn vc) ss (rss lp (es.take k))) := Lib.hid (by obtain ⟨ρ, ss, hh⟩ := HK.out; exact ⟨_, ss, hh.below hbW⟩)
      have HMM : Hid (∀ w', Below W.heap.size W w' → ∃ D m, w'.ownsMap Try.prog 3 inE Mb m D ∧ Li D (rss lp (es.take k)).2 ∧ m ≤ k) := Lib.hid (fun w' hb => by obtain ⟨ρ, ss, hh⟩ := HW.out; exact (hh.below hb).m)
      have HOL : Hid (∀ g, (Value.slice va vn vc).ownBlock = some g → g < wr.heap.size) := Lib.hid (fun g hg => by obtain ⟨ρ, ss, hh⟩ := HK.out; exact (hh.r.o.lt g hg).2)
      clear hbW HK
      by_cases hz : ¬ z = lp
      · have hzb : (z == lp) = false := by simpa using hz
        have hzn : (z != lp) = true := by simpa using hz
        have hzd : decide (z = lp) = false := decide_eq_false hz
        have HN2 : Hid (∃ ρ ss, RW w W ρ Mb (k + 1) (.slice va vn vc) ss (rss lp (es.take (k + 1)))) := Lib.hid (by
          obtain ⟨ρ, ss, hh⟩ := HW.out
          refine ⟨ρ, ss, ?_⟩
          rw [rss_snoc lp hx]
          have e : rst lp (rss lp (es.take k)) (k0, z, i0, s0) = rss lp (es.take k) := by
            unfold rst
            rw [if_pos hz]
          rw [e]
          exact hh.up)
        clear hXW hx HW
        go_wp2_with fail
        go_roundw
        case rel => exact ⟨k + 1, va, vn, vc, by go_num, rfl, by omega, HN2⟩
        case measure => simp [intOf]; omega
      have hz : z = lp := Decidable.of_not_not hz
      by_cases h1 : k0 = 1
      · obtain rfl : k0 = 1 := h1
        obtain ⟨ρ, ss, hh⟩ := HW.out
        have hvn : vn = (rss lp (es.take k)).1.length := by
          have := OR.form hh.r.o
          obtain ⟨a', c', e⟩ := this
          rw [Value.slice.injEq] at e
          rw [e.2.1, hh.len]
        have HVN := Lib.hid hvn
        have hsl : ss.length ≤ 1000000 := by have := HOK.out.l; rw [hh.len]; omega
        have HX2 : Hid (rss lp (es.take (k + 1)) = radd (rss lp (es.take k)) i0) := Lib.hid (by
          rw [rss_snoc lp hx]
          unfold rst
          simp [hz])
        have HH := Lib.hid hh
        have HXW := Lib.hid hXW
        have HGo : Hid (∀ w', Below W.heap.size W w' → OR 1 enS w' 0 35 (.slice va vn vc) ss) := Lib.hid (fun w' hb => (HH.out.below hb).r.o)
        subst hz
        clear hXW hx HW hh hvn
        go_wp2_with (first | (at_builtin; refine wpList_appR rfl _ _ 28 35 (.slice none 0 0) 24 rfl Try.underlying28 infS rfl (by decide) recS 0 (.slice va vn vc) ss rfl ⟨W.heap.size + 1, 0, none⟩ 1 rfl (some ⟨W.heap.size, 0, none⟩, 1, 1) (HGo.out _ (by go_grown)) (rec_new (by simp) rfl) hsl (Nat.zero_le _) ?_))
        intro v2 w2 ho2 hg2 hor2
        obtain ⟨W3, hW3⟩ : ∃ W3, (W.alloc (.cells #[.int .i64 0, .bool false] 37)).alloc (.cells #[.slice (some ⟨W.heap.size, 0, none⟩) 1 1] 35) = W3 := ⟨_, rfl⟩
        rw [hW3] at hg2
        have hor2' : v2.ownBlock = (Value.slice va vn vc).ownBlock ∨ v2.ownBlock = some W3.heap.size := by rw [← hW3]; simpa using hor2
        have hb3 : Below W.heap.size W W3 := by rw [← hW3]; go_grown
        have ho3 : W3.heap[W.heap.size]? = some (.cells #[.int .i64 0, .bool false] 37 (0, 0)) := by
          rw [← hW3]
          have hb : Below (W.alloc (.cells #[.int .i64 0, .bool false] 37)).heap.size (W.alloc (.cells #[.int .i64 0, .bool false] 37)) ((W.alloc (.cells #[.int .i64 0, .bool false] 37)).alloc (.cells #[.slice (some ⟨W.heap.size, 0, none⟩) 1 1] 35)) := by go_grown
          exact (hb.block _ (by simp)).trans (heap_new _ _)
        obtain ⟨ρ2, hA⟩ := HH.out.add hb3 (Nat.le_refl _) ho3 ho2 hg2 hor2'
        obtain ⟨xa, xc, hv2⟩ : ∃ xa xc, v2 = .slice xa (vn + 1) xc := by
          obtain ⟨xa, xc, e⟩ := OR.form ho2
          refine ⟨xa, xc, ?_⟩
          rw [e, HVN.out, ← HH.out.len]
          simp
        subst hv2
        have hx2 : w2.heap[wr.heap.size]? = some (.cells #[.int .i64 1, .int .i64 z, .int .i64 i0, .int .i64 s0] 45 (0, 0)) := by
          rw [hg2.block wr.heap.size (Nat.lt_of_lt_of_le (lt_of HXW.out) hb3.size) (fun e => by have := HOL.out _ e.symm; omega)]
          exact (hb3.block _ (lt_of HXW.out)).trans HXW.out
        have f2 : w2.cell? ⟨wr.heap.size, 2, none⟩ = some (.int .i64 i0) := cel hx2 2
        obtain ⟨D, mn, hm, hL, hmn⟩ := hA.m
        have HM := Lib.hid hm
        have HLL := Lib.hid hL
        have HA := Lib.hid hA
        clear ho2 hg2 hor2 hor2' hb3 ho3 hA hx2 hm hL hW3 e0 e1 e2 e3
        go_upto_region 10 with (fail)
        go_wp2_with (first | (at_mapUpdate; refine wpList_mapUpdate_own _ rfl _ _ _ 60 rfl 3 3 law Try.underlying60 inE Mb mn D rfl HM.out (by unfold maxLen; omega) _ _ (kz i0) rfl rfl (keyZ HZ.out) _ [] (inE_some _) ?_; intro W4 hown4 hgr4))
        have HN2 : Hid (∃ ρ ss, RW w W4 ρ Mb (k + 1) (.slice xa (vn + 1) xc) ss (rss z (es.take (k + 1)))) := Lib.hid (by
          have := HA.out.mapped hown4 (f := fun y => if y = i0 then some (vn + 1) else (rss z (es.take k)).2 y) (by have := HLL.out.put i0 (vn + 1); simpa using this) (Nat.succ_le_succ hmn) hgr4
          rw [HX2.out]
          unfold radd
          rw [← HVN.out]
          exact ⟨_, _, this⟩)
        clear hown4 hgr4
        go_wp2_with fail
        go_roundw
        case rel => exact ⟨k + 1, xa, vn + 1, xc, by go_num, rfl, by omega, HN2⟩
        case measure => simp [intOf]; omega
      have h1b : (k0 == 1) = false := by simpa using h1
      have h1d : decide (k0 = 1) = false := decide_eq_false h1
      by_cases h3 : k0 = 3
      · obtain rfl : k0 = 3 := h3
        cases hf : (rss lp (es.take k)).2 i0 with
        | none =>
          have HN2 : Hid (∃ ρ ss, RW w W ρ Mb (k + 1) (.slice va vn vc) ss (rss lp (es.take (k + 1)))) := Lib.hid (by
            obtain ⟨ρ, ss, hh⟩ := HW.out
            refine ⟨ρ, ss, ?_⟩
            rw [rss_snoc lp hx]
            have e : rst lp (rss lp (es.take k)) (3, z, i0, s0) = rss lp (es.take k) := by
              unfold rst
              simp [hz, hf]
            rw [e]
            exact hh.up)
          have HFF := Lib.hid hf
          obtain ⟨D, mn, hm, hL, hmn⟩ := HMM.out W (Below.refl _ _)
          have HM := Lib.hid hm
          have HLL := Lib.hid hL
          subst hz
          clear hXW hx HW hf hm hL
          go_wp2_with (first | (at_lookup; refine wpList_look_in _ rfl _ _ rfl Mb mn D rfl HM.out i0 rfl HZ.out _ HLL.out 0 (by rw [HFF.out]) ?_))
          go_roundw
          case rel => exact ⟨k + 1, va, vn, vc, by go_num, rfl, by omega, HN2⟩
          case measure => simp [intOf]; omega
        | some m =>
          have hmb := HOK.out.f i0 m hf
          obtain ⟨j, rfl⟩ : ∃ j, m = j + 1 := ⟨m - 1, by omega⟩
          have hjl : j < (rss lp (es.take k)).1.length := by omega
          have hj1000 : j ≤ 1000 := by have := HOK.out.l; omega
          have HX2 : Hid (rss lp (es.take (k + 1)) = rapp (rss lp (es.take k)) j (s0, true)) := Lib.hid (by
            rw [rss_snoc lp hx]
            unfold rst
            simp [hz, hf])
          have HFF := Lib.hid hf
          obtain ⟨D, mn, hm, hL, hmn⟩ := HMM.out W (Below.refl _ _)
          have HM := Lib.hid hm
          have HLL := Lib.hid hL
          obtain ⟨ρ, ss, hh⟩ := HW.out
          obtain ⟨g, cp, ⟨sa, sn, sc⟩, l, hv, hs, hl, hgl, hcl⟩ := hh.row j hjl
          obtain ⟨rr, hrr⟩ : ∃ r, (rss lp (es.take k)).1.length = r := ⟨_, rfl⟩
          rw [hrr] at hv hjl
          rw [Value.slice.injEq] at hv
          obtain ⟨rfl, rfl, rfl⟩ := hv
          have hln : l.length ≤ 1000000 := by have := HOK.out.m j l hl; omega
          have HH := Lib.hid hh
          have HS := Lib.hid hs
          have HL := Lib.hid hl
          have hcl' : W.cell? ⟨g, j, none⟩ = some (.slice sa sn sc) := hcl
          have HGo : Hid (∀ w', Below W.heap.size W w' → OR 2 enC w' 0 37 (.slice sa sn sc) l) := Lib.hid (fun w' hb => ((HH.out.below hb).it j _ l HS.out HL.out).o)
          have HApp : Hid (∀ w7 w4 qa qn qc, Below W.heap.size W w7 → Hid (OR 2 enC w4 0 37 (.slice qa qn qc) (l ++ [(s0, true)])) → w7.grownBy w4 (Value.slice sa sn sc).ownBlock → Hid ((Value.slice qa qn qc).ownBlock = (Value.slice sa sn sc).ownBlock ∨ (Value.slice qa qn qc).ownBlock = some w7.heap.size) → w4.cell? ⟨g, j, none⟩ = some (.slice sa sn sc) ∧ w4.frozen? ⟨g, j, none⟩ = false ∧ Hid (∃ ρ ss, RW w (w4.setCell ⟨g, j, none⟩ (.slice qa qn qc)) ρ Mb (k + 1) (.slice (some ⟨g, 0, none⟩) vn vc) ss (rss lp (es.take (k + 1))))) := Lib.hid (fun w7 w4 qa qn qc hb ho hg hor => by
            obtain ⟨q1, q2, ρ', q3⟩ := (HH.out.below hb).app (s' := (qa, qn, qc)) (c := (s0, true)) rfl HS.out HL.out hg ho.out hor.out
            rw [← HX2.out] at q3
            exact ⟨q1, q2, Lib.hid ⟨ρ', _, q3.up⟩⟩)
          have hjI : (j : Int) < (vn : Int) := by omega
          have hj0 : (0 : Int) ≤ (j : Int) := by omega
          obtain ⟨mi, hmi⟩ : ∃ mi : Int, ((j + 1 : Nat) : Int) = mi := ⟨_, rfl⟩
          have hm1 : mi - 1 = (j : Int) := by omega
          have hm2 : (0 : Int) < mi := by omega
          have hm2d : decide ((0 : Int) < mi) = true := decide_eq_true hm2
          have hwj : IntKind.i64.wrap (j : Int) = (j : Int) := by rw [IntKind.wrap_i64]; omega
          have HMI := Lib.hid hmi
          subst hz
          clear hXW hx HW hf hm hL hh hs hl hcl hrr hmi hmb
          go_upto_region 15 with (first | (at_lookup; refine wpList_look_in _ rfl _ _ rfl Mb mn D rfl HM.out i0 rfl HZ.out _ HLL.out mi (by rw [HFF.out]; exact HMI.out) ?_))
          go_region_law ((refine step_appR rfl _ _ 35 37 _ 16 (by rfl) Try.underlying35 infCe rfl (by decide) recC (.slice sa sn sc) l (s0, true) (by rfl) W.heap.size 1 (by rfl) (HGo.out _ (by go_grown)) (rec_new (by go_simp) rfl) hln ?_; intro qa qn qc w4 ho4 hg4 hor4; obtain ⟨c4, z4, F4⟩ := HApp.out _ _ _ _ _ (by go_grown) ho4 hg4 hor4))
          all_goals
            clear ho4 hg4 hor4 c4 z4
            go_wp2_with fail
            go_roundw
            case rel => exact ⟨k + 1, _, _, _, by go_num, rfl, by omega, F4⟩
            case measure => simp [intOf]; omega
      have h3b : (k0 == 3) = false := by simpa using h3
      have h3d : decide (k0 = 3) = false := decide_eq_false h3
      by_cases h6 : k0 = 6
      · obtain rfl : k0 = 6 := h6
        cases hf : (rss lp (es.take k)).2 i0 with
        | none =>
          have HN2 : Hid (∃ ρ ss, RW w W ρ Mb (k + 1) (.slice va vn vc) ss (rss lp (es.take (k + 1)))) := Lib.hid (by
            obtain ⟨ρ, ss, hh⟩ := HW.out
            refine ⟨ρ, ss, ?_⟩
            rw [rss_snoc lp hx]
            have e : rst lp (rss lp (es.take k)) (6, z, i0, s0) = rss lp (es.take k) := by
              unfold rst
              simp [hz, hf]
            rw [e]
            exact hh.up)
          have HFF := Lib.hid hf
          obtain ⟨D, mn, hm, hL, hmn⟩ := HMM.out W (Below.refl _ _)
          have HM := Lib.hid hm
          have HLL := Lib.hid hL
          subst hz
          clear hXW hx HW hf hm hL
          go_wp2_with (first | (at_lookup; refine wpList_look_in _ rfl _ _ rfl Mb mn D rfl HM.out i0 rfl HZ.out _ HLL.out 0 (by rw [HFF.out]) ?_))
          go_roundw
          case rel => exact ⟨k + 1, va, vn, vc, by go_num, rfl, by omega, HN2⟩
          case measure => simp [intOf]; omega
        | some m =>
          have hmb := HOK.out.f i0 m hf
          obtain ⟨j, rfl⟩ : ∃ j, m = j + 1 := ⟨m - 1, by omega⟩
          have hjl : j < (rss lp (es.take k)).1.length := by omega
          have hj1000 : j ≤ 1000 := by have := HOK.out.l; omega
          have HX2 : Hid (rss lp (es.take (k + 1)) = rapp (rss lp (es.take k)) j (s0, false)) := Lib.hid (by
            rw [rss_snoc lp hx]
            unfold rst
            simp [hz, hf])
          have HFF := Lib.hid hf
          obtain ⟨D, mn, hm, hL, hmn⟩ := HMM.out W (Below.refl _ _)
          have HM := Lib.hid hm
          have HLL := Lib.hid hL
          obtain ⟨ρ, ss, hh⟩ := HW.out
          obtain ⟨g, cp, ⟨sa, sn, sc⟩, l, hv, hs, hl, hgl, hcl⟩ := hh.row j hjl
          obtain ⟨rr, hrr⟩ : ∃ r, (rss lp (es.take k)).1.length = r := ⟨_, rfl⟩
          rw [hrr] at hv hjl
          rw [Value.slice.injEq] at hv
          obtain ⟨rfl, rfl, rfl⟩ := hv
          have hln : l.length ≤ 1000000 := by have := HOK.out.m j l hl; omega
          have HH := Lib.hid hh
          have HS := Lib.hid hs
          have HL := Lib.hid hl
          have hcl' : W.cell? ⟨g, j, none⟩ = some (.slice sa sn sc) := hcl
          have HGo : Hid (∀ w', Below W.heap.size W w' → OR 2 enC w' 0 37 (.slice sa sn sc) l) := Lib.hid (fun w' hb => ((HH.out.below hb).it j _ l HS.out HL.out).o)
          have HApp : Hid (∀ w7 w4 qa qn qc, Below W.heap.size W w7 → Hid (OR 2 enC w4 0 37 (.slice qa qn qc) (l ++ [(s0, false)])) → w7.grownBy w4 (Value.slice sa sn sc).ownBlock → Hid ((Value.slice qa qn qc).ownBlock = (Value.slice sa sn sc).ownBlock ∨ (Value.slice qa qn qc).ownBlock = some w7.heap.size) → w4.cell? ⟨g, j, none⟩ = some (.slice sa sn sc) ∧ w4.frozen? ⟨g, j, none⟩ = false ∧ Hid (∃ ρ ss, RW w (w4.setCell ⟨g, j, none⟩ (.slice qa qn qc)) ρ Mb (k + 1) (.slice (some ⟨g, 0, none⟩) vn vc) ss (rss lp (es.take (k + 1))))) := Lib.hid (fun w7 w4 qa qn qc hb ho hg hor => by
            obtain ⟨q1, q2, ρ', q3⟩ := (HH.out.below hb).app (s' := (qa, qn, qc)) (c := (s0, false)) rfl HS.out HL.out hg ho.out hor.out
            rw [← HX2.out] at q3
            exact ⟨q1, q2, Lib.hid ⟨ρ', _, q3.up⟩⟩)
          have hjI : (j : Int) < (vn : Int) := by omega
          have hj0 : (0 : Int) ≤ (j : Int) := by omega
          obtain ⟨mi, hmi⟩ : ∃ mi : Int, ((j + 1 : Nat) : Int) = mi := ⟨_, rfl⟩
          have hm1 : mi - 1 = (j : Int) := by omega
          have hm2 : (0 : Int) < mi := by omega
          have hm2d : decide ((0 : Int) < mi) = true := decide_eq_true hm2
          have hwj : IntKind.i64.wrap (j : Int) = (j : Int) := by rw [IntKind.wrap_i64]; omega
          have HMI := Lib.hid hmi
          subst hz
          clear hXW hx HW hf hm hL hh hs hl hcl hrr hmi hmb
          go_upto_region 15 with (first | (at_lookup; refine wpList_look_in _ rfl _ _ rfl Mb mn D rfl HM.out i0 rfl HZ.out _ HLL.out mi (by rw [HFF.out]; exact HMI.out) ?_))
          go_region_law ((refine step_appR rfl _ _ 35 37 _ 16 (by rfl) Try.underlying35 infCe rfl (by decide) recC (.slice sa sn sc) l (s0, false) (by rfl) W.heap.size 1 (by rfl) (HGo.out _ (by go_grown)) (rec_new (by go_simp) rfl) hln ?_; intro qa qn qc w4 ho4 hg4 hor4; obtain ⟨c4, z4, F4⟩ := HApp.out _ _ _ _ _ (by go_grown) ho4 hg4 hor4))
          all_goals
            clear ho4 hg4 hor4 c4 z4
            go_wp2_with fail
            go_roundw
            case rel => exact ⟨k + 1, _, _, _, by go_num, rfl, by omega, F4⟩
            case measure => simp [intOf]; omega
      · have h6b : (k0 == 6) = false := by simpa using h6
        have h6d : decide (k0 = 6) = false := decide_eq_false h6
        have HN2 : Hid (∃ ρ ss, RW w W ρ Mb (k + 1) (.slice va vn vc) ss (rss lp (es.take (k + 1)))) := Lib.hid (by
          obtain ⟨ρ, ss, hh⟩ := HW.out
          refine ⟨ρ, ss, ?_⟩
          rw [rss_snoc lp hx]
          have e : rst lp (rss lp (es.take k)) (k0, z, i0, s0) = rss lp (es.take k) := by
            unfold rst
            simp [hz, h1, h3, h6]
          rw [e]
          exact hh.up)
        subst hz
        clear hXW hx HW
        go_wp2_with fail
        go_roundw
        case rel => exact ⟨k + 1, va, vn, vc, by go_num, rfl, by omega, HN2⟩
        case measure => simp [intOf]; omega
    · obtain rfl : k = n := by omega
      obtain ⟨ρ, ss, hh⟩ := HK.out
      have HPM : Hid (PM wr (.slice va vn vc) (rss lp es).1) := Lib.hid (by have := hh.pm; rw [HN.out, List.take_length] at this; exact this)
      have HBL := Lib.hid hh.b
      clear hh
      go_wp2_with fail
      first | exact HF.out _ _ _ _ HPM.out HBL.out | (go_ret; exact HF.out _ _ _ _ HPM.out HBL.out)
end Go.Proofs.Ytgbeghaojkhiaaa.tr
