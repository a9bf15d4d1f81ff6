/- The program that bytes are: behind the label 'instruction' (layer 4). -/
import Derived.Test.YthllikmnlnakkaaPrI
namespace Go.Proofs.Ythllikmnlnakkaa.pr
open Go.ChangeShapes Go.WideShapes Go.ChangeAt Go.RowKit
open Go.Proofs.Ythllikmnlnakkaa.bin Go.Proofs.Ythllikmnlnakkaa.bits Go.Proofs.Ythllikmnlnakkaa.ins
set_option linter.unusedVariables false
set_option linter.unusedSimpArgs false
theorem mu2 {a : Act} {r : List UInt8} (h : a.tmps.getD 9 undef = .string ⟨r.toArray⟩) : mu 2 a = 2 * r.length + 3 := by
  unfold mu sl
  rw [h]
  simp [str_size]
theorem mu3 {a : Act} {r : List UInt8} (h : a.tmps.getD 9 undef = .string ⟨r.toArray⟩) : mu 3 a = 2 * r.length + 4 := by
  unfold mu sl
  rw [h]
  simp [str_size]
theorem JG.func {w0 w : World} {res : R3} {a : Act} {m : Int} {v : Value} {rows : List Value} {acc : List (List I4)} {r : List UInt8} {k n : Nat} (hn : 2 * r.length + 3 < n) (hf : FR w0 a) (hg : HG w0 w m v rows acc) (h7 : a.tmps.getD 7 undef = .int .i64 (k : Int)) (h9 : a.tmps.getD 9 undef = .string ⟨r.toArray⟩) (hr : stF m k acc r = res) (hk : acc.length + k ≤ 16) (hl : r.length ≤ 1000000) : KG w0 res n 2 a w :=
  ⟨.inr (.inr (.inl ⟨rfl, hf, m, v, rows, acc, r, k, hg, h7, h9, hr, hk, hl⟩)), by rw [mu2 h9]; exact hn⟩
theorem JG.instr {w0 w : World} {res : R3} {a : Act} {m : Int} {v u : Value} {rows : List Value} {acc : List (List I4)} {r : List UInt8} {k j n : Nat} {c : List I4} (hn : 2 * r.length + 4 < n) (hf : FR w0 a) (hg : HG w0 w m v rows acc) (h7 : a.tmps.getD 7 undef = .int .i64 (k : Int)) (h8 : a.tmps.getD 8 undef = .int .i64 (j : Int)) (h6 : a.tmps.getD 6 undef = u) (hu : OR 4 enI w (w0.heap.size + 3) 40 u c) (hnb : NB rows u) (h9 : a.tmps.getD 9 undef = .string ⟨r.toArray⟩) (hr : stI (fun c r => stF m k (acc ++ [c]) r) j c r = res) (hk : acc.length + k ≤ 15) (hj : c.length + j ≤ 1000) (hl : r.length ≤ 1000000) : KG w0 res n 3 a w :=
  ⟨.inr (.inr (.inr ⟨rfl, hf, m, v, rows, acc, r, k, j, c, u, hg, h7, h8, h6, hu, hnb, h9, hr, hk, hj, hl⟩)), by rw [mu3 h9]; exact hn⟩
theorem cel4f {w : World} {g : Nat} {a b c d : Value} {e : TypeId} (h : w.heap[g]? = some (.cells #[a, b, c, d] e (0, 0))) : w.cell? ⟨g, 0, none⟩ = some a ∧ w.cell? ⟨g, 1, none⟩ = some b ∧ w.cell? ⟨g, 2, none⟩ = some c ∧ w.cell? ⟨g, 3, none⟩ = some d ∧ w.frozen? ⟨g, 0, none⟩ = false ∧ w.frozen? ⟨g, 1, none⟩ = false ∧ w.frozen? ⟨g, 2, none⟩ = false ∧ w.frozen? ⟨g, 3, none⟩ = false := ⟨cel h 0, cel h 1, cel h 2, cel h 3, frz h 0, frz h 1, frz h 2, frz h 3⟩
set_option maxRecDepth 20000 in
set_option maxHeartbeats 4000000 in
theorem H3 (w0 : World) (res : R3) (a : Act) (w : World) (h : J3 w0 res a w) : ∃ n, n = mu 3 a ∧ (R13 3).wp Try.prog (QG w0 res (KG w0 res n)) a w := by
  obtain ⟨hf, m, v, rows, acc, r, k, j, c, u, hg, h7, h8, h6, hu, hnb, h9, hst, hk, hj, hl⟩ := h
  refine ⟨_, rfl, ?_⟩
  rw [mu3 h9]
  obtain ⟨t, rfl⟩ := hf.lit
  rw [show t 9 = _ from h9, show t 7 = _ from h7, show t 8 = _ from h8, show t 6 = _ from h6]
  clear hf h9 h7 h8 h6
  cases j with
  | zero =>
    rw [stI] at hst
    obtain ⟨c0, c1, f0, f1⟩ := cel2 hg.r1
    obtain ⟨ua, uc, rfl⟩ := OR.form hu
    have hlt := hg.lt
    have hn1 : Below w.heap.size w (w.alloc (.cells #[.slice ua c.length uc] 38)) := by go_grown
    have HGW := Lib.hid (hg.below hn1)
    have hsz : w0.heap.size + 3 ≤ (w.alloc (.cells #[.slice ua c.length uc] 38)).heap.size := by simp; omega
    have huw := hu.below hn1
    clear hn1
    conv => arg 2; whnf
    go_wp2_with ((at_builtin; refine wpList_appP rfl _ _ rfl (w0.heap.size + 3) v rows acc rfl ⟨w.heap.size, 0, none⟩ 1 rfl (.slice ua c.length uc) c HGW.out.own (by go_simp) huw rfl (by omega) hsz ?_))
    intro v' w2 ho2 hg2 hb2
    obtain ⟨va, vc, rfl, _⟩ := ho2.pm.form
    obtain ⟨h2, hr1⟩ := HGW.out.app hg2 ho2
    obtain ⟨d0, d1, e0, e1⟩ := cel2 hr1
    have hlen : (acc ++ [c]).length = acc.length + 1 := by simp
    rw [hlen] at h2
    have H2 := Lib.hid h2
    clear c0 c1 f0 f1 h2 hb2 hg2 hlen
    go_wp2_with fail
    go_step3
    exact JG.func (by omega) ⟨rfl, rfl, rfl, rfl, rfl⟩ H2.out rfl rfl hst (by rw [List.length_append, List.length_singleton]; omega) hl
  | succ j =>
    rw [stI] at hst
    have hfs := str_size r
    obtain ⟨r4, hr4⟩ : ∃ r4, r.take 4 = r4 := ⟨_, rfl⟩
    rw [hr4] at hst
    obtain ⟨e, he⟩ : ∃ e, getE r4 = e := ⟨_, rfl⟩
    obtain ⟨⟨y0, y1, y2, y3⟩, hy⟩ : ∃ y, gI r4 = y := ⟨_, rfl⟩
    rw [he, hy] at hst
    have CG : Hid (∀ w, Calls Try.prog 26 #[.string ⟨r4.toArray⟩] w fun e' w' => e' = .returned (.tuple #[.agg #[.int .i64 y0, .int .i64 y1, .int .i64 y2, .int .i64 y3], .int .i64 e]) ∧ Below w.heap.size w w') := Lib.hid fun w => by
      refine (pget_of r4 w).mono ?_
      rintro e' w' ⟨rfl, hb⟩
      refine ⟨?_, hb⟩
      unfold gI at hy
      simp only [Prod.mk.injEq] at hy
      obtain ⟨a0, a1, a2, a3⟩ := hy
      unfold GV
      rw [a0, a1, a2, a3, he]
    have HGH := Lib.hid hg
    by_cases hs4 : r.length < 4
    · have hmin : min (4 : Int) (r.length : Int) = r.length := by omega
      have hex : (⟨r.toArray⟩ : ByteArray).extract 0 r.length = ⟨r4.toArray⟩ := by
        have := str_sub r 0 r.length
        rw [← hr4, List.take_of_length_le (by omega)]
        simpa using this
      obtain rfl : e = 1 := by
        rw [← he]
        unfold getE
        rw [if_pos (by rw [← hr4, List.length_take]; omega)]
      rw [if_pos (by decide)] at hst
      clear he hy hr4 hg hu hnb
      conv => arg 2; whnf
      go_wp2_with fail
      refine (CG.out _).mono ?_
      rintro e' w1 ⟨rfl, hb1⟩
      have hg1 := HGH.out.below hb1
      obtain ⟨a', b', c', d', hr2⟩ := hg1.r2
      obtain ⟨c0, c1, c2, c3, f0, f1, f2, f3⟩ := cel4f hr2
      have H1 := Lib.hid (hg1.ins y0 y1 y2 y3)
      clear hr2 hg1 CG HGH
      go_wp2_with fail
      go_step3
      exact JG.wrong (by omega) ⟨rfl, rfl, rfl, rfl, rfl⟩ H1.out rfl hst
    · have hmin : min (4 : Int) (r.length : Int) = 4 := by omega
      have hge : (4 : Int) ≤ r.length := by omega
      have hex : (⟨r.toArray⟩ : ByteArray).extract 0 4 = ⟨r4.toArray⟩ := by
        have := str_sub r 0 4
        rw [← hr4]
        simpa using this
      by_cases he0 : e = 0
      · subst he0
        rw [if_neg (by simp)] at hst
        have hxd : (⟨r.toArray⟩ : ByteArray).extract 4 r.length = ⟨(r.drop 4).toArray⟩ := by
          have := str_drop r 4
          rwa [str_size] at this
        have HUH := Lib.hid hu
        have HNB := Lib.hid hnb
        obtain ⟨ua, uc, rfl⟩ := OR.form hu
        have hr5 : (r.drop 4).length = r.length - 4 := List.length_drop
        obtain ⟨r5, hr5e⟩ : ∃ r5, r.drop 4 = r5 := ⟨_, rfl⟩
        rw [hr5e] at hst hxd hr5
        clear he hy hr4 hg hu hnb hr5e
        conv => arg 2; whnf
        go_wp2_with fail
        refine (CG.out _).mono ?_
        rintro e' w1 ⟨rfl, hb1⟩
        have hg1 := HGH.out.below hb1
        obtain ⟨a', b', c', d', hr2⟩ := hg1.r2
        obtain ⟨c0, c1, c2, c3, f0, f1, f2, f3⟩ := cel4f hr2
        have H1 := Lib.hid (hg1.ins y0 y1 y2 y3)
        obtain ⟨W, hW⟩ : ∃ W, st4 w1 (w0.heap.size + 2) (.int .i64 y0) (.int .i64 y1) (.int .i64 y2) (.int .i64 y3) = W := ⟨_, rfl⟩
        have hW2 := hW
        unfold st4 at hW2
        have HW := Lib.hid hW2
        have HX := Lib.hid (st4_blk (a' := .int .i64 y0) (b' := .int .i64 y1) (c' := .int .i64 y2) (d' := .int .i64 y3) hr2)
        have HU1 : Hid (OR 4 enI (st4 w1 (w0.heap.size + 2) (.int .i64 y0) (.int .i64 y1) (.int .i64 y2) (.int .i64 y3)) (w0.heap.size + 3) 40 (.slice ua c.length uc) c) := Lib.hid (by
          obtain ⟨hl', h1 | ⟨g, cap, cur, h1, h2, hh, h3⟩⟩ := HUH.out.below hb1
          · exact ⟨hl', .inl h1⟩
          · exact ⟨hl', .inr ⟨g, cap, cur, h1, h2, (st4_oth _ _ _ _ _ _ _ (by omega)).trans hh, h3⟩⟩)
        rw [hW] at H1 HX HU1
        have HK0 : Hid (∀ w' : World, w'.heap[w0.heap.size + 2]? = some (.cells #[.int .i64 y0, .int .i64 y1, .int .i64 y2, .int .i64 y3] 40 (0, 0)) → w'.cell? ⟨w0.heap.size + 2, 0, none⟩ = some (.int .i64 y0) ∧ w'.cell? ⟨w0.heap.size + 2, 1, none⟩ = some (.int .i64 y1) ∧ w'.cell? ⟨w0.heap.size + 2, 2, none⟩ = some (.int .i64 y2) ∧ w'.cell? ⟨w0.heap.size + 2, 3, none⟩ = some (.int .i64 y3)) := Lib.hid fun w' h => ⟨cel h 0, cel h 1, cel h 2, cel h 3⟩
        have HGo : Hid (∀ w' : World, Below W.heap.size W w' → HG w0 w' m v rows acc ∧ OR 4 enI w' (w0.heap.size + 3) 40 (.slice ua c.length uc) c ∧ w0.heap.size + 3 ≤ w'.heap.size ∧ w'.heap[w0.heap.size + 2]? = some (.cells #[.int .i64 y0, .int .i64 y1, .int .i64 y2, .int .i64 y3] 40 (0, 0))) := Lib.hid fun w' hb => ⟨H1.out.below hb, HU1.out.below hb, by have := (H1.out.below hb).lt; omega, kb HX.out hb⟩
        have HAp : Hid (∀ (wa w2 : World) (v2 : Value), Below W.heap.size W wa → Hid (OR 4 enI w2 (w0.heap.size + 3) 40 v2 (c ++ [(y0, y1, y2, y3)])) → wa.grownBy w2 (Value.slice ua c.length uc).ownBlock → (v2.ownBlock = (Value.slice ua c.length uc).ownBlock ∨ v2.ownBlock = some wa.heap.size) → HG w0 w2 m v rows acc ∧ NB rows v2 ∧ w2.heap[w0.heap.size + 2]? = some (.cells #[.int .i64 y0, .int .i64 y1, .int .i64 y2, .int .i64 y3] 40 (0, 0))) := Lib.hid fun wa w2 v2 hb ho hg hor => by
          obtain ⟨g1, g2, g3, g4⟩ := HGo.out wa hb
          refine ⟨g1.grown hg (fun g e => (g2.lt g e).1) (g1.own.grownU g2 HNB.out hg), HNB.out.app g1.own hor, (hg.block _ (by have := g1.lt; omega) ?_).trans g4⟩
          intro e
          have := (g2.lt _ e.symm).1
          omega
        clear hr2 hg1 CG HGH HUH hW hW2
        go_wp2_with fail
        rw [HW.out]
        clear c0 c1 c2 c3 f0 f1 f2 f3 HW
        go_region_held3 (fun w' : World => w'.cell? ⟨w0.heap.size + 2, 0, none⟩ = some (.int .i64 y0) ∧ w'.cell? ⟨w0.heap.size + 2, 1, none⟩ = some (.int .i64 y1) ∧ w'.cell? ⟨w0.heap.size + 2, 2, none⟩ = some (.int .i64 y2) ∧ w'.cell? ⟨w0.heap.size + 2, 3, none⟩ = some (.int .i64 y3)) (first | (with_reducible assumption) | exact HK0.out _ HX.out | exact HK0.out _ hA2.2.2 | (refine HK0.out _ (HGo.out _ ?_).2.2.2; go_grown; done))
          ((refine step_appR rfl _ _ 38 40 _ 32 (by rfl) Try.underlying38 infoI rfl (by decide) recI (w0.heap.size + 3) (.slice ua c.length uc) c (y0, y1, y2, y3) ?hs W.drew.heap.size 1 ?hx ?hown ?hu ?hsm ?hB ?_; (case hs => rfl); (case hx => rfl); (case hown => exact Lib.hid (HGo.out _ (by go_grown)).2.1); (case hu => exact rec_new (by go_simp) rfl); (case hsm => omega); (case hB => exact (HGo.out _ (by go_grown)).2.2.1); intro v2 w2 ho2 hg2 hor2; have hA2 := HAp.out _ w2 v2 (by go_grown) ho2 hg2 hor2))
        have HA2 := Lib.hid hA2
        have HO2 := ho2
        obtain ⟨ua2, uc2, rfl⟩ := HO2.out.form
        clear hA2 ho2 hg2 hor2 HAp HGo HK0 HX HU1
        go_wp2_with fail
        go_step3
        exact JG.instr (by omega) ⟨rfl, rfl, rfl, rfl, rfl⟩ HA2.out.1 rfl rfl rfl HO2.out HA2.out.2.1 rfl hst hk (by rw [List.length_append, List.length_singleton]; omega) (by omega)
      · have he0b : (e == 0) = false := by simpa using he0
        have he0n : (e != 0) = true := by simpa using he0
        rw [if_pos he0] at hst
        clear he hy hr4 hg hu hnb
        conv => arg 2; whnf
        go_wp2_with fail
        refine (CG.out _).mono ?_
        rintro e' w1 ⟨rfl, hb1⟩
        have hg1 := HGH.out.below hb1
        obtain ⟨a', b', c', d', hr2⟩ := hg1.r2
        obtain ⟨c0, c1, c2, c3, f0, f1, f2, f3⟩ := cel4f hr2
        have H1 := Lib.hid (hg1.ins y0 y1 y2 y3)
        clear hr2 hg1 CG HGH
        go_wp2_with fail
        go_step3
        exact JG.wrong (by omega) ⟨rfl, rfl, rfl, rfl, rfl⟩ H1.out rfl hst
end Go.Proofs.Ythllikmnlnakkaa.pr
