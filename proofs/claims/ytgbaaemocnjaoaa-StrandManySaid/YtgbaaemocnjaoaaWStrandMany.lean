/- As many strands as part them, accesses in order: the law StrandMany answers true. No condition. -/
import Derived.Test.YtgbaaemocnjaoaaSnN
import Derived.Deep.RegionHeld3
namespace Go.Proofs.Ytgbaaemocnjaoaa.strandMany
open Go.ChangeShapes Go.WideShapes Go.ChangeAt Go.RowKit
open Go.Proofs.Ytgbaaemocnjaoaa.ro Go.Proofs.Ytgbaaemocnjaoaa.sn
attribute [local go_sem ↓] Go.wp_at_zero Go.wp_at_succ
set_option linter.unusedVariables false
set_option linter.unusedSimpArgs false
def cnt1 (k : Int) : Nat := if begB k = true then 1 else 0
def wd1 (k a : Int) : List Int := if k = 1 ∨ k = 2 then [a] else if k = 3 then [-1] else []
def cntL (L : List (Int × Int × Int)) : Nat := (L.map fun m => cnt1 m.1).sum
def wdL (L : List (Int × Int × Int)) : List Int := L.flatMap fun m => wd1 m.1 m.2.1
theorem cntL_snoc (L : List (Int × Int × Int)) (m : Int × Int × Int) : cntL (L ++ [m]) = cntL L + cnt1 m.1 := by simp [cntL]
theorem wdL_snoc (L : List (Int × Int × Int)) (m : Int × Int × Int) : wdL (L ++ [m]) = wdL L ++ wd1 m.1 m.2.1 := by simp [wdL]
theorem tk_cnt {k a : Int} {s s' : PS} (h : Tk k a s s') : s'.P.length = s.P.length + cnt1 k ∧ s'.A.map (fun p => p.2.1) = s.A.map (fun p => p.2.1) ++ wd1 k a := by
  cases h with
  | acc T y hs hk => rcases hk with rfl | rfl | rfl <;> simp [accP, cnt1, begB, wd1]
  | fork T y hs hk => subst hk; simp [forkP, cnt1, begB, wd1]
  | ret T z y hs hk => subst hk; simp [retP, cnt1, begB, wd1]
  | meet T y hs hk => subst hk; simp [meetP, cnt1, begB, wd1]
  | loop T y hs hk => subst hk; simp [loopP, cnt1, begB, wd1]
  | leave T q l hs hk => subst hk; simp [leaveP, cnt1, begB, wd1]
  | iter T q l hs hk => subst hk; simp [iterP, cnt1, begB, wd1]
  | done T l y hs hk => subst hk; simp [doneP, cnt1, begB, wd1]
  | go T y hs hk => rcases hk with rfl | rfl <;> simp [goP, cnt1, begB, wd1]
theorem steps_cnt : ∀ {L : List (Int × Int × Int)} {s s' : PS}, sn.Steps s L s' → s'.P.length = s.P.length + cntL L ∧ s'.A.map (fun p => p.2.1) = s.A.map (fun p => p.2.1) ++ wdL L
  | [], s, s', h => by have e : s = s' := h; subst e; simp [cntL, wdL]
  | m :: L, s, s', h => by
    obtain ⟨f, s1, _, _, h3, h4⟩ := h
    obtain ⟨e1, e2⟩ := tk_cnt h3
    obtain ⟨e3, e4⟩ := steps_cnt h4
    rw [e3, e4, e1, e2]
    simp [cntL, wdL]
    omega
theorem cnt_le (L : List (Int × Int × Int)) : cntL L ≤ L.length := by
  induction L with
  | nil => simp [cntL]
  | cons m L ih =>
    have : cnt1 m.1 ≤ 1 := by unfold cnt1; split <;> omega
    simp only [cntL, List.map_cons, List.sum_cons, List.length_cons] at ih ⊢
    omega
theorem wd_le (L : List (Int × Int × Int)) : (wdL L).length ≤ L.length := by
  induction L with
  | nil => simp [wdL]
  | cons m L ih =>
    have : (wd1 m.1 m.2.1).length ≤ 1 := by unfold wd1; split <;> (try split) <;> simp
    simp only [wdL, List.flatMap_cons, List.length_append, List.length_cons] at ih ⊢
    omega
/-- behind the marks' loop. -/
structure WR (w0 W wr : World) (v : Value) (ws : List Int) : Prop where
  o : OR 1 enI wr W.heap.size 3 v ws
  b : Below W.heap.size W wr
set_option maxHeartbeats 2000000 in
set_option maxRecDepth 20000 in
theorem core (a0 : Option Addr) (n cap0 : Nat) (L : List (Int × Int × Int)) (w : World) (h : RV 3 enN w (.slice a0 n cap0) L) (hn : n ≤ 2000) :
    Calls Try.prog 5 #[.slice a0 n cap0] w fun e w' => e = .returned (.bool true) ∧ Below w.heap.size w w' := by
  have hd : ¬ (2000 : Int) < (n : Int) := by omega
  have hd2 : decide (2000 < n) = false := by simp; omega
  have HV := Lib.hid h
  clear h
  go_enter Try.func5, Try.ntmps5
  go_wp2_with fail
  refine (works30 w).mono ?_
  rintro e w1 ⟨rfl, hb1⟩
  go_wp2_with fail
  refine (marks_of w1 a0 n cap0 L (RV.below HV.out hb1) (by omega)).mono ?_
  rintro e w2 ⟨a2, n2, c2, rfl, hv2, hb2⟩
  have hn2 : n2 = n := by rw [(RV.len hv2).1, (RV.len HV.out).1]
  subst hn2
  have HB2 := Lib.hid (hb1.trans (hb2.mono hb1.size))
  clear hb1 hb2
  go_wp2_with fail
  refine (build_of w2 a2 n2 c2 L hv2 (by omega)).mono ?_
  rintro e w3 ⟨c, pv, nv, av, rfl, hb3, H⟩
  have HB3 := Lib.hid (HB2.out.trans (hb3.mono HB2.out.size))
  have HLL : Hid (n2 = L.length) := Lib.hid (RV.len hv2).1
  clear HB2 hb3 hv2
  rcases H with ⟨hc, rfl, rfl, rfl, _⟩ | ⟨rfl, s, hSt, hI, hD⟩
  · have hcb : (c != 0) = true := by simpa using hc
    go_wp2_with fail
    go_ret
    exact ⟨rfl, HB3.out.trans ((show Below w3.heap.size w3 _ by go_grown).mono HB3.out.size)⟩
  · obtain ⟨pa, pc, rfl, _⟩ := hD.p.form
    obtain ⟨na, nc, rfl, _⟩ := hD.n.form
    obtain ⟨aa, ac, rfl, _⟩ := hD.a.form
    have HAC := Lib.hid hI.ac
    obtain ⟨e1, e2⟩ := steps_cnt hSt
    have e1' : s.P.length = 1 + cntL L := by rw [e1]; rfl
    have e2' : s.A.map (fun p => p.2.1) = wdL L := by rw [e2]; rfl
    have HCN := Lib.hid e1'
    have HWD := Lib.hid e2'
    have hal := hI.al
    have hLl : L.length ≤ 2000 := by have := HLL.out; omega
    have HDA := Lib.hid hD.a
    rw [hI.pn]
    obtain ⟨np, hnp⟩ : ∃ np, s.P.length = np := ⟨_, rfl⟩
    obtain ⟨nA, hnA⟩ : ∃ nA, s.A.length = nA := ⟨_, rfl⟩
    rw [hnp] at HAC HCN ⊢
    rw [hnA] at HDA hal ⊢
    obtain ⟨W, hW⟩ : ∃ W, w3.alloc (.cells #[.slice pa np pc, .slice na np nc, .slice aa nA ac] 28) = W := ⟨_, rfl⟩
    have hX := heap_new w3 (.cells #[.slice pa np pc, .slice na np nc, .slice aa nA ac] 28)
    rw [hW] at hX
    have hbW : Below w3.heap.size w3 W := by rw [← hW]; go_grown
    replace HDA := Lib.hid (RV.below HDA.out hbW)
    replace HB3 := Lib.hid (HB3.out.trans (hbW.mono HB3.out.size))
    have c0 : W.cell? ⟨w3.heap.size, 0, none⟩ = some (.slice pa np pc) := cel hX 0
    have c2' : W.cell? ⟨w3.heap.size, 2, none⟩ = some (.slice aa nA ac) := cel hX 2
    have hXl := World.block_lt_of_cell? W _ c0
    have HNA := Lib.hid hnA
    clear hI hD hSt e1 e2 e1' e2' hnp hnA hX hbW
    go_wp2_with fail
    clear hW
    obtain ⟨X, hXe⟩ : ∃ X, w3.heap.size = X := ⟨_, rfl⟩
    rw [hXe] at c0 c2' hXl ⊢
    clear hXe hd hd2
    go_loopw [5, 6, 8] (fun m v i wr => ∃ (k cn : Nat) (va : Option Addr) (vn vc : Nat), k ≤ n2 ∧ i = .int .i64 (k : Int) ∧ m = .int .i64 (cn : Int) ∧ cn ≤ k + 1 ∧ v = .slice va vn vc ∧ Hid (cn = 1 + cntL (L.take k) ∧ WR w W wr (.slice va vn vc) (wdL (L.take k)))) (fun _ _ i _ => n2 - (intOf i).toNat)
    case atStart => exact ⟨0, 1, none, 0, 0, by omega, rfl, rfl, by omega, rfl, Lib.hid ⟨rfl, OR.nil _ _ _, Below.refl _ _⟩⟩
    case round =>
      obtain ⟨k, cn, va, vn, vc, hk, rfl, rfl, hcn, rfl, HR⟩ := hrel
      by_cases hlt : k < n2
      · obtain ⟨⟨kk, ka, kb⟩, hy⟩ : ∃ y, L[k]? = some y := ⟨_, List.getElem?_eq_getElem (by have := HLL.out; omega)⟩
        obtain ⟨g, o, rfl, hg, hc⟩ := HV.out.at k _ hy
        have hb0 := HB3.out.trans (HR.out.2.b.mono HB3.out.size)
        have y0 : wr.cell? ⟨g, o + k * 3, none⟩ = some (.int .i64 kk) := (hb0.cell (p := ⟨g, o + k * 3, none⟩) hg).trans (by simpa using hc 0 _ rfl)
        have y1 : wr.cell? ⟨g, o + k * 3 + 1, none⟩ = some (.int .i64 ka) := (hb0.cell (p := ⟨g, o + k * 3 + 1, none⟩) hg).trans (by simpa [Nat.add_assoc] using hc 1 _ rfl)
        have hts : L.take (k + 1) = L.take k ++ [(kk, ka, kb)] := by
          have hkL := (List.getElem?_eq_some_iff.1 hy).1
          rw [List.take_succ_eq_append_getElem hkL]
          rw [List.getElem?_eq_getElem hkL] at hy
          simp at hy
          rw [hy]
        have HTC : Hid (cntL (L.take (k + 1)) = cntL (L.take k) + cnt1 kk) := Lib.hid (by rw [hts, cntL_snoc])
        have HTW : Hid (wdL (L.take (k + 1)) = wdL (L.take k) ++ wd1 kk ka) := Lib.hid (by rw [hts, wdL_snoc])
        have hgb : g < wr.heap.size := Nat.lt_of_lt_of_le hg hb0.size
        have hwl : (wdL (L.take k)).length ≤ 1000000 := by have := wd_le (L.take k); have := List.length_take_le k L; omega
        clear hy hc hb0 hg hts
        by_cases hq : kk = 4 ∨ kk = 5 ∨ kk = 6 ∨ kk = 9 ∨ kk = 11 ∨ kk = 12 ∨ kk = 8
        · have HN : Hid (cn + 1 = 1 + cntL (L.take (k + 1)) ∧ WR w W wr (.slice va vn vc) (wdL (L.take (k + 1)))) := Lib.hid ⟨by
            rw [HTC.out, HR.out.1]
            have : cnt1 kk = 1 := by rcases hq with rfl | rfl | rfl | rfl | rfl | rfl | rfl <;> rfl
            omega, by
            rw [HTW.out]
            have : wd1 kk ka = [] := by unfold wd1; rw [if_neg (by omega), if_neg (by omega)]
            rw [this, List.append_nil]
            exact HR.out.2⟩
          clear HR HTC HTW
          rcases hq with rfl | rfl | rfl | rfl | rfl | rfl | rfl
          all_goals
            go_wp2_with fail
            go_roundw
            case rel => exact ⟨k + 1, cn + 1, va, vn, vc, by omega, by go_num, by go_num, by omega, rfl, HN⟩
            case measure => simp [intOf]; omega
        · have HC0 : Hid (cn = 1 + cntL (L.take (k + 1))) := Lib.hid (by
            rw [HTC.out, HR.out.1]
            have : cnt1 kk = 0 := by unfold cnt1 begB; rw [if_neg (by simp; omega)]
            omega)
          by_cases hq2 : kk = 1 ∨ kk = 2 ∨ kk = 3
          · clear hq
            rcases hq2 with rfl | rfl | rfl
            · have hoA : OR 1 enI (wr.alloc (.cells #[.int .i64 ka] 3)) W.heap.size 3 (.slice va vn vc) (wdL (L.take k)) := OR.below HR.out.2.o (by go_grown)
              have hbA : Below W.heap.size W (wr.alloc (.cells #[.int .i64 ka] 3)) := HR.out.2.b.trans ((show Below wr.heap.size wr (wr.alloc (.cells #[.int .i64 ka] 3)) by go_grown).mono HR.out.2.b.size)
              have hBs := hbA.size
              have HRw : Hid (∀ g, (Value.slice va vn vc).ownBlock = some g → W.heap.size ≤ g) := Lib.hid fun g e => (HR.out.2.o.lt g e).1
              have HOA := Lib.hid hoA
              have HBA := Lib.hid hbA
              have HWE : Hid (wdL (L.take k) ++ [ka] = wdL (L.take (k + 1))) := Lib.hid (by rw [HTW.out]; rfl)
              clear hoA hbA HR HTC HTW
              go_wp2_with ((at_builtin; refine wpList_appR rfl _ _ 39 3 _ 8 rfl Try.underlying39 infI rfl (by decide) recI W.heap.size (.slice va vn vc) (wdL (L.take k)) rfl ⟨wr.heap.size, 0, none⟩ 1 rfl ka HOA.out (rec_new rfl rfl) hwl hBs ?_))
              intro v' w6 ho6 hg6 hor6
              obtain ⟨vb, vm, vd, rfl⟩ := form3 ho6
              have HN : Hid (cn = 1 + cntL (L.take (k + 1)) ∧ WR w W w6 (.slice vb vm vd) (wdL (L.take (k + 1)))) := Lib.hid ⟨HC0.out, by rw [← HWE.out]; exact ho6, HBA.out.grown hg6 hBs HRw.out⟩
              clear ho6 hg6 hor6 HOA HBA HRw HWE HC0 hBs
              go_wp2_with fail
              go_roundw
              case rel => exact ⟨k + 1, cn, vb, vm, vd, by omega, by go_num, rfl, by omega, rfl, HN⟩
              case measure => simp [intOf]; omega
            · have hoA : OR 1 enI (wr.alloc (.cells #[.int .i64 ka] 3)) W.heap.size 3 (.slice va vn vc) (wdL (L.take k)) := OR.below HR.out.2.o (by go_grown)
              have hbA : Below W.heap.size W (wr.alloc (.cells #[.int .i64 ka] 3)) := HR.out.2.b.trans ((show Below wr.heap.size wr (wr.alloc (.cells #[.int .i64 ka] 3)) by go_grown).mono HR.out.2.b.size)
              have hBs := hbA.size
              have HRw : Hid (∀ g, (Value.slice va vn vc).ownBlock = some g → W.heap.size ≤ g) := Lib.hid fun g e => (HR.out.2.o.lt g e).1
              have HOA := Lib.hid hoA
              have HBA := Lib.hid hbA
              have HWE : Hid (wdL (L.take k) ++ [ka] = wdL (L.take (k + 1))) := Lib.hid (by rw [HTW.out]; rfl)
              clear hoA hbA HR HTC HTW
              go_wp2_with ((at_builtin; refine wpList_appR rfl _ _ 39 3 _ 8 rfl Try.underlying39 infI rfl (by decide) recI W.heap.size (.slice va vn vc) (wdL (L.take k)) rfl ⟨wr.heap.size, 0, none⟩ 1 rfl ka HOA.out (rec_new rfl rfl) hwl hBs ?_))
              intro v' w6 ho6 hg6 hor6
              obtain ⟨vb, vm, vd, rfl⟩ := form3 ho6
              have HN : Hid (cn = 1 + cntL (L.take (k + 1)) ∧ WR w W w6 (.slice vb vm vd) (wdL (L.take (k + 1)))) := Lib.hid ⟨HC0.out, by rw [← HWE.out]; exact ho6, HBA.out.grown hg6 hBs HRw.out⟩
              clear ho6 hg6 hor6 HOA HBA HRw HWE HC0 hBs
              go_wp2_with fail
              go_roundw
              case rel => exact ⟨k + 1, cn, vb, vm, vd, by omega, by go_num, rfl, by omega, rfl, HN⟩
              case measure => simp [intOf]; omega
            · have hoA : OR 1 enI (wr.alloc (.cells #[.int .i64 (-1)] 3)) W.heap.size 3 (.slice va vn vc) (wdL (L.take k)) := OR.below HR.out.2.o (by go_grown)
              have hbA : Below W.heap.size W (wr.alloc (.cells #[.int .i64 (-1)] 3)) := HR.out.2.b.trans ((show Below wr.heap.size wr (wr.alloc (.cells #[.int .i64 (-1)] 3)) by go_grown).mono HR.out.2.b.size)
              have hBs := hbA.size
              have HRw : Hid (∀ g, (Value.slice va vn vc).ownBlock = some g → W.heap.size ≤ g) := Lib.hid fun g e => (HR.out.2.o.lt g e).1
              have HOA := Lib.hid hoA
              have HBA := Lib.hid hbA
              have HWE : Hid (wdL (L.take k) ++ [(-1)] = wdL (L.take (k + 1))) := Lib.hid (by rw [HTW.out]; rfl)
              clear hoA hbA HR HTC HTW
              go_wp2_with ((at_builtin; refine wpList_appR rfl _ _ 39 3 _ 8 rfl Try.underlying39 infI rfl (by decide) recI W.heap.size (.slice va vn vc) (wdL (L.take k)) rfl ⟨wr.heap.size, 0, none⟩ 1 rfl (-1) HOA.out (rec_new rfl rfl) hwl hBs ?_))
              intro v' w6 ho6 hg6 hor6
              obtain ⟨vb, vm, vd, rfl⟩ := form3 ho6
              have HN : Hid (cn = 1 + cntL (L.take (k + 1)) ∧ WR w W w6 (.slice vb vm vd) (wdL (L.take (k + 1)))) := Lib.hid ⟨HC0.out, by rw [← HWE.out]; exact ho6, HBA.out.grown hg6 hBs HRw.out⟩
              clear ho6 hg6 hor6 HOA HBA HRw HWE HC0 hBs
              go_wp2_with fail
              go_roundw
              case rel => exact ⟨k + 1, cn, vb, vm, vd, by omega, by go_num, rfl, by omega, rfl, HN⟩
              case measure => simp [intOf]; omega
          · have HN : Hid (cn = 1 + cntL (L.take (k + 1)) ∧ WR w W wr (.slice va vn vc) (wdL (L.take (k + 1)))) := Lib.hid ⟨HC0.out, by
              rw [HTW.out]
              have : wd1 kk ka = [] := by unfold wd1; rw [if_neg (by omega), if_neg (by omega)]
              rw [this, List.append_nil]
              exact HR.out.2⟩
            have q1 : (kk == 4) = false := by simp; omega
            have q2 : (kk == 5) = false := by simp; omega
            have q3 : (kk == 6) = false := by simp; omega
            have q4 : (kk == 9) = false := by simp; omega
            have q5 : (kk == 11) = false := by simp; omega
            have q6 : (kk == 12) = false := by simp; omega
            have q7 : (kk == 8) = false := by simp; omega
            have q8 : (kk == 1) = false := by simp; omega
            have q9 : (kk == 2) = false := by simp; omega
            have q10 : (kk == 3) = false := by simp; omega
            clear HR HTC HTW HC0 hq hq2
            go_wp2_with fail
            go_roundw
            case rel => exact ⟨k + 1, cn, va, vn, vc, by omega, by go_num, rfl, by omega, rfl, HN⟩
            case measure => simp [intOf]; omega
      · obtain rfl : k = n2 := by omega
        obtain ⟨w6, rfl⟩ : ∃ w6, w6 = wr := ⟨wr, rfl⟩
        have hfin := HR.out
        rw [List.take_of_length_le (by have := HLL.out; omega)] at hfin
        have hcnp : cn = np := by rw [hfin.1, HCN.out]
        subst hcnp
        have hoW := hfin.2.o
        have hbW := hfin.2.b
        have HWO := Lib.hid hoW
        have HWB := Lib.hid hbW
        have HCC := Lib.hid hfin.1
        clear hfin HR hoW hbW
        go_wp2_with fail
        go_loopw [7, 9, 10] (fun v m i wr => ∃ (q : Nat) (lm : Int) (ga : Option Addr) (gn gc : Nat), q ≤ nA ∧ i = .int .i64 (q : Int) ∧ m = .int .i64 lm ∧ 0 ≤ lm ∧ lm < (cn : Int) ∧ v = .slice ga gn gc ∧ Hid (OR 1 enI wr w6.heap.size 3 (.slice ga gn gc) ((s.A.take q).map fun p => p.2.1) ∧ Below w6.heap.size w6 wr)) (fun _ _ i _ => nA - (intOf i).toNat)
        case atStart => exact ⟨0, 0, none, 0, 0, by omega, rfl, rfl, by omega, by have := HCC.out; omega, rfl, Lib.hid ⟨OR.nil _ _ _, Below.refl _ _⟩⟩
        case round =>
          obtain ⟨q, lm, ga, gn, gc, hq, rfl, rfl, l1, l2, rfl, HR⟩ := hrel
          have hb6 := HWB.out.trans (HR.out.2.mono HWB.out.size)
          have d0 : wr.cell? ⟨X, 0, none⟩ = some (.slice pa cn pc) := (hb6.cell (p := ⟨X, 0, none⟩) hXl).trans c0
          have d2 : wr.cell? ⟨X, 2, none⟩ = some (.slice aa nA ac) := (hb6.cell (p := ⟨X, 2, none⟩) hXl).trans c2'
          have hXr : X < wr.heap.size := Nat.lt_of_lt_of_le hXl hb6.size
          by_cases hlt2 : q < nA
          · obtain ⟨⟨ys, yw, yb⟩, hy⟩ : ∃ y, s.A[q]? = some y := ⟨_, List.getElem?_eq_getElem (by have := HNA.out; omega)⟩
            obtain ⟨g, og, rfl, hg, hcq⟩ := HDA.out.at q _ hy
            have z0 : W.cell? ⟨g, og + q * 3, none⟩ = some (.int .i64 ys) := by simpa using hcq 0 _ rfl
            have HZ0 := Lib.hid z0
            have e0 : wr.cell? ⟨g, og + q * 3, none⟩ = some (.int .i64 ys) := (hb6.cell (p := ⟨g, og + q * 3, none⟩) hg).trans z0
            have e1 : wr.cell? ⟨g, og + q * 3 + 1, none⟩ = some (.int .i64 yw) := (hb6.cell (p := ⟨g, og + q * 3 + 1, none⟩) hg).trans (by simpa [Nat.add_assoc] using hcq 1 _ rfl)
            have hgr : g < wr.heap.size := Nat.lt_of_lt_of_le hg hb6.size
            obtain ⟨u1, u2⟩ := HAC.out _ (List.mem_of_getElem? hy)
            have hts : (s.A.take (q + 1)).map (fun p => p.2.1) = (s.A.take q).map (fun p => p.2.1) ++ [yw] := by
              have hkL := (List.getElem?_eq_some_iff.1 hy).1
              rw [List.take_succ_eq_append_getElem hkL]
              rw [List.getElem?_eq_getElem hkL] at hy
              simp at hy
              rw [hy]; simp
            have HTS := Lib.hid hts
            have hoA : OR 1 enI (wr.alloc (.cells #[.int .i64 yw] 3)) w6.heap.size 3 (.slice ga gn gc) ((s.A.take q).map fun p => p.2.1) := OR.below HR.out.1 (by go_grown)
            have hbA : Below w6.heap.size w6 (wr.alloc (.cells #[.int .i64 yw] 3)) := HR.out.2.trans ((show Below wr.heap.size wr (wr.alloc (.cells #[.int .i64 yw] 3)) by go_grown).mono HR.out.2.size)
            have hBs := hbA.size
            have HRw : Hid (∀ g, (Value.slice ga gn gc).ownBlock = some g → w6.heap.size ≤ g) := Lib.hid fun g e => (HR.out.1.lt g e).1
            have HOA := Lib.hid hoA
            have HBA := Lib.hid hbA
            have hgl : ((s.A.take q).map fun p => p.2.1).length ≤ 1000000 := by rw [List.length_map]; have := List.length_take_le q s.A; omega
            have HSB := Lib.hid HWB.out.size
            clear hoA hbA HR hy hcq hts hb6 z0
            by_cases hlu : lm < ys
            all_goals
              go_wp2_with ((at_builtin; refine wpList_appR rfl _ _ 39 3 _ 8 rfl Try.underlying39 infI rfl (by decide) recI w6.heap.size (.slice ga gn gc) ((s.A.take q).map fun p => p.2.1) rfl ⟨wr.heap.size, 0, none⟩ 1 rfl yw HOA.out (rec_new rfl rfl) hgl hBs ?_))
              intro v' w8 ho8 hg8 hor8
              obtain ⟨vb, vm, vd, rfl⟩ := form3 ho8
              have hb8 : Below w6.heap.size w6 w8 := HBA.out.grown hg8 hBs HRw.out
              have hb9 := HWB.out.trans (hb8.mono HSB.out)
              have f0 : w8.cell? ⟨X, 0, none⟩ = some (.slice pa cn pc) := (hb9.cell (p := ⟨X, 0, none⟩) hXl).trans c0
              have f2 : w8.cell? ⟨X, 2, none⟩ = some (.slice _ nA ac) := (hb9.cell (p := ⟨X, 2, none⟩) hXl).trans c2'
              have f3 : w8.cell? ⟨g, og + q * 3, none⟩ = some (.int .i64 ys) := (hb9.cell (p := ⟨g, og + q * 3, none⟩) hg).trans HZ0.out
              have HN : Hid (OR 1 enI w8 w6.heap.size 3 (.slice vb vm vd) ((s.A.take (q + 1)).map fun p => p.2.1) ∧ Below w6.heap.size w6 w8) := Lib.hid ⟨by rw [HTS.out]; simpa using ho8, hb8⟩
              clear ho8 hg8 hor8 hb8 hb9 HOA HBA HRw hBs HTS
              go_wp2_with fail
              go_roundw
              case measure => simp [intOf]; omega
            · exact ⟨q + 1, ys, vb, vm, vd, by omega, by go_num, rfl, by omega, by omega, rfl, HN⟩
            · exact ⟨q + 1, lm, vb, vm, vd, by omega, by go_num, rfl, by omega, by omega, rfl, HN⟩
          · obtain rfl : q = nA := by omega
            have hgw : (s.A.take q).map (fun p => p.2.1) = wdL L := by rw [List.take_of_length_le (by have := HNA.out; omega), HWD.out]
            have hRo := HR.out.1
            rw [hgw] at hRo
            have hV1 := view_of_rv (OR.rv recI hRo)
            have hV2 := view_of_rv (OR.rv recI (OR.below HWO.out HR.out.2))
            have CI := Lib.hid (ints_any _ _ _ _ wr hV1 hV2)
            have HBE := Lib.hid (HB3.out.trans (hb6.mono HB3.out.size))
            have hbe : (wdL L == wdL L) = true := by simp
            clear hV1 hV2 hRo hgw HR hb6 HWO HWB
            go_wp2_with fail
            refine CI.out.mono ?_
            rintro e w9 ⟨rfl, n9, rfl⟩
            rw [hbe]
            go_wp2_with fail
            go_ret
            exact ⟨rfl, below_drewN HBE.out _⟩
theorem walk (a0 : Option Addr) (len0 cap0 : Nat) (z0 : Nat → Nat → Int) (w : World) (w0 : IsGrid [.i64, .i64, .i64] w a0 len0 cap0 z0) :
    Calls Try.prog 5 #[.slice a0 len0 cap0] w fun e w' => e = .returned (.bool true) ∧ Below w.heap.size w w' := by
  by_cases hl : len0 ≤ 2000
  · exact core a0 len0 cap0 _ w (rv_grid w0) hl
  · have hd : (2000 : Int) < (len0 : Int) := by omega
    have hd2 : decide (2000 < len0) = true := by simp; omega
    clear w0
    go_enter Try.func5, Try.ntmps5
    go_wp2_with fail
    refine (works30 w).mono ?_
    rintro e w1 ⟨rfl, hb1⟩
    go_wp2_with fail
    go_ret
    exact ⟨rfl, hb1⟩
end Go.Proofs.Ytgbaaemocnjaoaa.strandMany
