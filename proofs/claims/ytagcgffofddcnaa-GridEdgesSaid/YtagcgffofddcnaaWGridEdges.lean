/- GridEdges: the edges of any rows (layer 33). -/
import Derived.Test.YtagcgffofddcnaaGrT
import Derived.Test.YtagcgffofddcnaaWGridForth
namespace Go.Proofs.Ytagcgffofddcnaa.gridEdges
open Go.ChangeShapes Go.WideShapes Go.ChangeAt Go.RowKit
open Go.Proofs.Ytagcgffofddcnaa.ro
open Go.Proofs.Ytagcgffofddcnaa.gr
open Go.Proofs.Ytagcgffofddcnaa.gridForth (cx_neq cx_guard)
open Go.Proofs.Ytagcgffofddcnaa
set_option linter.unusedVariables false
set_option linter.unusedSimpArgs false
set_option maxRecDepth 20000 in
set_option maxHeartbeats 8000000 in
theorem walk (a0 : Option Addr) (n0 c0 : Nat) (L0 : List (List gr.C2)) (w : World) (w0 : gr.PM w (.slice a0 n0 c0) L0) :
    Calls Try.prog 4 #[.slice a0 n0 c0] w fun e w' => e = .returned (.bool true) ∧ Below w.heap.size w w' := by
  have HR := Lib.hid w0
  have HNL := Lib.hid w0.len.1
  have CW := Lib.hid (works_v w)
  clear w0
  obtain ⟨P, hP⟩ : ∃ P : Ending → World → Prop, (fun (e : Ending) (w' : World) => e = .returned (.bool true) ∧ Below w.heap.size w w') = P := ⟨_, rfl⟩
  have HF : Hid (∀ w', Below w.heap.size w w' → P (.returned (.bool true)) w') := Lib.hid (by rintro w' hb; rw [← hP]; exact ⟨rfl, hb⟩)
  rw [hP]
  clear hP
  obtain ⟨r, hr⟩ : ∃ r, chkE L0 = r := ⟨_, rfl⟩
  have HRR := Lib.hid hr
  have nr : (r == r) = true := by simp
  have nr2 : (r != r) = false := by simp
  clear hr
  go_enter Try.func4, Try.ntmps4
  go_wp2_with fail
  refine CW.out.mono ?_
  rintro e w1 ⟨rfl, hb1⟩
  have HB1 := Lib.hid hb1
  have CG := Lib.hid (great_v a0 n0 c0 L0 w1 (HR.out.below hb1))
  clear hb1 CW
  go_wp2_with fail
  refine CG.out.mono ?_
  rintro e w2 ⟨g, rfl, hg, rfl⟩
  have HG := Lib.hid hg
  clear hg CG
  cases g with
  | true =>
    go_wp2_with fail
    first | exact HF.out _ HB1.out | (go_ret; exact HF.out _ HB1.out)
  | false =>
    have HFW := Lib.hid (HG.out rfl)
    have hn103 : n0 ≤ 103 := by have h1 := HFW.out.m; have h2 := HNL.out; omega
    have CO := Lib.hid (own_v a0 n0 c0 L0 w1 (HR.out.below HB1.out) HFW.out)
    go_wp2_with fail
    refine CO.out.mono ?_
    rintro e w2 ⟨ao, co, rfl, ho, hb2⟩
    have HB2 := Lib.hid (tr3 HB1.out hb2)
    have CK : Hid (∀ w3, Below w.heap.size w w3 → Calls Try.prog 18 #[.slice a0 n0 c0] w3 fun e w' => e = .returned (.int .i64 r) ∧ Below w3.heap.size w3 w') := Lib.hid (fun w3 hb => rcheck_v a0 n0 c0 L0 r w3 (HR.out.below hb) HRR.out)
    have CO2 : Hid (∀ w3, Below w.heap.size w w3 → Calls Try.prog 17 #[.slice a0 n0 c0] w3 fun e w' => ∃ a' c', e = .returned (.slice a' n0 c') ∧ PM w' (.slice a' n0 c') L0 ∧ Below w3.heap.size w3 w') := Lib.hid (fun w3 hb => own_v a0 n0 c0 L0 w3 (HR.out.below hb) HFW.out)
    have CC : Hid (∀ w3 ad cd, PM w3 (.slice ad n0 cd) L0 → Calls Try.prog 19 #[.slice ad n0 cd] w3 fun e w' => e = .returned (.int .i64 r) ∧ Below w3.heap.size w3 w') := Lib.hid (fun w3 ad cd h => check_v ad n0 cd L0 r w3 h HRR.out)
    by_cases hr0 : r = 0
    · subst hr0
      have CE := Lib.hid (edges_ok ao n0 co L0 w2 ho HRR.out)
      have HL := Lib.hid (chkE_rts HRR.out)
      have CM : Hid (∀ w3, Below w.heap.size w w3 → Calls Try.prog 20 #[.slice a0 n0 c0] w3 fun e w' => ∃ a' m' c', e = .returned (.slice a' m' c') ∧ OR 4 enQ w' w3.heap.size 43 (.slice a' m' c') (eds L0) ∧ Below w3.heap.size w3 w') := Lib.hid (fun w3 hb => redges_v a0 n0 c0 L0 w3 (HR.out.below hb) HRR.out)
      clear ho hb2 CO
      go_wp2_with fail
      refine CE.out.mono ?_
      rintro e w3 ⟨ae, me, ce, rfl, hoe, hb3⟩
      have hrv := OR.rv recE hoe
      have HME := Lib.hid hrv.len.1
      have HB3 := Lib.hid (tr3 HB2.out hb3)
      have HRV := Lib.hid hrv
      have hme : me ≤ 600 := by
        have h1 := edsN_len L0 L0.length
        have h2 := HFW.out.s
        have h3 := HME.out
        unfold eds at h3
        omega
      have CK3 := Lib.hid (CK.out w3 HB3.out)
      clear hoe hrv hb3 CE
      go_wp2_with fail
      refine CK3.out.mono ?_
      rintro e w4 ⟨rfl, hb4⟩
      have HB4 := Lib.hid (tr3 HB3.out hb4)
      have HRV4 := Lib.hid (HRV.out.below hb4)
      have CO4 := Lib.hid (CO2.out w4 HB4.out)
      clear hb4 CK3
      go_wp2_with fail
      refine CO4.out.mono ?_
      rintro e w5 ⟨ad, cd, rfl, ho5, hb5⟩
      have HB5 := Lib.hid (tr3 HB4.out hb5)
      have HRV5 := Lib.hid (HRV4.out.below hb5)
      have CC5 := Lib.hid (CC.out w5 ad cd ho5)
      clear hb5 ho5 CO4
      go_wp2_with fail
      refine CC5.out.mono ?_
      rintro e w6 ⟨rfl, hb6⟩
      have HB6 := Lib.hid (tr3 HB5.out hb6)
      have HRV6 := Lib.hid (HRV5.out.below hb6)
      have CM6 := Lib.hid (CM.out w6 HB6.out)
      clear hb6 CC5
      go_wp2_with fail
      refine CM6.out.mono ?_
      rintro e w7 ⟨am, mm, cm, rfl, hom, hb7⟩
      have hrq := OR.rv recQ hom
      have HB7 := Lib.hid (tr3 HB6.out hb7)
      have HRV7 := Lib.hid (HRV6.out.below hb7)
      have HRQ := Lib.hid hrq
      have hmm : me = mm := by rw [HME.out]; exact hrq.len.1.symm
      subst hmm
      have nm : ((me : Int) != (me : Int)) = false := by simp
      have h00 : Hid (∃ m, w7 = w7.drewN m) := Lib.hid ⟨0, rfl⟩
      clear hom hrq hb7 CM6 HRV HRV4 HRV5 HRV6
      go_wp2_with fail
      go_loopw [7] (fun i wr => ∃ (j : Nat), i = .int .i64 (j : Int) ∧ j ≤ me ∧ Hid (∃ m, wr = w7.drewN m)) (fun i _ => me - (intOf i).toNat)
      case atStart => exact ⟨0, rfl, by omega, h00⟩
      case round =>
        clear h00
        obtain ⟨j, rfl, hj, HWQ⟩ := hrel
        by_cases hjt : j < me
        · obtain ⟨q, hq⟩ : ∃ q, (eds L0)[j]? = some q := ⟨_, List.getElem?_eq_getElem (by rw [← HME.out]; exact hjt)⟩
          have hbq : Below w7.heap.size w7 wr := by obtain ⟨m, rfl⟩ := HWQ.out; exact fbd _ _
          obtain ⟨b, o, rfl, hbl, hcc⟩ := (HRV7.out.below hbq).at j q hq
          obtain ⟨b2, o2, rfl, hbl2, hcq⟩ := (HRQ.out.below hbq).at j q hq
          have f0 := hcc 0 _ rfl
          have f1 := hcc 1 _ rfl
          have g0 := hcq 0 _ rfl
          have g1 := hcq 1 _ rfl
          have g2 := hcq 2 _ rfl
          have g3 := hcq 3 _ rfl
          rw [← Nat.add_assoc] at f1 g1 g2 g3
          simp only [Nat.add_zero] at f0 g0
          have HN1 := fun w9 => node_v w9 q.1 q.2.1
          have HN2 := fun w9 => node_v w9 q.2.2.1 q.2.2.2
          have hG1 := fun l r w9 => cx_guard l r q.1 q.2.1 q.1 q.2.1 w9
          have hG2 := fun l r w9 => cx_guard l r q.2.2.1 q.2.2.2 q.2.2.1 q.2.2.2 w9
          have hE1 := fun w9 => cx_neq q.1 q.2.1 q.1 q.2.1 w9
          have hE2 := fun w9 => cx_neq q.2.2.1 q.2.2.2 q.2.2.1 q.2.2.2 w9
          simp only [decide_true, Bool.and_self, Bool.not_true] at hE1 hE2
          obtain ⟨e1, he1⟩ : ∃ e1, q.1 = e1 := ⟨_, rfl⟩
          obtain ⟨e2, he2⟩ : ∃ e1, q.2.1 = e1 := ⟨_, rfl⟩
          obtain ⟨e3, he3⟩ : ∃ e1, q.2.2.1 = e1 := ⟨_, rfl⟩
          obtain ⟨e4, he4⟩ : ∃ e1, q.2.2.2 = e1 := ⟨_, rfl⟩
          rw [he1, he2] at HN1 hG1 hE1 f0
          rw [he3, he4] at HN2 hG2 hE2 f1
          rw [he1] at g0
          rw [he2] at g1
          rw [he3] at g2
          rw [he4] at g3
          obtain ⟨A, hA⟩ : ∃ A, cx e1 e2 = A := ⟨_, rfl⟩
          obtain ⟨B, hB⟩ : ∃ B, cx e3 e4 = B := ⟨_, rfl⟩
          simp only [hA] at HN1 hG1 hE1 f0
          simp only [hB] at HN2 hG2 hE2 f1
          have C1 : Hid (∀ m, Calls Try.prog 9 #[.int .i64 e1, .int .i64 e2] (wr.drewN m) fun e w'' => e = .returned A ∧ ∃ m, w'' = wr.drewN m) := Lib.hid (fun m => quiet_eq (HN1 _))
          have C2 : Hid (∀ m, Calls Try.prog 9 #[.int .i64 e3, .int .i64 e4] (wr.drewN m) fun e w'' => e = .returned B ∧ ∃ m, w'' = wr.drewN m) := Lib.hid (fun m => quiet_eq (HN2 _))
          have hjI : (j : Int) < (me : Int) := by omega
          clear HN1 HN2 hA hB he1 he2 he3 he4 hcc hcq hbq hq
          go_wp2_with fail
          go_quiet ((first | (go_at_call 9; with_reducible exact C1.out _) | (go_at_call 9; with_reducible exact C2.out _)))
          have HZ : Hid (∃ m, wr.drewN nq = w7.drewN m) := Lib.hid (by obtain ⟨m, h9⟩ := HWQ.out; rw [h9]; exact ⟨m + nq, by first | rfl | simp [World.drewN, Nat.add_assoc]⟩)
          go_wp2_with fail
          go_roundw
          case rel => exact ⟨j + 1, by go_num, by omega, HZ⟩
          case measure => simp [intOf]; omega
        · obtain rfl : j = me := by omega
          have HB9 : Hid (Below w.heap.size w wr) := Lib.hid (by obtain ⟨m, h9⟩ := HWQ.out; rw [h9]; exact tr3 HB7.out (fbd _ _))
          go_wp2_with fail
          first | exact HF.out _ HB9.out | (go_ret; exact HF.out _ HB9.out)
    · have CN := Lib.hid (edges_no ao n0 co L0 r w2 ho HRR.out hr0)
      have hn1 : (r != 0) = true := by simpa using hr0
      have hn2 : (r == 0) = false := by simpa using hr0
      clear ho hb2 CO
      go_wp2_with fail
      refine CN.out.mono ?_
      rintro e w3 ⟨rfl, hb3⟩
      have HB3 := Lib.hid (tr3 HB2.out hb3)
      have CK3 := Lib.hid (CK.out _ HB3.out)
      clear hb3 CN
      go_wp2_with fail
      refine CK3.out.mono ?_
      rintro e w4 ⟨rfl, hb4⟩
      have HB4 := Lib.hid (tr3 HB3.out hb4)
      have CO4 := Lib.hid (CO2.out w4 HB4.out)
      clear hb4 CK3
      go_wp2_with fail
      refine CO4.out.mono ?_
      rintro e w5 ⟨ad, cd, rfl, ho5, hb5⟩
      have HB5 := Lib.hid (tr3 HB4.out hb5)
      have CC5 := Lib.hid (CC.out w5 ad cd ho5)
      clear hb5 ho5 CO4
      go_wp2_with fail
      refine CC5.out.mono ?_
      rintro e w6 ⟨rfl, hb6⟩
      have HB6 := Lib.hid (tr3 HB5.out hb6)
      clear hb6 CC5
      go_wp2_with fail
      first | exact HF.out _ HB6.out | (go_ret; exact HF.out _ HB6.out)
end Go.Proofs.Ytagcgffofddcnaa.gridEdges
