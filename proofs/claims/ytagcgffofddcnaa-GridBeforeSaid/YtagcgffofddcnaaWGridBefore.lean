/- GridBefore: whether a way leads from any node to another one (layer 33). -/
import Derived.Test.YtagcgffofddcnaaGrU
import Derived.Test.YtagcgffofddcnaaGrM
import Derived.Test.YtagcgffofddcnaaGrO
namespace Go.Proofs.Ytagcgffofddcnaa.gridBefore
open Go.ChangeShapes Go.WideShapes Go.ChangeAt Go.RowKit
open Go.Proofs.Ytagcgffofddcnaa.ro
open Go.Proofs.Ytagcgffofddcnaa.gr
open Go.Proofs.Ytagcgffofddcnaa
set_option linter.unusedVariables false
set_option linter.unusedSimpArgs false
theorem a2_ne (a b c d : Int) (v : Bool) (h : (a == c && b == d) = v) (w : World) : Sem.run Try.prog (binOp .neq 44 (.agg #[.int .i64 a, .int .i64 b]) (.agg #[.int .i64 c, .int .i64 d])) w = .ok (.bool (!v)) w := by
  have e := a2_eq a b c d v h w
  simp only [binOp] at e ⊢
  cases h9 : (Op.equal 44 (Value.agg #[.int .i64 a, .int .i64 b]) (Value.agg #[.int .i64 c, .int .i64 d])).run Try.prog w <;> simp_all
theorem two_boxes (w9 : World) (a b c d : Int) : ∀ wz, ((w9.alloc (.cells #[.int .i64 a, .int .i64 b] 44)).alloc (.cells #[.int .i64 c, .int .i64 d] 44)).drew = wz → (wz.cell? ⟨w9.heap.size, 0, none⟩ = some (.int .i64 a) ∧ wz.cell? ⟨w9.heap.size, 1, none⟩ = some (.int .i64 b) ∧ wz.cell? ⟨w9.heap.size + 1, 0, none⟩ = some (.int .i64 c) ∧ wz.cell? ⟨w9.heap.size + 1, 1, none⟩ = some (.int .i64 d)) ∧ Below w9.heap.size w9 wz := by
  rintro wz rfl
  obtain ⟨W1, hW1⟩ : ∃ W, w9.alloc (.cells #[.int .i64 a, .int .i64 b] 44) = W := ⟨_, rfl⟩
  have hb1 : Below w9.heap.size w9 W1 := by rw [← hW1]; go_grown
  have hx1 : W1.heap[w9.heap.size]? = some (.cells #[.int .i64 a, .int .i64 b] 44 (0, 0)) := by rw [← hW1]; exact heap_new _ _
  have hz : W1.heap.size = w9.heap.size + 1 := by rw [← hW1]; simp
  rw [hW1]
  have hb2 : Below W1.heap.size W1 (W1.alloc (.cells #[.int .i64 c, .int .i64 d] 44)) := by go_grown
  have hx2 : (W1.alloc (.cells #[.int .i64 c, .int .i64 d] 44)).heap[W1.heap.size]? = some (.cells #[.int .i64 c, .int .i64 d] 44 (0, 0)) := heap_new _ _
  rw [hz] at hx2
  obtain ⟨u0, u1⟩ := cel2 (kb hx1 hb2)
  obtain ⟨u2, u3⟩ := cel2 hx2
  exact ⟨⟨u0, u1, u2, u3⟩, (tr3 hb1 hb2).trans (by go_grown)⟩
set_option maxRecDepth 20000 in
set_option maxHeartbeats 16000000 in
theorem walk (a0 : Option Addr) (n0 c0 : Nat) (L0 : List (List gr.C2)) (a1_0 a1_1 : Int) (a2_0 a2_1 : Int) (w : World) (w0 : gr.PM w (.slice a0 n0 c0) L0) (w1_0 : (Lit.int .i64 a1_0).wf = true) (w1_1 : (Lit.int .i64 a1_1).wf = true) (w2_0 : (Lit.int .i64 a2_0).wf = true) (w2_1 : (Lit.int .i64 a2_1).wf = true) :
    Calls Try.prog 5 #[.slice a0 n0 c0, .agg #[.int .i64 a1_0, .int .i64 a1_1], .agg #[.int .i64 a2_0, .int .i64 a2_1]] w fun e w' => e = .returned (.bool true) ∧ Below w.heap.size w w' := by
  have HR := Lib.hid w0
  have HNL := Lib.hid w0.len.1
  clear w0 w1_0 w1_1 w2_0 w2_1
  obtain ⟨P, hP⟩ : ∃ P : Ending → World → Prop, (fun (e : Ending) (w' : World) => e = .returned (.bool true) ∧ Below w.heap.size w w') = P := ⟨_, rfl⟩
  have HF : Hid (∀ w', Below w.heap.size w w' → P (.returned (.bool true)) w') := Lib.hid (by rintro w' hb; rw [← hP]; exact ⟨rfl, hb⟩)
  rw [hP]
  clear hP
  obtain ⟨W0, hW0⟩ : ∃ W, w.alloc (.cells #[.int .i64 a1_0, .int .i64 a1_1] 44) = W := ⟨_, rfl⟩
  obtain ⟨W, hW⟩ : ∃ W, W0.alloc (.cells #[.int .i64 a2_0, .int .i64 a2_1] 44) = W := ⟨_, rfl⟩
  have hb0 : Below w.heap.size w W0 := by rw [← hW0]; go_grown
  have hb1 : Below W0.heap.size W0 W := by rw [← hW]; go_grown
  have hx0 : W0.heap[w.heap.size]? = some (.cells #[.int .i64 a1_0, .int .i64 a1_1] 44 (0, 0)) := by rw [← hW0]; exact heap_new _ _
  have hx1 : W.heap[W0.heap.size]? = some (.cells #[.int .i64 a2_0, .int .i64 a2_1] 44 (0, 0)) := by rw [← hW]; exact heap_new _ _
  have HX0 := Lib.hid (kb hx0 hb1)
  have HX1 := Lib.hid hx1
  have HBW := Lib.hid (tr3 hb0 hb1)
  obtain ⟨gA, hgA⟩ : ∃ g, w.heap.size = g := ⟨_, rfl⟩
  obtain ⟨gB, hgB⟩ : ∃ g, W0.heap.size = g := ⟨_, rfl⟩
  rw [hgA] at HX0
  rw [hgB] at HX1
  have CW := Lib.hid (works_v W)
  obtain ⟨r, hr⟩ : ∃ r, chkE L0 = r := ⟨_, rfl⟩
  have HRR := Lib.hid hr
  clear hr hb0 hb1 hx0 hx1
  go_enter Try.func5, Try.ntmps5
  go_wp2_with fail
  refine CW.out.mono ?_
  rintro e w1 ⟨rfl, hb1⟩
  have HBx := Lib.hid hb1
  have HB1 := Lib.hid (tr3 HBW.out hb1)
  have CG := Lib.hid (great_v a0 n0 c0 L0 w1 (HR.out.below HB1.out))
  clear hb1 CW
  go_wp2_with fail
  refine CG.out.mono ?_
  rintro e w2 ⟨g, rfl, hg, rfl⟩
  have HG := Lib.hid hg
  clear hg CG
  cases g with
  | true =>
    go_wp2_with fail
    first | exact HF.out _ HB1.out | (go_ret; exact HF.out _ HB1.out)
  | false =>
    have HFW := Lib.hid (HG.out (by first | rfl | trivial))
    have hn103 : n0 ≤ 103 := by have h1 := HFW.out.m; have h2 := HNL.out; omega
    by_cases h7 : 7 < n0
    · have h7I : (7 : Int) < (n0 : Int) := by omega
      have h7d : decide ((7 : Int) < (n0 : Int)) = true := by simpa using h7I
      have h7n : decide (7 < n0) = true := by simpa using h7
      go_wp2_with fail
      first | exact HF.out _ HB1.out | (go_ret; exact HF.out _ HB1.out)
    have h7I : ¬ (7 : Int) < (n0 : Int) := by omega
    have h7d : decide ((7 : Int) < (n0 : Int)) = false := by simpa using h7I
    have h7n : decide (7 < n0) = false := by simpa using h7
    have HSX : Hid (∀ w', Below W.heap.size W w' → w'.cell? ⟨gA, 0, none⟩ = some (.int .i64 a1_0) ∧ w'.cell? ⟨gA, 1, none⟩ = some (.int .i64 a1_1) ∧ w'.cell? ⟨gB, 0, none⟩ = some (.int .i64 a2_0) ∧ w'.cell? ⟨gB, 1, none⟩ = some (.int .i64 a2_1)) := Lib.hid (fun w' hb => by
      obtain ⟨u0, u1⟩ := cel2 (kb HX0.out hb)
      obtain ⟨u2, u3⟩ := cel2 (kb HX1.out hb)
      exact ⟨u0, u1, u2, u3⟩)
    obtain ⟨p0, p1, p2, p3⟩ := HSX.out w1 HBx.out
    have HN1 := fun w9 => node_v w9 a1_0 a1_1
    have HN2 := fun w9 => node_v w9 a2_0 a2_1
    have HBE1 := fun ad cd w9 h => before_v ad n0 cd L0 a1_0 a1_1 a2_0 a2_1 w9 h
    have HBE2 := fun ad cd w9 h => before_v ad n0 cd L0 a2_0 a2_1 a1_0 a1_1 w9 h
    obtain ⟨X, hX⟩ : ∃ A, cx a1_0 a1_1 = A := ⟨_, rfl⟩
    obtain ⟨Y, hY⟩ : ∃ A, cx a2_0 a2_1 = A := ⟨_, rfl⟩
    simp only [hX, hY] at HN1 HN2 HBE1 HBE2
    have BE1 := Lib.hid HBE1
    have BE2 := Lib.hid HBE2
    have C1 : Hid (∀ m, Calls Try.prog 9 #[.int .i64 a1_0, .int .i64 a1_1] (w1.drewN m) fun e w'' => e = .returned X ∧ ∃ m, w'' = w1.drewN m) := Lib.hid (fun m => quiet_eq (HN1 _))
    have C2 : Hid (∀ m, Calls Try.prog 9 #[.int .i64 a2_0, .int .i64 a2_1] (w1.drewN m) fun e w'' => e = .returned Y ∧ ∃ m, w'' = w1.drewN m) := Lib.hid (fun m => quiet_eq (HN2 _))
    clear HN1 HN2 hX hY HBE1 HBE2
    have CO2 : Hid (∀ w3, Below w.heap.size w w3 → Calls Try.prog 17 #[.slice a0 n0 c0] w3 fun e w' => ∃ a' c', e = .returned (.slice a' n0 c') ∧ PM w' (.slice a' n0 c') L0 ∧ Below w3.heap.size w3 w') := Lib.hid (fun w3 hb => own_v a0 n0 c0 L0 w3 (HR.out.below hb) HFW.out)
    have CK : Hid (∀ w3, Below w.heap.size w w3 → Calls Try.prog 18 #[.slice a0 n0 c0] w3 fun e w' => e = .returned (.int .i64 r) ∧ Below w3.heap.size w3 w') := Lib.hid (fun w3 hb => rcheck_v a0 n0 c0 L0 r w3 (HR.out.below hb) HRR.out)
    go_wp2_with fail
    go_quiet ((first | (go_at_call 9; with_reducible exact C1.out _) | (go_at_call 9; with_reducible exact C2.out _)))
    obtain ⟨w3, hw3⟩ : ∃ w3, w1.drewN nq = w3 := ⟨_, rfl⟩
    have HBx3 := Lib.hid (show Below W.heap.size W w3 by rw [← hw3]; exact tr3 HBx.out (fbd _ _))
    have HB3 := Lib.hid (tr3 HBW.out HBx3.out)
    rw [hw3]
    have CO3 := Lib.hid (CO2.out w3 HB3.out)
    clear hw3 C1 C2 p0 p1 p2 p3
    go_wp2_with fail
    refine CO3.out.mono ?_
    rintro e w4 ⟨a4, c4, rfl, ho4, hb4⟩
    have HBx4 := Lib.hid (tr3 HBx3.out hb4)
    have HB4 := Lib.hid (tr3 HBW.out HBx4.out)
    have BE4 := Lib.hid (BE1.out a4 c4 w4 ho4)
    clear ho4 hb4 CO3
    go_wp2_with fail
    refine BE4.out.mono ?_
    rintro e w5 ⟨v1, rfl, hv1, hb5⟩
    have HV1 := Lib.hid hv1
    have HBx5 := Lib.hid (tr3 HBx4.out hb5)
    have HB5 := Lib.hid (tr3 HBW.out HBx5.out)
    have CO5 := Lib.hid (CO2.out w5 HB5.out)
    clear hv1 hb5 BE4
    go_wp2_with fail
    refine CO5.out.mono ?_
    rintro e w6 ⟨a6, c6, rfl, ho6, hb6⟩
    have HBx6 := Lib.hid (tr3 HBx5.out hb6)
    have HB6 := Lib.hid (tr3 HBW.out HBx6.out)
    have BE6 := Lib.hid (BE2.out a6 c6 w6 ho6)
    clear ho6 hb6 CO5
    go_wp2_with fail
    refine BE6.out.mono ?_
    rintro e w7 ⟨v2, rfl, hv2, hb7⟩
    have HV2 := Lib.hid hv2
    have HBx7 := Lib.hid (tr3 HBx6.out hb7)
    have HB7 := Lib.hid (tr3 HBW.out HBx7.out)
    have CK7 := Lib.hid (CK.out w7 HB7.out)
    clear hv2 hb7 BE6
    go_wp2_with fail
    refine CK7.out.mono ?_
    rintro e w8 ⟨rfl, hb8⟩
    have HBx8 := Lib.hid (tr3 HBx7.out hb8)
    have HB8 := Lib.hid (tr3 HBW.out HBx8.out)
    clear hb8 CK7
    by_cases hr0 : r = 0
    · subst hr0
      have HL := Lib.hid (chkE_rts HRR.out)
      have HR8 := Lib.hid (HR.out.below HB8.out)
      go_wp2_with fail
      go_loopw [11, 12] (fun s i wr => ∃ (k t : Nat), i = .int .i64 (k : Int) ∧ s = .int .i64 (t : Int) ∧ k ≤ n0 ∧ t ≤ 200 ∧ w8 = wr) (fun s i _ => n0 - (intOf i).toNat)
      case atStart => exact ⟨0, 0, rfl, rfl, by omega, by omega, rfl⟩
      case round =>
        obtain ⟨k, t, rfl, rfl, hk, ht, rfl⟩ := hrel
        by_cases hlt : k < n0
        · obtain ⟨b, o, ai, ci, rfl, hbl, c0', hrow⟩ := HR8.out.row k hlt
          have hm102 := HFW.out.r k (by rw [← HNL.out]; exact hlt)
          obtain ⟨m, hm⟩ : ∃ m, (L0.getD k []).length = m := ⟨_, rfl⟩
          rw [hm] at c0' hm102
          have hkI : (k : Int) < (n0 : Int) := by omega
          clear hm hrow
          go_wp2_with fail
          all_goals
            go_roundw
            case rel => refine ⟨k + 1, if t < m then m else t, by go_num, ?_, by omega, ?_, ?_⟩; (split <;> rfl); (split <;> omega); (first | rfl | trivial)
            case measure => first | (simp [intOf]; done) | (simp [intOf]; omega)
        · obtain rfl : k = n0 := by omega
          by_cases h6 : 6 < t
          · have h6I : (6 : Int) < (t : Int) := by omega
            go_wp2_with fail
            first | exact HF.out _ HB8.out | (go_ret; exact HF.out _ HB8.out)
          · have h6I : ¬ (6 : Int) < (t : Int) := by omega
            have CE := Lib.hid (redges_v a0 k c0 L0 w8 HR8.out HRR.out)
            go_wp2_with fail
            refine CE.out.mono ?_
            rintro e w9 ⟨ae, me, ce, rfl, hoe, hb9⟩
            have HBx9 := Lib.hid (tr3 HBx8.out hb9)
            have HB9 := Lib.hid (tr3 HBW.out HBx9.out)
            have hrq := OR.rv recQ hoe
            obtain rfl : me = (eds L0).length := hrq.len.1
            have HRQ := Lib.hid hrq
            have hlen : (eds L0).length ≤ 1000000 := by
              have h1 := edsN_len L0 L0.length
              have h2 := HFW.out.s
              unfold eds
              omega
            have HBF := Lib.hid (bef_all (eds L0) hlen _ (Nat.le_refl _))
            obtain ⟨p0, p1, p2, p3⟩ := HSX.out w9 HBx9.out
            have HH0 := And.intro (fun w9 => lheld_v w9 a1_0) (And.intro (fun w9 => lheld_v w9 a1_1) (And.intro (fun w9 => lheld_v w9 a2_0) (fun w9 => lheld_v w9 a2_1)))
            have HFA : Hid (∀ wz, ((w9.alloc (.cells #[.int .i64 (hd a1_0 : Nat), .int .i64 (hd a1_1 : Nat)] 44)).alloc (.cells #[.int .i64 (hd a2_0 : Nat), .int .i64 (hd a2_1 : Nat)] 44)).drew = wz → (wz.cell? ⟨w9.heap.size, 0, none⟩ = some (.int .i64 (hd a1_0 : Nat)) ∧ wz.cell? ⟨w9.heap.size, 1, none⟩ = some (.int .i64 (hd a1_1 : Nat)) ∧ wz.cell? ⟨w9.heap.size + 1, 0, none⟩ = some (.int .i64 (hd a2_0 : Nat)) ∧ wz.cell? ⟨w9.heap.size + 1, 1, none⟩ = some (.int .i64 (hd a2_1 : Nat))) ∧ Below w9.heap.size w9 wz) := Lib.hid (two_boxes w9 _ _ _ _)
            have HFB : Hid (∀ wz, ((w9.alloc (.cells #[.int .i64 (hd a2_0 : Nat), .int .i64 (hd a2_1 : Nat)] 44)).alloc (.cells #[.int .i64 (hd a1_0 : Nat), .int .i64 (hd a1_1 : Nat)] 44)).drew = wz → (wz.cell? ⟨w9.heap.size, 0, none⟩ = some (.int .i64 (hd a2_0 : Nat)) ∧ wz.cell? ⟨w9.heap.size, 1, none⟩ = some (.int .i64 (hd a2_1 : Nat)) ∧ wz.cell? ⟨w9.heap.size + 1, 0, none⟩ = some (.int .i64 (hd a1_0 : Nat)) ∧ wz.cell? ⟨w9.heap.size + 1, 1, none⟩ = some (.int .i64 (hd a1_1 : Nat))) ∧ Below w9.heap.size w9 wz) := Lib.hid (two_boxes w9 _ _ _ _)
            obtain ⟨v3, hv3⟩ : ∃ v3, befN (eds L0) ((hd a1_0 : Nat), (hd a1_1 : Nat)) (eds L0).length ((hd a2_0 : Nat), (hd a2_1 : Nat)) = v3 := ⟨_, rfl⟩
            have HCB : Hid (∀ wz, Below w9.heap.size w9 wz → Calls Try.prog 22 #[.slice ae (eds L0).length ce, .agg #[.int .i64 (hd a1_0 : Nat), .int .i64 (hd a1_1 : Nat)], .agg #[.int .i64 (hd a2_0 : Nat), .int .i64 (hd a2_1 : Nat)]] wz fun e w' => e = .returned (.bool v3) ∧ Below wz.heap.size wz w') := Lib.hid (fun wz hb => by
              have h9 := HBF.out ae ce (hd a1_0 : Nat) (hd a1_1 : Nat) (hd a2_0 : Nat) (hd a2_1 : Nat) wz (HRQ.out.below hb)
              rw [hv3] at h9
              exact h9)
            obtain ⟨x0, hx0⟩ : ∃ x, ((hd a1_0 : Nat) : Int) = x := ⟨_, rfl⟩
            obtain ⟨x1, hx1⟩ : ∃ x, ((hd a1_1 : Nat) : Int) = x := ⟨_, rfl⟩
            obtain ⟨x2, hx2⟩ : ∃ x, ((hd a2_0 : Nat) : Int) = x := ⟨_, rfl⟩
            obtain ⟨x3, hx3⟩ : ∃ x, ((hd a2_1 : Nat) : Int) = x := ⟨_, rfl⟩
            obtain ⟨u, hu⟩ : ∃ u, (x0 == x2 && x1 == x3) = u := ⟨_, rfl⟩
            have hNE : ∀ w9 : World, Sem.run Try.prog (binOp .neq 44 (.agg #[.int .i64 x0, .int .i64 x1]) (.agg #[.int .i64 x2, .int .i64 x3])) w9 = .ok (.bool (!u)) w9 := fun w9 => a2_ne x0 x1 x2 x3 u hu w9
            have HU : Hid (u = true ↔ (hd a1_0 = hd a2_0 ∧ hd a1_1 = hd a2_1)) := Lib.hid (by
              rw [← hu, ← hx0, ← hx1, ← hx2, ← hx3]
              simp only [Bool.and_eq_true, beq_iff_eq]
              omega)
            have HT1 : Hid (u = true → v1 = false) := Lib.hid (fun h => by
              cases v1 with
              | false => rfl
              | true => exact absurd (HU.out.1 h) (HV1.out.1 rfl).2.1)
            have HT2 : Hid (u = false → v1 = v3) := Lib.hid (fun h => by
              have h9 := bef_iff HRR.out (a1 := a1_0) (b1 := a1_1) (a2 := a2_0) (b2 := a2_1) (fun h8 => by have := HU.out.2 h8; rw [h] at this; simp at this)
              rw [hv3] at h9
              have h8 : v1 = true ↔ v3 = true := HV1.out.trans h9.symm
              cases v1 <;> cases v3 <;> simp_all)
            have HT3 : Hid (v1 = true → v2 = false) := Lib.hid (fun h => by
              cases v2 with
              | false => rfl
              | true => exact absurd (HV2.out.1 rfl) (fun h7 => bef_back (HV1.out.1 h) h7))
            have HD : Hid ((u = true ∧ v1 = false) ∨ (u = false ∧ v1 = true ∧ v3 = true ∧ v2 = false) ∨ (u = false ∧ v1 = false ∧ v3 = false)) := Lib.hid (by
              have t1 := HT1.out
              have t2 := HT2.out
              have t3 := HT3.out
              cases u <;> cases v1 <;> simp_all)
            rw [hx0, hx1, hx2, hx3] at HCB
            simp only [hx0, hx1, hx2, hx3] at HFA HFB
            simp only [hx0, hx1, hx2, hx3] at HH0
            clear hoe hb9 CE hrq hlen hv3 hu hx0 hx1 hx2 hx3 HT1 HT2 HT3
            have H1 := Lib.hid HH0.1
            have H2 := Lib.hid HH0.2.1
            have H3 := Lib.hid HH0.2.2.1
            have H4 := Lib.hid HH0.2.2.2
            clear HH0
            go_wp2_with fail
            go_region_held3 (fun w' => w'.cell? ⟨gA, 0, none⟩ = some (.int .i64 a1_0) ∧ w'.cell? ⟨gA, 1, none⟩ = some (.int .i64 a1_1) ∧ w'.cell? ⟨gB, 0, none⟩ = some (.int .i64 a2_0) ∧ w'.cell? ⟨gB, 1, none⟩ = some (.int .i64 a2_1)) (first | (with_reducible assumption) | (refine HSX.out _ (tr3 HBx9.out ?_); go_grown; done))
              (first
                | ((go_at_call 10; (with_reducible refine (H1.out _).mono ?_); rintro e w5 ⟨rfl, rfl⟩))
                | ((go_at_call 10; (with_reducible refine (H2.out _).mono ?_); rintro e w5 ⟨rfl, rfl⟩))
                | ((go_at_call 10; (with_reducible refine (H3.out _).mono ?_); rintro e w5 ⟨rfl, rfl⟩))
                | ((go_at_call 10; (with_reducible refine (H4.out _).mono ?_); rintro e w5 ⟨rfl, rfl⟩)))
            all_goals
              first
                | (obtain ⟨wz, hwz⟩ : ∃ wz, ((w9.alloc (.cells #[.int .i64 x0, .int .i64 x1] 44)).alloc (.cells #[.int .i64 x2, .int .i64 x3] 44)).drew = wz := ⟨_, rfl⟩
                   obtain ⟨⟨q0, q1, q2, q3⟩, hbz⟩ := HFA.out wz hwz
                   rw [hwz])
                | (obtain ⟨wz, hwz⟩ : ∃ wz, ((w9.alloc (.cells #[.int .i64 x2, .int .i64 x3] 44)).alloc (.cells #[.int .i64 x0, .int .i64 x1] 44)).drew = wz := ⟨_, rfl⟩
                   obtain ⟨⟨q0, q1, q2, q3⟩, hbz⟩ := HFB.out wz hwz
                   rw [hwz])
              have HBZ := Lib.hid hbz
              have HBzz := Lib.hid (tr3 HB9.out hbz)
              clear hwz hbz
              rcases HD.out with ⟨hu, h1⟩ | ⟨hu, h1, h3, h2⟩ | ⟨hu, h1, h3⟩
              · subst hu
                subst h1
                clear HD HV1 HV2 HU
                go_wp2_with fail
                exact HF.out _ HBzz.out
              · subst hu
                subst h1
                subst h2
                subst h3
                clear HD HV1 HV2 HU
                go_wp2_with fail
                refine (HCB.out _ HBZ.out).mono ?_
                rintro e wy ⟨rfl, hby⟩
                have HBy := Lib.hid (tr3 HBzz.out hby)
                go_wp2_with fail
                exact HF.out _ HBy.out
              · subst hu
                subst h1
                subst h3
                clear HD HV1 HV2 HU
                go_wp2_with fail
                refine (HCB.out _ HBZ.out).mono ?_
                rintro e wy ⟨rfl, hby⟩
                have HBy := Lib.hid (tr3 HBzz.out hby)
                go_wp2_with fail
                exact HF.out _ HBy.out
    · have hn1 : (r != 0) = true := by simpa using hr0
      have hn2 : (r == 0) = false := by simpa using hr0
      have hf1 : v1 = false := by
        cases v1 with
        | false => rfl
        | true => exact absurd ((HRR.out.symm.trans (HV1.out.1 rfl).1)) hr0
      have hf2 : v2 = false := by
        cases v2 with
        | false => rfl
        | true => exact absurd ((HRR.out.symm.trans (HV2.out.1 rfl).1)) hr0
      subst hf1
      subst hf2
      go_wp2_with fail
      first | exact HF.out _ HB8.out | (go_ret; exact HF.out _ HB8.out)
end Go.Proofs.Ytagcgffofddcnaa.gridBefore
