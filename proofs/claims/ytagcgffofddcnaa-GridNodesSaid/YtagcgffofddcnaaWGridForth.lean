/- GridForth: never back (layer 33). -/
import Derived.Test.YtagcgffofddcnaaGrS
import Derived.Test.YtagcgffofddcnaaGrM
import Derived.Test.YtagcgffofddcnaaGrO
namespace Go.Proofs.Ytagcgffofddcnaa.gridForth
open Go.ChangeShapes Go.WideShapes Go.ChangeAt Go.RowKit
open Go.Proofs.Ytagcgffofddcnaa.ro
open Go.Proofs.Ytagcgffofddcnaa.gr
open Go.Proofs.Ytagcgffofddcnaa
set_option linter.unusedVariables false
set_option linter.unusedSimpArgs false
theorem cx_neq (a b c d : Int) (w : World) : Sem.run Try.prog (binOp .neq 24 (cx a b) (cx c d)) w = .ok (.bool (!(decide (hd a = hd c) && decide (hd b = hd d)))) w := by
  unfold cx
  rw [run_neq_complex, eqo (hd_lt _) (hd_lt _), eqo (hd_lt _) (hd_lt _)]
theorem cx_guard (l r : Operand) (a b c d : Int) (w : World) : Sem.run Try.prog (eqGuard .neq 24 l r (cx a b) (cx c d)) w = .ok () w := by
  unfold cx
  first | rfl | simp [eqGuard, go_sem]
theorem cnt_len (L : List (List C2)) : ∀ n m, n ≤ m → cnt L n ≤ cnt L m := by
  intro n m h
  induction m with
  | zero => obtain rfl : n = 0 := by omega
            exact Nat.le_refl _
  | succ m ih =>
    rcases Nat.lt_or_ge m n with h1 | h1
    · obtain rfl : n = m + 1 := by omega
      exact Nat.le_refl _
    · have := ih h1
      rw [cnt]
      omega
theorem getE {E : List Q4} {k : Nat} {q : Q4} (h : E[k]? = some q) : E.getD k q0 = q := by rw [List.getD_eq_getElem?_getD, h]; rfl
set_option maxRecDepth 20000 in
set_option maxHeartbeats 8000000 in
theorem walk (a0 : Option Addr) (n0 c0 : Nat) (L0 : List (List gr.C2)) (w : World) (w0 : gr.PM w (.slice a0 n0 c0) L0) :
    Calls Try.prog 6 #[.slice a0 n0 c0] w fun e w' => e = .returned (.bool true) ∧ Below w.heap.size w w' := by
  have HR := Lib.hid w0
  have HNL := Lib.hid w0.len.1
  have CW := Lib.hid (works_v w)
  have h00 : Hid (cnt L0 0 = 0) := Lib.hid rfl
  clear w0
  obtain ⟨P, hP⟩ : ∃ P : Ending → World → Prop, (fun (e : Ending) (w' : World) => e = .returned (.bool true) ∧ Below w.heap.size w w') = P := ⟨_, rfl⟩
  have HF : Hid (∀ w', Below w.heap.size w w' → P (.returned (.bool true)) w') := Lib.hid (by rintro w' hb; rw [← hP]; exact ⟨rfl, hb⟩)
  rw [hP]
  clear hP
  go_enter Try.func6, Try.ntmps6
  go_wp2_with fail
  refine CW.out.mono ?_
  rintro e w1 ⟨rfl, hb1⟩
  have HB1 := Lib.hid hb1
  have CG := Lib.hid (great_v a0 n0 c0 L0 w1 (HR.out.below hb1))
  clear hb1 CW
  go_wp2_with fail
  refine CG.out.mono ?_
  rintro e w2 ⟨g, rfl, hg, rfl⟩
  have HG := Lib.hid hg
  clear hg CG
  cases g with
  | true =>
    go_wp2_with fail
    first | exact HF.out _ HB1.out | (go_ret; exact HF.out _ HB1.out)
  | false =>
    have HFW := Lib.hid (HG.out rfl)
    have hn103 : n0 ≤ 103 := by have h1 := HFW.out.m; have h2 := HNL.out; omega
    have CO := Lib.hid (own_v a0 n0 c0 L0 w1 (HR.out.below HB1.out) HFW.out)
    go_wp2_with fail
    refine CO.out.mono ?_
    rintro e w2 ⟨ao, co, rfl, ho, hb2⟩
    have HB2 := Lib.hid (tr3 HB1.out hb2)
    obtain ⟨r, hr⟩ : ∃ r, chkE L0 = r := ⟨_, rfl⟩
    by_cases hr0 : r = 0
    · subst hr0
      have CE := Lib.hid (edges_ok ao n0 co L0 w2 ho hr)
      have HL := Lib.hid (chkE_rts hr)
      have HCN : Hid (∀ k, k ≤ n0 → cnt L0 k ≤ 300) := Lib.hid (fun k hk => Nat.le_trans (cnt_len L0 k L0.length (by rw [← HNL.out]; exact hk)) HFW.out.s)
      clear ho hb2 hr CO
      go_wp2_with fail
      refine CE.out.mono ?_
      rintro e w3 ⟨ae, me, ce, rfl, hoe, hb3⟩
      have hrv := OR.rv recE hoe
      have HME := Lib.hid hrv.len.1
      have HB3 := Lib.hid (tr3 HB2.out hb3)
      have HRV := Lib.hid hrv
      have hme : me ≤ 600 := by
        have h1 := edsN_len L0 L0.length
        have h2 := HFW.out.s
        have h3 := HME.out
        unfold eds at h3
        omega
      have HR3 := Lib.hid (HR.out.below HB3.out)
      clear hoe hrv hb3 CE
      go_wp2_with fail
      go_loopw [5, 6] (fun s i wr => ∃ (k t : Nat), i = .int .i64 (k : Int) ∧ s = .int .i64 (t : Int) ∧ k ≤ n0 ∧ t ≤ 300 ∧ Hid (cnt L0 k = t) ∧ w3 = wr) (fun s i _ => n0 - (intOf i).toNat)
      case atStart => exact ⟨0, 0, rfl, rfl, by omega, by omega, h00, rfl⟩
      case round =>
        clear h00
        obtain ⟨k, t, rfl, rfl, hk, ht, HC, rfl⟩ := hrel
        by_cases hlt : k < n0
        · obtain ⟨b, o, ai, ci, rfl, hbl, c0', hrow⟩ := HR3.out.row k hlt
          have hs := HCN.out (k + 1) hlt
          have HS : Hid (cnt L0 (k + 1) = t + (L0.getD k []).length) := Lib.hid (by rw [cnt, HC.out])
          have hs2 : t + (L0.getD k []).length ≤ 300 := by rw [← HS.out]; exact hs
          obtain ⟨m, hm⟩ : ∃ m, (L0.getD k []).length = m := ⟨_, rfl⟩
          rw [hm] at c0' HS hs2
          have hkI : (k : Int) < (n0 : Int) := by omega
          have hw1 : IntKind.i64.wrap ((t : Int) + (m : Int)) = ((t + m : Nat) : Int) := by rw [IntKind.wrap_i64]; omega
          clear hm hrow hs
          go_wp2_with fail
          go_roundw
          case rel => exact ⟨k + 1, t + m, by go_num, by first | rfl | go_num, by omega, by omega, HS, by first | rfl | trivial⟩
          case measure => simp [intOf]; omega
        · obtain rfl : k = n0 := by omega
          have HTT : Hid (led (eds L0) me = t - 1) := Lib.hid (by
            have h1 := led_eds HL.out
            rw [← HME.out, ← HNL.out, HC.out] at h1
            exact h1)
          have hmax : max ((t : Int) - 1) 0 = ((t - 1 : Nat) : Int) := by omega
          have hq00 : Hid (led (eds L0) 0 = 0) := Lib.hid rfl
          go_wp2_with fail
          go_loopw [7, 8] (fun s i wr => ∃ (j u : Nat), i = .int .i64 (j : Int) ∧ s = .int .i64 (u : Int) ∧ j ≤ me ∧ u ≤ j ∧ Hid (led (eds L0) j = u) ∧ Hid (∃ m, wr = w3.drewN m)) (fun s i _ => me - (intOf i).toNat)
          case atStart => exact ⟨0, 0, rfl, rfl, by omega, by omega, hq00, Lib.hid ⟨0, rfl⟩⟩
          case round =>
            clear hq00
            obtain ⟨j, u, rfl, rfl, hj, hu, HLD, HWQ⟩ := hrel
            by_cases hjt : j < me
            · obtain ⟨q, hq⟩ : ∃ q, (eds L0)[j]? = some q := ⟨_, List.getElem?_eq_getElem (by rw [← HME.out]; exact hjt)⟩
              have hbq : Below w3.heap.size w3 wr := by obtain ⟨m, rfl⟩ := HWQ.out; exact fbd _ _
              have HBQ := Lib.hid hbq
              have hrv := HRV.out.below hbq
              obtain ⟨b, o, rfl, hbl, hcc⟩ := hrv.at j q hq
              have f0 := hcc 0 _ rfl
              have f1 := hcc 1 _ rfl
              rw [← Nat.add_assoc] at f1
              have hmem : q ∈ eds L0 := List.mem_of_getElem? hq
              obtain ⟨⟨p1, p2, p3, p4, p5, p6, p7, p8⟩, hfw⟩ := eds_forth HL.out hmem
              have HQ := Lib.hid hq
              have HI1 := fun w9 => iter_v w9 q.1 q.2.1
              have HI2 := fun w9 => iter_v w9 q.2.2.1 q.2.2.2
              have HS1 := fun w9 => stage_v w9 q.1 q.2.1
              have HS2 := fun w9 => stage_v w9 q.2.2.1 q.2.2.2
              rw [hd_of p1 (by omega)] at HI1
              rw [hd_of p2 (by omega)] at HS1
              rw [hd_of p3 (by omega)] at HI2
              rw [hd_of p4 (by omega)] at HS2
              have HJ : Hid (led (eds L0) (j + 1) = u + (if j = 0 ∨ tgt ((eds L0).getD (j - 1) q0) ≠ tgt q then 1 else 0)) := Lib.hid (by rw [led, HLD.out, getE hq])
              have HNE : Hid (∀ p : Q4, p ∈ eds L0 → ∀ w9, Sem.run Try.prog (binOp .neq 24 (cx p.2.2.1 p.2.2.2) (cx q.2.2.1 q.2.2.2)) w9 = .ok (.bool (decide (tgt p ≠ tgt q))) w9) := Lib.hid (fun p hp w9 => by
                obtain ⟨⟨r1, r2, r3, r4, r5, r6, r7, r8⟩, _⟩ := eds_forth HL.out hp
                rw [cx_neq]
                congr 2
                have e1 := hd_of r3 (by omega)
                have e2 := hd_of r4 (by omega)
                have e3 := hd_of p3 (by omega)
                have e4 := hd_of p4 (by omega)
                have : (tgt p = tgt q) ↔ (hd p.2.2.1 = hd q.2.2.1 ∧ hd p.2.2.2 = hd q.2.2.2) := by
                  unfold tgt
                  rw [Prod.mk.injEq]
                  omega
                simp only [ne_eq, decide_not, this, Bool.decide_and])
              obtain ⟨e1, he1⟩ : ∃ e1, q.1 = e1 := ⟨_, rfl⟩
              obtain ⟨e2, he2⟩ : ∃ e1, q.2.1 = e1 := ⟨_, rfl⟩
              obtain ⟨e3, he3⟩ : ∃ e1, q.2.2.1 = e1 := ⟨_, rfl⟩
              obtain ⟨e4, he4⟩ : ∃ e1, q.2.2.2 = e1 := ⟨_, rfl⟩
              rw [he1, he2] at HI1 HS1 f0
              rw [he3, he4] at HI2 HS2 HNE f1
              rw [he1, he2, he3, he4] at hfw
              rw [he1] at p1 p5
              rw [he2] at p2 p6
              rw [he3] at p3 p7
              rw [he4] at p4 p8
              obtain ⟨A, hA⟩ : ∃ A, cx e1 e2 = A := ⟨_, rfl⟩
              have HGD0 := fun l r a b w9 => cx_guard l r a b e3 e4 w9
              obtain ⟨B, hB⟩ : ∃ B, cx e3 e4 = B := ⟨_, rfl⟩
              rw [hA] at HI1 HS1 f0
              rw [hB] at HI2 HS2 f1 HNE
              simp only [hB] at HGD0
              have HGD := Lib.hid HGD0
              clear HGD0
              have HII1 := Lib.hid HI1
              have HII2 := Lib.hid HI2
              have HSS1 := Lib.hid HS1
              have HSS2 := Lib.hid HS2
              clear HI1 HI2 HS1 HS2 hA hB he1 he2 he3 he4 hmem hq hbq
              have hjI : (j : Int) < (me : Int) := by omega
              have hu1 : IntKind.i64.wrap ((u : Int) + 1) = ((u + 1 : Nat) : Int) := by rw [IntKind.wrap_i64]; omega
              simp only [Nat.add_zero] at f0
              by_cases hk0 : j = 0
              · subst hk0
                have HJ1 : Hid (led (eds L0) 1 = u + 1) := Lib.hid (by have := HJ.out; rw [if_pos (.inl rfl)] at this; exact this)
                clear HJ
                by_cases he : e1 = e3
                · skip
                  have h24 : e2 < e4 := by omega
                  have h24d : decide (e2 < e4) = true := by simpa using h24
                  have hed : (e1 == e3) = true := by simpa using he
                  have hen : (e1 + 1 == e3) = false := by simp; omega
                  have hen' : ¬ e1 + 1 = e3 := by omega
                  clear hfw
                  simp only [Nat.zero_mul, Nat.add_zero, Nat.zero_add] at f0 f1
                  go_wp2_with fail
                  go_quiet (fail)
                  obtain ⟨wz, hwz⟩ : ∃ wz, wr.drewN nq = wz := ⟨_, rfl⟩
                  rw [hwz]
                  have HZ : Hid (∃ m, wz = w3.drewN m) := Lib.hid (by obtain ⟨m, h9⟩ := HWQ.out; rw [← hwz, h9]; exact ⟨m + nq, by first | rfl | simp [World.drewN, Nat.add_assoc]⟩)
                  go_wp2_with (first | ((with_reducible refine (HII1.out _).mono ?_); rintro _ _ ⟨rfl, rfl⟩) | ((with_reducible refine (HII2.out _).mono ?_); rintro _ _ ⟨rfl, rfl⟩) | ((with_reducible refine (HSS1.out _).mono ?_); rintro _ _ ⟨rfl, rfl⟩) | ((with_reducible refine (HSS2.out _).mono ?_); rintro _ _ ⟨rfl, rfl⟩))
                  go_roundw
                  case rel => exact ⟨1, u + 1, by go_num, by first | rfl | go_num, by omega, by omega, HJ1, HZ⟩
                  case measure => simp [intOf]; omega
                · skip
                  have h13 : e1 + 1 = e3 := by omega
                  have h24 : e2 ≤ e4 := by omega
                  have h24d : decide (e2 ≤ e4) = true := by simpa using h24
                  have hed : (e1 == e3) = false := by simpa using he
                  have hen : (e1 + 1 == e3) = true := by simpa using h13
                  clear hfw
                  simp only [Nat.zero_mul, Nat.add_zero, Nat.zero_add] at f0 f1
                  go_wp2_with fail
                  go_quiet (fail)
                  obtain ⟨wz, hwz⟩ : ∃ wz, wr.drewN nq = wz := ⟨_, rfl⟩
                  rw [hwz]
                  have HZ : Hid (∃ m, wz = w3.drewN m) := Lib.hid (by obtain ⟨m, h9⟩ := HWQ.out; rw [← hwz, h9]; exact ⟨m + nq, by first | rfl | simp [World.drewN, Nat.add_assoc]⟩)
                  go_wp2_with (first | ((with_reducible refine (HII1.out _).mono ?_); rintro _ _ ⟨rfl, rfl⟩) | ((with_reducible refine (HII2.out _).mono ?_); rintro _ _ ⟨rfl, rfl⟩) | ((with_reducible refine (HSS1.out _).mono ?_); rintro _ _ ⟨rfl, rfl⟩) | ((with_reducible refine (HSS2.out _).mono ?_); rintro _ _ ⟨rfl, rfl⟩))
                  go_roundw
                  case rel => exact ⟨1, u + 1, by go_num, by first | rfl | go_num, by omega, by omega, HJ1, HZ⟩
                  case measure => simp [intOf]; omega
              · obtain ⟨i1, hi1⟩ : ∃ i1, j - 1 = i1 := ⟨_, rfl⟩
                have hk0' : ¬ (j : Int) = 0 := by omega
                have hk0d : ((j : Int) == 0) = false := by simpa using hk0'
                have hk0n : (j == 0) = false := by simpa using hk0
                have hkj : (j : Int) - 1 = (i1 : Int) := by omega
                have hi1m : (i1 : Int) < (me : Int) := by omega
                obtain ⟨p, hp⟩ : ∃ p, (eds L0)[i1]? = some p := ⟨_, List.getElem?_eq_getElem (by rw [← HME.out]; omega)⟩
                obtain ⟨b', o', e', hbl', hcc'⟩ := hrv.at i1 p hp
                cases e'
                have g1 := hcc' 1 _ rfl
                rw [← Nat.add_assoc] at g1
                have HNP := HNE.out p (List.mem_of_getElem? hp)
                have hJ2 := HJ.out
                rw [hi1, getE hp] at hJ2
                have hgd : ∀ l r w9, Sem.run Try.prog (eqGuard .neq 24 l r (cx p.2.2.1 p.2.2.2) B) w9 = .ok () w9 := fun l r w9 => HGD.out l r _ _ w9
                obtain ⟨BP, hBP⟩ : ∃ B, cx p.2.2.1 p.2.2.2 = B := ⟨_, rfl⟩
                rw [hBP] at HNP g1 hgd
                obtain ⟨v, hv⟩ : ∃ v, decide (tgt p ≠ tgt q) = v := ⟨_, rfl⟩
                rw [hv] at HNP
                have HHJ := Lib.hid hJ2
                have HV := Lib.hid hv
                clear hi1 hcc' hcc hp hBP hJ2 hv HJ
                cases v with
                | true =>
                  have HJ1 : Hid (led (eds L0) (j + 1) = u + 1) := Lib.hid (by rw [HHJ.out, if_pos (.inr (by simpa using HV.out))])
                  by_cases he : e1 = e3
                  · skip
                    have h24 : e2 < e4 := by omega
                    have h24d : decide (e2 < e4) = true := by simpa using h24
                    have hed : (e1 == e3) = true := by simpa using he
                    have hen : (e1 + 1 == e3) = false := by simp; omega
                    have hen' : ¬ e1 + 1 = e3 := by omega
                    clear hfw
                    go_wp2_with fail
                    go_quiet (fail)
                    obtain ⟨wz, hwz⟩ : ∃ wz, wr.drewN nq = wz := ⟨_, rfl⟩
                    rw [hwz]
                    have HZ : Hid (∃ m, wz = w3.drewN m) := Lib.hid (by obtain ⟨m, h9⟩ := HWQ.out; rw [← hwz, h9]; exact ⟨m + nq, by first | rfl | simp [World.drewN, Nat.add_assoc]⟩)
                    have g1z := (below_drewN (Below.refl _ _) nq : Below wr.heap.size wr (wr.drewN nq)).cell (p := ⟨b, o + i1 * 2 + 1, none⟩) hbl
                    rw [hwz, g1] at g1z
                    go_wp2_with (first | ((with_reducible refine (HII1.out _).mono ?_); rintro _ _ ⟨rfl, rfl⟩) | ((with_reducible refine (HII2.out _).mono ?_); rintro _ _ ⟨rfl, rfl⟩) | ((with_reducible refine (HSS1.out _).mono ?_); rintro _ _ ⟨rfl, rfl⟩) | ((with_reducible refine (HSS2.out _).mono ?_); rintro _ _ ⟨rfl, rfl⟩))
                    go_roundw
                    case rel => exact ⟨j + 1, u + 1, by go_num, by first | rfl | go_num, by omega, by omega, HJ1, HZ⟩
                    case measure => simp [intOf]; omega
                  · skip
                    have h13 : e1 + 1 = e3 := by omega
                    have h24 : e2 ≤ e4 := by omega
                    have h24d : decide (e2 ≤ e4) = true := by simpa using h24
                    have hed : (e1 == e3) = false := by simpa using he
                    have hen : (e1 + 1 == e3) = true := by simpa using h13
                    clear hfw
                    go_wp2_with fail
                    go_quiet (fail)
                    obtain ⟨wz, hwz⟩ : ∃ wz, wr.drewN nq = wz := ⟨_, rfl⟩
                    rw [hwz]
                    have HZ : Hid (∃ m, wz = w3.drewN m) := Lib.hid (by obtain ⟨m, h9⟩ := HWQ.out; rw [← hwz, h9]; exact ⟨m + nq, by first | rfl | simp [World.drewN, Nat.add_assoc]⟩)
                    have g1z := (below_drewN (Below.refl _ _) nq : Below wr.heap.size wr (wr.drewN nq)).cell (p := ⟨b, o + i1 * 2 + 1, none⟩) hbl
                    rw [hwz, g1] at g1z
                    go_wp2_with (first | ((with_reducible refine (HII1.out _).mono ?_); rintro _ _ ⟨rfl, rfl⟩) | ((with_reducible refine (HII2.out _).mono ?_); rintro _ _ ⟨rfl, rfl⟩) | ((with_reducible refine (HSS1.out _).mono ?_); rintro _ _ ⟨rfl, rfl⟩) | ((with_reducible refine (HSS2.out _).mono ?_); rintro _ _ ⟨rfl, rfl⟩))
                    go_roundw
                    case rel => exact ⟨j + 1, u + 1, by go_num, by first | rfl | go_num, by omega, by omega, HJ1, HZ⟩
                    case measure => simp [intOf]; omega
                | false =>
                  have HJ1 : Hid (led (eds L0) (j + 1) = u) := Lib.hid (by
                    have h9 : tgt p = tgt q := by simpa using HV.out
                    rw [HHJ.out, if_neg (by rintro (h | h); exact hk0 h; exact h h9), Nat.add_zero])
                  by_cases he : e1 = e3
                  · skip
                    have h24 : e2 < e4 := by omega
                    have h24d : decide (e2 < e4) = true := by simpa using h24
                    have hed : (e1 == e3) = true := by simpa using he
                    have hen : (e1 + 1 == e3) = false := by simp; omega
                    have hen' : ¬ e1 + 1 = e3 := by omega
                    clear hfw
                    go_wp2_with fail
                    go_quiet (fail)
                    obtain ⟨wz, hwz⟩ : ∃ wz, wr.drewN nq = wz := ⟨_, rfl⟩
                    rw [hwz]
                    have HZ : Hid (∃ m, wz = w3.drewN m) := Lib.hid (by obtain ⟨m, h9⟩ := HWQ.out; rw [← hwz, h9]; exact ⟨m + nq, by first | rfl | simp [World.drewN, Nat.add_assoc]⟩)
                    have g1z := (below_drewN (Below.refl _ _) nq : Below wr.heap.size wr (wr.drewN nq)).cell (p := ⟨b, o + i1 * 2 + 1, none⟩) hbl
                    rw [hwz, g1] at g1z
                    go_wp2_with (first | ((with_reducible refine (HII1.out _).mono ?_); rintro _ _ ⟨rfl, rfl⟩) | ((with_reducible refine (HII2.out _).mono ?_); rintro _ _ ⟨rfl, rfl⟩) | ((with_reducible refine (HSS1.out _).mono ?_); rintro _ _ ⟨rfl, rfl⟩) | ((with_reducible refine (HSS2.out _).mono ?_); rintro _ _ ⟨rfl, rfl⟩))
                    go_roundw
                    case rel => exact ⟨j + 1, u, by go_num, by first | rfl | go_num, by omega, by omega, HJ1, HZ⟩
                    case measure => simp [intOf]; omega
                  · skip
                    have h13 : e1 + 1 = e3 := by omega
                    have h24 : e2 ≤ e4 := by omega
                    have h24d : decide (e2 ≤ e4) = true := by simpa using h24
                    have hed : (e1 == e3) = false := by simpa using he
                    have hen : (e1 + 1 == e3) = true := by simpa using h13
                    clear hfw
                    go_wp2_with fail
                    go_quiet (fail)
                    obtain ⟨wz, hwz⟩ : ∃ wz, wr.drewN nq = wz := ⟨_, rfl⟩
                    rw [hwz]
                    have HZ : Hid (∃ m, wz = w3.drewN m) := Lib.hid (by obtain ⟨m, h9⟩ := HWQ.out; rw [← hwz, h9]; exact ⟨m + nq, by first | rfl | simp [World.drewN, Nat.add_assoc]⟩)
                    have g1z := (below_drewN (Below.refl _ _) nq : Below wr.heap.size wr (wr.drewN nq)).cell (p := ⟨b, o + i1 * 2 + 1, none⟩) hbl
                    rw [hwz, g1] at g1z
                    go_wp2_with (first | ((with_reducible refine (HII1.out _).mono ?_); rintro _ _ ⟨rfl, rfl⟩) | ((with_reducible refine (HII2.out _).mono ?_); rintro _ _ ⟨rfl, rfl⟩) | ((with_reducible refine (HSS1.out _).mono ?_); rintro _ _ ⟨rfl, rfl⟩) | ((with_reducible refine (HSS2.out _).mono ?_); rintro _ _ ⟨rfl, rfl⟩))
                    go_roundw
                    case rel => exact ⟨j + 1, u, by go_num, by first | rfl | go_num, by omega, by omega, HJ1, HZ⟩
                    case measure => simp [intOf]; omega
            · obtain rfl : j = me := by omega
              obtain rfl : u = t - 1 := by rw [← HLD.out, HTT.out]
              have HB9 : Hid (Below w.heap.size w wr) := Lib.hid (by obtain ⟨m, h9⟩ := HWQ.out; rw [h9]; exact tr3 HB3.out (fbd _ _))
              go_wp2_with fail
              all_goals first | (rw [show (((t - 1 : Nat) : Int) == 0) = true by simp; omega]; exact HF.out _ HB9.out) | (rw [show (((t - 1 : Nat) : Int) == (t : Int) - 1) = true by simp; omega]; exact HF.out _ HB9.out)
    · have CN := Lib.hid (edges_no ao n0 co L0 r w2 ho hr hr0)
      have hn1 : (r != 0) = true := by simpa using hr0
      have hn2 : (r == 0) = false := by simpa using hr0
      have CK : Hid (∀ w3, Below w.heap.size w w3 → Calls Try.prog 18 #[.slice a0 n0 c0] w3 fun e w' => e = .returned (.int .i64 r) ∧ Below w3.heap.size w3 w') := Lib.hid (fun w3 hb => rcheck_v a0 n0 c0 L0 r w3 (HR.out.below hb) hr)
      clear ho hb2 hr CO
      go_wp2_with fail
      refine CN.out.mono ?_
      rintro e w3 ⟨rfl, hb3⟩
      have HB3 := Lib.hid (tr3 HB2.out hb3)
      have CK3 := Lib.hid (CK.out _ HB3.out)
      clear hb3 CN CK
      go_wp2_with fail
      refine CK3.out.mono ?_
      rintro e w4 ⟨rfl, hb4⟩
      have HB4 := Lib.hid (tr3 HB3.out hb4)
      clear hb4
      go_wp2_with fail
      first | exact HF.out _ HB4.out | (go_ret; exact HF.out _ HB4.out)
end Go.Proofs.Ytagcgffofddcnaa.gridForth
