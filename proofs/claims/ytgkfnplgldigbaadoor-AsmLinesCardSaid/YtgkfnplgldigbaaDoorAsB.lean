/- An instruction in writing, as the document has it (layer 6). -/
import Derived.Test.YtgkfnplgldigbaaDoorAsA
import Derived.Test.YtgkfnplgldigbaaDoorWdQ
import Derived.Deep.RegionHeld3
import Derived.Handy
namespace Go.Proofs.YtgkfnplgldigbaaDoor.asm
open Go.ChangeShapes Go.WideShapes Go.ChangeAt Go.RowKit
open Go.Proofs.YtgkfnplgldigbaaDoor.st Go.Proofs.YtgkfnplgldigbaaDoor.wd
open Go.Proofs.YtgkfnplgldigbaaDoor.ins (three three_cell)
set_option linter.unusedVariables false
set_option linter.unusedSimpArgs false
set_option maxRecDepth 20000 in
set_option maxHeartbeats 1600000 in
theorem rline_v (op A B C : Int) (w : World) (hA : I64 A) (hB : I64 B) (hC : I64 C) : Calls Tryd.prog 11 #[.agg #[.int .i64 op, .int .i64 A, .int .i64 B, .int .i64 C]] w fun e w' => e = .returned (.string ⟨(lineV (op, A, B, C)).toArray⟩) ∧ Below w.heap.size w w' := by
  obtain ⟨c, hc⟩ : ∃ c, ins.chkI op A B C = c := ⟨_, rfl⟩
  have CK := Lib.hid (fun w => ins.rchk_of op A B C c w hc)
  by_cases h0 : c = 0
  · subst h0
    have hck : chk (op, A, B, C) = 0 := hc
    have hpl := pre_len (op, A, B, C) hck hA hB hC
    rw [show lineV (op, A, B, C) = Lib.join (prt (op, A, B, C)) [32] from if_pos hck]
    obtain ⟨ho0, ho1⟩ := chk_op hck
    obtain ⟨q, rfl⟩ : ∃ q : Nat, op = q := ⟨op.toNat, by simp at ho0; omega⟩
    have hq : q < 26 := by simp at ho1; omega
    have CNs := Lib.hid (fun w => ins.names_v w)
    have CF := Lib.hid (ins.rf_of (q : Int))
    have hfl := (ins.frmI_ok (q : Int)).1
    have hpt := prt_take (q : Int) A B C
    have hpln := prt_len ((q : Int), A, B, C)
    have hp1 : (prt ((q : Int), A, B, C)).take (0 + 1) = [ins.nmL.getD q []] := by
      unfold prt nml
      simp
    dsimp only at hpln
    obtain ⟨f, hf⟩ : ∃ f, ins.frmI (q : Int) = f := ⟨_, rfl⟩
    rw [hf] at hfl hpt hpln CF
    have hfs := str_size f
    obtain ⟨m, hm⟩ : ∃ m, f.length = m := ⟨_, rfl⟩
    rw [hm] at hfl hpt hpln hfs
    obtain ⟨P, hP⟩ : ∃ P, prt ((q : Int), A, B, C) = P := ⟨_, rfl⟩
    rw [hP] at hpl hpt hpln hp1 ⊢
    obtain ⟨nmv, hnm⟩ : ∃ s, ins.nmL.getD q [] = s := ⟨_, rfl⟩
    have hnmq : ins.nm q = ⟨nmv.toArray⟩ := by unfold ins.nm; rw [hnm]
    rw [hnm] at hp1
    have HNM := Lib.hid hnmq
    obtain ⟨T, hT⟩ : ∃ T, Lib.join P [32] = T := ⟨_, rfl⟩
    rw [hT]
    have HT := Lib.hid hT
    clear hT
    have HPT := Lib.hid hpt
    have HPL := Lib.hid hpl
    have HLN := Lib.hid hpln
    have HP1 := Lib.hid hp1
    have HI := Lib.hid (show ∀ k, k < 3 → I64 ((three A B C).getD k 0) by
      intro k hk
      match k, hk with
      | 0, _ => exact hA
      | 1, _ => exact hB
      | 2, _ => exact hC)
    obtain ⟨W1, hW1⟩ : ∃ W1, w.alloc (.cells #[.int .i64 (q : Int), .int .i64 A, .int .i64 B, .int .i64 C] 23) = W1 := ⟨_, rfl⟩
    have k1 : W1.heap[w.heap.size]? = some (.cells #[.int .i64 (q : Int), .int .i64 A, .int .i64 B, .int .i64 C] 23 (0, 0)) := by rw [← hW1]; exact heap_new w _ _
    have b1 : Below w.heap.size w W1 := by rw [← hW1]; exact (Below.refl _ _).alloc (Nat.le_refl _) _
    have HW1 := Lib.hid hW1
    have K1 := Lib.hid k1
    have B1 := Lib.hid b1
    have hm3 : (m : Int) ≤ 3 := by omega
    have hm0 : (0 : Int) ≤ (m : Int) := by omega
    have hq26 : (q : Int) < 26 := by omega
    clear hpl hpt hpln hp1 hf hP hnm hnmq hW1 k1 b1 hc hck ho0 ho1
    go_enter Tryd.func11, Tryd.ntmps11
    go_wp2_with fail
    rw [HW1.out]
    refine (CK.out _).mono ?_
    rintro e w2 ⟨rfl, hb2⟩
    have k2 := kb K1.out hb2
    have B2 := Lib.hid (tr3 B1.out hb2)
    have hlt2 : w.heap.size < w2.heap.size := (Array.getElem?_eq_some_iff.1 k2).1
    have d0 : w2.cell? ⟨w.heap.size, 0, none⟩ = some (.int .i64 (q : Int)) := cel k2 0
    have K2 := Lib.hid k2
    have HK : Hid (∀ w', Below w2.heap.size w2 w' → Below w2.heap.size w2 w' ∧ w'.cell? ⟨w.heap.size, 0, none⟩ = some (.int .i64 (q : Int))) := Lib.hid fun w' hb => ⟨hb, kc d0 hb⟩
    clear hb2 k2 CK HW1 K1 B1
    go_wp2_with fail
    go_region_with (first | (go_at_call 27; (refine (CNs.out _).mono ?_); rintro e w5 ⟨rfl, hcs, hb5⟩; have hx5 : w5.cell? ⟨w2.heap.size, q, none⟩ = some (.string ⟨nmv.toArray⟩) := (by rw [← HNM.out]; first | exact hcs q hq | simpa using hcs q hq); clear hcs; have hb7 : Below w2.heap.size w2 w5 := Below.trans (by go_grown) (hb5.mono (by go_grown)); have hd5 := kc d0 hb7))
    all_goals
      have k5 := kb K2.out hb7
      have B5 := Lib.hid (tr3 B2.out hb7)
      have hlt5 : w.heap.size < w5.heap.size := (Array.getElem?_eq_some_iff.1 k5).1
      have e0 : w5.cell? ⟨w.heap.size, 0, none⟩ = some (.int .i64 (q : Int)) := cel k5 0
      have e1 : w5.cell? ⟨w.heap.size, 1, none⟩ = some (.int .i64 A) := cel k5 1
      have e2 : w5.cell? ⟨w.heap.size, 2, none⟩ = some (.int .i64 B) := cel k5 2
      have e3 : w5.cell? ⟨w.heap.size, 3, none⟩ = some (.int .i64 C) := cel k5 3
      obtain ⟨W6, hW6⟩ : ∃ W6, w5.alloc (.cells #[.int .i64 A, .int .i64 B, .int .i64 C] 3) = W6 := ⟨_, rfl⟩
      have b6 : Below w5.heap.size w5 W6 := by rw [← hW6]; exact (Below.refl _ _).alloc (Nat.le_refl _) _
      obtain ⟨g, hg⟩ : ∃ g, w5.heap.size = g := ⟨_, rfl⟩
      have k6 : W6.heap[g]? = some (.cells #[.int .i64 A, .int .i64 B, .int .i64 C] 3 (0, 0)) := by rw [← hW6, ← hg]; exact heap_new w5 _ _
      have HB6 := Lib.hid (tr3 B5.out b6)
      have HX6 := Lib.hid (kb k5 b6)
      have HK6 := Lib.hid k6
      have HW6 := Lib.hid hW6
      have HG := Lib.hid hg
      have hj0 : Hid (nmv = Lib.join (P.take (0 + 1)) [32]) := Lib.hid (by rw [HP1.out, Lib.join_one])
      clear hx5 hb5 hb7 hd5 k5 B5 hW6 b6 hg k6 CNs HK K2 B2 d0 hlt2
      try clear hcs
      go_wp2_with fail
      rw [HW6.out, HG.out]
      clear e0 e1 e2 e3 hlt5 HW6 HG HP1
      go_loopw [3, 5] (fun sv iv wr => ∃ (k : Nat) (l : List UInt8), sv = .string ⟨l.toArray⟩ ∧ iv = .int .i64 (k : Int) ∧ k ≤ m ∧ Hid (l = Lib.join (P.take (k + 1)) [32]) ∧ Hid (wr.heap[w.heap.size]? = some (.cells #[.int .i64 (q : Int), .int .i64 A, .int .i64 B, .int .i64 C] 23 (0, 0))) ∧ Hid (wr.heap[g]? = some (.cells #[.int .i64 A, .int .i64 B, .int .i64 C] 3 (0, 0))) ∧ Hid (Below w.heap.size w wr)) (fun _ iv _ => m - (RowKit.intOf iv).toNat)
      case atStart => exact ⟨0, nmv, rfl, rfl, by omega, hj0, HX6, HK6, HB6⟩
      case round =>
        clear hj0 HX6 HK6 HB6
        obtain ⟨k, l, rfl, rfl, hk, HJ, HX, HK, HB⟩ := hrel
        have e0 : wr.cell? ⟨w.heap.size, 0, none⟩ = some (.int .i64 (q : Int)) := cel HX.out 0
        have hpl1 := HPL.out (k + 1)
        rw [← HJ.out] at hpl1
        by_cases hlt : k < m
        · have hki : (k : Int) < (m : Int) := by omega
          have hkd : decide ((k : Int) < (m : Int)) = true := decide_eq_true hki
          go_wp2_with fail
          refine (CF.out _).mono ?_
          rintro e w7 ⟨rfl, hb7⟩
          have hk7 := kb HK.out hb7
          have hx7 := kb HX.out hb7
          have HK7 := Lib.hid hk7
          have HX7 := Lib.hid hx7
          have HB7 := Lib.hid (tr3 HB.out hb7)
          have hcl : w7.cell? ⟨g, k, none⟩ = some (.int .i64 ((three A B C).getD k 0)) := by
            rw [cel hk7 k]
            match k, (show k < 3 by omega) with
            | 0, _ => rfl
            | 1, _ => rfl
            | 2, _ => rfl
          have hvI := HI.out k (by omega)
          have hpk := HPT.out k hlt
          have hpl2 := HPL.out (k + 1 + 1)
          have hk3i : (k : Int) < 3 := by omega
          obtain ⟨v, hv⟩ : ∃ v, (three A B C).getD k 0 = v := ⟨_, rfl⟩
          rw [hv] at hcl hvI hpk
          have CO := Lib.hid (fun w => rof_v v w hvI)
          obtain ⟨E, hE⟩ : ∃ E, Lib.itoa v = E := ⟨_, rfl⟩
          rw [hE] at CO hpk
          have hsn : Lib.join (P.take (k + 1 + 1)) [32] = (l ++ [32]) ++ E := by
            rw [hpk, join_snoc _ _ _ (by
              intro e
              have := congrArg List.length e
              rw [List.length_take, HLN.out, List.length_nil] at this
              omega), ← HJ.out]
          rw [hsn, List.length_append, List.length_append, List.length_singleton] at hpl2
          have hj1 := str_join l [32]
          have hj2 := str_join (l ++ [32]) E
          have hsz1 : ¬ 9223372036854775807 < l.length + 1 := by omega
          have hsz2 : ¬ 9223372036854775807 < l.length + 1 + E.length := by omega
          have HJN : Hid ((l ++ [32]) ++ E = Lib.join (P.take (k + 1 + 1)) [32]) := Lib.hid hsn.symm
          obtain ⟨l2, hl2⟩ : ∃ l2, l ++ [32] = l2 := ⟨_, rfl⟩
          have hl2l : l2.length = l.length + 1 := by rw [← hl2]; simp
          rw [hl2] at hj1 hj2 HJN
          rw [← hl2l] at hsz2
          obtain ⟨l3, hl3⟩ : ∃ l3, l2 ++ E = l3 := ⟨_, rfl⟩
          rw [hl3] at hj2 HJN
          clear hv hE hpk hvI hsn hl2 hl3 hl2l hk7 hx7 HJ HX HK HB e0 hb7 hpl1
          go_wp2_with fail
          refine (CO.out _).mono ?_
          rintro e w8 ⟨rfl, hb8⟩
          have HB8 := Lib.hid (tr3 HB7.out hb8)
          have HX8 := Lib.hid (kb HX7.out hb8)
          have HK8 := Lib.hid (kb HK7.out hb8)
          clear hb8 CO HB7 HX7 HK7 hcl
          go_wp2_with fail
          go_roundw
          case rel => exact ⟨k + 1, l3, rfl, by go_num, by omega, HJN, HX8, HK8, HB8⟩
          case measure => first | (simp [RowKit.intOf]; done) | (simp [RowKit.intOf]; omega)
        · obtain rfl : k = m := by omega
          have hki : ¬ (k : Int) < (k : Int) := by omega
          have hkd : decide ((k : Int) < (k : Int)) = false := decide_eq_false hki
          have hful : P.take (k + 1) = P := List.take_of_length_le (by rw [HLN.out]; exact Nat.le_refl _)
          have hj := HJ.out
          rw [hful, HT.out] at hj
          subst hj
          clear hful HJ
          go_wp2_with fail
          refine (CF.out _).mono ?_
          rintro e w7 ⟨rfl, hb7⟩
          have HB7 := Lib.hid (tr3 HB.out hb7)
          clear hb7
          go_wp2_with fail
          go_ret
          exact ⟨rfl, HB7.out⟩
  · have hck : ¬ chk (op, A, B, C) = 0 := by rw [show chk (op, A, B, C) = c from hc]; exact h0
    rw [show lineV (op, A, B, C) = [] from if_neg hck]
    have hcb : ((c : Int) != 0) = true := by rw [bne, beq_eq_false_iff_ne.2 h0]; rfl
    clear hc hck
    go_enter Tryd.func11, Tryd.ntmps11
    go_wp2_with fail
    refine (CK.out _).mono ?_
    rintro e w1 ⟨rfl, hb1⟩
    have hB1 : Below w.heap.size w w1 := tr3 (by go_grown) hb1
    clear hb1
    go_wp2_with fail
    go_ret
    exact ⟨rfl, hB1⟩
end Go.Proofs.YtgkfnplgldigbaaDoor.asm
