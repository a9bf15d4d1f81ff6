/- An instruction in writing, as the document has it (layer 6). -/
import Derived.Test.YtgkfnplgldigbaaGreatDoorAsA
import Derived.Test.YtgkfnplgldigbaaGreatDoorWdQ
import Derived.Deep.RegionHeld3
import Derived.Handy
import Derived.Test.YtgkfnplgldigbaaGreatDoorAsG
import Derived.Test.YtgkfnplgldigbaaGreatDoorPuA
import Derived.Test.YtgkfnplgldigbaaGreatDoorAsW
import Derived.Test.YtgkfnplgldigbaaGreatDoorAsL
import Derived.Test.YtgkfnplgldigbaaGreatDoorPuB
namespace Go.Proofs.YtgkfnplgldigbaaGreatDoor.asm
open Go.ChangeShapes Go.WideShapes Go.ChangeAt Go.RowKit
open Go.Proofs.YtgkfnplgldigbaaGreatDoor.st Go.Proofs.YtgkfnplgldigbaaGreatDoor.wd
open Go.Proofs.YtgkfnplgldigbaaGreatDoor.ins (three three_cell)
set_option linter.unusedVariables false
set_option linter.unusedSimpArgs false
set_option maxRecDepth 20000 in
set_option maxHeartbeats 1600000 in
theorem rline_v (op A B C : Int) (w : World) (hA : I64 A) (hB : I64 B) (hC : I64 C) : Calls Tryz.prog 22 #[.agg #[.int .i64 op, .int .i64 A, .int .i64 B, .int .i64 C]] w fun e w' => e = .returned (.string ⟨(lineV (op, A, B, C)).toArray⟩) ∧ Below w.heap.size w w' := by
  obtain ⟨c, hc⟩ : ∃ c, ins.chkI op A B C = c := ⟨_, rfl⟩
  have CK := Lib.hid (fun w => ins.rchk_of op A B C c w hc)
  by_cases h0 : c = 0
  · subst h0
    have hck : chk (op, A, B, C) = 0 := hc
    have hpl := pre_len (op, A, B, C) hck hA hB hC
    rw [show lineV (op, A, B, C) = Lib.join (prt (op, A, B, C)) [32] from if_pos hck]
    obtain ⟨ho0, ho1⟩ := chk_op hck
    obtain ⟨q, rfl⟩ : ∃ q : Nat, op = q := ⟨op.toNat, by simp at ho0; omega⟩
    have hq : q < 26 := by simp at ho1; omega
    have CNs := Lib.hid (fun w => ins.names_v w)
    have CF := Lib.hid (ins.rf_of (q : Int))
    have hfl := (ins.frmI_ok (q : Int)).1
    have hpt := prt_take (q : Int) A B C
    have hpln := prt_len ((q : Int), A, B, C)
    have hp1 : (prt ((q : Int), A, B, C)).take (0 + 1) = [ins.nmL.getD q []] := by
      unfold prt nml
      simp
    dsimp only at hpln
    obtain ⟨f, hf⟩ : ∃ f, ins.frmI (q : Int) = f := ⟨_, rfl⟩
    rw [hf] at hfl hpt hpln CF
    have hfs := str_size f
    obtain ⟨m, hm⟩ : ∃ m, f.length = m := ⟨_, rfl⟩
    rw [hm] at hfl hpt hpln hfs
    obtain ⟨P, hP⟩ : ∃ P, prt ((q : Int), A, B, C) = P := ⟨_, rfl⟩
    rw [hP] at hpl hpt hpln hp1 ⊢
    obtain ⟨nmv, hnm⟩ : ∃ s, ins.nmL.getD q [] = s := ⟨_, rfl⟩
    have hnmq : ins.nm q = ⟨nmv.toArray⟩ := by unfold ins.nm; rw [hnm]
    rw [hnm] at hp1
    have HNM := Lib.hid hnmq
    obtain ⟨T, hT⟩ : ∃ T, Lib.join P [32] = T := ⟨_, rfl⟩
    rw [hT]
    have HT := Lib.hid hT
    clear hT
    have HPT := Lib.hid hpt
    have HPL := Lib.hid hpl
    have HLN := Lib.hid hpln
    have HP1 := Lib.hid hp1
    have HI := Lib.hid (show ∀ k, k < 3 → I64 ((three A B C).getD k 0) by
      intro k hk
      match k, hk with
      | 0, _ => exact hA
      | 1, _ => exact hB
      | 2, _ => exact hC)
    obtain ⟨W1, hW1⟩ : ∃ W1, w.alloc (.cells #[.int .i64 (q : Int), .int .i64 A, .int .i64 B, .int .i64 C] 35) = W1 := ⟨_, rfl⟩
    have k1 : W1.heap[w.heap.size]? = some (.cells #[.int .i64 (q : Int), .int .i64 A, .int .i64 B, .int .i64 C] 35 (0, 0)) := by rw [← hW1]; exact heap_new w _ _
    have b1 : Below w.heap.size w W1 := by rw [← hW1]; exact (Below.refl _ _).alloc (Nat.le_refl _) _
    have HW1 := Lib.hid hW1
    have K1 := Lib.hid k1
    have B1 := Lib.hid b1
    have hm3 : (m : Int) ≤ 3 := by omega
    have hm0 : (0 : Int) ≤ (m : Int) := by omega
    have hq26 : (q : Int) < 26 := by omega
    clear hpl hpt hpln hp1 hf hP hnm hnmq hW1 k1 b1 hc hck ho0 ho1
    go_enter Tryz.func22, Tryz.ntmps22
    go_wp2_with fail
    rw [HW1.out]
    refine (CK.out _).mono ?_
    rintro e w2 ⟨rfl, hb2⟩
    have k2 := kb K1.out hb2
    have B2 := Lib.hid (tr3 B1.out hb2)
    have hlt2 : w.heap.size < w2.heap.size := (Array.getElem?_eq_some_iff.1 k2).1
    have d0 : w2.cell? ⟨w.heap.size, 0, none⟩ = some (.int .i64 (q : Int)) := cel k2 0
    have K2 := Lib.hid k2
    have HK : Hid (∀ w', Below w2.heap.size w2 w' → Below w2.heap.size w2 w' ∧ w'.cell? ⟨w.heap.size, 0, none⟩ = some (.int .i64 (q : Int))) := Lib.hid fun w' hb => ⟨hb, kc d0 hb⟩
    clear hb2 k2 CK HW1 K1 B1
    go_wp2_with fail
    go_region_with (first | (go_at_call 40; (refine (CNs.out _).mono ?_); rintro e w5 ⟨rfl, hcs, hb5⟩; have hx5 : w5.cell? ⟨w2.heap.size, q, none⟩ = some (.string ⟨nmv.toArray⟩) := (by rw [← HNM.out]; first | exact hcs q hq | simpa using hcs q hq); clear hcs; have hb7 : Below w2.heap.size w2 w5 := Below.trans (by go_grown) (hb5.mono (by go_grown)); have hd5 := kc d0 hb7))
    all_goals
      have k5 := kb K2.out hb7
      have B5 := Lib.hid (tr3 B2.out hb7)
      have hlt5 : w.heap.size < w5.heap.size := (Array.getElem?_eq_some_iff.1 k5).1
      have e0 : w5.cell? ⟨w.heap.size, 0, none⟩ = some (.int .i64 (q : Int)) := cel k5 0
      have e1 : w5.cell? ⟨w.heap.size, 1, none⟩ = some (.int .i64 A) := cel k5 1
      have e2 : w5.cell? ⟨w.heap.size, 2, none⟩ = some (.int .i64 B) := cel k5 2
      have e3 : w5.cell? ⟨w.heap.size, 3, none⟩ = some (.int .i64 C) := cel k5 3
      obtain ⟨W6, hW6⟩ : ∃ W6, w5.alloc (.cells #[.int .i64 A, .int .i64 B, .int .i64 C] 3) = W6 := ⟨_, rfl⟩
      have b6 : Below w5.heap.size w5 W6 := by rw [← hW6]; exact (Below.refl _ _).alloc (Nat.le_refl _) _
      obtain ⟨g, hg⟩ : ∃ g, w5.heap.size = g := ⟨_, rfl⟩
      have k6 : W6.heap[g]? = some (.cells #[.int .i64 A, .int .i64 B, .int .i64 C] 3 (0, 0)) := by rw [← hW6, ← hg]; exact heap_new w5 _ _
      have HB6 := Lib.hid (tr3 B5.out b6)
      have HX6 := Lib.hid (kb k5 b6)
      have HK6 := Lib.hid k6
      have HW6 := Lib.hid hW6
      have HG := Lib.hid hg
      have hj0 : Hid (nmv = Lib.join (P.take (0 + 1)) [32]) := Lib.hid (by rw [HP1.out, Lib.join_one])
      clear hx5 hb5 hb7 hd5 k5 B5 hW6 b6 hg k6 CNs HK K2 B2 d0 hlt2
      try clear hcs
      go_wp2_with fail
      rw [HW6.out, HG.out]
      clear e0 e1 e2 e3 hlt5 HW6 HG HP1
      go_loopw [3, 5] (fun sv iv wr => ∃ (k : Nat) (l : List UInt8), sv = .string ⟨l.toArray⟩ ∧ iv = .int .i64 (k : Int) ∧ k ≤ m ∧ Hid (l = Lib.join (P.take (k + 1)) [32]) ∧ Hid (wr.heap[w.heap.size]? = some (.cells #[.int .i64 (q : Int), .int .i64 A, .int .i64 B, .int .i64 C] 35 (0, 0))) ∧ Hid (wr.heap[g]? = some (.cells #[.int .i64 A, .int .i64 B, .int .i64 C] 3 (0, 0))) ∧ Hid (Below w.heap.size w wr)) (fun _ iv _ => m - (RowKit.intOf iv).toNat)
      case atStart => exact ⟨0, nmv, rfl, rfl, by omega, hj0, HX6, HK6, HB6⟩
      case round =>
        clear hj0 HX6 HK6 HB6
        obtain ⟨k, l, rfl, rfl, hk, HJ, HX, HK, HB⟩ := hrel
        have e0 : wr.cell? ⟨w.heap.size, 0, none⟩ = some (.int .i64 (q : Int)) := cel HX.out 0
        have hpl1 := HPL.out (k + 1)
        rw [← HJ.out] at hpl1
        by_cases hlt : k < m
        · have hki : (k : Int) < (m : Int) := by omega
          have hkd : decide ((k : Int) < (m : Int)) = true := decide_eq_true hki
          go_wp2_with fail
          refine (CF.out _).mono ?_
          rintro e w7 ⟨rfl, hb7⟩
          have hk7 := kb HK.out hb7
          have hx7 := kb HX.out hb7
          have HK7 := Lib.hid hk7
          have HX7 := Lib.hid hx7
          have HB7 := Lib.hid (tr3 HB.out hb7)
          have hcl : w7.cell? ⟨g, k, none⟩ = some (.int .i64 ((three A B C).getD k 0)) := by
            rw [cel hk7 k]
            match k, (show k < 3 by omega) with
            | 0, _ => rfl
            | 1, _ => rfl
            | 2, _ => rfl
          have hvI := HI.out k (by omega)
          have hpk := HPT.out k hlt
          have hpl2 := HPL.out (k + 1 + 1)
          have hk3i : (k : Int) < 3 := by omega
          obtain ⟨v, hv⟩ : ∃ v, (three A B C).getD k 0 = v := ⟨_, rfl⟩
          rw [hv] at hcl hvI hpk
          have CO := Lib.hid (fun w => rof_v v w hvI)
          obtain ⟨E, hE⟩ : ∃ E, Lib.itoa v = E := ⟨_, rfl⟩
          rw [hE] at CO hpk
          have hsn : Lib.join (P.take (k + 1 + 1)) [32] = (l ++ [32]) ++ E := by
            rw [hpk, join_snoc _ _ _ (by
              intro e
              have := congrArg List.length e
              rw [List.length_take, HLN.out, List.length_nil] at this
              omega), ← HJ.out]
          rw [hsn, List.length_append, List.length_append, List.length_singleton] at hpl2
          have hj1 := str_join l [32]
          have hj2 := str_join (l ++ [32]) E
          have hsz1 : ¬ 9223372036854775807 < l.length + 1 := by omega
          have hsz2 : ¬ 9223372036854775807 < l.length + 1 + E.length := by omega
          have HJN : Hid ((l ++ [32]) ++ E = Lib.join (P.take (k + 1 + 1)) [32]) := Lib.hid hsn.symm
          obtain ⟨l2, hl2⟩ : ∃ l2, l ++ [32] = l2 := ⟨_, rfl⟩
          have hl2l : l2.length = l.length + 1 := by rw [← hl2]; simp
          rw [hl2] at hj1 hj2 HJN
          rw [← hl2l] at hsz2
          obtain ⟨l3, hl3⟩ : ∃ l3, l2 ++ E = l3 := ⟨_, rfl⟩
          rw [hl3] at hj2 HJN
          clear hv hE hpk hvI hsn hl2 hl3 hl2l hk7 hx7 HJ HX HK HB e0 hb7 hpl1
          go_wp2_with fail
          refine (CO.out _).mono ?_
          rintro e w8 ⟨rfl, hb8⟩
          have HB8 := Lib.hid (tr3 HB7.out hb8)
          have HX8 := Lib.hid (kb HX7.out hb8)
          have HK8 := Lib.hid (kb HK7.out hb8)
          clear hb8 CO HB7 HX7 HK7 hcl
          go_wp2_with fail
          go_roundw
          case rel => exact ⟨k + 1, l3, rfl, by go_num, by omega, HJN, HX8, HK8, HB8⟩
          case measure => first | (simp [RowKit.intOf]; done) | (simp [RowKit.intOf]; omega)
        · obtain rfl : k = m := by omega
          have hki : ¬ (k : Int) < (k : Int) := by omega
          have hkd : decide ((k : Int) < (k : Int)) = false := decide_eq_false hki
          have hful : P.take (k + 1) = P := List.take_of_length_le (by rw [HLN.out]; exact Nat.le_refl _)
          have hj := HJ.out
          rw [hful, HT.out] at hj
          subst hj
          clear hful HJ
          go_wp2_with fail
          refine (CF.out _).mono ?_
          rintro e w7 ⟨rfl, hb7⟩
          have HB7 := Lib.hid (tr3 HB.out hb7)
          clear hb7
          go_wp2_with fail
          go_ret
          exact ⟨rfl, HB7.out⟩
  · have hck : ¬ chk (op, A, B, C) = 0 := by rw [show chk (op, A, B, C) = c from hc]; exact h0
    rw [show lineV (op, A, B, C) = [] from if_neg hck]
    have hcb : ((c : Int) != 0) = true := by rw [bne, beq_eq_false_iff_ne.2 h0]; rfl
    clear hc hck
    go_enter Tryz.func22, Tryz.ntmps22
    go_wp2_with fail
    refine (CK.out _).mono ?_
    rintro e w1 ⟨rfl, hb1⟩
    have hB1 : Below w.heap.size w w1 := tr3 (by go_grown) hb1
    clear hb1
    go_wp2_with fail
    go_ret
    exact ⟨rfl, hB1⟩
end Go.Proofs.YtgkfnplgldigbaaGreatDoor.asm
namespace Go.Proofs.YtgkfnplgldigbaaGreatDoor.pr
open Go.ChangeShapes Go.WideShapes Go.ChangeAt Go.RowKit
open Go.Proofs.YtgkfnplgldigbaaGreatDoor.bin Go.Proofs.YtgkfnplgldigbaaGreatDoor.bits Go.Proofs.YtgkfnplgldigbaaGreatDoor.ins
set_option linter.unusedVariables false
set_option linter.unusedSimpArgs false
set_option maxRecDepth 20000 in
set_option maxHeartbeats 800000 in
theorem rcheck_v (m : Int) (a : Option Addr) (n c : Nat) (L : List (List I4)) (w : World) (h : PM w (.slice a n c) L) :
    Calls Tryz.prog 20 #[.agg #[.int .i64 m, .slice a n c]] w fun e w' => e = .returned (.int .i64 (prE m L)) ∧ Below w.heap.size w w' := by
  obtain ⟨hnl, hnc, hcm⟩ := h.len
  by_cases hc : cntE m n = 0
  · have hp : prE m L = fnR L n := by unfold prE; rw [← hnl, if_neg (by rw [hc]; simp)]
    rw [hp]
    exact rcheck_ok m a n c L _ w h hc rfl
  · have hp : prE m L = cntE m n := by unfold prE; rw [← hnl, if_pos hc]
    obtain ⟨r, hr⟩ : ∃ r, cntE m n = r := ⟨_, rfl⟩
    rw [hp, hr]
    rw [hr] at hc
    obtain ⟨W, hW⟩ : ∃ W, w.alloc (.cells #[.int .i64 m, .slice a n c] 24) = W := ⟨_, rfl⟩
    have hb0 : Below w.heap.size w W := by rw [← hW]; go_grown
    have HP := Lib.hid (show W.heap[w.heap.size]? = some (.cells #[.int .i64 m, .slice a n c] 24 (0, 0)) by rw [← hW]; exact heap_new _ _ _)
    have hp0 : W.cell? ⟨w.heap.size, 0, none⟩ = some (.int .i64 m) := cel HP.out 0
    have hp1 : W.cell? ⟨w.heap.size, 1, none⟩ = some (.slice a n c) := cel HP.out 1
    have HW := Lib.hid hW
    have HB := Lib.hid hb0
    rw [← mn_cnt] at hr
    clear h hp hW hb0
    by_cases h1 : m < 0
    · rw [if_pos (.inl h1)] at hr
      subst hr
      clear hp0 hp1 hcm hnl
      go_enter Tryz.func20, Tryz.ntmps20
      go_wp2_with fail
      rw [HW.out]
      have hp0 : W.cell? ⟨w.heap.size, 0, none⟩ = some (.int .i64 m) := cel HP.out 0
      go_wp2_with fail
      go_ret
      exact ⟨rfl, tr3 HB.out (by go_grown)⟩
    · by_cases h2 : 256 < m
      · rw [if_pos (.inr h2)] at hr
        subst hr
        clear hp0 hp1 hcm hnl
        go_enter Tryz.func20, Tryz.ntmps20
        go_wp2_with fail
        rw [HW.out]
        have hp0 : W.cell? ⟨w.heap.size, 0, none⟩ = some (.int .i64 m) := cel HP.out 0
        go_wp2_with fail
        go_ret
        exact ⟨rfl, tr3 HB.out (by go_grown)⟩
      · rw [if_neg (by omega)] at hr
        have CM := Lib.hid (fun w => many_v n 16 r w hr)
        have hrb : (r == 0) = false := by simpa using hc
        have hrn : (r != 0) = true := by simpa using hc
        clear hp0 hp1 hcm hnl hr
        go_enter Tryz.func20, Tryz.ntmps20
        go_wp2_with fail
        rw [HW.out]
        have hp0 : W.cell? ⟨w.heap.size, 0, none⟩ = some (.int .i64 m) := cel HP.out 0
        have hp1 : W.cell? ⟨w.heap.size, 1, none⟩ = some (.slice a n c) := cel HP.out 1
        go_wp2_with fail
        refine (CM.out _).mono ?_
        rintro e w' ⟨rfl, rfl⟩
        clear hp0 hp1
        go_wp2_with fail
        go_ret
        exact ⟨rfl, tr3 HB.out (by go_grown)⟩
end Go.Proofs.YtgkfnplgldigbaaGreatDoor.pr
namespace Go.Proofs.YtgkfnplgldigbaaGreatDoor.asm
open Go.ChangeShapes Go.WideShapes Go.ChangeAt Go.RowKit
open Go.Proofs.YtgkfnplgldigbaaGreatDoor.st Go.Proofs.YtgkfnplgldigbaaGreatDoor.wd
open Go.Proofs.YtgkfnplgldigbaaGreatDoor.pr (enI recI infoI infoC PM OP own_ltP NB)
set_option linter.unusedVariables false
set_option linter.unusedSimpArgs false
set_option maxRecDepth 20000 in
set_option maxHeartbeats 1600000 in
theorem rtext_v (m : Int) (a : Option Addr) (n c : Nat) (L : List (List I4)) (w : World) (h : PM w (.slice a n c) L) :
    Calls Tryz.prog 8 #[.agg #[.int .i64 m, .slice a n c]] w fun e w' => e = .returned (.tuple #[.string ⟨(textV (m, L)).toArray⟩, .int .i64 (pr.prE m L)]) ∧ Below w.heap.size w w' := by
  obtain ⟨W0, hW0⟩ : ∃ W0, w.alloc (.cells #[.int .i64 m, .slice a n c] 24) = W0 := ⟨_, rfl⟩
  have k0 : W0.heap[w.heap.size]? = some (.cells #[.int .i64 m, .slice a n c] 24 (0, 0)) := by rw [← hW0]; exact heap_new w _ _
  have b0 : Below w.heap.size w W0 := by rw [← hW0]; exact (Below.refl _ _).alloc (Nat.le_refl _) _
  have CC := pr.rcheck_v m a n c L W0 (h.below b0)
  obtain ⟨ec, hec⟩ : ∃ e, pr.prE m L = e := ⟨_, rfl⟩
  have x0 : W0.cell? ⟨w.heap.size, 0, none⟩ = some (.int .i64 m) := cel k0 0
  have x1 : W0.cell? ⟨w.heap.size, 1, none⟩ = some (.slice a n c) := cel k0 1
  have HW0 := Lib.hid hW0
  rw [hec] at CC
  rw [← hW0] at CC x0 x1
  replace CC := Lib.hid CC
  have HK0 := Lib.hid k0
  have HB0 := Lib.hid b0
  have HPM := Lib.hid h
  have HNL := Lib.hid (show n = L.length from h.len.1)
  rw [hec]
  by_cases he : ec = 0
  · subst he
    have htv : textV (m, L) = txt (wrt (m, L)) := if_pos hec
    obtain ⟨T, hT⟩ : ∃ T, textV (m, L) = T := ⟨_, rfl⟩
    rw [hT]
    have hT2 : Hid (T = txt (memL m :: (L.map fnW).flatten)) := Lib.hid (by rw [← hT, htv]; rfl)
    have hm := pr_mem hec
    have HCK := Lib.hid (pr_chk hec)
    have hcn := pr.cntE_0 (pr.prE_0 hec).1
    have HLN : Hid (∀ k, k < L.length → (L.getD k []).length ≤ 200) := Lib.hid fun k hk => (pr.lenE_0 (pr.fnE_0 (pr.fnR_0 (pr.prE_0 hec).2 k hk)).1).2
    have hn16 : n ≤ 16 := by rw [HNL.out]; omega
    have hI : I64 m := by unfold I64; omega
    have CO := Lib.hid (fun w => rof_v m w hI)
    have hi3 := itoa_le (v := m) 2 (by omega) (by omega)
    obtain ⟨E, hE⟩ : ∃ E, Lib.itoa m = E := ⟨_, rfl⟩
    rw [hE] at CO hi3
    have hj1 : (⟨#[109, 101, 109, 111, 114, 121, 32]⟩ : ByteArray) ++ ⟨E.toArray⟩ = ⟨(memL m).toArray⟩ := by
      unfold memL
      rw [hE, join_two, Lib.join_one]
      exact str_join [109, 101, 109, 111, 114, 121, 32] E
    have hmll : (memL m).length ≤ 12 := by
      unfold memL
      rw [hE, join_two, Lib.join_one, List.length_append, List.length_append, List.length_singleton]
      have h2 : wMem.length = 6 := rfl
      omega
    obtain ⟨ML, hML⟩ : ∃ ML, memL m = ML := ⟨_, rfl⟩
    rw [hML] at hj1 hT2 hmll
    have hj2 := str_join ML [10]
    have hz1 : ¬ 9223372036854775807 < 7 + E.length := by omega
    have hz2 : ¬ 9223372036854775807 < ML.length + 1 := by omega
    have hacc0 : (ML ++ [10]).length ≤ 13 + 2613 * 0 := by simp; omega
    have HAC0 : Hid (ML ++ [10] = txt (ML :: ((L.take 0).map fnW).flatten)) := Lib.hid (by simp [txt])
    obtain ⟨A0, hA0⟩ : ∃ A0, ML ++ [10] = A0 := ⟨_, rfl⟩
    rw [hA0] at hj2 hacc0 HAC0
    clear h b0 k0 hW0 hec hcn hT htv hE hML hm hI hA0
    go_enter Tryz.func8, Tryz.ntmps8
    go_wp2_with fail
    refine CC.out.mono ?_
    rw [HW0.out]
    rintro e w1 ⟨rfl, hb1⟩
    have hk1 := kb HK0.out hb1
    have y0 : w1.cell? ⟨w.heap.size, 0, none⟩ = some (.int .i64 m) := cel hk1 0
    have HB1 := Lib.hid (tr3 HB0.out hb1)
    have HK1 := Lib.hid hk1
    clear hb1 hk1 x0 x1 CC HK0 HB0 HW0
    go_wp2_with fail
    refine (CO.out _).mono ?_
    rintro e w2 ⟨rfl, hb2⟩
    have HB2 := Lib.hid (tr3 HB1.out hb2)
    have HK2 := Lib.hid (kb HK1.out hb2)
    have HB0 : Hid (Below w2.heap.size w2 w2) := Lib.hid (Below.refl _ _)
    clear hb2 CO y0 HB1 HK1
    go_wp2_with fail
    go_loopw [5, 6] (fun sv iv wr => ∃ (k : Nat) (acc : List UInt8), sv = .string ⟨acc.toArray⟩ ∧ iv = .int .i64 (k : Int) ∧ k ≤ n ∧ acc.length ≤ 13 + 2613 * k ∧ Hid (acc = txt (ML :: ((L.take k).map fnW).flatten)) ∧ Hid (Below w2.heap.size w2 wr)) (fun _ iv _ => n - (RowKit.intOf iv).toNat)
    case atStart => exact ⟨0, A0, rfl, rfl, by omega, hacc0, HAC0, HB0⟩
    case round =>
      clear hacc0 HAC0 HB0 hj1 hj2 hz1 hz2
      obtain ⟨k, acc, rfl, rfl, hk, hal, HAC, HB⟩ := hrel
      have hkr := kb HK2.out HB.out
      have x1 : wr.cell? ⟨w.heap.size, 1, none⟩ = some (.slice a n c) := cel hkr 1
      have hnr : w.heap.size < wr.heap.size := (Array.getElem?_eq_some_iff.1 hkr).1
      by_cases hlt : k < n
      · have hki : (k : Int) < (n : Int) := by omega
        have hkd : decide ((k : Int) < (n : Int)) = true := decide_eq_true hki
        obtain ⟨b', o, ai, ci, rfl, hbl, hz0, hrow0⟩ := HPM.out.row k hlt
        have hkl : k < L.length := by rw [← HNL.out]; exact hlt
        have hl2 := HLN.out k hkl
        have htk := take_fn L k hkl
        have hck := fun j (hj : j < (L.getD k []).length) => HCK.out (L.getD k []) (by rw [List.getD_eq_getElem?_getD, List.getElem?_eq_getElem hkl]; exact List.getElem_mem hkl) ((L.getD k []).getD j pr.d4) (by rw [List.getD_eq_getElem?_getD (l := L.getD k []), List.getElem?_eq_getElem hj]; exact List.getElem_mem hj)
        obtain ⟨cl, hcl⟩ : ∃ cl, L.getD k [] = cl := ⟨_, rfl⟩
        rw [hcl] at hz0 hrow0 hl2 htk hck
        have htl := take_ln cl
        obtain ⟨q, hq⟩ : ∃ q, cl.length = q := ⟨_, rfl⟩
        rw [hq] at hz0 hrow0 hl2 hck htl
        have HZ := Lib.hid hz0
        have HROW := Lib.hid hrow0
        have HTK := Lib.hid htk
        have HTL := Lib.hid htl
        have HQ := Lib.hid hq
        have HCJ := Lib.hid hck
        have hj5 := str_join acc [102, 117, 110, 99, 116, 105, 111, 110, 10]
        have hz5 : ¬ 9223372036854775807 < acc.length + 9 := by omega
        have hal5 : (acc ++ [102, 117, 110, 99, 116, 105, 111, 110, 10]).length ≤ 26 + 2613 * k + 13 * 0 := by simp; omega
        have HA5 : Hid (acc ++ [102, 117, 110, 99, 116, 105, 111, 110, 10] = acc ++ txt (wFun :: (cl.take 0).map lineV)) := Lib.hid (by simp [txt, wFun])
        obtain ⟨A5, hA5⟩ : ∃ A5, acc ++ [102, 117, 110, 99, 116, 105, 111, 110, 10] = A5 := ⟨_, rfl⟩
        rw [hA5] at hj5 hal5 HA5
        clear hz0 hrow0 htk htl hck hcl hq hkl hkr hA5
        go_wp2_with fail
        go_loopw [5, 7] (fun sv jv wr2 => ∃ (j : Nat) (acc2 : List UInt8), sv = .string ⟨acc2.toArray⟩ ∧ jv = .int .i64 (j : Int) ∧ j ≤ q ∧ acc2.length ≤ 26 + 2613 * k + 13 * j ∧ Hid (acc2 = acc ++ txt (wFun :: (cl.take j).map lineV)) ∧ Hid (Below w2.heap.size w2 wr2)) (fun _ jv _ => q - (RowKit.intOf jv).toNat)
        case atStart => exact ⟨0, A5, rfl, rfl, by omega, hal5, HA5, HB⟩
        case round =>
          clear hal5 HA5 hj5 hz5 x1 hnr HB
          obtain ⟨j, acc2, rfl, rfl, hj, hal2, HA, HB⟩ := hrel
          have HBx := Lib.hid (tr3 HB2.out HB.out)
          have hkr := kb HK2.out HB.out
          have x1 : wr.cell? ⟨w.heap.size, 1, none⟩ = some (.slice (some ⟨b', o, none⟩) n c) := cel hkr 1
          have hz := kc HZ.out HBx.out
          have hb2' : b' < wr.heap.size := Nat.lt_of_lt_of_le hbl HBx.out.size
          have hnr : w.heap.size < wr.heap.size := (Array.getElem?_eq_some_iff.1 hkr).1
          by_cases hjl : j < q
          · have hji : (j : Int) < (q : Int) := by omega
            have hjd : decide ((j : Int) < (q : Int)) = true := decide_eq_true hji
            obtain ⟨b2, o2, rfl, hb2, d0, d1, d2, d3⟩ := pr.RV.four (HROW.out.below HBx.out) j hjl
            have hcx := HCJ.out j hjl
            have htj := HTL.out j hjl
            obtain ⟨⟨x0, x1', x2, x3⟩, hx⟩ : ∃ x, cl.getD j pr.d4 = x := ⟨_, rfl⟩
            rw [hx] at d0 d1 d2 d3 hcx htj
            dsimp only at d0 d1 d2 d3
            obtain ⟨i1, i2, i3⟩ := chk_64 hcx
            have hll := line_len hcx
            have CL := Lib.hid (fun w => rline_v x0 x1' x2 x3 w i1 i2 i3)
            obtain ⟨U, hU⟩ : ∃ U, lineV (x0, x1', x2, x3) = U := ⟨_, rfl⟩
            rw [hU] at CL hll htj
            have HTJ := Lib.hid htj
            have hj6 := str_join acc2 U
            have hz6 : ¬ 9223372036854775807 < acc2.length + U.length := by omega
            obtain ⟨A6, hA6⟩ : ∃ A6, acc2 ++ U = A6 := ⟨_, rfl⟩
            have hl6 : A6.length = acc2.length + U.length := by rw [← hA6]; simp
            rw [hA6] at hj6
            have hj7 := str_join A6 [10]
            have hz7 : ¬ 9223372036854775807 < A6.length + 1 := by omega
            obtain ⟨A7, hA7⟩ : ∃ A7, A6 ++ [10] = A7 := ⟨_, rfl⟩
            have hal7 : A7.length ≤ 26 + 2613 * k + 13 * (j + 1) := by rw [← hA7]; simp; omega
            rw [hA7] at hj7
            have HA7 : Hid (A7 = acc ++ txt (wFun :: (cl.take (j + 1)).map lineV)) := Lib.hid (by
              rw [← hA7, ← hA6, HA.out, HTJ.out, ← List.cons_append, txt_app, txt_one]
              simp)
            clear hx hcx i1 i2 i3 hU htj hkr hl6 hA6 hA7 HBx
            go_wp2_with fail
            refine (CL.out _).mono ?_
            rintro e w9 ⟨rfl, hb9⟩
            have HB9 := Lib.hid (tr3 HB.out hb9)
            clear hb9 CL HB
            go_wp2_with fail
            go_roundw
            case rel => exact ⟨j + 1, A7, rfl, by go_num, by omega, hal7, HA7, HB9⟩
            case measure => first | (simp [RowKit.intOf]; done) | (simp [RowKit.intOf]; omega)
          · obtain rfl : j = q := by omega
            have hji : ¬ (j : Int) < (j : Int) := by omega
            have hjd : decide ((j : Int) < (j : Int)) = false := decide_eq_false hji
            have hfull : cl.take j = cl := List.take_of_length_le (by rw [HQ.out]; exact Nat.le_refl _)
            have HA10 : Hid (acc2 = txt (ML :: ((L.take (k + 1)).map fnW).flatten)) := Lib.hid (by
              rw [HA.out, hfull, HTK.out, HAC.out, ← List.cons_append, txt_app])
            have hal10 : acc2.length ≤ 13 + 2613 * (k + 1) := by omega
            clear hfull HA hkr HBx
            go_wp2_with fail
            go_roundw
            case rel => exact ⟨k + 1, acc2, rfl, by go_num, by omega, hal10, HA10, HB⟩
            case measure => first | (simp [RowKit.intOf]; done) | (simp [RowKit.intOf]; omega)
      · obtain rfl : k = n := by omega
        have hki : ¬ (k : Int) < (k : Int) := by omega
        have hkd : decide ((k : Int) < (k : Int)) = false := decide_eq_false hki
        have hacT : acc = T := by
          rw [HAC.out, hT2.out, List.take_of_length_le (by rw [← HNL.out]; exact Nat.le_refl _)]
        subst hacT
        have HB5 := Lib.hid (tr3 HB2.out HB.out)
        clear HAC hkr
        go_wp2_with fail
        go_ret2
        exact ⟨rfl, HB5.out⟩
  · have htv : textV (m, L) = [] := if_neg (by rw [hec]; exact he)
    rw [htv]
    have hcb : ((ec : Int) != 0) = true := by rw [bne, beq_eq_false_iff_ne.2 he]; rfl
    clear h b0 k0 hW0 hec htv
    go_enter Tryz.func8, Tryz.ntmps8
    go_wp2_with fail
    refine CC.out.mono ?_
    rw [HW0.out]
    rintro e w1 ⟨rfl, hb1⟩
    have HB1 := Lib.hid (tr3 HB0.out hb1)
    clear hb1 x0 x1
    go_wp2_with fail
    go_ret2
    exact ⟨rfl, HB1.out⟩
end Go.Proofs.YtgkfnplgldigbaaGreatDoor.asm
namespace Go.Proofs.YtgkfnplgldigbaaGreatDoor.asmTexts
open Go.ChangeShapes Go.WideShapes Go.ChangeAt Go.RowKit
open Go.Proofs.YtgkfnplgldigbaaGreatDoor.st Go.Proofs.YtgkfnplgldigbaaGreatDoor.wd Go.Proofs.YtgkfnplgldigbaaGreatDoor.asm
open Go.Proofs.YtgkfnplgldigbaaGreatDoor.pr (PM OP Sm)
set_option linter.unusedVariables false
set_option linter.unusedSimpArgs false
set_option maxRecDepth 20000 in
set_option maxHeartbeats 1600000 in
theorem walk (m0 : Int) (a0 : Option Addr) (n0 c0 : Nat) (L0 : List (List pr.I4)) (w : World) (w0 : PM w (.slice a0 n0 c0) L0) (hNM : ins.NM w ∧ wd.NM w) :
    Calls Tryz.prog 3 #[.agg #[.int .i64 m0, .slice a0 n0 c0]] w fun e w' => e = .returned (.bool true) ∧ Below w.heap.size w w' := by
  obtain ⟨hN, hM⟩ := hNM
  obtain ⟨W0, hW0⟩ : ∃ W0, w.alloc (.cells #[.int .i64 m0, .slice a0 n0 c0] 24) = W0 := ⟨_, rfl⟩
  have k0 : W0.heap[w.heap.size]? = some (.cells #[.int .i64 m0, .slice a0 n0 c0] 24 (0, 0)) := by rw [← hW0]; exact heap_new w _ _
  have b0 : Below w.heap.size w W0 := by rw [← hW0]; exact (Below.refl _ _).alloc (Nat.le_refl _) _
  have CW := Lib.hid (works06 W0 (hN.below b0) (hM.below b0))
  have HW0 := Lib.hid hW0
  have HK0 := Lib.hid k0
  have HB0 := Lib.hid b0
  have HN := Lib.hid hN
  have HM := Lib.hid hM
  have HPM := Lib.hid w0
  have CG := Lib.hid (fun w h => pr.great_v m0 a0 n0 c0 L0 w h)
  have CO := Lib.hid (fun w h hS => pr.own_v m0 a0 n0 c0 L0 w h hS)
  have CT := Lib.hid (fun a n c w h hN hM => text_v m0 a n c L0 w h hN hM)
  have CR := Lib.hid (fun w h => rtext_v m0 a0 n0 c0 L0 w h)
  obtain ⟨T, hT⟩ : ∃ T, textV (m0, L0) = T := ⟨_, rfl⟩
  obtain ⟨ec, hec⟩ : ∃ e, pr.prE m0 L0 = e := ⟨_, rfl⟩
  have HRD : Hid (ec = 0 → readV T = ((m0, L0), 0)) := Lib.hid (by
    intro h1
    rw [← hT]
    exact read_text (p := (m0, L0)) (by rw [← h1]; exact hec))
  rw [hT, hec] at CT CR
  have hTl : T.length ≤ 41821 := by rw [← hT]; exact textV_len _
  have hTT : (T == T) = true := by simp
  have hee : (ec == ec) = true := by simp
  clear hW0 k0 b0 hN hM w0 hT hec
  go_enter Tryz.func3, Tryz.ntmps3
  go_wp2_with fail
  rw [HW0.out]
  refine CW.out.mono ?_
  rintro e w1 ⟨rfl, hb1⟩
  have hk1 := kb HK0.out hb1
  have HB1 := Lib.hid (tr3 HB0.out hb1)
  have x0 : w1.cell? ⟨w.heap.size, 0, none⟩ = some (.int .i64 m0) := cel hk1 0
  have x1 : w1.cell? ⟨w.heap.size, 1, none⟩ = some (.slice a0 n0 c0) := cel hk1 1
  have HK1 := Lib.hid hk1
  clear hb1 hk1 CW HK0 HB0 HW0
  go_wp2_with fail
  refine (CG.out w1 (HPM.out.below HB1.out)).mono ?_
  rintro e w2 ⟨hor, hb2⟩
  have hk2 := kb HK1.out hb2
  have HB2 := Lib.hid (tr3 HB1.out hb2)
  have z0 : w2.cell? ⟨w.heap.size, 0, none⟩ = some (.int .i64 m0) := cel hk2 0
  have z1 : w2.cell? ⟨w.heap.size, 1, none⟩ = some (.slice a0 n0 c0) := cel hk2 1
  have HK2 := Lib.hid hk2
  clear hb2 hk2 CG x0 x1 HK1 HB1
  rcases hor with rfl | ⟨rfl, hsm⟩
  · go_wp2_with fail
    go_ret
    exact ⟨rfl, HB2.out⟩
  · have HSM := Lib.hid hsm
    clear hsm
    go_wp2_with fail
    refine (CO.out w2 (HPM.out.below HB2.out) HSM.out).mono ?_
    rintro e w3 ⟨ov, rows, rfl, hop, hb3⟩
    have hpm3 := hop.pm
    obtain ⟨oa, oc, rfl, _⟩ := hpm3.form
    have HB3 := Lib.hid (tr3 HB2.out hb3)
    have HK3 := Lib.hid (kb HK2.out hb3)
    have C3 := Lib.hid (CT.out oa L0.length oc w3 hpm3 (HN.out.below HB3.out) (HM.out.below HB3.out))
    clear hop hb3 hpm3 CO CT z0 z1 HK2 HB2
    go_wp2_with fail
    refine C3.out.mono ?_
    rintro e w4 ⟨rfl, hb4⟩
    have HB4 := Lib.hid (tr3 HB3.out hb4)
    have hk4 := kb HK3.out hb4
    have HK4 := Lib.hid hk4
    have x0 : w4.cell? ⟨w.heap.size, 0, none⟩ = some (.int .i64 m0) := cel hk4 0
    have x1 : w4.cell? ⟨w.heap.size, 1, none⟩ = some (.slice a0 n0 c0) := cel hk4 1
    have C4 := Lib.hid (CR.out w4 (HPM.out.below HB4.out))
    clear hb4 hk4 C3 HK3 HB3 CR
    go_wp2_with fail
    refine C4.out.mono ?_
    rintro e w5 ⟨rfl, hb5⟩
    have HB5 := Lib.hid (tr3 HB4.out hb5)
    have HK5 := Lib.hid (kb HK4.out hb5)
    have CD := read_v w5 T (HN.out.below HB5.out) (HM.out.below HB5.out) (by omega)
    clear hb5 C4 x0 x1 HK4 HB4
    by_cases he : ec = 0
    · subst he
      rw [HRD.out rfl] at CD
      replace CD := Lib.hid CD
      clear HRD
      go_wp2_with fail
      refine CD.out.mono ?_
      rintro e w6 ⟨x, rfl, ⟨v, rfl, hpm⟩, hb6⟩
      dsimp only at hpm ⊢
      obtain ⟨va, vc, rfl, _⟩ := hpm.form
      obtain ⟨W6, hW6⟩ : ∃ W6, w6.alloc (.cells #[.int .i64 m0, .slice va L0.length vc] 24) = W6 := ⟨_, rfl⟩
      have k6 : W6.heap[w6.heap.size]? = some (.cells #[.int .i64 m0, .slice va L0.length vc] 24 (0, 0)) := by rw [← hW6]; exact heap_new w6 _ _
      have b6 : Below w6.heap.size w6 W6 := by rw [← hW6]; exact (Below.refl _ _).alloc (Nat.le_refl _) _
      have HB6 := Lib.hid (tr3 HB5.out (tr3 hb6 b6))
      have hk6 := kb HK5.out (tr3 hb6 b6)
      have C6 := pr.same_v m0 a0 va n0 L0.length c0 vc L0 W6 (HPM.out.below HB6.out) (hpm.below b6)
      have x0 : W6.cell? ⟨w.heap.size, 0, none⟩ = some (.int .i64 m0) := cel hk6 0
      have x1 : W6.cell? ⟨w.heap.size, 1, none⟩ = some (.slice a0 n0 c0) := cel hk6 1
      have HBW := Lib.hid (fun (w' : World) (hb : Below W6.heap.size W6 w') => tr3 HB6.out hb)
      rw [← hW6] at C6 x0 x1 HBW
      replace C6 := Lib.hid C6
      clear hb6 k6 b6 hW6 hpm hk6 CD HB6 HK5
      go_wp2_with (go_at_call 10; (refine C6.out.mono ?_); rintro e w7 ⟨rfl, hb7⟩)
      go_ret
      exact ⟨rfl, HBW.out _ hb7⟩
    · have hcb : ((ec : Int) != 0) = true := by rw [bne, beq_eq_false_iff_ne.2 he]; rfl
      replace CD := Lib.hid CD
      clear HRD
      go_wp2_with fail
      refine CD.out.mono ?_
      rintro e w6 ⟨x, rfl, ⟨v, rfl, hpm⟩, hb6⟩
      have HB6 := Lib.hid (tr3 HB5.out hb6)
      obtain ⟨va, vc, rfl, _⟩ := hpm.form
      clear hpm hb6 CD HB5 HK5
      go_wp2_with fail
      go_ret
      exact ⟨rfl, HB6.out.alloc HB6.out.size _⟩
end Go.Proofs.YtgkfnplgldigbaaGreatDoor.asmTexts
