/- An instruction in writing (layer 6): the program's, and the document's. -/
import Derived.Test.YtgkfnplgldigbaaDoorAsP
import Derived.Test.YtgkfnplgldigbaaDoorInC
import Derived.Test.YtgkfnplgldigbaaDoorWdD
import Derived.Test.YtgkfnplgldigbaaDoorWdB
import Derived.Test.YtgkfnplgldigbaaDoorWdJ
import Derived.Test.YtgkfnplgldigbaaDoorApp1
namespace Go.Proofs.YtgkfnplgldigbaaDoor.asm
open Go.ChangeShapes Go.WideShapes Go.ChangeAt Go.RowKit
open Go.Proofs.YtgkfnplgldigbaaDoor.st Go.Proofs.YtgkfnplgldigbaaDoor.wd
open Go.Proofs.YtgkfnplgldigbaaDoor.ins (three three_cell)
set_option linter.unusedVariables false
set_option linter.unusedSimpArgs false
theorem or_fresh {w : World} {g B : Nat} {x : List UInt8} (h : w.heap[g]? = some (.cells #[.string ⟨x.toArray⟩] 9 (0, 0))) (hB : B ≤ g) : OR 1 enS w B 9 (.slice (some ⟨g, 0, none⟩) 1 1) [x] :=
  ⟨by simp [flat, enS], .inr ⟨g, 1, _, rfl, hB, h, Nat.le_refl _, by simp [maxLen], by simp, by simp [flat, enS]⟩⟩
theorem prt_take (op A B C : Int) (k : Nat) (hk : k < (ins.frmI op).length) : (prt (op, A, B, C)).take (k + 1 + 1) = (prt (op, A, B, C)).take (k + 1) ++ [Lib.itoa ((three A B C).getD k 0)] := by
  have hl := (ins.frmI_ok op).1
  rw [List.take_add_one (i := k + 1)]
  congr 1
  unfold prt
  dsimp only
  rw [List.getElem?_cons_succ, List.getElem?_map, List.getElem?_take, if_pos hk, List.getD_eq_getElem?_getD, List.getElem?_eq_getElem (by simp [ins.three]; omega)]
  simp
theorem prt_len (x : I4) : (prt x).length = (ins.frmI x.1).length + 1 := by
  have hl := (ins.frmI_ok x.1).1
  unfold prt
  simp [ins.three]
  omega
theorem prt_short (x : I4) (h : chk x = 0) (hA : I64 x.2.1) (hB : I64 x.2.2.1) (hC : I64 x.2.2.2) : ∀ y ∈ prt x, y.length ≤ 20 := by
  intro y hy
  obtain ⟨h0, h1⟩ := chk_op h
  rcases List.mem_cons.1 hy with rfl | hy
  · exact (nm_plain x.1.toNat (by omega)).2.1
  · obtain ⟨v, hv, rfl⟩ := List.mem_map.1 hy
    have := List.mem_of_mem_take hv
    simp only [ins.three, List.mem_cons, List.not_mem_nil, or_false] at this
    rcases this with rfl | rfl | rfl
    · exact itoa_len hA
    · exact itoa_len hB
    · exact itoa_len hC
theorem tail_len (m : Nat) (sep : UInt8) : ∀ L : List (List UInt8), (∀ l ∈ L, l.length ≤ m) → (Lib.joinTail [sep] L).length ≤ (m + 1) * L.length := by
  intro L
  induction L with
  | nil => intro _; simp [Lib.joinTail]
  | cons x r ih =>
    intro h
    have h1 := h x (by simp)
    have h2 := ih (fun l hl => h l (List.mem_cons_of_mem _ hl))
    have e : Lib.joinTail [sep] (x :: r) = sep :: (x ++ Lib.joinTail [sep] r) := by simp [Lib.joinTail]
    rw [e, List.length_cons, List.length_append, List.length_cons, Nat.mul_add]
    omega
theorem join_len (m : Nat) (sep : UInt8) (L : List (List UInt8)) (h : ∀ l ∈ L, l.length ≤ m) : (Lib.join L [sep]).length ≤ (m + 1) * L.length := by
  cases L with
  | nil => simp [Lib.join_nil]
  | cons x r =>
    have h1 := h x (by simp)
    have h2 := tail_len m sep r (fun l hl => h l (List.mem_cons_of_mem _ hl))
    rw [Lib.join_cons, List.length_append, List.length_cons, Nat.mul_add]
    omega
theorem pre_len (x : I4) (h : chk x = 0) (hA : I64 x.2.1) (hB : I64 x.2.2.1) (hC : I64 x.2.2.2) (k : Nat) : (Lib.join ((prt x).take k) [32]).length ≤ 84 := by
  have h1 := join_len 20 32 ((prt x).take k) (fun y hy => prt_short x h hA hB hC y (List.mem_of_mem_take hy))
  have h2 := prt_len x
  have h3 := (ins.frmI_ok x.1).1
  rw [List.length_take] at h1
  omega
set_option maxRecDepth 20000 in
set_option maxHeartbeats 1600000 in
theorem line_v (op A B C : Int) (w : World) (hA : I64 A) (hB : I64 B) (hC : I64 C) (hN : ins.NM w) (hM : wd.NM w) : Calls Tryd.prog 10 #[.agg #[.int .i64 op, .int .i64 A, .int .i64 B, .int .i64 C]] w fun e w' => e = .returned (.string ⟨(lineV (op, A, B, C)).toArray⟩) ∧ Below w.heap.size w w' := by
  obtain ⟨c, hc⟩ : ∃ c, ins.chkI op A B C = c := ⟨_, rfl⟩
  have CK := Lib.hid (fun w => ins.pchk_of op A B C c w hc)
  by_cases h0 : c = 0
  · subst h0
    have hck : chk (op, A, B, C) = 0 := hc
    have hpl := pre_len (op, A, B, C) hck hA hB hC
    rw [show lineV (op, A, B, C) = Lib.join (prt (op, A, B, C)) [32] from if_pos hck]
    obtain ⟨ho0, ho1⟩ := chk_op hck
    obtain ⟨q, rfl⟩ : ∃ q : Nat, op = q := ⟨op.toNat, by simp at ho0; omega⟩
    have hq : q < 26 := by simp at ho1; omega
    have CN := Lib.hid (fun w hN => ins.name_v q hq w hN)
    have CF := Lib.hid (ins.pf_of (q : Int))
    have hfl := (ins.frmI_ok (q : Int)).1
    have hpt := prt_take (q : Int) A B C
    have hpln := prt_len ((q : Int), A, B, C)
    have hp1 : (prt ((q : Int), A, B, C)).take (0 + 1) = [ins.nmL.getD q []] := by
      unfold prt nml
      simp
    dsimp only at hpln
    obtain ⟨f, hf⟩ : ∃ f, ins.frmI (q : Int) = f := ⟨_, rfl⟩
    rw [hf] at hfl hpt hpln CF
    have hfs := str_size f
    obtain ⟨m, hm⟩ : ∃ m, f.length = m := ⟨_, rfl⟩
    rw [hm] at hfl hpt hpln hfs
    obtain ⟨P, hP⟩ : ∃ P, prt ((q : Int), A, B, C) = P := ⟨_, rfl⟩
    rw [hP] at hpl hpt hpln hp1 ⊢
    obtain ⟨nmv, hnm⟩ : ∃ s, ins.nmL.getD q [] = s := ⟨_, rfl⟩
    have hnmq : ins.nm q = ⟨nmv.toArray⟩ := by unfold ins.nm; rw [hnm]
    rw [hnm] at hp1
    rw [hnmq] at CN
    have HPT := Lib.hid hpt
    have HPL := Lib.hid hpl
    have HLN := Lib.hid hpln
    have HP1 := Lib.hid hp1
    have HN := Lib.hid hN
    have HM := Lib.hid hM
    have HI := Lib.hid (show ∀ k, k < 3 → I64 ((three A B C).getD k 0) by
      intro k hk
      match k, hk with
      | 0, _ => exact hA
      | 1, _ => exact hB
      | 2, _ => exact hC)
    obtain ⟨W1, hW1⟩ : ∃ W1, w.alloc (.cells #[.int .i64 (q : Int), .int .i64 A, .int .i64 B, .int .i64 C] 23) = W1 := ⟨_, rfl⟩
    have k1 : W1.heap[w.heap.size]? = some (.cells #[.int .i64 (q : Int), .int .i64 A, .int .i64 B, .int .i64 C] 23 (0, 0)) := by rw [← hW1]; exact heap_new w _ _
    have b1 : Below w.heap.size w W1 := by rw [← hW1]; exact (Below.refl _ _).alloc (Nat.le_refl _) _
    have HW1 := Lib.hid hW1
    have K1 := Lib.hid k1
    have B1 := Lib.hid b1
    have hm3 : (m : Int) ≤ 3 := by omega
    have hm0 : (0 : Int) ≤ (m : Int) := by omega
    clear hpl hpt hpln hp1 hN hM hf hP hnm hnmq hW1 k1 b1 hc hck ho0 ho1
    go_enter Tryd.func10, Tryd.ntmps10
    go_wp2_with fail
    rw [HW1.out]
    refine (CK.out _).mono ?_
    rintro e w2 ⟨rfl, hb2⟩
    have k2 := kb K1.out hb2
    have B2 := Lib.hid (tr3 B1.out hb2)
    have hlt2 : w.heap.size < w2.heap.size := (Array.getElem?_eq_some_iff.1 k2).1
    have d0 : w2.cell? ⟨w.heap.size, 0, none⟩ = some (.int .i64 (q : Int)) := cel k2 0
    have d1 : w2.cell? ⟨w.heap.size, 1, none⟩ = some (.int .i64 A) := cel k2 1
    have d2 : w2.cell? ⟨w.heap.size, 2, none⟩ = some (.int .i64 B) := cel k2 2
    have d3 : w2.cell? ⟨w.heap.size, 3, none⟩ = some (.int .i64 C) := cel k2 3
    clear hb2 k2 CK HW1 K1 B1
    go_wp2_with fail
    refine (CN.out _ (HN.out.below B2.out)).mono ?_
    rintro e w3 ⟨rfl, rfl⟩
    clear CN
    go_wp2_with fail
    obtain ⟨g, hg⟩ : ∃ g, w2.heap.size = g := ⟨_, rfl⟩
    obtain ⟨W3, hW3⟩ : ∃ W3, w2.alloc (.cells #[.string ⟨nmv.toArray⟩] 9) = W3 := ⟨_, rfl⟩
    have k3 : W3.heap[g]? = some (.cells #[.string ⟨nmv.toArray⟩] 9 (0, 0)) := by rw [← hW3, ← hg]; exact heap_new w2 _ _
    have s3 : W3.heap.size = g + 1 := by rw [← hW3, ← hg]; simp
    have b3 : Below w2.heap.size w2 W3 := by rw [← hW3]; exact (Below.refl _ _).alloc (Nat.le_refl _) _
    obtain ⟨W4, hW4⟩ : ∃ W4, W3.alloc (.cells #[.int .i64 A, .int .i64 B, .int .i64 C] 48) = W4 := ⟨_, rfl⟩
    have k4 : W4.heap[g + 1]? = some (.cells #[.int .i64 A, .int .i64 B, .int .i64 C] 48 (0, 0)) := by rw [← hW4, ← s3]; exact heap_new W3 _ _
    have b4 : Below W3.heap.size W3 W4 := by rw [← hW4]; exact (Below.refl _ _).alloc (Nat.le_refl _) _
    have o4 := or_fresh (B := w.heap.size) (kb k3 b4) (by omega)
    rw [← HP1.out] at o4
    have HB4 := Lib.hid (tr3 (tr3 B2.out b3) b4)
    have HK4 := Lib.hid k4
    have HO4 := Lib.hid o4
    have HW4 := Lib.hid (show (w2.alloc (.cells #[.string ⟨nmv.toArray⟩] 9)).alloc (.cells #[.int .i64 A, .int .i64 B, .int .i64 C] 48) = W4 by rw [hW3, hW4])
    have HWB : Hid (w.heap.size ≤ g) := Lib.hid (by omega)
    have hne4 : Hid ((Value.slice (some ⟨g, 0, none⟩) 1 1).ownBlock ≠ some (g + 1)) := Lib.hid (by simp [Value.ownBlock])
    rw [HW4.out, hg]
    clear hW3 hW4 k3 s3 b3 k4 b4 o4 d0 d1 d2 d3 hlt2 HW4 B2 hg
    refine (CF.out _).mono ?_
    rintro e w5 ⟨rfl, rfl⟩
    clear CF
    go_wp2_with fail
    go_loopw [3, 27] (fun lv iv wr => ∃ k : Nat, iv = .int .i64 (k : Int) ∧ k ≤ m ∧ Hid (OR 1 enS wr w.heap.size 9 lv (P.take (k + 1))) ∧ Hid (lv.ownBlock ≠ some (g + 1)) ∧ Hid (wr.heap[g + 1]? = some (.cells #[.int .i64 A, .int .i64 B, .int .i64 C] 48 (0, 0))) ∧ Hid (Below w.heap.size w wr)) (fun _ iv _ => m - (RowKit.intOf iv).toNat)
    case atStart => exact ⟨0, rfl, by omega, HO4, hne4, HK4, HB4⟩
    case round =>
      clear HO4 hne4 HK4 HB4
      obtain ⟨k, rfl, hk, HO, HNE, HK, HB⟩ := hrel
      have hPl : (P.take (k + 1)).length = k + 1 := by rw [List.length_take, HLN.out]; omega
      obtain ⟨la, lc, rfl⟩ := HO.out.form
      rw [hPl] at HO HNE ⊢
      have HPL1 := Lib.hid hPl
      clear hPl
      by_cases hlt : k < m
      · have hki : (k : Int) < (m : Int) := by omega
        have hkd : decide ((k : Int) < (m : Int)) = true := decide_eq_true hki
        have hcl := three_cell HK.out k (by omega)
        have hvI := HI.out k (by omega)
        have hpk := HPT.out k hlt
        obtain ⟨v, hv⟩ : ∃ v, (three A B C).getD k 0 = v := ⟨_, rfl⟩
        rw [hv] at hcl hvI hpk
        have CO := Lib.hid (fun w hM => wd.of_v v w hvI hM)
        obtain ⟨E, hE⟩ : ∃ E, Lib.itoa v = E := ⟨_, rfl⟩
        rw [hE] at CO hpk
        have HPK := Lib.hid hpk
        clear hv hE hpk hvI
        go_wp2_with fail
        refine (CO.out _ (HM.out.below HB.out)).mono ?_
        rintro e w6 ⟨rfl, hb6⟩
        have hg6 : Below w6.heap.size w6 (w6.alloc (.cells #[.string ⟨E.toArray⟩] 9)) := (Below.refl _ _).alloc (Nat.le_refl _) _
        have HB7 := Lib.hid (tr3 (tr3 HB.out hb6) hg6)
        have HO7 := Lib.hid (HO.out.below (tr3 hb6 hg6))
        have hk7 := kb HK.out (tr3 hb6 hg6)
        have hgl : g + 1 < w6.heap.size := (Array.getElem?_eq_some_iff.1 (kb HK.out hb6)).1
        have hu7 : ∀ j u, (enS E)[j]? = some u → (w6.alloc (.cells #[.string ⟨E.toArray⟩] 9)).cell? ((⟨w6.heap.size, 0, none⟩ : Addr).add j) = some u := one_str w6 E
        have HU7 := Lib.hid hu7
        have HK7 := Lib.hid hk7
        have hab : (P.take (k + 1)).length ≤ 1000000 := by have := HPL1.out; omega
        have hval : (Value.slice la (k + 1) lc) = .slice la (P.take (k + 1)).length lc := by rw [HPL1.out]
        have HVAL := Lib.hid hval
        clear hb6 hg6 hu7 hk7 HO HB HK CO hcl hval
        go_wp2_with ((at_builtin; refine wpList_appR rfl _ _ 42 9 _ 16 rfl Tryd.underlying42 infoS rfl (by decide) recS w.heap.size (.slice la (k + 1) lc) (P.take (k + 1)) rfl ⟨w6.heap.size, 0, none⟩ 1 rfl E HO7.out HU7.out hab HB7.out.size ?_))
        intro v8 w8 ho8 hg8 hor8
        have hb8 : Below w.heap.size w w8 := HB7.out.grown hg8 HB7.out.size (fun g e => (HO7.out.lt g e).1)
        have hk8 : w8.heap[g + 1]? = some (.cells #[.int .i64 A, .int .i64 B, .int .i64 C] 48 (0, 0)) := (hg8.block (g + 1) (by simp; omega) (fun e => HNE.out e.symm)).trans HK7.out
        have hn8 : v8.ownBlock ≠ some (g + 1) := by
          rcases hor8 with h | h
          · rw [h]; exact HNE.out
          · rw [h]
            intro e
            have := Option.some.inj e
            simp at this
            omega
        rw [← HPK.out] at ho8
        have HO8 := Lib.hid ho8
        have HB8 := Lib.hid hb8
        have HK8 := Lib.hid hk8
        have HN8 := Lib.hid hn8
        clear ho8 hg8 hor8 hb8 hk8 hn8 HB7 HO7 HU7 HK7 HNE
        go_wp2_with fail
        go_roundw
        case rel => exact ⟨k + 1, by go_num, by omega, HO8, HN8, HK8, HB8⟩
        case measure => first | (simp [RowKit.intOf]; done) | (simp [RowKit.intOf]; omega)
      · obtain rfl : k = m := by omega
        have hki : ¬ (k : Int) < (k : Int) := by omega
        have hkd : decide ((k : Int) < (k : Int)) = false := decide_eq_false hki
        have hful : P.take (k + 1) = P := List.take_of_length_le (by rw [HLN.out]; exact Nat.le_refl _)
        have hlP : P.length = k + 1 := HLN.out
        rw [hful] at HO
        have hjl := HPL.out (k + 1)
        rw [hful] at hjl
        have CJ := Lib.hid (wjoin_v (.slice la (k + 1) lc) P wr (OR.rv recS HO.out) (by omega) (by omega))
        clear hful HPL1 hjl HO HNE
        go_wp2_with fail
        refine CJ.out.mono ?_
        rintro e w6 ⟨rfl, hb6⟩
        have HB6 := Lib.hid (tr3 HB.out hb6)
        clear hb6 CJ
        go_wp2_with fail
        go_ret
        exact ⟨rfl, HB6.out⟩
  · have hck : ¬ chk (op, A, B, C) = 0 := by rw [show chk (op, A, B, C) = c from hc]; exact h0
    rw [show lineV (op, A, B, C) = [] from if_neg hck]
    have hcb : ((c : Int) != 0) = true := by rw [bne, beq_eq_false_iff_ne.2 h0]; rfl
    clear hN hM hc hck
    go_enter Tryd.func10, Tryd.ntmps10
    go_wp2_with fail
    refine (CK.out _).mono ?_
    rintro e w1 ⟨rfl, hb1⟩
    have hB1 : Below w.heap.size w w1 := tr3 (by go_grown) hb1
    clear hb1
    go_wp2_with fail
    go_ret
    exact ⟨rfl, hB1⟩
end Go.Proofs.YtgkfnplgldigbaaDoor.asm
