/- The instruction of a line, or what is wrong with it: the document's Parse (layer 6). -/
import Derived.Test.YtgkfnplgldigbaaDoorAsC
import Derived.Test.YtgkfnplgldigbaaDoorWdC
namespace Go.Proofs.YtgkfnplgldigbaaDoor.asm
open Go.ChangeShapes Go.WideShapes Go.ChangeAt Go.RowKit
open Go.Proofs.YtgkfnplgldigbaaDoor.st Go.Proofs.YtgkfnplgldigbaaDoor.wd
open Go.Proofs.YtgkfnplgldigbaaDoor.ins (three three_cell res_ins st4 st4_blk st4_below)
set_option linter.unusedVariables false
set_option linter.unusedSimpArgs false
/-- what the search through the names has found so far. -/
def opR (o : Option Nat) (i : Nat) : Int := match o with
  | none => -1
  | some k => if k < i then (k : Int) else -1
theorem opR_none (i : Nat) : opR none i = -1 := rfl
theorem opR_next (k i : Nat) : opR (some k) (i + 1) = if i = k then (k : Int) else opR (some k) i := by
  unfold opR
  dsimp only
  by_cases e : i = k
  · rw [if_pos e, if_pos (by omega)]
  · rw [if_neg e]
    by_cases h : k < i
    · rw [if_pos h, if_pos (by omega)]
    · rw [if_neg h, if_neg (by omega)]
/-- of the names, which one it is. -/
theorem op_eq (s : List UInt8) (j : Nat) (hj : j < 26) : (ins.nmL.getD j [] == s) = decide (opOf s = some j) := by
  cases h : opOf s with
  | none =>
    rw [op_none h j hj]
    simp
  | some k =>
    rw [op_all h j hj]
    by_cases e : j = k
    · subst e; simp
    · have : ¬ k = j := fun h => e h.symm
      simp [e, this]
set_option maxRecDepth 20000 in
set_option maxHeartbeats 1600000 in
theorem rparse_v (l : List UInt8) (w : World) (hl : l.length ≤ 100000) : Calls Tryd.prog 9 #[.string ⟨l.toArray⟩] w fun e w' => e = .returned (PV (parV l)) ∧ Below w.heap.size w w' := by
  have hs := str_size l
  by_cases h400 : 400 < l.length
  · rw [show parV l = (zero4, 9) from if_pos h400]
    have h4i : (400 : Int) < (l.length : Int) := by omega
    clear hl
    go_enter Tryd.func9, Tryd.ntmps9
    go_wp2_with fail
    exact bodyPost_ret (res_ins Tryd.results9 rfl rfl (kb (heap_new w _ _) ((Below.refl _ _).alloc (Nat.le_refl _) _))) rfl ⟨rfl, by go_grown⟩
  · rw [show parV l = parP (fldV l) from if_neg h400]
    have h4i : ¬ (400 : Int) < (l.length : Int) := by omega
    have CF := Lib.hid (fun w => rfields_v l w hl)
    have hfl := fld_len l
    have hfp := fld_part l
    obtain ⟨P, hP⟩ : ∃ P, fldV l = P := ⟨_, rfl⟩
    rw [hP] at CF hfl hfp ⊢
    obtain ⟨V, hV⟩ : ∃ V, PV (parP P) = V := ⟨_, rfl⟩
    rw [hV]
    cases P with
    | nil =>
      have hV' : PV (zero4, 7) = V := hV
      subst hV'
      clear hV
      obtain ⟨W0, hW0⟩ : ∃ W0, w.alloc (.cells #[.int .i64 0, .int .i64 0, .int .i64 0, .int .i64 0] 23) = W0 := ⟨_, rfl⟩
      have k0 : W0.heap[w.heap.size]? = some (.cells #[.int .i64 0, .int .i64 0, .int .i64 0, .int .i64 0] 23 (0, 0)) := by rw [← hW0]; exact heap_new w _ _
      have s0 : W0.heap.size = w.heap.size + 1 := by rw [← hW0]; simp
      have b0 : Below w.heap.size w W0 := by rw [← hW0]; exact (Below.refl _ _).alloc (Nat.le_refl _) _
      obtain ⟨W1, hW1⟩ : ∃ W1, W0.alloc (.cells #[.int .i64 0, .int .i64 0, .int .i64 0, .int .i64 0] 23) = W1 := ⟨_, rfl⟩
      have m1 : W1.heap[w.heap.size + 1]? = some (.cells #[.int .i64 0, .int .i64 0, .int .i64 0, .int .i64 0] 23 (0, 0)) := by rw [← hW1, ← s0]; exact heap_new W0 _ _
      have b01 : Below W0.heap.size W0 W1 := by rw [← hW1]; exact (Below.refl _ _).alloc (Nat.le_refl _) _
      have K1 := Lib.hid (kb k0 b01)
      have M1 := Lib.hid m1
      have B1 := Lib.hid (tr3 b0 b01)
      have HW1 := Lib.hid (show (w.alloc (.cells #[.int .i64 0, .int .i64 0, .int .i64 0, .int .i64 0] 23)).alloc (.cells #[.int .i64 0, .int .i64 0, .int .i64 0, .int .i64 0] 23) = W1 by rw [hW0, hW1])
      clear hW0 k0 s0 b0 hW1 m1 b01 hl h400 hP hfl hfp

      go_enter Tryd.func9, Tryd.ntmps9
      go_wp2_with fail
      rw [HW1.out]
      refine (CF.out _).mono ?_
      rintro e w2 ⟨v, rfl, hsv, hb2⟩
      have k2 := kb K1.out hb2
      have m2 := kb M1.out hb2
      have hB2 := tr3 B1.out hb2
      have hlt2 : w.heap.size + 1 < w2.heap.size := (Array.getElem?_eq_some_iff.1 m2).1
      have K2 := Lib.hid k2
      have M2 := Lib.hid m2
      have B2 := Lib.hid hB2
      obtain ⟨a, cp, rfl, hcp1, hcp2⟩ := RV.form hsv
      have hz : ([] : List (List UInt8)).length = 0 := rfl
      rw [hz]
      clear hsv hb2 CF HW1 K1 M1 B1 hB2
      have c0 : w2.cell? ⟨w.heap.size, 0, none⟩ = some (.int .i64 0) := cel k2 0
      have c1 : w2.cell? ⟨w.heap.size, 1, none⟩ = some (.int .i64 0) := cel k2 1
      have c2 : w2.cell? ⟨w.heap.size, 2, none⟩ = some (.int .i64 0) := cel k2 2
      have c3 : w2.cell? ⟨w.heap.size, 3, none⟩ = some (.int .i64 0) := cel k2 3
      have cf0 : w2.frozen? ⟨w.heap.size, 0, none⟩ = false := frz k2 0
      have cf1 : w2.frozen? ⟨w.heap.size, 1, none⟩ = false := frz k2 1
      have cf2 : w2.frozen? ⟨w.heap.size, 2, none⟩ = false := frz k2 2
      have cf3 : w2.frozen? ⟨w.heap.size, 3, none⟩ = false := frz k2 3
      have n0 : w2.cell? ⟨w.heap.size + 1, 0, none⟩ = some (.int .i64 0) := cel m2 0
      have n1 : w2.cell? ⟨w.heap.size + 1, 1, none⟩ = some (.int .i64 0) := cel m2 1
      have n2 : w2.cell? ⟨w.heap.size + 1, 2, none⟩ = some (.int .i64 0) := cel m2 2
      have n3 : w2.cell? ⟨w.heap.size + 1, 3, none⟩ = some (.int .i64 0) := cel m2 3
      go_wp2_with fail
      exact bodyPost_ret (res_ins Tryd.results9 rfl rfl (st4_blk (a' := .int .i64 0) (b' := .int .i64 0) (c' := .int .i64 0) (d' := .int .i64 0) K2.out)) rfl ⟨rfl, st4_below B2.out (Nat.le_refl _) _ _ _ _⟩
    | cons s os =>
      obtain ⟨n, hn⟩ : ∃ n, os.length = n := ⟨_, rfl⟩
      obtain ⟨n1, hn1⟩ : ∃ n1, n + 1 = n1 := ⟨_, rfl⟩
      have hfl1 : n1 ≤ 100001 := by rw [List.length_cons, hn] at hfl; omega
      have HPT := Lib.hid (fun i (hi : i < os.length) => show (os.getD i []).length ≤ 1000000 by
        have := hfp (os.getD i []) (List.mem_cons_of_mem _ (by rw [List.getD_eq_getElem?_getD, List.getElem?_eq_getElem hi]; exact List.getElem_mem hi))
        omega)
      have hN1 := Lib.hid hn1
      obtain ⟨W0, hW0⟩ : ∃ W0, w.alloc (.cells #[.int .i64 0, .int .i64 0, .int .i64 0, .int .i64 0] 23) = W0 := ⟨_, rfl⟩
      have k0 : W0.heap[w.heap.size]? = some (.cells #[.int .i64 0, .int .i64 0, .int .i64 0, .int .i64 0] 23 (0, 0)) := by rw [← hW0]; exact heap_new w _ _
      have s0 : W0.heap.size = w.heap.size + 1 := by rw [← hW0]; simp
      have b0 : Below w.heap.size w W0 := by rw [← hW0]; exact (Below.refl _ _).alloc (Nat.le_refl _) _
      obtain ⟨W1, hW1⟩ : ∃ W1, W0.alloc (.cells #[.int .i64 0, .int .i64 0, .int .i64 0, .int .i64 0] 23) = W1 := ⟨_, rfl⟩
      have m1 : W1.heap[w.heap.size + 1]? = some (.cells #[.int .i64 0, .int .i64 0, .int .i64 0, .int .i64 0] 23 (0, 0)) := by rw [← hW1, ← s0]; exact heap_new W0 _ _
      have b01 : Below W0.heap.size W0 W1 := by rw [← hW1]; exact (Below.refl _ _).alloc (Nat.le_refl _) _
      have K1 := Lib.hid (kb k0 b01)
      have M1 := Lib.hid m1
      have B1 := Lib.hid (tr3 b0 b01)
      have HW1 := Lib.hid (show (w.alloc (.cells #[.int .i64 0, .int .i64 0, .int .i64 0, .int .i64 0] 23)).alloc (.cells #[.int .i64 0, .int .i64 0, .int .i64 0, .int .i64 0] 23) = W1 by rw [hW0, hW1])
      clear hW0 k0 s0 b0 hW1 m1 b01 hl h400 hP hfl hfp

      go_enter Tryd.func9, Tryd.ntmps9
      go_wp2_with fail
      rw [HW1.out]
      refine (CF.out _).mono ?_
      rintro e w2 ⟨v, rfl, hsv, hb2⟩
      have k2 := kb K1.out hb2
      have m2 := kb M1.out hb2
      have hB2 := tr3 B1.out hb2
      have hlt2 : w.heap.size + 1 < w2.heap.size := (Array.getElem?_eq_some_iff.1 m2).1
      have K2 := Lib.hid k2
      have M2 := Lib.hid m2
      have B2 := Lib.hid hB2
      obtain ⟨a, cp, rfl, hcp1, hcp2⟩ := RV.form hsv
      have hn1 : (s :: os).length = n1 := by rw [List.length_cons, hn]; exact hN1.out
      rw [hn1] at hsv hcp1 ⊢
      unfold maxLen at hcp2
      obtain ⟨b, o, rfl, hblt, hc0⟩ := SV.cell hsv 0 (by omega)
      have hn10 : ((n1 : Int) == 0) = false := by rw [beq_eq_false_iff_ne]; omega
      have hn1i : ¬ (n1 : Int) = 0 := by omega
      have hn1p : (0 : Int) < (n1 : Int) := by omega
      have CNs := Lib.hid (ins.names_v w2)
      have hSV2 := hsv
      clear hc0 k2 m2 hB2 hb2 CF HW1 K1 M1 B1 hsv
      go_wp2_with fail
      refine CNs.out.mono ?_
      rintro e w3 ⟨rfl, hnm3, hb3⟩
      have hsv3 := hSV2.below hb3
      have K3 := Lib.hid (kb K2.out hb3)
      have M3 := Lib.hid (kb M2.out hb3)
      have B3 := Lib.hid (tr3 B2.out hb3)
      have HSV := Lib.hid hsv3
      have HNM := Lib.hid hnm3
      obtain ⟨q, hq⟩ : ∃ q, w2.heap.size = q := ⟨_, rfl⟩
      rw [hq] at HNM ⊢
      clear hb3 hnm3 K2 M2 B2 hSV2 hsv3 CNs hq
      go_wp2_with fail
      go_loopw [6, 8] (fun ov iv wr => ∃ i nq : Nat, ov = .int .i64 (opR (opOf s) i) ∧ iv = .int .i64 (i : Int) ∧ i ≤ 26 ∧ Hid (wr = w3.drewN nq)) (fun _ iv _ => 26 - (RowKit.intOf iv).toNat)
      case atStart => exact ⟨0, 0, by cases opOf s <;> simp [opR], rfl, by omega, Lib.hid rfl⟩
      case round =>
        obtain ⟨i, nq0, rfl, rfl, hi, HWR⟩ := hrel
        have hb4 : Below w3.heap.size w3 wr := by rw [HWR.out]; exact below_drewN (Below.refl _ _) nq0
        by_cases hi26 : i < 26
        · have hii : (i : Int) < 26 := by omega
          have hid' : decide ((i : Int) < 26) = true := decide_eq_true hii
          have hcn := kc (HNM.out i hi26) hb4
          obtain ⟨b', o', e', hbl, hcs⟩ := SV.cell (HSV.out.below hb4) 0 (by omega)
          simp only [Option.some.injEq, Addr.mk.injEq] at e'
          obtain ⟨rfl, rfl, _⟩ := e'
          rw [Nat.add_zero, List.getD_cons_zero] at hcs
          have hop := op_eq s i hi26
          unfold ins.nm at hcn
          obtain ⟨nmi, hnmi⟩ : ∃ x, ins.nmL.getD i [] = x := ⟨_, rfl⟩
          rw [hnmi] at hcn hop
          have hnx : ∀ d : Nat, wr.drewN d = w3.drewN (nq0 + d) := fun d => by rw [HWR.out, World.drewN_drewN]
          have HNX := Lib.hid hnx
          by_cases hjk : opOf s = some i
          · rw [decide_eq_true hjk] at hop
            have hr : opR (opOf s) (i + 1) = (i : Int) := by rw [hjk, opR_next, if_pos rfl]
            have HR := Lib.hid hr
            obtain ⟨ro, hro⟩ : ∃ r, opR (opOf s) i = r := ⟨_, rfl⟩
            rw [hro]
            clear hjk hr hro hb4 hnmi hnx
            go_wp2_with fail
            go_quiet (fail)
            go_wp2_with fail
            go_roundw
            case rel => exact ⟨i + 1, nq0 + nq, by rw [HR.out], by go_num, by omega, Lib.hid (HNX.out nq)⟩
            case measure => first | (simp [RowKit.intOf]; done) | (simp [RowKit.intOf]; omega)
          · rw [decide_eq_false hjk] at hop
            have hr : opR (opOf s) (i + 1) = opR (opOf s) i := by
              cases h : opOf s with
              | none => rfl
              | some k => rw [opR_next, if_neg (fun e => hjk (by rw [h, e]))]
            have HR := Lib.hid hr
            obtain ⟨ro, hro⟩ : ∃ r, opR (opOf s) i = r := ⟨_, rfl⟩
            rw [hro] at HR ⊢
            clear hjk hr hro hb4 hnmi hnx
            go_wp2_with fail
            go_quiet (fail)
            go_wp2_with fail
            go_roundw
            case rel => exact ⟨i + 1, nq0 + nq, by rw [HR.out], by go_num, by omega, Lib.hid (HNX.out nq)⟩
            case measure => first | (simp [RowKit.intOf]; done) | (simp [RowKit.intOf]; omega)
        · obtain rfl : i = 26 := by omega
          have k4 := kb K3.out hb4
          have m4 := kb M3.out hb4
          have K4 := Lib.hid k4
          have M4 := Lib.hid m4
          have B4 := Lib.hid (tr3 B3.out hb4)
          have HSV4 := Lib.hid (HSV.out.below hb4)
          clear hb4 HNM HSV K3 M3 B3 HWR
          cases hop0 : opOf s with
          | none =>
            have hV' : PV (zero4, 70) = V := by rw [← hV, parP, hop0]
            subst hV'
            clear hV
            rw [opR_none]
            have c0 : wr.cell? ⟨w.heap.size, 0, none⟩ = some (.int .i64 0) := cel k4 0
            have c1 : wr.cell? ⟨w.heap.size, 1, none⟩ = some (.int .i64 0) := cel k4 1
            have c2 : wr.cell? ⟨w.heap.size, 2, none⟩ = some (.int .i64 0) := cel k4 2
            have c3 : wr.cell? ⟨w.heap.size, 3, none⟩ = some (.int .i64 0) := cel k4 3
            have cf0 : wr.frozen? ⟨w.heap.size, 0, none⟩ = false := frz k4 0
            have cf1 : wr.frozen? ⟨w.heap.size, 1, none⟩ = false := frz k4 1
            have cf2 : wr.frozen? ⟨w.heap.size, 2, none⟩ = false := frz k4 2
            have cf3 : wr.frozen? ⟨w.heap.size, 3, none⟩ = false := frz k4 3
            have n0 : wr.cell? ⟨w.heap.size + 1, 0, none⟩ = some (.int .i64 0) := cel m4 0
            have n1 : wr.cell? ⟨w.heap.size + 1, 1, none⟩ = some (.int .i64 0) := cel m4 1
            have n2 : wr.cell? ⟨w.heap.size + 1, 2, none⟩ = some (.int .i64 0) := cel m4 2
            have n3 : wr.cell? ⟨w.heap.size + 1, 3, none⟩ = some (.int .i64 0) := cel m4 3
            go_wp2_with fail
            exact bodyPost_ret (res_ins Tryd.results9 rfl rfl (st4_blk (a' := .int .i64 0) (b' := .int .i64 0) (c' := .int .i64 0) (d' := .int .i64 0) K4.out)) rfl ⟨rfl, st4_below B4.out (Nat.le_refl _) _ _ _ _⟩
          | some op =>
            obtain ⟨hop26, _⟩ := op_some hop0
            have hV1 : PV (parE op os) = V := by rw [← hV, parP, hop0]; rfl
            have hro : opR (some op) 26 = (op : Int) := by unfold opR; exact if_pos hop26
            rw [hro]
            clear hV hop0 hro
            have hfi : ins.frmI (op : Int) = ins.frm op := by unfold ins.frmI; rw [if_pos (by omega)]; rfl
            have hfl3 := (ins.frmI_ok (op : Int)).1
            have CFo := ins.rf_of (op : Int)
            rw [hfi] at hfl3 CFo
            have HCk := Lib.hid (fun A B C c w h => ins.rchk_of (op : Int) A B C c w h)
            obtain ⟨f, hf⟩ : ∃ f, ins.frm op = f := ⟨_, rfl⟩
            unfold parE at hV1
            rw [hf] at CFo hfl3 hV1
            have hfs := str_size f
            obtain ⟨m, hm⟩ : ∃ m, f.length = m := ⟨_, rfl⟩
            rw [hm] at hfs hfl3 hV1
            rw [hn] at hV1
            have CFm := Lib.hid CFo
            have hopi : ¬ (op : Int) < 0 := by omega
            clear CFo hf hfi
            go_wp2_with fail
            refine (CFm.out _).mono ?_
            rintro e w5 ⟨rfl, hb5⟩
            have k5 := kb K4.out hb5
            have m5 := kb M4.out hb5
            have K5 := Lib.hid k5
            have M5 := Lib.hid m5
            have B5 := Lib.hid (tr3 B4.out hb5)
            have HSV5 := Lib.hid (HSV4.out.below hb5)
            have hlt5 : w.heap.size + 1 < w5.heap.size := (Array.getElem?_eq_some_iff.1 m5).1
            clear hb5 K4 M4 B4 HSV4 CFm
            by_cases h1 : n < m
            · rw [if_pos h1] at hV1
              subst hV1
              have h1i : (n1 : Int) - 1 < (m : Int) := by omega
              have c0 : w5.cell? ⟨w.heap.size, 0, none⟩ = some (.int .i64 0) := cel k5 0
              have c1 : w5.cell? ⟨w.heap.size, 1, none⟩ = some (.int .i64 0) := cel k5 1
              have c2 : w5.cell? ⟨w.heap.size, 2, none⟩ = some (.int .i64 0) := cel k5 2
              have c3 : w5.cell? ⟨w.heap.size, 3, none⟩ = some (.int .i64 0) := cel k5 3
              have cf0 : w5.frozen? ⟨w.heap.size, 0, none⟩ = false := frz k5 0
              have cf1 : w5.frozen? ⟨w.heap.size, 1, none⟩ = false := frz k5 1
              have cf2 : w5.frozen? ⟨w.heap.size, 2, none⟩ = false := frz k5 2
              have cf3 : w5.frozen? ⟨w.heap.size, 3, none⟩ = false := frz k5 3
              have n0 : w5.cell? ⟨w.heap.size + 1, 0, none⟩ = some (.int .i64 0) := cel m5 0
              have n1 : w5.cell? ⟨w.heap.size + 1, 1, none⟩ = some (.int .i64 0) := cel m5 1
              have n2 : w5.cell? ⟨w.heap.size + 1, 2, none⟩ = some (.int .i64 0) := cel m5 2
              have n3 : w5.cell? ⟨w.heap.size + 1, 3, none⟩ = some (.int .i64 0) := cel m5 3
              go_wp2_with fail
              exact bodyPost_ret (res_ins Tryd.results9 rfl rfl (st4_blk (a' := .int .i64 0) (b' := .int .i64 0) (c' := .int .i64 0) (d' := .int .i64 0) K5.out)) rfl ⟨rfl, st4_below B5.out (Nat.le_refl _) _ _ _ _⟩
            · rw [if_neg h1] at hV1
              have h1i : ¬ (n1 : Int) - 1 < (m : Int) := by omega
              by_cases h2 : m < n
              · rw [if_pos h2] at hV1
                subst hV1
                have h2i : (m : Int) < (n1 : Int) - 1 := by omega
                have c0 : w5.cell? ⟨w.heap.size, 0, none⟩ = some (.int .i64 0) := cel k5 0
                have c1 : w5.cell? ⟨w.heap.size, 1, none⟩ = some (.int .i64 0) := cel k5 1
                have c2 : w5.cell? ⟨w.heap.size, 2, none⟩ = some (.int .i64 0) := cel k5 2
                have c3 : w5.cell? ⟨w.heap.size, 3, none⟩ = some (.int .i64 0) := cel k5 3
                have cf0 : w5.frozen? ⟨w.heap.size, 0, none⟩ = false := frz k5 0
                have cf1 : w5.frozen? ⟨w.heap.size, 1, none⟩ = false := frz k5 1
                have cf2 : w5.frozen? ⟨w.heap.size, 2, none⟩ = false := frz k5 2
                have cf3 : w5.frozen? ⟨w.heap.size, 3, none⟩ = false := frz k5 3
                have n0 : w5.cell? ⟨w.heap.size + 1, 0, none⟩ = some (.int .i64 0) := cel m5 0
                have n1 : w5.cell? ⟨w.heap.size + 1, 1, none⟩ = some (.int .i64 0) := cel m5 1
                have n2 : w5.cell? ⟨w.heap.size + 1, 2, none⟩ = some (.int .i64 0) := cel m5 2
                have n3 : w5.cell? ⟨w.heap.size + 1, 3, none⟩ = some (.int .i64 0) := cel m5 3
                go_wp2_with fail
                exact bodyPost_ret (res_ins Tryd.results9 rfl rfl (st4_blk (a' := .int .i64 0) (b' := .int .i64 0) (c' := .int .i64 0) (d' := .int .i64 0) K5.out)) rfl ⟨rfl, st4_below B5.out (Nat.le_refl _) _ _ _ _⟩
              · rw [if_neg h2] at hV1
                obtain rfl : m = n := by omega
                have h2i : ¬ (m : Int) < (n1 : Int) - 1 := by omega
                clear k5 m5
                go_wp2_with fail
                obtain ⟨g, hg⟩ : ∃ g, w5.heap.size = g := ⟨_, rfl⟩
                obtain ⟨W6, hW6⟩ : ∃ W6, w5.alloc (.cells #[.int .i64 0, .int .i64 0, .int .i64 0] 48) = W6 := ⟨_, rfl⟩
                have k6 : W6.heap[g]? = some (.cells (flc os 0) 48 (0, 0)) := by rw [← hW6, ← hg, flc_zero]; exact heap_new w5 _ _
                have b6 : Below w5.heap.size w5 W6 := by rw [← hW6]; exact (Below.refl _ _).alloc (Nat.le_refl _) _
                have HK4 := Lib.hid k6
                have HB4 := Lib.hid b6
                have HG := Lib.hid hg
                have hok0 : Hid (∀ i, i < 0 → (numV (os.getD i [])).2 = true) := Lib.hid (fun i h => absurd h (Nat.not_lt_zero i))
                have hgw : w.heap.size + 1 < g := by omega
                have hgw1 : ¬ g = w.heap.size := by omega
                have hgw2 : ¬ w.heap.size = g := by omega
                have hgw3 : ¬ g = w.heap.size + 1 := by omega
                have hgw4 : ¬ w.heap.size + 1 = g := by omega
                have hm3 : (m : Int) ≤ 3 := by omega
                rw [hW6, hg]
                clear hW6 k6 b6 hg hlt5
                go_loopw [11] (fun iv wr => ∃ k : Nat, iv = .int .i64 (k : Int) ∧ k ≤ m ∧ Hid (∀ i, i < k → (numV (os.getD i [])).2 = true) ∧ Hid (wr.heap[g]? = some (.cells (flc os k) 48 (0, 0))) ∧ Hid (Below w5.heap.size w5 wr)) (fun iv _ => m - (RowKit.intOf iv).toNat)
                case atStart => exact ⟨0, rfl, by omega, hok0, HK4, HB4⟩
                case round =>
                  clear hok0 HK4 HB4
                  obtain ⟨k, rfl, hk, HOK, HK, HB⟩ := hrel
                  by_cases hlt : k < m
                  · have hki : (k : Int) < (m : Int) := by omega
                    have hkd : decide ((k : Int) < (m : Int)) = true := decide_eq_true hki
                    have hk3 : (k : Int) < 3 := by omega
                    have hk1 : (k : Int) + 1 < (n1 : Int) := by have := hN1.out; omega
                    obtain ⟨bb, oo, e', hbl, hcl⟩ := SV.cell (HSV5.out.below HB.out) (k + 1) (by have := hN1.out; omega)
                    simp only [Option.some.injEq, Addr.mk.injEq] at e'
                    obtain ⟨rfl, rfl, _⟩ := e'
                    rw [List.getD_cons_succ] at hcl
                    have hpl := HPT.out k (by omega)
                    have hset := flc_set os k (by omega)
                    obtain ⟨s2, hs2⟩ : ∃ s2, os.getD k [] = s2 := ⟨_, rfl⟩
                    rw [hs2] at hcl hpl hset
                    have CN := Lib.hid (rnum_v s2 wr hpl)
                    obtain ⟨nv, hnv⟩ : ∃ nv, (numV s2).1 = nv := ⟨_, rfl⟩
                    obtain ⟨okv, hokv⟩ : ∃ okv, (numV s2).2 = okv := ⟨_, rfl⟩
                    rw [hnv] at CN hset
                    rw [hokv] at CN
                    replace hset := hset nv rfl
                    have HSET := Lib.hid hset
                    clear hset hnv hpl
                    cases okv with
                    | true =>
                      have hok1 : ∀ i, i < k + 1 → (numV (os.getD i [])).2 = true := by
                        intro i hi
                        by_cases e : i = k
                        · subst e; rw [hs2]; exact hokv
                        · exact HOK.out i (by omega)
                      have HOK1 := Lib.hid hok1
                      clear hok1 hokv hs2 HOK
                      go_wp2_with fail
                      refine CN.out.mono ?_
                      rintro e w6 ⟨rfl, hb6⟩
                      have k6 := kb HK.out hb6
                      have hck : w6.cell? ⟨g, k, none⟩ = some (.int .i64 (fl os k k)) := by rw [cel k6 k]; exact flc_at os k k (by omega)
                      have hfk : w6.frozen? ⟨g, k, none⟩ = false := frz k6 k
                      have HK6 := Lib.hid (set_blk w6 g k (.int .i64 nv) k6)
                      have HB6 := Lib.hid ((HB.out.trans (hb6.mono HB.out.size)).setCell (p := ⟨g, k, none⟩) (by show w5.heap.size ≤ g; rw [HG.out]; exact Nat.le_refl _) (.int .i64 nv))
                      rw [HSET.out] at HK6
                      clear hb6 k6 CN HK HB HSET hcl
                      go_wp2_with fail
                      go_roundw
                      case rel => exact ⟨k + 1, by go_num, by omega, HOK1, HK6, HB6⟩
                      case measure => first | (simp [RowKit.intOf]; done) | (simp [RowKit.intOf]; omega)
                    | false =>
                      rw [nums_bad os k (by omega) (by rw [hs2]; exact hokv)] at hV1
                      dsimp only at hV1
                      subst hV1
                      clear hokv hs2 HOK
                      go_wp2_with fail
                      refine CN.out.mono ?_
                      rintro e w6 ⟨rfl, hb6⟩
                      have hB6 := HB.out.trans (hb6.mono HB.out.size)
                      have k60 := kb K5.out hB6
                      have m60 := kb M5.out hB6
                      have HB7 := Lib.hid (tr3 B5.out hB6)
                      have K7 := Lib.hid k60
                      have p0 : w6.cell? ⟨w.heap.size, 0, none⟩ = some (.int .i64 0) := cel k60 0
                      have p1 : w6.cell? ⟨w.heap.size, 1, none⟩ = some (.int .i64 0) := cel k60 1
                      have p2 : w6.cell? ⟨w.heap.size, 2, none⟩ = some (.int .i64 0) := cel k60 2
                      have p3 : w6.cell? ⟨w.heap.size, 3, none⟩ = some (.int .i64 0) := cel k60 3
                      have pf0 : w6.frozen? ⟨w.heap.size, 0, none⟩ = false := frz k60 0
                      have pf1 : w6.frozen? ⟨w.heap.size, 1, none⟩ = false := frz k60 1
                      have pf2 : w6.frozen? ⟨w.heap.size, 2, none⟩ = false := frz k60 2
                      have pf3 : w6.frozen? ⟨w.heap.size, 3, none⟩ = false := frz k60 3
                      have u0 : w6.cell? ⟨w.heap.size + 1, 0, none⟩ = some (.int .i64 0) := cel m60 0
                      have u1 : w6.cell? ⟨w.heap.size + 1, 1, none⟩ = some (.int .i64 0) := cel m60 1
                      have u2 : w6.cell? ⟨w.heap.size + 1, 2, none⟩ = some (.int .i64 0) := cel m60 2
                      have u3 : w6.cell? ⟨w.heap.size + 1, 3, none⟩ = some (.int .i64 0) := cel m60 3
                      clear hb6 CN HK HB HSET hcl hB6 k60 m60
                      go_wp2_with fail
                      exact bodyPost_ret (res_ins Tryd.results9 rfl rfl (st4_blk (a' := .int .i64 0) (b' := .int .i64 0) (c' := .int .i64 0) (d' := .int .i64 0) K7.out)) rfl ⟨rfl, st4_below HB7.out (Nat.le_refl _) _ _ _ _⟩
                  · obtain rfl : k = m := by omega
                    have hki : ¬ (k : Int) < (k : Int) := by omega
                    have hkd : decide ((k : Int) < (k : Int)) = false := decide_eq_false hki
                    rw [nums_good os (by rw [hn]; exact HOK.out)] at hV1
                    dsimp only at hV1
                    have hmk : mk4 op (os.map fun p => (numV p).1) = ((op : Int), fl os k 0, fl os k 1, fl os k 2) := by
                      unfold mk4
                      rw [fl_map, fl_map, fl_map, hn]
                    rw [hmk] at hV1
                    have e0 : wr.cell? ⟨g, 0, none⟩ = some (.int .i64 (fl os k 0)) := cel HK.out 0
                    have e1 : wr.cell? ⟨g, 1, none⟩ = some (.int .i64 (fl os k 1)) := cel HK.out 1
                    have e2 : wr.cell? ⟨g, 2, none⟩ = some (.int .i64 (fl os k 2)) := cel HK.out 2
                    obtain ⟨A, hA⟩ : ∃ A, fl os k 0 = A := ⟨_, rfl⟩
                    obtain ⟨B, hB⟩ : ∃ B, fl os k 1 = B := ⟨_, rfl⟩
                    obtain ⟨C, hC⟩ : ∃ C, fl os k 2 = C := ⟨_, rfl⟩
                    rw [hA] at hV1 e0
                    rw [hB] at hV1 e1
                    rw [hC] at hV1 e2
                    obtain ⟨c, hc⟩ : ∃ c, ins.chkI (op : Int) A B C = c := ⟨_, rfl⟩
                    rw [show chk ((op : Int), A, B, C) = c from hc] at hV1
                    have CK := Lib.hid (fun w => HCk.out A B C c w hc)
                    have HB5 := Lib.hid (tr3 B5.out HB.out)
                    have k50 := kb K5.out HB.out
                    have m50 := kb M5.out HB.out
                    have hltr : w.heap.size + 1 < wr.heap.size := (Array.getElem?_eq_some_iff.1 m50).1
                    obtain ⟨W5, hW5⟩ : ∃ W5, wr.alloc (.cells #[.int .i64 (op : Int), .int .i64 A, .int .i64 B, .int .i64 C] 23) = W5 := ⟨_, rfl⟩
                    have hk6 : W5.heap[wr.heap.size]? = some (.cells #[.int .i64 (op : Int), .int .i64 A, .int .i64 B, .int .i64 C] 23 (0, 0)) := by rw [← hW5]; exact heap_new wr _ _
                    have hb5 : Below wr.heap.size wr W5 := by rw [← hW5]; exact (Below.refl _ _).alloc (Nat.le_refl _) _
                    have K50 := Lib.hid (kb k50 hb5)
                    have M50 := Lib.hid (kb m50 hb5)
                    have HK6 := Lib.hid hk6
                    have HB6 := Lib.hid (tr3 HB5.out hb5)
                    have HW5 := Lib.hid hW5
                    clear hA hB hC hc hmk HOK HK HB hb5 hk6 k50 m50 hW5 HCk
                    have hnx : ¬ wr.heap.size = w.heap.size := by omega
                    have hnx2 : ¬ w.heap.size = wr.heap.size := by omega
                    go_wp2_with fail
                    rw [HW5.out]
                    refine (CK.out _).mono ?_
                    rintro e w8 ⟨rfl, hb8⟩
                    have hk8 := kb HK6.out hb8
                    have k8 := kb K50.out hb8
                    have m8 := kb M50.out hb8
                    have K8 := Lib.hid k8
                    have HB8 := Lib.hid (tr3 HB6.out hb8)
                    have x0 : w8.cell? ⟨wr.heap.size, 0, none⟩ = some (.int .i64 (op : Int)) := cel hk8 0
                    have x1 : w8.cell? ⟨wr.heap.size, 1, none⟩ = some (.int .i64 A) := cel hk8 1
                    have x2 : w8.cell? ⟨wr.heap.size, 2, none⟩ = some (.int .i64 B) := cel hk8 2
                    have x3 : w8.cell? ⟨wr.heap.size, 3, none⟩ = some (.int .i64 C) := cel hk8 3
                    have r0 : w8.cell? ⟨w.heap.size, 0, none⟩ = some (.int .i64 0) := cel k8 0
                    have r1 : w8.cell? ⟨w.heap.size, 1, none⟩ = some (.int .i64 0) := cel k8 1
                    have r2 : w8.cell? ⟨w.heap.size, 2, none⟩ = some (.int .i64 0) := cel k8 2
                    have r3 : w8.cell? ⟨w.heap.size, 3, none⟩ = some (.int .i64 0) := cel k8 3
                    have rf0 : w8.frozen? ⟨w.heap.size, 0, none⟩ = false := frz k8 0
                    have rf1 : w8.frozen? ⟨w.heap.size, 1, none⟩ = false := frz k8 1
                    have rf2 : w8.frozen? ⟨w.heap.size, 2, none⟩ = false := frz k8 2
                    have rf3 : w8.frozen? ⟨w.heap.size, 3, none⟩ = false := frz k8 3
                    have u0 : w8.cell? ⟨w.heap.size + 1, 0, none⟩ = some (.int .i64 0) := cel m8 0
                    have u1 : w8.cell? ⟨w.heap.size + 1, 1, none⟩ = some (.int .i64 0) := cel m8 1
                    have u2 : w8.cell? ⟨w.heap.size + 1, 2, none⟩ = some (.int .i64 0) := cel m8 2
                    have u3 : w8.cell? ⟨w.heap.size + 1, 3, none⟩ = some (.int .i64 0) := cel m8 3
                    clear hb8 hk8 k8 m8 CK HB5 HB6 HK6 K50 M50 HW5 e0 e1 e2
                    by_cases h0 : c = 0
                    · subst h0
                      rw [if_pos rfl] at hV1
                      subst hV1
                      clear u0 u1 u2 u3
                      go_wp2_with fail
                      exact bodyPost_ret (res_ins Tryd.results9 rfl rfl (st4_blk (a' := .int .i64 (op : Int)) (b' := .int .i64 A) (c' := .int .i64 B) (d' := .int .i64 C) K8.out)) rfl ⟨rfl, st4_below HB8.out (Nat.le_refl _) _ _ _ _⟩
                    · have hcb : ((c : Int) != 0) = true := by rw [bne, beq_eq_false_iff_ne.2 h0]; rfl
                      rw [if_neg h0] at hV1
                      subst hV1
                      clear x0 x1 x2 x3
                      go_wp2_with fail
                      exact bodyPost_ret (res_ins Tryd.results9 rfl rfl (st4_blk (a' := .int .i64 0) (b' := .int .i64 0) (c' := .int .i64 0) (d' := .int .i64 0) K8.out)) rfl ⟨rfl, st4_below HB8.out (Nat.le_refl _) _ _ _ _⟩
end Go.Proofs.YtgkfnplgldigbaaDoor.asm
