/- What is wrong with an instruction, as the document has it (layer 3). -/
import Derived.Test.YtdneblbaofhehaaInB
namespace Go.Proofs.Ytdneblbaofhehaa.ins
open Go.ChangeShapes Go.WideShapes Go.ChangeAt Go.RowKit
open Go.Proofs.Ytdneblbaofhehaa.bin Go.Proofs.Ytdneblbaofhehaa.bits
set_option linter.unusedVariables false
set_option linter.unusedSimpArgs false
theorem str_cut (f : List UInt8) (i : Nat) (h : i < f.length) : (⟨f.toArray⟩ : ByteArray).extract i (i + 1) = ⟨#[f.getD i 0]⟩ := by
  rw [ByteArray.ext_iff, ByteArray.data_extract]
  apply Array.ext'
  rw [Array.toList_extract, List.extract_eq_take_drop, show i + 1 - i = 1 by omega]
  show List.take 1 (List.drop i f) = [f.getD i 0]
  rw [List.drop_eq_getElem_cons h, List.getD_eq_getElem?_getD, List.getElem?_eq_getElem h]
  rfl
set_option maxRecDepth 20000 in
set_option maxHeartbeats 4000000 in
theorem rchk_v (op A B C c : Int) (f : List UInt8) (w : World) (ho : 0 ≤ op) (ho2 : op ≤ 25) (hl : f.length ≤ 3) (hL : Hid (∀ x ∈ f, Lt x)) (hf : Hid (RF op f)) (hc : chkL f (three A B C) = c) :
    Calls Try.prog 29 #[.agg #[.int .i64 op, .int .i64 A, .int .i64 B, .int .i64 C]] w fun e w' => e = .returned (.int .i64 c) ∧ Below w.heap.size w w' := by
  have hc0 : Hid (chkL (f.drop 0) ((three A B C).drop 0) = c) := Lib.hid (by simpa using hc)
  have hfs := str_size f
  have hov : ¬ 9223372036854775807 < f.length := by omega
  clear hc
  go_enter Try.func29, Try.ntmps29
  go_wp2_with fail
  refine (hf.out _).mono ?_
  rintro e w1 ⟨rfl, hb⟩
  have r1 : w1.cell? ⟨w.heap.size, 1, none⟩ = some (.int .i64 A) := kc (by go_simp) hb
  have r2 : w1.cell? ⟨w.heap.size, 2, none⟩ = some (.int .i64 B) := kc (by go_simp) hb
  have r3 : w1.cell? ⟨w.heap.size, 3, none⟩ = some (.int .i64 C) := kc (by go_simp) hb
  have hw1 : Below w.heap.size w w1 := Below.trans (by go_grown) (hb.mono (by simp))
  obtain ⟨W, hW⟩ : ∃ W, w1.alloc (.cells #[.int .i64 A, .int .i64 B, .int .i64 C] 3) = W := ⟨_, rfl⟩
  have hWb : Below w1.heap.size w1 W := by rw [← hW]; go_grown
  have hcell : W.heap[w1.heap.size]? = some (.cells #[.int .i64 A, .int .i64 B, .int .i64 C] 3 (0, 0)) := by rw [← hW]; exact heap_new _ _ _
  have HCL : Hid (∀ i, i < 3 → W.cell? ⟨w1.heap.size, i, none⟩ = some (.int .i64 ((three A B C).getD i 0))) := Lib.hid (three_cell hcell)
  have hbl : w1.heap.size < W.heap.size := (Array.getElem?_eq_some_iff.1 hcell).1
  have HB := Lib.hid (tr3 hw1 hWb)
  have HW := Lib.hid hW
  clear hb hw1 hWb hcell hW
  go_wp2_with fail
  rw [HW.out]
  go_loop [5] (fun i => ∃ pos : Nat, i = .int .i64 (pos : Int) ∧ pos ≤ f.length ∧ Hid (chkL (f.drop pos) ((three A B C).drop pos) = c)) (fun i => f.length - (intOf i).toNat)
  case atStart => exact ⟨0, rfl, by omega, hc0⟩
  case round =>
    clear hc0
    obtain ⟨pos, rfl, hpl, HC⟩ := hrel
    by_cases hlt : pos < f.length
    · have hxL : Lt (f.getD pos 0) := getD_Lt hL.out hlt
      have hcut := str_cut f pos hlt
      have hd : f.drop pos = f.getD pos 0 :: f.drop (pos + 1) := drop_at f 0 pos hlt
      have hd3 : (three A B C).drop pos = (three A B C).getD pos 0 :: (three A B C).drop (pos + 1) := drop_at _ 0 pos (by simp [three]; omega)
      have hcl := HCL.out pos (by omega)
      obtain ⟨x, hx⟩ : ∃ x, f.getD pos 0 = x := ⟨_, rfl⟩
      obtain ⟨n, hn⟩ : ∃ n, (three A B C).getD pos 0 = n := ⟨_, rfl⟩
      rw [hx] at hxL hcut hd
      rw [hn] at hd3 hcl
      have hc1 := HC.out
      rw [hd, hd3] at hc1
      have hiff := okL_iff x hxL n
      have CE := Lib.hid (fun w => ends_v x hxL w)
      obtain ⟨lo, hlo⟩ : ∃ lo, loL x = lo := ⟨_, rfl⟩
      obtain ⟨hi, hhi⟩ : ∃ hi, hiL x = hi := ⟨_, rfl⟩
      rw [hlo, hhi] at hiff CE
      clear hx hn hd hd3 HC hxL hlo hhi
      by_cases h1 : n < lo
      · have h3 : c = 3 := by rw [← hc1]; simp [chkL, hiff]; omega
        subst h3
        clear hc1 hiff
        go_wp2_with (go_at_call 34; (refine (CE.out _).mono ?_); rintro e w' ⟨rfl, rfl⟩)
        go_ret
        exact ⟨rfl, HB.out⟩
      · by_cases h2 : hi < n
        · have h3 : c = 3 := by rw [← hc1]; simp [chkL, hiff]; omega
          subst h3
          clear hc1 hiff
          go_wp2_with (go_at_call 34; (refine (CE.out _).mono ?_); rintro e w' ⟨rfl, rfl⟩)
          go_ret
          exact ⟨rfl, HB.out⟩
        · have HC1 : Hid (chkL (f.drop (pos + 1)) ((three A B C).drop (pos + 1)) = c) := Lib.hid (by
            rw [← hc1]
            have : okL x n = true := by rw [hiff]; simp; omega
            simp [chkL, this])
          clear hc1 hiff
          go_wp2_with (go_at_call 34; (refine (CE.out _).mono ?_); rintro e w' ⟨rfl, rfl⟩)
          go_round
          case rel => exact ⟨pos + 1, by go_num, by omega, HC1⟩
          case measure => simp [intOf]; omega
    · obtain rfl : pos = f.length := by omega
      have hc2 : Hid (chkL [] ((three A B C).drop f.length) = c) := Lib.hid (by have := HC.out; rw [List.drop_length] at this; exact this)
      clear HC
      go_wp2_with fail
      go_loop [8] (fun i => ∃ j : Nat, i = .int .i64 (j : Int) ∧ j ≤ 3 ∧ Hid (chkL [] ((three A B C).drop j) = c)) (fun i => 3 - (intOf i).toNat)
      case atStart => exact ⟨f.length, rfl, by omega, hc2⟩
      case round =>
        clear hc2
        obtain ⟨j, rfl, hj, HC⟩ := hrel
        by_cases hlt : j < 3
        · have hx := HCL.out j hlt
          have hd3 : (three A B C).drop j = (three A B C).getD j 0 :: (three A B C).drop (j + 1) := drop_at _ 0 _ (by simp [three]; omega)
          obtain ⟨n, hn⟩ : ∃ n, (three A B C).getD j 0 = n := ⟨_, rfl⟩
          rw [hn] at hx hd3
          have hc1 := HC.out
          rw [hd3] at hc1
          clear hn hd3 HC
          by_cases h0 : n = 0
          · subst h0
            have HC1 : Hid (chkL [] ((three A B C).drop (j + 1)) = c) := Lib.hid (by rw [← hc1]; simp [chkL])
            clear hc1
            go_wp2_with fail
            go_round
            case rel => exact ⟨j + 1, by go_num, by omega, HC1⟩
            case measure => simp [intOf]; omega
          · have h0b : (n == 0) = false := by simpa using h0
            have h0n : (n != 0) = true := by simpa using h0
            have h4 : c = 4 := by rw [← hc1]; simp [chkL, h0]
            subst h4
            clear hc1
            go_wp2_with fail
            go_ret
            exact ⟨rfl, HB.out⟩
        · have hc0 : c = 0 := by rw [← HC.out, List.drop_eq_nil_of_le (by simp [three]; omega)]; rfl
          subst hc0
          clear HC
          go_wp2_with fail
          go_ret
          exact ⟨rfl, HB.out⟩
theorem pchk_of (op A B C c : Int) (w : World) (hc : chkI op A B C = c) :
    Calls Try.prog 31 #[.agg #[.int .i64 op, .int .i64 A, .int .i64 B, .int .i64 C]] w fun e w' => e = .returned (.int .i64 c) ∧ Below w.heap.size w w' := by
  unfold chkI at hc
  by_cases h : op < 0 ∨ 25 < op
  · rw [if_pos h] at hc
    subst hc
    have CK := Lib.hid (fun w => known_v op false (by simp; omega) w)
    go_enter Try.func31, Try.ntmps31
    go_wp2_with (first | (go_at_call 35; (refine (CK.out _).mono ?_); rintro e w' ⟨rfl, rfl⟩))
    go_ret
    exact ⟨rfl, by go_grown⟩
  · rw [if_neg h] at hc
    exact pchk_v op A B C c (frmI op) w (by omega) (by omega) (frmI_ok op).1 (Lib.hid (frmI_ok op).2) (Lib.hid (pf_of op)) hc
theorem rchk_of (op A B C c : Int) (w : World) (hc : chkI op A B C = c) :
    Calls Try.prog 29 #[.agg #[.int .i64 op, .int .i64 A, .int .i64 B, .int .i64 C]] w fun e w' => e = .returned (.int .i64 c) ∧ Below w.heap.size w w' := by
  unfold chkI at hc
  by_cases h : op < 0 ∨ 25 < op
  · rw [if_pos h] at hc
    subst hc
    by_cases h1 : op < 0
    · go_enter Try.func29, Try.ntmps29
      go_wp2_with fail
      go_ret
      exact ⟨rfl, by go_grown⟩
    · have h2 : 25 < op := by omega
      go_enter Try.func29, Try.ntmps29
      go_wp2_with fail
      go_ret
      exact ⟨rfl, by go_grown⟩
  · rw [if_neg h] at hc
    exact rchk_v op A B C c (frmI op) w (by omega) (by omega) (frmI_ok op).1 (Lib.hid (frmI_ok op).2) (Lib.hid (rf_of op)) hc
end Go.Proofs.Ytdneblbaofhehaa.ins
