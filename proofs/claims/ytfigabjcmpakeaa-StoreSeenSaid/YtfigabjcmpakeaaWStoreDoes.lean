/- Whatever is asked of words: the law StoreDoes answers true. No condition. -/
import Derived.Test.YtfigabjcmpakeaaDoS
import Derived.Test.YtfigabjcmpakeaaStoreAll
import Derived.Test.YtfigabjcmpakeaaGrids
import Derived.Outline
import Derived.Deep.Cut
namespace Go.Proofs.Ytfigabjcmpakeaa.storeDoes
open Go.ChangeShapes Go.WideShapes Go.ChangeAt Go.RowKit
set_option linter.unusedVariables false
set_option linter.unusedSimpArgs false
theorem fillF_len (xs : List Int) (a m v : Int) : (fillF xs a m v).length = xs.length := by simp [fillF]
theorem trio (kd at_ n o : Int) (xs : List Int) (h0 : 0 ≤ kd) (h4 : kd ≤ 4) (hl : xs.length ≤ 300) (b1 : -9223372036854775808 ≤ at_) (b2 : at_ ≤ 9223372036854775807) (b3 : -9223372036854775808 ≤ n) (b4 : n ≤ 9223372036854775807) :
    ∃ (ys : List Int) (want : Int) (ok : Bool), ys.length = xs.length ∧
      (∀ (vm : Value) (w : World), View w vm xs → Calls Try.prog 18 #[vm, .agg #[.int .i64 kd, .int .i64 at_, .int .i64 n, .int .i64 o]] w (RDo w ys want ok)) ∧
      (∀ (S g : Nat) (w0 w : World), J w0 w S g xs → Calls Try.prog 19 #[.pointer (some ⟨S, 0, none⟩), .agg #[.int .i64 kd, .int .i64 at_, .int .i64 n, .int .i64 o]] w fun e w' => e = .returned (.tuple #[.int .i64 want, .bool ok]) ∧ J w0 w' S g ys ∧ Keep g w w') ∧
      (∀ w : World, Calls Try.prog 19 #[.pointer none, .agg #[.int .i64 kd, .int .i64 at_, .int .i64 n, .int .i64 o]] w fun e w' => e = .returned (.tuple #[.int .i64 0, .bool (kd == 4)]) ∧ Below w.heap.size w w') := by
  rcases (show kd = 0 ∨ kd = 1 ∨ kd = 2 ∨ kd = 3 ∨ kd = 4 by omega) with rfl | rfl | rfl | rfl | rfl
  · by_cases hat : at_ < 0 ∨ (xs.length : Int) ≤ at_
    · refine ⟨xs, 0, false, rfl, fun vm w hv => ?_, fun S g w0 w h => do_out_0 S g xs at_ n o w0 w h hl (Lib.hid hat), fun w => none_0 at_ n o w b1 b2 b3 b4⟩
      rcases hat with h | h
      · exact rdo_out_0_lt vm xs at_ n o w hv (by omega) h
      · exact rdo_out_0_ge vm xs at_ n o w hv (by omega) h
    · obtain ⟨i, rfl⟩ := Int.eq_ofNat_of_zero_le (show 0 ≤ at_ by omega)
      have hi : i < xs.length := by omega
      exact ⟨xs, _, true, rfl, fun vm w hv => rdo_0 vm xs i _ (Lib.hid rfl) n o w hv (by omega) hi, fun S g w0 w h => do_0 S g xs i _ (Lib.hid rfl) n o w0 w h hl hi, fun w => none_0 i n o w b1 b2 b3 b4⟩
  · by_cases hat : at_ < 0 ∨ (xs.length : Int) ≤ at_
    · refine ⟨xs, 0, false, rfl, fun vm w hv => ?_, fun S g w0 w h => do_out_1 S g xs at_ n o w0 w h hl (Lib.hid hat), fun w => none_1 at_ n o w b1 b2 b3 b4⟩
      rcases hat with h | h
      · exact rdo_out_1_lt vm xs at_ n o w hv (by omega) h
      · exact rdo_out_1_ge vm xs at_ n o w hv (by omega) h
    · obtain ⟨i, rfl⟩ := Int.eq_ofNat_of_zero_le (show 0 ≤ at_ by omega)
      have hi : i < xs.length := by omega
      exact ⟨xs.set i n, 0, true, by simp, fun vm w hv => rdo_1 vm xs i _ (Lib.hid rfl) n o w hv (by omega) hi, fun S g w0 w h => do_1 S g xs i _ (Lib.hid rfl) n o w0 w h hl hi, fun w => none_1 i n o w b1 b2 b3 b4⟩
  · by_cases hat : at_ < 0 ∨ (xs.length : Int) ≤ at_
    · refine ⟨xs, 0, false, rfl, fun vm w hv => ?_, fun S g w0 w h => do_out_2 S g xs at_ n o w0 w h hl (Lib.hid hat), fun w => none_2 at_ n o w b1 b2 b3 b4⟩
      rcases hat with h | h
      · exact rdo_out_2_lt vm xs at_ n o w hv (by omega) h
      · exact rdo_out_2_ge vm xs at_ n o w hv (by omega) h
    · obtain ⟨i, rfl⟩ := Int.eq_ofNat_of_zero_le (show 0 ≤ at_ by omega)
      have hi : i < xs.length := by omega
      exact ⟨xs.set i (wrap64 (xs.getD i 0 + n)), _, true, by simp, fun vm w hv => rdo_2 vm xs i _ (Lib.hid rfl) n o w hv (by omega) hi, fun S g w0 w h => do_2 S g xs i _ (Lib.hid rfl) n o w0 w h hl hi, fun w => none_2 i n o w b1 b2 b3 b4⟩
  · by_cases hat : at_ < 0 ∨ (xs.length : Int) ≤ at_
    · refine ⟨xs, 0, false, rfl, fun vm w hv => ?_, fun S g w0 w h => do_out_3 S g xs at_ n o w0 w h hl (Lib.hid hat), fun w => none_3 at_ n o w b1 b2 b3 b4⟩
      rcases hat with h | h
      · exact rdo_out_3_lt vm xs at_ n o w hv (by omega) h
      · exact rdo_out_3_ge vm xs at_ n o w hv (by omega) h
    · obtain ⟨i, rfl⟩ := Int.eq_ofNat_of_zero_le (show 0 ≤ at_ by omega)
      have hi : i < xs.length := by omega
      by_cases ho : xs.getD i 0 = o
      · exact ⟨xs.set i n, o, true, by simp, fun vm w hv => rdo_3y vm xs i o (Lib.hid ho) n o w hv (by omega) hi (Lib.hid rfl), fun S g w0 w h => do_3y S g xs i n o w0 w h hl hi (Lib.hid ho), fun w => none_3 i n o w b1 b2 b3 b4⟩
      · exact ⟨xs, _, true, rfl, fun vm w hv => rdo_3n vm xs i _ (Lib.hid rfl) n o w hv (by omega) hi (Lib.hid ho), fun S g w0 w h => do_3n S g xs i _ (Lib.hid rfl) n o w0 w h hl hi (Lib.hid ho), fun w => none_3 i n o w b1 b2 b3 b4⟩
  · exact ⟨fillF xs at_ n o, 0, true, fillF_len _ _ _ _, fun vm w hv => rdo_4 vm xs at_ n o w hv (by omega) hl b1 b2 b3 b4, fun S g w0 w h => do_4 S g xs at_ n o w0 w h hl b1 b2 b3 b4, fun w => none_4 at_ n o w b1 b2 b3 b4⟩
theorem new_mm (size m1 : Int) (n : Nat) (w : World) (h1 : (if size < 0 then (0 : Int) else size) = m1) (h2 : (if 1048576 < m1 then (1048576 : Int) else m1) = n) (hn : n ≤ 1048576) : Calls Try.prog 16 #[.int .i64 size] w fun e w' => e = .returned (.pointer (some ⟨w.heap.size + 1, 0, none⟩)) ∧ StoreAt w' (w.heap.size + 1) w.heap.size (List.replicate n 0) ∧ Below w.heap.size w w' := by
  have hmk := run_make_row' (P := Try.prog) 26 3 (.int .i64 0) 8 Try.underlying26 (by kernel_rfl) rfl .i64 .i64 n (by omega) (by omega)
  go_enter Try.func16, Try.ntmps16
  go_wp2
  go_ret
  refine ⟨rfl, ⟨?_, ?_, by omega⟩, by go_grown⟩
  · rw [List.length_replicate]
    show ((w.heap.push _).push _)[w.heap.size + 1]? = _
    rw [show w.heap.size + 1 = (w.heap.push (Obj.cells (madeCells #[Value.int .i64 0] n) 3)).size from by simp, Array.getElem?_push_size]
  · rw [← zeros_cells]
    show ((w.heap.push _).push _)[w.heap.size]? = _
    rw [Array.getElem?_push, if_neg (by simp), Array.getElem?_push_size]
theorem size_mm (size m1 : Int) (n : Nat) (w : World) (h1 : (if size < 0 then (0 : Int) else size) = m1) (h2 : (if 1048576 < m1 then (1048576 : Int) else m1) = n) : Calls Try.prog 17 #[.int .i64 size] w fun e w' => e = .returned (.int .i64 n) ∧ w = w' := by
  go_enter Try.func17, Try.ntmps17
  go_wp2
  go_ret
  exact ⟨rfl, rfl⟩
theorem big (size : Int) (y : Option Addr) (len cap : Nat) (w : World) (h : 200 < len ∨ 300 < size) :
    Calls Try.prog 3 #[.int .i64 size, .slice y len cap] w fun e w' => e = .returned (.bool true) ∧ Below w.heap.size w w' := by
  by_cases h0 : 200 < len
  · clear h
    go_enter Try.func3, Try.ntmps3
    go_wp2_with (first | (go_at_call 15; refine (works09 _).mono ?_; rintro e w1 ⟨rfl, hb1⟩))
    go_ret
    exact ⟨rfl, hb1⟩
  · have h2 : 300 < size := by omega
    clear h
    go_enter Try.func3, Try.ntmps3
    go_wp2_with (first | (go_at_call 15; refine (works09 _).mono ?_; rintro e w1 ⟨rfl, hb1⟩))
    go_ret
    exact ⟨rfl, hb1⟩
def OpFact (x : Option Addr) (len : Nat) (w : World) (Z : Nat → Nat → Int) : Prop := ∀ i, i < len → ∃ b off, x = some ⟨b, off, none⟩ ∧ b < w.heap.size ∧ w.cell? ⟨b, off + i * 4, none⟩ = some (.int .i64 (Z i 0)) ∧ w.cell? ⟨b, off + i * 4 + 1, none⟩ = some (.int .i64 (Z i 1)) ∧ w.cell? ⟨b, off + i * 4 + 2, none⟩ = some (.int .i64 (Z i 2)) ∧ w.cell? ⟨b, off + i * 4 + 3, none⟩ = some (.int .i64 (Z i 3)) ∧ ∀ j, j < 4 → -9223372036854775808 ≤ Z i j ∧ Z i j ≤ 9223372036854775807
theorem row_keepS {w w' : World} {B n : Nat} {v : Value} {xs : List Value} (h : w.ownsRow B 3 1 v n xs) (hk : ∀ k, B ≤ k → k < w.heap.size → w'.heap[k]? = w.heap[k]?) : w'.ownsRow B 3 1 v n xs :=
  row_kept h fun k q => hk k (h.lt k q).1 (h.lt k q).2
set_option maxHeartbeats 8000000 in
set_option maxRecDepth 20000 in
theorem core (size m1 : Int) (n : Nat) (y : Option Addr) (len cap : Nat) (Z : Nat → Nat → Int) (w : World) (hs : size ≤ 300) (h1 : Hid ((if size < 0 then (0 : Int) else size) = m1)) (h2 : Hid ((if 1048576 < m1 then (1048576 : Int) else m1) = n)) (hn : n ≤ 300) (h : len ≤ 200) (hy : Hid (OpFact y len w Z)) :
    Calls Try.prog 3 #[.int .i64 size, .slice y len cap] w fun e w' => e = .returned (.bool true) ∧ Below w.heap.size w w' := by
  have hmk := run_make_row' (P := Try.prog) 26 3 (.int .i64 0) 8 Try.underlying26 (by kernel_rfl) rfl .i64 .i64 n (by omega) (by omega)
  go_enter Try.func3, Try.ntmps3
  go_wp2_with fail
  refine (works09 _).mono ?_
  rintro e w1 ⟨rfl, hb1⟩
  go_wp2_with fail
  refine (new_mm size m1 n _ h1.out h2.out (by omega)).mono ?_
  rintro e w2 ⟨rfl, hs0, hb2⟩
  go_wp2_with fail
  refine (size_mm size m1 n _ h1.out h2.out).mono ?_
  rintro e wz ⟨rfl, rfl⟩
  go_wp2_with fail
  have hj0 : J w (w2.alloc (Obj.cells (madeCells #[Value.int .i64 0] n) 3)) (w1.heap.size + 1) w1.heap.size (List.replicate n 0) := J.below ⟨hs0, hb1.trans (hb2.mono hb1.size), hb1.size⟩ ((Below.refl _ _).alloc (Nat.le_refl _) _)
  have hlt0 : w1.heap.size + 1 < w2.heap.size ∧ w.heap.size ≤ w2.heap.size := by
    have := hs0.facts.2.2.2.2.1; have := hb1.size; omega
  have hr0 : (w2.alloc (Obj.cells (madeCells #[Value.int .i64 0] n) 3)).ownsRow w2.heap.size 3 1 (.slice (some ⟨w2.heap.size, 0, none⟩) n n) (List.replicate n (0 : Int)).length ((List.replicate n (0 : Int)).map (Value.int .i64)) := by
    rw [List.length_replicate]
    refine ⟨by simp, .inr ⟨w2.heap.size, n, madeCells #[Value.int .i64 0] n, rfl, Nat.le_refl _, heap_made w2 _, Nat.le_refl _, by unfold maxLen; omega, by simp [size_madeCells], ?_⟩⟩
    rw [zeros_cells]
    simp
  have hl0 : Hid ((List.replicate n (0 : Int)).length = n) := Lib.hid (by rw [List.length_replicate])
  have hlt1 : w1.heap.size + 1 < w2.heap.size ∧ w1.heap.size < w2.heap.size ∧ w.heap.size ≤ w2.heap.size ∧ w2.heap.size ≤ (w2.alloc (Obj.cells (madeCells #[Value.int .i64 0] n) 3)).heap.size := by
    refine ⟨hlt0.1, by omega, hlt0.2, by simp⟩
  clear hs0 hb2 hmk hb1 hlt0
  generalize w2.alloc (Obj.cells (madeCells #[Value.int .i64 0] n) 3) = wc at *
  generalize w1.heap.size + 1 = S at *
  generalize w1.heap.size = g at *
  obtain ⟨vm0, hvm0⟩ : ∃ v, v = Value.slice (some ⟨w2.heap.size, 0, none⟩) n n := ⟨_, rfl⟩
  rw [← hvm0] at hr0 ⊢
  clear hvm0
  generalize w2.heap.size = B at *
  generalize List.replicate n (0 : Int) = z0 at *
  obtain ⟨l1, l2, l3, l4⟩ := hlt1
  go_loopw [6, 8] (fun um i wr => ∃ (j : Nat) (vm : Value) (xs : List Int), vm = um ∧ j ≤ len ∧ i = .int .i64 j ∧ J w wr S g xs ∧ wr.ownsRow B 3 1 vm xs.length (xs.map (Value.int .i64)) ∧ Hid (xs.length = n) ∧ B ≤ wr.heap.size) (fun _ i _ => len - (intOf i).toNat)
  case atStart => exact ⟨0, _, z0, rfl, Nat.zero_le _, rfl, hj0, hr0, hl0, l4⟩
  case round =>
    clear hj0 hr0 hl0 l4
    obtain ⟨j, vm, xs, rfl, hj, rfl, hJ, hr, hl, hBs⟩ := hrel
    by_cases hlt : j < len
    · obtain ⟨b, off, rfl, hb, hz0, hz1, hz2, hz3, hbd⟩ := hy.out j hlt
      have y0 : wr.cell? ⟨b, off + j * 4, none⟩ = some (.int .i64 (Z j 0)) := (hJ.2.1.cell (p := ⟨b, off + j * 4, none⟩) hb).trans hz0
      have y1 : wr.cell? ⟨b, off + j * 4 + 1, none⟩ = some (.int .i64 (Z j 1)) := (hJ.2.1.cell (p := ⟨b, off + j * 4 + 1, none⟩) hb).trans hz1
      have y2 : wr.cell? ⟨b, off + j * 4 + 2, none⟩ = some (.int .i64 (Z j 2)) := (hJ.2.1.cell (p := ⟨b, off + j * 4 + 2, none⟩) hb).trans hz2
      have y3 : wr.cell? ⟨b, off + j * 4 + 3, none⟩ = some (.int .i64 (Z j 3)) := (hJ.2.1.cell (p := ⟨b, off + j * 4 + 3, none⟩) hb).trans hz3
      obtain ⟨q1, q2⟩ := hbd 1 (by omega)
      obtain ⟨q3, q4⟩ := hbd 2 (by omega)
      clear hz0 hz1 hz2 hz3 hbd
      generalize Z j 0 = kd at *
      generalize Z j 1 = at_ at *
      generalize Z j 2 = m at *
      generalize Z j 3 = o at *
      obtain ⟨k1, hk1⟩ : ∃ k1, (if kd < 0 then (0 : Int) else kd) = k1 := ⟨_, rfl⟩
      obtain ⟨kk, hk2⟩ : ∃ kk, (if 4 < k1 then (4 : Int) else k1) = kk := ⟨_, rfl⟩
      have hkk : 0 ≤ kk ∧ kk ≤ 4 := by
        rw [← hk2, ← hk1]
        by_cases e1 : kd < 0
        · rw [if_pos e1]; decide
        · rw [if_neg e1]; by_cases e2 : 4 < kd
          · rw [if_pos e2]; decide
          · rw [if_neg e2]; omega
      obtain ⟨ys, want, ok, hyl, hR, hD, hNo⟩ := trio kk at_ m o xs hkk.1 hkk.2 (by rw [hl.out]; exact hn) q1 q2 q3 q4
      have HR := Lib.hid hR
      have HD := Lib.hid hD
      have HN := Lib.hid hNo
      have HJ := Lib.hid hJ
      have HRow := Lib.hid hr
      have HYL := Lib.hid hyl
      clear hR hD hNo hJ hr hyl hkk q1 q2 q3 q4
      go_upto_region 13 with fail
      obtain ⟨W, hW⟩ : ∃ W, W = wr.alloc (Obj.cells #[Value.int .i64 kk, Value.int .i64 at_, Value.int .i64 m, Value.int .i64 o] 29) := ⟨_, rfl⟩
      have hbW : Below wr.heap.size wr W := by rw [hW]; go_grown
      have c0 : W.cell? ⟨wr.heap.size, 0, none⟩ = some (.int .i64 kk) := by rw [hW]; go_simp
      have c1 : W.cell? ⟨wr.heap.size, 1, none⟩ = some (.int .i64 at_) := by rw [hW]; go_simp
      have c2 : W.cell? ⟨wr.heap.size, 2, none⟩ = some (.int .i64 m) := by rw [hW]; go_simp
      have c3 : W.cell? ⟨wr.heap.size, 3, none⟩ = some (.int .i64 o) := by rw [hW]; go_simp
      have hJW := HJ.out.below hbW
      have hrW : W.ownsRow B 3 1 vm xs.length (xs.map (Value.int .i64)) := row_kept HRow.out fun k q => hbW.block k (HRow.out.lt k q).2
      have hvW := view_of_own hrW
      have hBW : B ≤ W.heap.size := Nat.le_trans hBs hbW.size
      have hOg : wr.heap.size ≠ g := by omega
      rw [← hW]
      have JW := Lib.hid hJW
      have VW := Lib.hid hvW
      clear hW hbW hJW hrW hvW y0 y1 y2 y3 hk1 hk2
      generalize wr.heap.size = O at *
      go_wp2_with fail
      refine (HR.out vm _ VW.out).mono ?_
      rintro e w3 hRD
      obtain ⟨nx, rfl, hrn, hb3⟩ := hRD
      have J3 := Lib.hid (JW.out.below hb3)
      have R3 := Lib.hid hrn
      have hB3 : B ≤ w3.heap.size := Nat.le_trans hBW hb3.size
      have hWg : ∀ k, W.heap.size ≤ k → k ≠ g := fun k hk => by omega
      have c0 := (Keep.of_below (g := O + 1) hb3).cell c0 (by omega)
      have c1 := (Keep.of_below (g := O + 1) hb3).cell c1 (by omega)
      have c2 := (Keep.of_below (g := O + 1) hb3).cell c2 (by omega)
      have c3 := (Keep.of_below (g := O + 1) hb3).cell c3 (by omega)
      clear hrn hb3
      go_wp2_with fail
      refine (HD.out S g w _ J3.out).mono ?_
      rintro e w4 ⟨rfl, hj4, hk4⟩
      have J4 := Lib.hid hj4
      have R4 := Lib.hid (row_keepS R3.out fun k h1 h2 => hk4.2 k h2 (hWg k h1))
      have hB4 : B ≤ w4.heap.size := Nat.le_trans hB3 hk4.1
      have c0 := hk4.cell c0 hOg
      have c1 := hk4.cell c1 hOg
      have c2 := hk4.cell c2 hOg
      have c3 := hk4.cell c3 hOg
      clear hj4 hk4
      go_wp2_with fail
      refine (HN.out _).mono ?_
      rintro e w5 ⟨rfl, hb5⟩
      have J5 := Lib.hid (J4.out.below hb5)
      have R5 := Lib.hid (row_kept R4.out fun k q => hb5.block k (R4.out.lt k q).2)
      have hB5 : B ≤ w5.heap.size := Nat.le_trans hB4 hb5.size
      have c0 := (Keep.of_below (g := O + 1) hb5).cell c0 (by omega)
      clear hb5 c1 c2 c3
      go_wp2_with fail
      refine (all_any S g ys _ J5.out.1 (by have h1 := HYL.out; have h2 := hl.out; omega)).mono ?_
      rintro e w6 hRP
      obtain ⟨va, rfl, hra, hb6⟩ := hRP
      have hv1 := view_of_own hra
      have hv2 : View w6 nx ys := view_of_own (row_kept R5.out fun k q => hb6.block k (R5.out.lt k q).2)
      have J6 := Lib.hid (J5.out.below hb6)
      have R6 := Lib.hid (row_kept R5.out fun k q => hb6.block k (R5.out.lt k q).2)
      have hB6 : B ≤ w6.heap.size := Nat.le_trans hB5 hb6.size
      have V1 := Lib.hid hv1
      have V2 := Lib.hid hv2
      clear hra hb6 hv1 hv2
      go_wp2_with fail
      refine (ints_any _ _ ys ys _ V1.out V2.out).mono ?_
      rintro e w7 ⟨rfl, nq, rfl⟩
      rw [beq_self_eq_true]
      go_wp2_with fail
      go_roundw
      case rel => exact ⟨j + 1, _, ys, rfl, by omega, by go_num, J6.out.below (below_drewN (Below.refl _ _) _), row_mono (row_kept R6.out fun k q => (below_drewN (Below.refl _ _) nq : Below w6.heap.size w6 _).block k (R6.out.lt k q).2) hBW, Lib.hid (by rw [HYL.out]; exact hl.out), by first | exact hB6 | (simp; exact hB6)⟩
      case measure => simp [intOf]; omega
    · obtain rfl : j = len := by omega
      obtain ⟨om, cm, rfl, _, _⟩ := own_form hr
      have HJ := Lib.hid hJ
      have hxn : xs.length = n := hl.out
      rw [hxn]
      clear hr
      go_wp2_with fail
      refine (hook_nil _).mono ?_
      rintro e w3 ⟨rfl, rfl⟩
      go_wp2_with fail
      refine (size_any S g xs _ HJ.out.1).mono ?_
      rintro e w3 ⟨rfl, rfl⟩
      rw [hxn]
      go_wp2_with fail
      refine (size_nil _).mono ?_
      rintro e w3 ⟨rfl, rfl⟩
      go_wp2_with fail
      refine (all_nil _).mono ?_
      rintro e w3 ⟨rfl, rfl⟩
      go_wp2_with fail
      go_ret
      exact ⟨rfl, HJ.out.2.1⟩
theorem walk (a0 : Int) (a1 : Option Addr) (len1 cap1 : Nat) (z1 : Nat → Nat → Int) (w : World) (w0 : (Lit.int .i64 a0).wf = true) (w1 : IsGrid [.i64, .i64, .i64, .i64] w a1 len1 cap1 z1) :
    Calls Try.prog 3 #[.int .i64 a0, .slice a1 len1 cap1] w fun e w' => e = .returned (.bool true) ∧ Below w.heap.size w w' := by
  by_cases hbig : 200 < len1 ∨ 300 < a0
  · exact big a0 a1 len1 cap1 w hbig
  · obtain ⟨n, hn⟩ : ∃ n : Nat, n = a0.toNat := ⟨_, rfl⟩
    have h2 : (if 1048576 < (if a0 < 0 then (0 : Int) else a0) then (1048576 : Int) else (if a0 < 0 then (0 : Int) else a0)) = n := by
      by_cases e : a0 < 0
      · rw [if_pos e, if_neg (by decide)]; omega
      · rw [if_neg e, if_neg (by omega)]; omega
    refine core a0 (if a0 < 0 then 0 else a0) n a1 len1 cap1 z1 w (by omega) (Lib.hid rfl) (Lib.hid h2) (by omega) (by omega) (Lib.hid fun i hi => ?_)
    rcases w1.split (by decide) with h | ⟨b, off, rfl, hb, hle, hm, hc⟩
    · omega
    · refine ⟨b, off, rfl, hb, (hc i (by omega) 0 _ rfl).1, (hc i (by omega) 1 _ rfl).1, (hc i (by omega) 2 _ rfl).1, (hc i (by omega) 3 _ rfl).1, fun j hj => ?_⟩
      match j, hj with
      | 0, _ => exact bounds_i64 (hc i (by omega) 0 _ rfl).2
      | 1, _ => exact bounds_i64 (hc i (by omega) 1 _ rfl).2
      | 2, _ => exact bounds_i64 (hc i (by omega) 2 _ rfl).2
      | 3, _ => exact bounds_i64 (hc i (by omega) 3 _ rfl).2
end Go.Proofs.Ytfigabjcmpakeaa.storeDoes
