/- Whatever is done to words: the law JoinDoes answers true. No condition. -/
import Derived.Test.YtfigabjcmpakeabJoinDo
import Derived.Test.YtfigabjcmpakeabGrids
namespace Go.Proofs.Ytfigabjcmpakeab.joinDoes
open Go.ChangeShapes Go.WideShapes Go.ChangeAt Go.RowKit
set_option linter.unusedVariables false
theorem big (x y : Option Addr) (len cap len2 cap2 : Nat) (a0 : Int) (w : World) (h : 200 < len2 ∨ 300 < len) :
    Calls Try.prog 10 #[.int .u8 a0, .slice x len cap, .slice y len2 cap2] w fun e w' => e = .returned (.bool true) ∧ Below w.heap.size w w' := by
  by_cases h1 : 200 < len2
  · clear h
    go_enter Try.func10, Try.ntmps10
    go_wp2_with (first | (go_at_call 40; refine (works18 _).mono ?_; rintro e w' ⟨rfl, hb1⟩))
    go_ret
    exact ⟨rfl, hb1⟩
  · have h2 : 300 < len := by omega
    clear h
    go_enter Try.func10, Try.ntmps10
    go_wp2_with (first | (go_at_call 40; refine (works18 _).mono ?_; rintro e w' ⟨rfl, hb1⟩))
    go_ret
    exact ⟨rfl, hb1⟩
def RowFact (x : Option Addr) (len : Nat) (w : World) (zs : List Int) : Prop := ∀ i, i < len → ∃ b off, x = some ⟨b, off, none⟩ ∧ b < w.heap.size ∧ w.cell? ⟨b, off + i, none⟩ = some (.int .i64 (zs.getD i 0))
def OpFact (x : Option Addr) (len : Nat) (w : World) (Z : Nat → Nat → Int) : Prop := ∀ i, i < len → ∃ b off, x = some ⟨b, off, none⟩ ∧ b < w.heap.size ∧ w.cell? ⟨b, off + i * 2, none⟩ = some (.int .i64 (Z i 0)) ∧ w.cell? ⟨b, off + i * 2 + 1, none⟩ = some (.int .i64 (Z i 1))
set_option maxHeartbeats 4000000 in
set_option maxRecDepth 20000 in
theorem small (x y : Option Addr) (len cap len2 cap2 n : Nat) (zs : List Int) (Z : Nat → Nat → Int) (w : World) (hn : n ≤ 255) (h : len ≤ 300) (h2 : len2 ≤ 200) (hx : Hid (RowFact x len w zs)) (hy : Hid (OpFact y len2 w Z)) :
    Calls Try.prog 10 #[.int .u8 n, .slice x len cap, .slice y len2 cap2] w fun e w' => e = .returned (.bool true) ∧ Below w.heap.size w w' := by
  have hmk := run_make_row' (P := Try.prog) 26 3 (.int .i64 0) 8 Try.underlying26 (by kernel_rfl) rfl .i64 .i64 n (by omega) (by omega)
  go_enter Try.func10, Try.ntmps10
  go_wp2_with (first | (go_at_call 40; refine (works18 _).mono ?_; rintro e w1 ⟨rfl, hb1⟩))
  refine (new_n n _ (by omega)).mono ?_
  rintro e w2 ⟨rfl, hs0, hb2⟩
  go_wp2_with fail
  have hk0 := K.new (w0 := w) ⟨hs0, hb1.trans (hb2.mono hb1.size), hb1.size⟩ (by have := hb1.size; omega)
  have hl0 : Hid ((List.replicate n (0 : Int)).length = n) := Lib.hid (by rw [List.length_replicate])
  generalize w2.alloc (Obj.cells (madeCells #[Value.int .i64 0] n) 3) = wc at hk0 ⊢
  generalize w1.heap.size + 1 = S at *
  generalize w1.heap.size = g at *
  generalize w2.heap.size = M at *
  generalize List.replicate n (0 : Int) = z0 at *
  clear hs0 hb2 hmk hb1
  have hd : Below w.heap.size w wc := hk0.1.2.1
  go_loopw [9] (fun i wr => ∃ (k : Nat) (xs : List Int), k ≤ n ∧ k ≤ len ∧ i = .int .i64 k ∧ K w wr S g M xs xs ∧ Hid (xs.length = n)) (fun i _ => n - (intOf i).toNat)
  case atStart => exact ⟨0, z0, Nat.zero_le _, Nat.zero_le _, rfl, hk0, hl0⟩
  case round =>
    clear hk0 hl0 hd
    obtain ⟨k, xs, hkn, hkl, rfl, hk, hl⟩ := hrel
    by_cases hlt : k < n ∧ k < len
    · obtain ⟨b, off, rfl, hb, hz⟩ := hx.out k hlt.2
      have hz' : wr.cell? ⟨b, off + k, none⟩ = some (.int .i64 (zs.getD k 0)) := (hk.1.2.1.cell (p := ⟨b, off + k, none⟩) hb).trans hz
      generalize zs.getD k 0 = z at hz hz'
      have hlt1 := hlt.1
      have hlt2 := hlt.2
      clear hlt
      go_wp2_with (first | (go_at_call 41; refine (store_k S g M n k z xs xs w _ hk hl hlt1 (by omega)).mono ?_; rintro e wx ⟨rfl, hk3⟩; have hz3 := (hk3.1.2.1.cell (p := ⟨b, off + k, none⟩) hb).trans hz; have hc3 := hk3.cell' hl hlt1 (Lib.hid rfl); have hf3 := hk3.free k))
      go_roundw
      case rel => exact ⟨k + 1, _, by omega, by omega, by go_num, hk3.setM k z, len_set hl k z⟩
      case measure => simp [intOf]; omega
    · rcases (show n ≤ k ∨ (k < n ∧ len ≤ k) by omega) with hnk | ⟨hnk, hlk⟩ <;> clear hlt <;> (go_wp2_with fail) <;> (try simp only [show (k < len) = False from eq_false (by omega), decide_false])
      all_goals
        go_loopw [10] (fun i wr => ∃ (j : Nat) (ys : List Int), j ≤ len2 ∧ i = .int .i64 j ∧ K w wr S g M ys ys ∧ Hid (ys.length = n)) (fun i _ => len2 - (intOf i).toNat)
        case atStart => exact ⟨0, xs, Nat.zero_le _, rfl, hk, hl⟩
        case round =>
          clear hk hl
          obtain ⟨j, ys, hj, rfl, hk2, hl⟩ := hrel
          by_cases hlt2 : j < len2
          · obtain ⟨b, off, rfl, hb, hz0, hz1⟩ := hy.out j hlt2
            have hz0' : wr.cell? ⟨b, off + j * 2, none⟩ = some (.int .i64 (Z j 0)) := (hk2.1.2.1.cell (p := ⟨b, off + j * 2, none⟩) hb).trans hz0
            have hz1' : wr.cell? ⟨b, off + j * 2 + 1, none⟩ = some (.int .i64 (Z j 1)) := (hk2.1.2.1.cell (p := ⟨b, off + j * 2 + 1, none⟩) hb).trans hz1
            clear hz0 hz1
            generalize Z j 0 = κ at hz0'
            generalize Z j 1 = A at hz1'
            have h012 : κ = 0 ∨ κ = 1 ∨ κ = 2 ∨ (κ ≠ 0 ∧ κ ≠ 1 ∧ κ ≠ 2) := by omega
            by_cases hin : 0 ≤ A ∧ A < n
            · obtain ⟨a, rfl⟩ := Int.eq_ofNat_of_zero_le hin.1
              have hai : a < n := by omega
              have hc0 := hk2.cell' hl hai (Lib.hid rfl)
              generalize hvv : ys.getD a 0 = v at hc0
              have hv := Lib.hid hvv
              clear hvv hin
              rcases h012 with rfl | rfl | rfl | ho
              · go_wp2_with (first | (go_at_call 42; refine (spawn_k S g M n a v ys ys w _ hk2 hl hv hai (by omega)).mono ?_; rintro e wx ⟨rfl, h3⟩; have hc3 := h3.cell' hl hai hv; have hf3 := h3.free a; have h4 := h3.setM a (wrap64 (v + 1)); have hl4 := len_set hl a (wrap64 (v + 1))) | (go_at_call 23; refine (same_k S g M n _ w _ h4 hl4 (by omega)).mono ?_; rintro e wy ⟨vv, rfl, h5, v1, v2⟩) | (go_at_call 22; refine (ints_k S g M _ _ _ w _ h5 v1 v2).mono ?_; rintro e wz ⟨rfl, h6⟩))
                go_roundw
                case rel => exact ⟨j + 1, _, by omega, by go_num, h6, hl4⟩
                case measure => simp [intOf]; omega
              · by_cases hv1 : v = 1
                · have hq : Hid ((v == 1) = true) := Lib.hid (by simpa using hv1)
                  have hqq : (v == 1) = true := by simpa using hv1
                  clear hv1
                  go_wp2_with (first | (go_at_call 43; refine (leave_k S g M n a v _ ys ys w _ hk2 hl hv hq hai (by omega)).mono ?_; rintro e wx ⟨rfl, h3⟩; have hc3 := h3.cell' hl hai hv; have hf3 := h3.free a; have h4 := h3.setM a (wrap64 (v + -1)); have hl4 := len_set hl a (wrap64 (v + -1))) | (go_at_call 23; refine (same_k S g M n _ w _ h4 hl4 (by omega)).mono ?_; rintro e wy ⟨vv, rfl, h5, v1, v2⟩) | (go_at_call 22; refine (ints_k S g M _ _ _ w _ h5 v1 v2).mono ?_; rintro e wz ⟨rfl, h6⟩))
                  go_roundw
                  case rel => exact ⟨j + 1, _, by omega, by go_num, h6, hl4⟩
                  case measure => simp [intOf]; omega
                · have hq : Hid ((v == 1) = false) := Lib.hid (by simpa using hv1)
                  have hqq : (v == 1) = false := by simpa using hv1
                  clear hv1
                  go_wp2_with (first | (go_at_call 43; refine (leave_k S g M n a v _ ys ys w _ hk2 hl hv hq hai (by omega)).mono ?_; rintro e wx ⟨rfl, h3⟩; have hc3 := h3.cell' hl hai hv; have hf3 := h3.free a; have h4 := h3.setM a (wrap64 (v + -1)); have hl4 := len_set hl a (wrap64 (v + -1))) | (go_at_call 23; refine (same_k S g M n _ w _ h4 hl4 (by omega)).mono ?_; rintro e wy ⟨vv, rfl, h5, v1, v2⟩) | (go_at_call 22; refine (ints_k S g M _ _ _ w _ h5 v1 v2).mono ?_; rintro e wz ⟨rfl, h6⟩))
                  go_roundw
                  case rel => exact ⟨j + 1, _, by omega, by go_num, h6, hl4⟩
                  case measure => simp [intOf]; omega
              · go_wp2_with (first | (go_at_call 44; refine (again_k S g M n a ys ys w _ hk2 hl hai (by omega)).mono ?_; rintro e wx ⟨rfl, h3⟩; have hc3 := h3.cell' hl hai hv; have hf3 := h3.free a; have h4 := h3.setM a (1); have hl4 := len_set hl a (1)) | (go_at_call 23; refine (same_k S g M n _ w _ h4 hl4 (by omega)).mono ?_; rintro e wy ⟨vv, rfl, h5, v1, v2⟩) | (go_at_call 22; refine (ints_k S g M _ _ _ w _ h5 v1 v2).mono ?_; rintro e wz ⟨rfl, h6⟩))
                go_roundw
                case rel => exact ⟨j + 1, _, by omega, by go_num, h6, hl4⟩
                case measure => simp [intOf]; omega
              · have h4 := hk2
                have hl4 := hl
                have o0 : (κ == 0) = false := by simp; omega
                have o1 : (κ == 1) = false := by simp; omega
                have o2 : (κ == 2) = false := by simp; omega
                clear ho
                go_wp2_with (first | (go_at_call 23; refine (same_k S g M n _ w _ h4 hl4 (by omega)).mono ?_; rintro e wy ⟨vv, rfl, h5, v1, v2⟩) | (go_at_call 22; refine (ints_k S g M _ _ _ w _ h5 v1 v2).mono ?_; rintro e wz ⟨rfl, h6⟩))
                go_roundw
                case rel => exact ⟨j + 1, _, by omega, by go_num, h6, hl4⟩
                case measure => simp [intOf]; omega
            · by_cases hA0 : 0 ≤ A
              · have hA1 : (n : Int) ≤ A := by omega
                clear hin
                have h4 := hk2
                have hl4 := hl
                have hout : Hid (A < 0 ∨ (ys.length : Int) ≤ A) := Lib.hid (by rw [hl.out]; omega)
                rcases h012 with rfl | rfl | rfl | ho
                · go_wp2_with (first | (go_at_call 42; refine (spawn_out S g ys A _ hk2.1.1 hout.out).mono ?_; rintro e wx ⟨rfl, rfl⟩) | (go_at_call 23; refine (same_k S g M n _ w _ h4 hl4 (by omega)).mono ?_; rintro e wy ⟨vv, rfl, h5, v1, v2⟩) | (go_at_call 22; refine (ints_k S g M _ _ _ w _ h5 v1 v2).mono ?_; rintro e wz ⟨rfl, h6⟩))
                  go_roundw
                  case rel => exact ⟨j + 1, _, by omega, by go_num, h6, hl4⟩
                  case measure => simp [intOf]; omega
                · go_wp2_with (first | (go_at_call 43; refine (leave_out S g ys A _ hk2.1.1 hout.out).mono ?_; rintro e wx ⟨rfl, rfl⟩) | (go_at_call 23; refine (same_k S g M n _ w _ h4 hl4 (by omega)).mono ?_; rintro e wy ⟨vv, rfl, h5, v1, v2⟩) | (go_at_call 22; refine (ints_k S g M _ _ _ w _ h5 v1 v2).mono ?_; rintro e wz ⟨rfl, h6⟩))
                  go_roundw
                  case rel => exact ⟨j + 1, _, by omega, by go_num, h6, hl4⟩
                  case measure => simp [intOf]; omega
                · go_wp2_with (first | (go_at_call 44; refine (again_out S g ys A _ hk2.1.1 hout.out).mono ?_; rintro e wx ⟨rfl, rfl⟩) | (go_at_call 23; refine (same_k S g M n _ w _ h4 hl4 (by omega)).mono ?_; rintro e wy ⟨vv, rfl, h5, v1, v2⟩) | (go_at_call 22; refine (ints_k S g M _ _ _ w _ h5 v1 v2).mono ?_; rintro e wz ⟨rfl, h6⟩))
                  go_roundw
                  case rel => exact ⟨j + 1, _, by omega, by go_num, h6, hl4⟩
                  case measure => simp [intOf]; omega
                · have o0 : (κ == 0) = false := by simp; omega
                  have o1 : (κ == 1) = false := by simp; omega
                  have o2 : (κ == 2) = false := by simp; omega
                  clear ho
                  go_wp2_with (first | (go_at_call 23; refine (same_k S g M n _ w _ h4 hl4 (by omega)).mono ?_; rintro e wy ⟨vv, rfl, h5, v1, v2⟩) | (go_at_call 22; refine (ints_k S g M _ _ _ w _ h5 v1 v2).mono ?_; rintro e wz ⟨rfl, h6⟩))
                  go_roundw
                  case rel => exact ⟨j + 1, _, by omega, by go_num, h6, hl4⟩
                  case measure => simp [intOf]; omega
              · clear hin
                have h4 := hk2
                have hl4 := hl
                have hout : Hid (A < 0 ∨ (ys.length : Int) ≤ A) := Lib.hid (by rw [hl.out]; omega)
                rcases h012 with rfl | rfl | rfl | ho
                · go_wp2_with (first | (go_at_call 42; refine (spawn_out S g ys A _ hk2.1.1 hout.out).mono ?_; rintro e wx ⟨rfl, rfl⟩) | (go_at_call 23; refine (same_k S g M n _ w _ h4 hl4 (by omega)).mono ?_; rintro e wy ⟨vv, rfl, h5, v1, v2⟩) | (go_at_call 22; refine (ints_k S g M _ _ _ w _ h5 v1 v2).mono ?_; rintro e wz ⟨rfl, h6⟩))
                  go_roundw
                  case rel => exact ⟨j + 1, _, by omega, by go_num, h6, hl4⟩
                  case measure => simp [intOf]; omega
                · go_wp2_with (first | (go_at_call 43; refine (leave_out S g ys A _ hk2.1.1 hout.out).mono ?_; rintro e wx ⟨rfl, rfl⟩) | (go_at_call 23; refine (same_k S g M n _ w _ h4 hl4 (by omega)).mono ?_; rintro e wy ⟨vv, rfl, h5, v1, v2⟩) | (go_at_call 22; refine (ints_k S g M _ _ _ w _ h5 v1 v2).mono ?_; rintro e wz ⟨rfl, h6⟩))
                  go_roundw
                  case rel => exact ⟨j + 1, _, by omega, by go_num, h6, hl4⟩
                  case measure => simp [intOf]; omega
                · go_wp2_with (first | (go_at_call 44; refine (again_out S g ys A _ hk2.1.1 hout.out).mono ?_; rintro e wx ⟨rfl, rfl⟩) | (go_at_call 23; refine (same_k S g M n _ w _ h4 hl4 (by omega)).mono ?_; rintro e wy ⟨vv, rfl, h5, v1, v2⟩) | (go_at_call 22; refine (ints_k S g M _ _ _ w _ h5 v1 v2).mono ?_; rintro e wz ⟨rfl, h6⟩))
                  go_roundw
                  case rel => exact ⟨j + 1, _, by omega, by go_num, h6, hl4⟩
                  case measure => simp [intOf]; omega
                · have o0 : (κ == 0) = false := by simp; omega
                  have o1 : (κ == 1) = false := by simp; omega
                  have o2 : (κ == 2) = false := by simp; omega
                  clear ho
                  go_wp2_with (first | (go_at_call 23; refine (same_k S g M n _ w _ h4 hl4 (by omega)).mono ?_; rintro e wy ⟨vv, rfl, h5, v1, v2⟩) | (go_at_call 22; refine (ints_k S g M _ _ _ w _ h5 v1 v2).mono ?_; rintro e wz ⟨rfl, h6⟩))
                  go_roundw
                  case rel => exact ⟨j + 1, _, by omega, by go_num, h6, hl4⟩
                  case measure => simp [intOf]; omega
          · go_wp2_with fail
            go_ret
            exact ⟨rfl, hk2.1.2.1⟩
theorem walk (a0 : Int) (a1 : Option Addr) (len1 cap1 : Nat) (z1 : List Int) (a2 : Option Addr) (len2 cap2 : Nat) (z2 : Nat → Nat → Int) (w : World) (w0 : (Lit.int .u8 a0).wf = true) (w1 : IsRow .i64 w a1 len1 cap1 z1) (w2 : IsGrid [.i64, .i64] w a2 len2 cap2 z2) :
    Calls Try.prog 10 #[.int .u8 a0, .slice a1 len1 cap1, .slice a2 len2 cap2] w fun e w' => e = .returned (.bool true) ∧ Below w.heap.size w w' := by
  have hb := bounds_u8 w0
  obtain ⟨n, rfl⟩ := Int.eq_ofNat_of_zero_le hb.1
  by_cases h : 200 < len2 ∨ 300 < len1
  · exact big a1 a2 len1 cap1 len2 cap2 n w h
  · refine small a1 a2 len1 cap1 len2 cap2 n z1 z2 w (by omega) (by omega) (by omega) (fun i hi => ?_) (fun i hi => ?_)
    · rcases w1.split with h0 | ⟨b, off, rfl, hlt, hle, hm, hz, hc, _⟩
      · omega
      · exact ⟨b, off, rfl, hlt, hc i (by omega)⟩
    · rcases w2.split (by decide) with h0 | ⟨b, off, rfl, hlt, hle, hm, hc⟩
      · omega
      · exact ⟨b, off, rfl, hlt, (hc i (by omega) 0 .i64 rfl).1, (hc i (by omega) 1 .i64 rfl).1⟩
end Go.Proofs.Ytfigabjcmpakeab.joinDoes
