/- Any reads of any bytes, one behind the other, answer as the chapter says; a cut that is none reads nothing: the law BitsReads answers true. No condition. -/
import Derived.Test.YtpcpohbbmeonbaaWks02
namespace Go.Proofs.Ytpcpohbbmeonbaa.bitsReads
open Go.ChangeShapes Go.WideShapes Go.ChangeAt Go.RowKit
open Go.Proofs.Ytpcpohbbmeonbaa.bits
set_option linter.unusedVariables false
theorem drop_extract (l : List UInt8) (i k n : Nat) (hn : n = l.length - i) : (⟨(l.drop i).toArray⟩ : ByteArray).extract k n = ⟨(l.drop (i + k)).toArray⟩ := by
  subst hn
  apply ByteArray.ext
  rw [ByteArray.data_extract]
  apply Array.ext'
  simp [List.extract, List.drop_drop]
  rw [List.take_of_length_le]
  rw [List.length_drop]; omega
theorem part_extract (s : ByteArray) (i j : Nat) : (s.extract i j).data.toList = (s.data.toList.drop i).take (j - i) := by
  rw [ByteArray.data_extract, Array.toList_extract]
theorem size_drop (l : List UInt8) (i : Nat) : (⟨(l.drop i).toArray⟩ : ByteArray).size = l.length - i := by simp [ByteArray.size]
theorem big (a0 : ByteArray) (x : Option Addr) (len cap : Nat) (w : World) (h : 1000 < a0.size ∨ 1000 < len) :
    Calls Try.prog 4 #[.string a0, .slice x len cap] w fun e w' => e = .returned (.bool true) ∧ Below w.heap.size w w' := by
  by_cases h1 : 1000 < a0.size
  · have hd : decide (1000 < a0.size) = true := by simpa using h1
    go_enter Try.func4, Try.ntmps4
    go_wp2_with fail
    refine (works_v _).mono ?_
    rintro e w1 ⟨rfl, hb1⟩
    go_wp2_with fail
    go_ret
    exact ⟨rfl, hb1⟩
  · have hd : decide (1000 < a0.size) = false := by simpa using h1
    have hd2 : decide (1000 < len) = true := by simp; omega
    go_enter Try.func4, Try.ntmps4
    go_wp2_with fail
    refine (works_v _).mono ?_
    rintro e w1 ⟨rfl, hb1⟩
    go_wp2_with fail
    go_ret
    exact ⟨rfl, hb1⟩
theorem none0 (a0 : ByteArray) (x : Option Addr) (cap : Nat) (w : World) (h : a0.size ≤ 1000) :
    Calls Try.prog 4 #[.string a0, .slice x 0 cap] w fun e w' => e = .returned (.bool true) ∧ Below w.heap.size w w' := by
  have hd : decide (1000 < a0.size) = false := by simp; omega
  go_enter Try.func4, Try.ntmps4
  go_wp2_with fail
  refine (works_v _).mono ?_
  rintro e w1 ⟨rfl, hb1⟩
  go_wp2_with fail
  refine (new_v _ w1).mono ?_
  rintro e w2 ⟨rfl, hC, hb2⟩
  have hb := hb1.trans (hb2.mono hb1.size)
  clear hC hb1 hb2
  go_wp2_with fail
  refine wp_loop_rounds 1 ?_
  rw [rounds_succ]
  go_wp2_with (first | (go_at_call 26; refine (left_nil _).mono ?_; rintro e w' ⟨rfl, rfl⟩) | (go_at_call 27; refine (done_nil _).mono ?_; rintro e w' ⟨rfl, rfl⟩))
  go_ret
  exact ⟨rfl, hb⟩
set_option maxHeartbeats 4000000 in
set_option maxRecDepth 20000 in
theorem core (a0 : ByteArray) (b off : Nat) (len cap : Nat) (zs : List Int) (w : World) (h : a0.size ≤ 1000) (hl : len ≤ 1000) (hb : b < w.heap.size) (hc : Hid (∀ i, i < len → w.cell? ⟨b, off + i, none⟩ = some (.int .i64 (zs.getD i 0)))) :
    Calls Try.prog 4 #[.string a0, .slice (some ⟨b, off, none⟩) len cap] w fun e w' => e = .returned (.bool true) ∧ Below w.heap.size w w' := by
  have hd : decide (1000 < a0.size) = false := by simp; omega
  have hd2 : decide (1000 < len) = false := by simp; omega
  obtain ⟨l, hl0⟩ : ∃ l, a0.data.toList = l := ⟨_, rfl⟩
  have hll : l.length = a0.size := by rw [← hl0]; rfl
  have HL := Lib.hid hl0
  have hstart : (a0 : ByteArray) = ⟨(l.drop 0).toArray⟩ := by rw [← hl0]; rfl
  have HST := Lib.hid hstart
  clear hl0 hstart
  go_enter Try.func4, Try.ntmps4
  go_wp2_with fail
  refine (works_v _).mono ?_
  rintro e w1 ⟨rfl, hb1⟩
  go_wp2_with fail
  refine (new_v _ w1).mono ?_
  rintro e w2 ⟨rfl, hC, hb2⟩
  have hbw := hb1.trans (hb2.mono hb1.size)
  have hCb : w.heap.size ≤ w1.heap.size := hb1.size
  generalize w1.heap.size = C at *
  have HC : Hid (CutAt w2 C ⟨(l.drop 0).toArray⟩ false) := Lib.hid (by rw [← HST.out]; exact hC)
  clear hC hb1 hb2
  go_wp2_with fail
  go_loopw [7, 8, 9] (fun at_ sh i wr => ∃ (k p : Nat) (s : Bool), k ≤ len ∧ p ≤ a0.size ∧ i = .int .i64 (k : Int) ∧ at_ = .int .i64 (p : Int) ∧ sh = .bool s ∧ CutAt wr C ⟨(l.drop p).toArray⟩ s ∧ Below w.heap.size w wr) (fun _ _ i _ => len - (intOf i).toNat)
  case atStart => exact ⟨0, 0, false, by omega, by omega, rfl, rfl, rfl, HC.out, hbw⟩
  case round =>
    obtain ⟨k, p, s, hk, hp, rfl, rfl, rfl, hCr, hbn⟩ := hrel
    clear HC hbw
    by_cases hlt : k < len
    · have hz : wr.cell? ⟨b, off + k, none⟩ = some (.int .i64 (zs.getD k 0)) := (hbn.cell (p := ⟨b, off + k, none⟩) hb).trans (hc.out k hlt)
      generalize zs.getD k 0 = z at hz
      obtain ⟨q, hh⟩ : ∃ q, Hid (Go.Proofs.Ytpcpohbbmeonbaa.bits.hz z = q) := ⟨_, Lib.hid rfl⟩
      have hqb := hz_bd z
      rw [hh.out] at hqb
      obtain ⟨hq1, hq4⟩ := hqb
      have hsz := size_drop l p
      have keep : ∀ w', Below w.heap.size w w' → w'.cell? ⟨b, off + k, none⟩ = some (.int .i64 z) := fun w' hb' => ((hb'.cell (p := ⟨b, off + k, none⟩) hb).trans ((hbn.cell (p := ⟨b, off + k, none⟩) hb).symm)).trans hz
      have hleft : (((⟨(l.drop p).toArray⟩ : ByteArray).size : Nat) : Int) = (a0.size : Int) - (p : Int) := by rw [hsz]; omega
      cases s
      · by_cases hfit : p + q ≤ a0.size
        · obtain ⟨M, hM⟩ : ∃ M, Hid (((ofB ((l.drop p).take q) : Nat) : Int) = M) := ⟨_, Lib.hid rfl⟩
          have HN : Hid (Calls Try.prog 25 #[.pointer (some ⟨C, 0, none⟩), .int .i64 z] wr fun e w' => e = .returned (.int .i64 M) ∧ CutAt w' C ⟨(l.drop (p + q)).toArray⟩ false ∧ Below w.heap.size w w' ∧ w'.cell? ⟨b, off + k, none⟩ = some (.int .i64 z)) := Lib.hid (by
            have hnum := num_ok C ⟨(l.drop p).toArray⟩ z q wr hCr hh hq1 hq4 (by rw [hsz]; omega) (by rw [hsz]; omega)
            rw [drop_extract l p q _ hsz, show (⟨(l.drop p).toArray⟩ : ByteArray).data.toList = l.drop p from by simp, hM.out] at hnum
            refine hnum.mono ?_
            rintro e w' ⟨he, hC', hw'⟩
            have hb' : Below w.heap.size w w' := by rw [hw']; exact Below.setCell hbn hCb _
            exact ⟨he, hC', hb', keep w' hb'⟩)
          have HOF : Hid (Calls Try.prog 24 #[.string (a0.extract p (p + q))] wr fun e w' => e = .returned (.int .i64 M) ∧ wr = w') := Lib.hid (by
            have h1 := of_v (a0.extract p (p + q)) wr (by rw [ByteArray.size_extract]; omega)
            rw [part_extract, HL.out, show p + q - p = q by omega, hM.out] at h1
            exact h1)
          have hle : ¬ (a0.size : Int) < (p : Int) + (q : Int) := by omega
          have hle2 : decide ((a0.size : Int) < (p : Int) + (q : Int)) = false := by simp; omega
          have hle3 : decide (a0.size < p + q) = false := by simp; omega
          have hsz2 := size_drop l (p + q)
          have hsz3 : ((⟨(l.drop (p + q)).toArray⟩ : ByteArray).size : Int) = (a0.size : Int) - ((p : Int) + (q : Int)) := by rw [hsz2]; omega
          have HS2 := Lib.hid hsz2
          clear hsz hsz2 hCr keep hleft hbn
          by_cases hend : p + q < a0.size
          · have hend2 : (p : Int) + (q : Int) < (a0.size : Int) := by omega
            go_wp2_with (first | (go_at_call 23; refine (size_v z q _ hh.out).mono ?_; rintro e w' ⟨rfl, rfl⟩) | (go_at_call 24; refine HOF.out.mono ?_; rintro e w' ⟨rfl, rfl⟩) | (go_at_call_of 25 (Value.pointer none); refine (num_nil _ _).mono ?_; rintro e w' ⟨rfl, rfl⟩) | (go_at_call 25; refine HN.out.mono ?_; rintro e w' ⟨rfl, hC', hb', hz'⟩) | (go_at_call 26; refine (left_v C _ _ _ hC').mono ?_; rintro e w' ⟨rfl, rfl⟩) | (go_at_call 27; refine (done_more C _ _ hC' (by rw [HS2.out]; omega)).mono ?_; rintro e w' ⟨rfl, rfl⟩))
            go_roundw
            case rel => exact ⟨k + 1, p + q, false, by omega, by omega, by go_num, by first | rfl | go_num, rfl, hC', hb'⟩
            case measure => simp [intOf] <;> omega
          · have hend2 : ¬ (p : Int) + (q : Int) < (a0.size : Int) := by omega
            go_wp2_with (first | (go_at_call 23; refine (size_v z q _ hh.out).mono ?_; rintro e w' ⟨rfl, rfl⟩) | (go_at_call 24; refine HOF.out.mono ?_; rintro e w' ⟨rfl, rfl⟩) | (go_at_call_of 25 (Value.pointer none); refine (num_nil _ _).mono ?_; rintro e w' ⟨rfl, rfl⟩) | (go_at_call 25; refine HN.out.mono ?_; rintro e w' ⟨rfl, hC', hb', hz'⟩) | (go_at_call 26; refine (left_v C _ _ _ hC').mono ?_; rintro e w' ⟨rfl, rfl⟩) | (go_at_call 27; refine (done_ok C _ _ hC' (by rw [HS2.out]; omega)).mono ?_; rintro e w' ⟨rfl, rfl⟩))
            go_roundw
            case rel => exact ⟨k + 1, p + q, false, by omega, by omega, by go_num, by first | rfl | go_num, rfl, hC', hb'⟩
            case measure => simp [intOf] <;> omega
        · have HN : Hid (Calls Try.prog 25 #[.pointer (some ⟨C, 0, none⟩), .int .i64 z] wr fun e w' => e = .returned (.int .i64 0) ∧ CutAt w' C ⟨(l.drop p).toArray⟩ true ∧ Below w.heap.size w w' ∧ w'.cell? ⟨b, off + k, none⟩ = some (.int .i64 z)) := Lib.hid (by
            refine (num_short C ⟨(l.drop p).toArray⟩ z q wr hCr hh (by rw [hsz]; omega)).mono ?_
            rintro e w' ⟨he, hC', hw'⟩
            have hb' : Below w.heap.size w w' := by rw [hw']; exact Below.setCell hbn hCb _
            exact ⟨he, hC', hb', keep w' hb'⟩)
          have hle : (a0.size : Int) < (p : Int) + (q : Int) := by omega
          have hle2 : decide ((a0.size : Int) < (p : Int) + (q : Int)) = true := by simp; omega
          have hle3 : decide (a0.size < p + q) = true := by simp; omega
          clear hsz hCr keep hbn
          by_cases hend : p < a0.size
          · have hend2 : (p : Int) < (a0.size : Int) := by omega
            go_wp2_with (first | (go_at_call 23; refine (size_v z q _ hh.out).mono ?_; rintro e w' ⟨rfl, rfl⟩) | (go_at_call_of 25 (Value.pointer none); refine (num_nil _ _).mono ?_; rintro e w' ⟨rfl, rfl⟩) | (go_at_call 25; refine HN.out.mono ?_; rintro e w' ⟨rfl, hC', hb', hz'⟩) | (go_at_call 26; refine (left_v C _ _ _ hC').mono ?_; rintro e w' ⟨rfl, rfl⟩) | (go_at_call 27; refine (done_failed C _ _ hC').mono ?_; rintro e w' ⟨rfl, rfl⟩))
            go_roundw
            case rel => exact ⟨k + 1, p, true, by omega, by omega, by go_num, by first | rfl | go_num, rfl, hC', hb'⟩
            case measure => simp [intOf] <;> omega
          · have hend2 : ¬ (p : Int) < (a0.size : Int) := by omega
            go_wp2_with (first | (go_at_call 23; refine (size_v z q _ hh.out).mono ?_; rintro e w' ⟨rfl, rfl⟩) | (go_at_call_of 25 (Value.pointer none); refine (num_nil _ _).mono ?_; rintro e w' ⟨rfl, rfl⟩) | (go_at_call 25; refine HN.out.mono ?_; rintro e w' ⟨rfl, hC', hb', hz'⟩) | (go_at_call 26; refine (left_v C _ _ _ hC').mono ?_; rintro e w' ⟨rfl, rfl⟩) | (go_at_call 27; refine (done_failed C _ _ hC').mono ?_; rintro e w' ⟨rfl, rfl⟩))
            go_roundw
            case rel => exact ⟨k + 1, p, true, by omega, by omega, by go_num, by first | rfl | go_num, rfl, hC', hb'⟩
            case measure => simp [intOf] <;> omega
      · have HN : Hid (Calls Try.prog 25 #[.pointer (some ⟨C, 0, none⟩), .int .i64 z] wr fun e w' => e = .returned (.int .i64 0) ∧ CutAt w' C ⟨(l.drop p).toArray⟩ true ∧ Below w.heap.size w w' ∧ w'.cell? ⟨b, off + k, none⟩ = some (.int .i64 z)) := Lib.hid (by
          refine (num_failed C ⟨(l.drop p).toArray⟩ z wr hCr).mono ?_
          rintro e w' ⟨he, hC', hw'⟩
          have hb' : Below w.heap.size w w' := by rw [hw']; exact Below.setCell hbn hCb _
          exact ⟨he, hC', hb', keep w' hb'⟩)
        clear hsz hCr keep hbn
        by_cases hend : p < a0.size
        · have hend2 : (p : Int) < (a0.size : Int) := by omega
          go_wp2_with (first | (go_at_call 23; refine (size_v z q _ hh.out).mono ?_; rintro e w' ⟨rfl, rfl⟩) | (go_at_call_of 25 (Value.pointer none); refine (num_nil _ _).mono ?_; rintro e w' ⟨rfl, rfl⟩) | (go_at_call 25; refine HN.out.mono ?_; rintro e w' ⟨rfl, hC', hb', hz'⟩) | (go_at_call 26; refine (left_v C _ _ _ hC').mono ?_; rintro e w' ⟨rfl, rfl⟩) | (go_at_call 27; refine (done_failed C _ _ hC').mono ?_; rintro e w' ⟨rfl, rfl⟩))
          go_roundw
          case rel => exact ⟨k + 1, p, true, by omega, by omega, by go_num, by first | rfl | go_num, rfl, hC', hb'⟩
          case measure => simp [intOf] <;> omega
        · have hend2 : ¬ (p : Int) < (a0.size : Int) := by omega
          go_wp2_with (first | (go_at_call 23; refine (size_v z q _ hh.out).mono ?_; rintro e w' ⟨rfl, rfl⟩) | (go_at_call_of 25 (Value.pointer none); refine (num_nil _ _).mono ?_; rintro e w' ⟨rfl, rfl⟩) | (go_at_call 25; refine HN.out.mono ?_; rintro e w' ⟨rfl, hC', hb', hz'⟩) | (go_at_call 26; refine (left_v C _ _ _ hC').mono ?_; rintro e w' ⟨rfl, rfl⟩) | (go_at_call 27; refine (done_failed C _ _ hC').mono ?_; rintro e w' ⟨rfl, rfl⟩))
          go_roundw
          case rel => exact ⟨k + 1, p, true, by omega, by omega, by go_num, by first | rfl | go_num, rfl, hC', hb'⟩
          case measure => simp [intOf] <;> omega
    · obtain rfl : k = len := by omega
      go_wp2_with (first | (go_at_call 26; refine (left_nil _).mono ?_; rintro e w' ⟨rfl, rfl⟩) | (go_at_call 27; refine (done_nil _).mono ?_; rintro e w' ⟨rfl, rfl⟩))
      go_ret
      exact ⟨rfl, hbn⟩
theorem walk (a0 : ByteArray) (a1 : Option Addr) (len1 cap1 : Nat) (z1 : List Int) (w : World) (w0 : a0.size ≤ maxLen) (w1 : IsRow .i64 w a1 len1 cap1 z1) :
    Calls Try.prog 4 #[.string a0, .slice a1 len1 cap1] w fun e w' => e = .returned (.bool true) ∧ Below w.heap.size w w' := by
  by_cases h : 1000 < a0.size ∨ 1000 < len1
  · exact big a0 a1 len1 cap1 w h
  · rcases w1.split with h0 | ⟨b, off, rfl, hlt, hle, hm, hz, hc, hw⟩
    · subst h0
      exact none0 a0 a1 cap1 w (by omega)
    · exact core a0 b off len1 cap1 z1 w (by omega) (by omega) hlt (Lib.hid (fun i hi => hc i (by omega)))
end Go.Proofs.Ytpcpohbbmeonbaa.bitsReads
