/- A number that fits, put behind bytes that were read, is read, signed, as it was; and one of one byte more is so, too: the law BitsBack answers true. No condition. -/
import Derived.Test.YtpcpohbbmeonbaaWks02
import Derived.Deep.RegionHeld3
import Derived.Deep.DrawnRows
namespace Go.Proofs.Ytpcpohbbmeonbaa.bitsBack
open Go.ChangeShapes Go.WideShapes Go.ChangeAt Go.RowKit
open Go.Proofs.Ytpcpohbbmeonbaa.bits
attribute [local go_sem ↓] Go.wp_at_zero Go.wp_at_succ
set_option linter.unusedVariables false
theorem ofB_put (n : Int) (h : Nat) (h1 : 1 ≤ h) (h4 : h ≤ 4) : ((ofB (putB n h) : Nat) : Int) = n % pw h := by
  have b0 := byteAt_val n 0
  have b1 := byteAt_val n 1
  have b2 := byteAt_val n 2
  have b3 := byteAt_val n 3
  simp at b0 b1 b2 b3
  rcases show h = 1 ∨ h = 2 ∨ h = 3 ∨ h = 4 by omega with rfl | rfl | rfl | rfl <;> simp [putB, ofB, pw] <;> omega
theorem sg_mod (n : Int) (h : Nat) : sgV (n % pw h) h = sgV n h := by
  unfold sgV
  rw [Int.emod_emod_of_dvd n (Int.dvd_refl _)]
theorem sg_sg (n : Int) (h : Nat) : sgV (sgV n h) h = sgV n h := by
  have hb := pw_bd h
  have m0 := Int.emod_nonneg n (show pw h ≠ 0 by omega)
  have m1 := Int.emod_lt_of_pos n (show 0 < pw h by omega)
  have e : sgV n h % pw h = n % pw h := by
    unfold sgV
    split
    · exact Int.emod_emod_of_dvd n (Int.dvd_refl _)
    · rw [Int.sub_emod_right]; exact Int.emod_emod_of_dvd n (Int.dvd_refl _)
  unfold sgV at e ⊢
  rw [e]
theorem sg_in (n : Int) (h : Nat) : sgV n h = n ↔ -(pw h / 2) ≤ n ∧ n ≤ pw h / 2 - 1 := by
  have hb := pw_bd h
  unfold sgV
  generalize pw h = P at *
  have m0 := Int.emod_nonneg n (show P ≠ 0 by omega)
  have m1 := Int.emod_lt_of_pos n (show 0 < P by omega)
  constructor
  · intro e
    split at e <;> omega
  · intro e
    by_cases hn : 0 ≤ n
    · have : n % P = n := Int.emod_eq_of_lt hn (by omega)
      rw [this, if_pos (by omega)]
    · have : n % P = n + P := by rw [← Int.add_emod_right, Int.emod_eq_of_lt (by omega) (by omega)]
      rw [this, if_neg (by omega)]
      omega
theorem pw_mono (h h' : Nat) (h1 : 1 ≤ h) (h4 : h ≤ 4) (e : h' = if h + 1 < 4 then h + 1 else 4) : pw h ≤ pw h' := by
  subst e
  rcases show h = 1 ∨ h = 2 ∨ h = 3 ∨ h = 4 by omega with rfl | rfl | rfl | rfl <;> decide
theorem sg_more (n : Int) (h h' : Nat) (hp : pw h ≤ pw h') (e : sgV n h = n) : sgV n h' = n := by
  rw [sg_in] at *
  have := pw_bd h
  have := pw_bd h'
  omega
theorem drop_extract (l : List UInt8) (i k n : Nat) (hn : n = l.length - i) : (⟨(l.drop i).toArray⟩ : ByteArray).extract k n = ⟨(l.drop (i + k)).toArray⟩ := by
  subst hn
  apply ByteArray.ext
  rw [ByteArray.data_extract]
  apply Array.ext'
  simp [List.extract, List.drop_drop]
  rw [List.take_of_length_le]
  rw [List.length_drop]; omega
set_option maxHeartbeats 4000000 in
set_option maxRecDepth 20000 in
theorem core (a0 : ByteArray) (a1 a2 : Int) (w : World) (hs : a0.size ≤ 500) (n1 : -9223372036854775808 ≤ a1) (n2 : a1 ≤ 9223372036854775807) :
    Calls Try.prog 5 #[.string a0, .int .i64 a1, .int .i64 a2] w fun e w' => e = .returned (.bool true) ∧ Below w.heap.size w w' := by
  obtain ⟨h, hh⟩ : ∃ h, Hid (hz a2 = h) := ⟨_, Lib.hid rfl⟩
  have hb := hz_bd a2
  rw [hh.out] at hb
  obtain ⟨h1, h4⟩ := hb
  have hs2 : decide (500 < a0.size) = false := by simp; omega
  obtain ⟨s0, hs0⟩ : ∃ s0, a0.data.toList = s0 := ⟨_, rfl⟩
  have hsl : s0.length = a0.size := by rw [← hs0]; rfl
  have HS0 := Lib.hid hs0
  go_enter Try.func5, Try.ntmps5
  go_wp2_with fail
  refine (works_v _).mono ?_
  rintro e w1 ⟨rfl, hb1⟩
  go_wp2_with fail
  refine (put_v a0 a1 a2 h _ (by omega) hh h1 h4).mono ?_
  rintro e w2 ⟨rfl, hb2⟩
  rw [hs0]
  clear hs0
  obtain ⟨l, hl⟩ : ∃ l, s0 ++ putB a1 h = l := ⟨_, rfl⟩
  rw [hl]
  have hll : l.length = a0.size + h := by rw [← hl, List.length_append, putB_len, hsl]
  have HL := Lib.hid hl
  clear hl
  have hbw := hb1.trans (hb2.mono hb1.size)
  clear hb1 hb2
  go_wp2_with fail
  refine (new_v _ w2).mono ?_
  rintro e w3 ⟨rfl, hC, hb3⟩
  have hbw3 := hbw.trans (hb3.mono hbw.size)
  have hCb : w.heap.size ≤ w2.heap.size := hbw.size
  generalize w2.heap.size = C at *
  clear hb3 hbw
  go_wp2_with fail
  go_loopw [8] (fun i wr => ∃ j : Nat, j ≤ a0.size ∧ i = .int .i64 (j : Int) ∧ CutAt wr C ⟨(l.drop j).toArray⟩ false ∧ Below w.heap.size w wr) (fun i _ => a0.size - (intOf i).toNat)
  case atStart => exact ⟨0, by omega, rfl, hC, hbw3⟩
  case round =>
    obtain ⟨j, hj, rfl, hCr, hbn⟩ := hrel
    clear hC hbw3
    by_cases hlt : j < a0.size
    · obtain ⟨b, hb⟩ : ∃ b, a0[j]'(by omega) = b := ⟨_, rfl⟩
      have hwb : wrap64 (b.toNat : Int) = b.toNat := by have := b.toNat_lt; unfold wrap64; omega
      have hone : Hid (hz 1 = 1) := Lib.hid (by decide)
      have hwb2 : IntKind.i64.wrap (b.toNat : Int) = b.toNat := by rw [IntKind.wrap_i64]; have := b.toNat_lt; omega
      have hjl : j < l.length := by omega
      have hlj : l[j]'hjl = b := by
        have e := HL.out
        have e2 := HS0.out
        subst e
        rw [List.getElem_append_left (by omega)]
        rw [← hb]
        have : s0[j]'(by omega) = a0.data.toList[j]'(by rw [e2]; omega) := by simp only [e2]
        rw [this]
        rfl
      have htk : Hid (((ofB ((l.drop j).take 1) : Nat) : Int) = (b.toNat : Int)) := Lib.hid (by
        rw [List.drop_eq_getElem_cons hjl, hlj]; simp [ofB])
      have hsz : (⟨(l.drop j).toArray⟩ : ByteArray).size = l.length - j := by simp [ByteArray.size]
      have hnum : ∀ w1, CutAt w1 C ⟨(l.drop j).toArray⟩ false → Calls Try.prog 25 #[.pointer (some ⟨C, 0, none⟩), .int .i64 1] w1 fun e w' => e = .returned (.int .i64 (b.toNat : Int)) ∧ CutAt w' C ⟨(l.drop (j + 1)).toArray⟩ false ∧ w' = w1.setCell ⟨C, 0, none⟩ (.string ⟨(l.drop (j + 1)).toArray⟩) := by
        intro w1 hC1
        have hnum := num_ok C ⟨(l.drop j).toArray⟩ 1 1 w1 hC1 hone (by omega) (by omega) (by rw [hsz]; omega) (by rw [hsz]; omega)
        rw [drop_extract l j 1 _ hsz, show (⟨(l.drop j).toArray⟩ : ByteArray).data.toList = l.drop j from by simp, htk.out] at hnum
        exact hnum
      have HN := Lib.hid hnum
      have hCd : CutAt wr.drew C ⟨(l.drop j).toArray⟩ false := hCr
      have hbd : Below w.heap.size w wr.drew := ⟨hbn.os, hbn.tape, hbn.output, hbn.size, hbn.block⟩
      clear hnum hsz hlj
      go_wp2_with fail
      go_region_held3 (fun w' => Below w.heap.size w w') (first | assumption | (rw [hw']; exact Below.setCell hbd hCb _) | exact (Below.setCell hbn hCb _).drew)
        ((go_at_call 25; refine (HN.out _ hCd).mono ?_; rintro e w' ⟨rfl, hC', hw'⟩))
      all_goals
        go_wp2_with fail
        go_roundw
        case rel => exact ⟨j + 1, by omega, by go_num, by first | exact hC' | (rw [hw'] at hC'; exact hC'), by first | assumption | exact (Below.setCell hbn hCb _).drew | (rw [hw']; exact Below.setCell hbd hCb _)⟩
        case measure => simp [intOf] <;> omega
    · obtain rfl : j = a0.size := by omega
      have hdl : l.drop a0.size = putB a1 h := by rw [← HL.out, ← hsl, List.drop_left]
      rw [hdl] at hCr
      obtain ⟨v, hv⟩ : ∃ v, Hid (sgV a1 (hz a2) = v) := ⟨_, Lib.hid rfl⟩
      obtain ⟨f, hf⟩ : ∃ f, Hid ((sgV a1 (hz a2) == a1) = f) := ⟨_, Lib.hid rfl⟩
      obtain ⟨M, hM⟩ : ∃ M, Hid (((ofB (putB a1 h) : Nat) : Int) = M) := ⟨_, Lib.hid rfl⟩
      have hMv : Hid (sgV M (hz a2) = v) := Lib.hid (by rw [← hM.out, ofB_put a1 h h1 h4, hh.out, sg_mod, ← hv.out, hh.out])
      have hvv : Hid ((sgV v (hz a2) == v) = true) := Lib.hid (by rw [← hv.out, sg_sg]; simp)
      have hfv : (v == a1) = f := by rw [← hv.out, hf.out]
      have hnum : ∀ w1, CutAt w1 C ⟨(putB a1 h).toArray⟩ false → Calls Try.prog 25 #[.pointer (some ⟨C, 0, none⟩), .int .i64 a2] w1 fun e w' => e = .returned (.int .i64 M) ∧ CutAt w' C ⟨#[]⟩ false ∧ w' = w1.setCell ⟨C, 0, none⟩ (.string ⟨#[]⟩) := by
        intro w1 hC1
        have hsz : (⟨(putB a1 h).toArray⟩ : ByteArray).size = h := by simp [ByteArray.size, putB_len]
        have hnum := num_ok C ⟨(putB a1 h).toArray⟩ a2 h w1 hC1 hh (by omega) (by omega) (by rw [hsz]; omega) (by rw [hsz]; omega)
        have hx := drop_extract (putB a1 h) 0 h h (by rw [putB_len]; omega)
        rw [List.drop_zero, Nat.zero_add, List.drop_of_length_le (by rw [putB_len]; omega)] at hx
        rw [hsz, hx, show (⟨(putB a1 h).toArray⟩ : ByteArray).data.toList = putB a1 h from by simp, List.take_of_length_le (by rw [putB_len]; omega), hM.out] at hnum
        exact hnum
      have HN := Lib.hid hnum
      have hfa : Hid (f = true → (h : Int) + 1 ≤ 4 → (sgV a1 (hz ((h : Int) + 1)) == a1) = true) := Lib.hid (by
        intro e hle
        have h0 := hf.out
        rw [e, hh.out] at h0
        have e1 : hz ((h : Int) + 1) = h + 1 := by unfold hz; rw [if_neg (by omega), if_neg (by omega)]; omega
        rw [e1]
        have := sg_more a1 h (h + 1) (pw_mono h (h + 1) h1 h4 (by split <;> omega)) (by simpa using h0)
        simp [this])
      have hfb : Hid (f = true → (sgV a1 (hz 4) == a1) = true) := Lib.hid (by
        intro e
        have h0 := hf.out
        rw [e, hh.out] at h0
        have e1 : hz 4 = 4 := by decide
        rw [e1]
        have hp : pw h ≤ pw 4 := by rcases show h = 1 ∨ h = 2 ∨ h = 3 ∨ h = 4 by omega with rfl | rfl | rfl | rfl <;> decide
        have := sg_more a1 h 4 hp (by simpa using h0)
        simp [this])
      clear hnum hdl
      go_wp2_with fail
      refine (HN.out _ hCr).mono ?_
      rintro e w' ⟨rfl, hC', hw'⟩
      have hbf : Below w.heap.size w w' := by rw [hw']; exact Below.setCell hbn hCb _
      clear hw' hCr hbn
      cases f
      · go_wp2_with (first | (go_at_call 18; refine (signed_any M a2 _).mono ?_; rw [hMv.out]; rintro e w' ⟨rfl, rfl⟩) | (go_at_call 27; refine (done_ok C ⟨#[]⟩ _ hC' rfl).mono ?_; rintro e w' ⟨rfl, rfl⟩) | (go_at_call_of 20 (Value.int IntKind.i64 a1); refine (fits_any a1 a2 _).mono ?_; rw [hf.out]; rintro e w' ⟨rfl, rfl⟩) | (go_at_call 20; refine (fits_any v a2 _).mono ?_; rw [hvv.out]; rintro e w' ⟨rfl, rfl⟩))
        go_ret
        exact ⟨rfl, hbf⟩
      · go_wp2_with (first | (go_at_call 18; refine (signed_any M a2 _).mono ?_; rw [hMv.out]; rintro e w' ⟨rfl, rfl⟩) | (go_at_call 27; refine (done_ok C ⟨#[]⟩ _ hC' rfl).mono ?_; rintro e w' ⟨rfl, rfl⟩))
        refine (fits_any a1 a2 _).mono ?_
        rw [hf.out]
        rintro e w' ⟨rfl, rfl⟩
        go_wp2_with fail
        refine (fits_any v a2 _).mono ?_
        rw [hvv.out]
        rintro e w' ⟨rfl, rfl⟩
        go_wp2_with fail
        refine (fits_any a1 a2 _).mono ?_
        rw [hf.out]
        rintro e w' ⟨rfl, rfl⟩
        go_wp2_with fail
        refine (size_v a2 h _ hh.out).mono ?_
        rintro e w' ⟨rfl, rfl⟩
        have HA := Lib.hid (hfa.out trivial)
        have HB := Lib.hid (hfb.out trivial)
        go_wp2_with fail
        all_goals
          refine (fits_any a1 _ _).mono ?_
          first | rw [HA.out (by assumption)] | rw [HB.out]
          rintro e w' ⟨rfl, rfl⟩
          go_wp2_with fail
          go_ret
          exact ⟨rfl, hbf⟩
theorem walk (a0 : ByteArray) (a1 : Int) (a2 : Int) (w : World) (w0 : a0.size ≤ maxLen) (w1 : (Lit.int .i64 a1).wf = true) (w2 : (Lit.int .i64 a2).wf = true) :
    Calls Try.prog 5 #[.string a0, .int .i64 a1, .int .i64 a2] w fun e w' => e = .returned (.bool true) ∧ Below w.heap.size w w' := by
  by_cases hs : a0.size ≤ 500
  · exact core a0 a1 a2 w hs (wf_lo w1).1 (wf_lo w1).2
  · have hs2 : decide (500 < a0.size) = true := by simp; omega
    go_enter Try.func5, Try.ntmps5
    go_wp2_with fail
    refine (works_v _).mono ?_
    rintro e w1 ⟨rfl, hb1⟩
    go_wp2_with fail
    go_ret
    exact ⟨rfl, hb1⟩
end Go.Proofs.Ytpcpohbbmeonbaa.bitsBack
