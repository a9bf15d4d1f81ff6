/- Any number's bytes behind any others, the number that it is with its sign, and whether it fits: the law BitsTells answers true. No condition. -/
import Derived.Test.YtpcpohbbmeonbaaWks02
namespace Go.Proofs.Ytpcpohbbmeonbaa.bitsTells
open Go.ChangeShapes Go.WideShapes Go.ChangeAt Go.RowKit
open Go.Proofs.Ytpcpohbbmeonbaa.bits
set_option linter.unusedVariables false
set_option maxHeartbeats 1000000 in
theorem core (a0 : ByteArray) (a1 a2 : Int) (w : World) (hs : a0.size ≤ 1000) (n1 : -9223372036854775808 ≤ a1) (n2 : a1 ≤ 9223372036854775807) :
    Calls Try.prog 3 #[.string a0, .int .i64 a1, .int .i64 a2] w fun e w' => e = .returned (.bool true) ∧ Below w.heap.size w w' := by
  obtain ⟨h, hh⟩ : ∃ h, Hid (hz a2 = h) := ⟨_, Lib.hid rfl⟩
  have hb := hz_bd a2
  rw [hh.out] at hb
  obtain ⟨h1, h4⟩ := hb
  obtain ⟨v, hv⟩ : ∃ v, Hid (sgV a1 (hz a2) = v) := ⟨_, Lib.hid rfl⟩
  obtain ⟨f, hf⟩ : ∃ f, Hid ((sgV a1 (hz a2) == a1) = f) := ⟨_, Lib.hid rfl⟩
  have hs2 : decide (1000 < a0.size) = false := by simp; omega
  go_enter Try.func3, Try.ntmps3
  go_wp2_with fail
  refine (works_v _).mono ?_
  rintro e w1 ⟨rfl, hb1⟩
  go_wp2_with fail
  refine (put_v a0 a1 a2 h _ (by omega) hh h1 h4).mono ?_
  rintro e w2 ⟨rfl, hb2⟩
  go_wp2_with fail
  refine (rput_v a0 a1 a2 h _ (by omega) hh h1 h4 n1 n2).mono ?_
  rintro e w3 ⟨rfl, hb3⟩
  generalize a0.data.toList ++ putB a1 h = l at *
  have HB := Lib.hid ((hb1.trans (hb2.mono hb1.size)).trans (hb3.mono (Nat.le_trans hb1.size hb2.size)))
  clear hb1 hb2 hb3
  go_wp2_with (first | (go_at_call 18; refine (signed_any a1 a2 _).mono ?_; rw [hv.out]; rintro e w' ⟨rfl, rfl⟩) | (go_at_call 19; refine (rsigned_any a1 a2 _ n1 n2).mono ?_; rw [hv.out]; rintro e w' ⟨rfl, rfl⟩) | (go_at_call 20; refine (fits_any a1 a2 _).mono ?_; rw [hf.out]; rintro e w' ⟨rfl, rfl⟩) | (go_at_call 21; refine (rfits_any a1 a2 f _ hf).mono ?_; rintro e w' ⟨rfl, rfl⟩))
  all_goals
    go_ret
    exact ⟨ret_bool (by simp [*]), HB.out⟩
theorem walk (a0 : ByteArray) (a1 : Int) (a2 : Int) (w : World) (w0 : a0.size ≤ maxLen) (w1 : (Lit.int .i64 a1).wf = true) (w2 : (Lit.int .i64 a2).wf = true) :
    Calls Try.prog 3 #[.string a0, .int .i64 a1, .int .i64 a2] w fun e w' => e = .returned (.bool true) ∧ Below w.heap.size w w' := by
  by_cases hs : a0.size ≤ 1000
  · exact core a0 a1 a2 w hs (wf_lo w1).1 (wf_lo w1).2
  · have hs2 : decide (1000 < a0.size) = true := by simp; omega
    go_enter Try.func3, Try.ntmps3
    go_wp2_with fail
    refine (works_v _).mono ?_
    rintro e w1 ⟨rfl, hb1⟩
    go_wp2_with fail
    go_ret
    exact ⟨rfl, hb1⟩
end Go.Proofs.Ytpcpohbbmeonbaa.bitsTells
