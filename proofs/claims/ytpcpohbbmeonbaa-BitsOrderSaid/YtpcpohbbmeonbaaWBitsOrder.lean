/- Of two numbers from 0 on that four bytes have room for the greater one's bytes come later; with a sign both are so again, where they fit: the law BitsOrder answers true. No condition. -/
import Derived.Test.YtpcpohbbmeonbaaWks02
namespace Go.Proofs.Ytpcpohbbmeonbaa.bitsOrder
open Go.ChangeShapes Go.WideShapes Go.ChangeAt Go.RowKit
open Go.Proofs.Ytpcpohbbmeonbaa.bits
set_option linter.unusedVariables false
theorem val4 (a : Int) (a1 : 0 ≤ a) (a2 : a < 4294967296) : a = (byteAt a 3).toNat * 16777216 + (byteAt a 2).toNat * 65536 + (byteAt a 1).toNat * 256 + (byteAt a 0).toNat := by
  rw [byteAt_val, byteAt_val, byteAt_val, byteAt_val]
  simp
  omega
theorem less4 (a b : Int) (a1 : 0 ≤ a) (a2 : a < 4294967296) (b1 : 0 ≤ b) (b2 : b < 4294967296) : Op.bytesLess (putB a 4) (putB b 4) = decide (a < b) := by
  have ea := val4 a a1 a2
  have eb := val4 b b1 b2
  simp only [putB]
  generalize byteAt a 3 = x3 at *
  generalize byteAt a 2 = x2 at *
  generalize byteAt a 1 = x1 at *
  generalize byteAt a 0 = x0 at *
  generalize byteAt b 3 = y3 at *
  generalize byteAt b 2 = y2 at *
  generalize byteAt b 1 = y1 at *
  generalize byteAt b 0 = y0 at *
  have h3 := x3.toNat_lt
  have h2 := x2.toNat_lt
  have h1 := x1.toNat_lt
  have h0 := x0.toNat_lt
  have g3 := y3.toNat_lt
  have g2 := y2.toNat_lt
  have g1 := y1.toNat_lt
  have g0 := y0.toNat_lt
  have L : ∀ x y : UInt8, (x < y) ↔ x.toNat < y.toNat := fun x y => UInt8.lt_iff_toNat_lt
  have E : ∀ x y : UInt8, (x = y) ↔ x.toNat = y.toNat := fun x y => ⟨fun h => by rw [h], fun h => UInt8.toNat_inj.1 h⟩
  rw [Bool.eq_iff_iff]
  simp [Op.bytesLess, L, E]
  omega
theorem same4 (a b : Int) (a1 : 0 ≤ a) (a2 : a < 4294967296) (b1 : 0 ≤ b) (b2 : b < 4294967296) : (putB a 4 == putB b 4) = (a == b) := by
  by_cases h : a = b
  · subst h; simp
  · have ea := val4 a a1 a2
    have eb := val4 b b1 b2
    have : putB a 4 ≠ putB b 4 := by
      intro e
      have e' : [byteAt a 3, byteAt a 2, byteAt a 1, byteAt a 0] = [byteAt b 3, byteAt b 2, byteAt b 1, byteAt b 0] := e
      injection e' with e3 t3
      injection t3 with e2 t2
      injection t2 with e1 t1
      injection t1 with e0 _
      rw [e3, e2, e1, e0] at ea
      omega
    rw [beq_eq_false_iff_ne.2 this, beq_eq_false_iff_ne.2 h]
theorem sg4 (a : Int) (a1 : 0 ≤ a) (a2 : a < 4294967296) : (sgV a (hz 4) == a) = decide (a < 2147483648) := by
  have e : hz 4 = 4 := by decide
  rw [e]
  unfold sgV
  simp only [pw]
  have : a % 4294967296 = a := Int.emod_eq_of_lt a1 a2
  rw [this]
  by_cases h : a < 2147483648
  · rw [if_pos (by omega)]; simp [h]
  · rw [if_neg (by omega)]
    have : decide (a < 2147483648) = false := by simp; omega
    rw [this]
    simp
    omega
set_option maxHeartbeats 1000000 in
theorem core (a b : Int) (w : World) (a1 : 0 ≤ a) (a2 : a < 4294967296) (b1 : 0 ≤ b) (b2 : b < 4294967296) :
    Calls Try.prog 6 #[.int .u32 a, .int .u32 b] w fun e w' => e = .returned (.bool true) ∧ Below w.heap.size w w' := by
  have wa : wrap64 a = a := by unfold wrap64; omega
  have wb : wrap64 b = b := by unfold wrap64; omega
  have h4 : Hid (hz 4 = 4) := Lib.hid (by decide)
  obtain ⟨la, hla⟩ : ∃ la, Hid (putB a 4 = la) := ⟨_, Lib.hid rfl⟩
  obtain ⟨lb, hlb⟩ : ∃ lb, Hid (putB b 4 = lb) := ⟨_, Lib.hid rfl⟩
  go_enter Try.func6, Try.ntmps6
  go_wp2_with fail
  refine (works_v _).mono ?_
  rintro e w1 ⟨rfl, hb1⟩
  go_wp2_with fail
  refine (put_v ⟨#[]⟩ a 4 4 _ (by decide) h4 (by omega) (by omega)).mono ?_
  rintro e w2 ⟨rfl, hb2⟩
  go_wp2_with fail
  refine (put_v ⟨#[]⟩ b 4 4 _ (by decide) h4 (by omega) (by omega)).mono ?_
  rintro e w3 ⟨rfl, hb3⟩
  have hless := less4 a b a1 a2 b1 b2
  have hsame := same4 a b a1 a2 b1 b2
  have hsg := sg4 a a1 a2
  have hlen : ¬ 9223372036854775807 < la.length + lb.length := by rw [← hla.out, ← hlb.out, putB_len, putB_len]; omega
  have hsz : la.length ≤ 1000000 := by rw [← hla.out, putB_len]; omega
  rw [hla.out, hlb.out] at hless hsame ⊢
  obtain ⟨v, hv⟩ : ∃ v, Hid (sgV a (hz 4) = v) := ⟨_, Lib.hid rfl⟩
  have hf := Lib.hid hsg
  rw [hv.out] at hsg
  simp only [List.nil_append]
  have hcat : (⟨la.toArray⟩ : ByteArray) ++ ⟨lb.toArray⟩ = ⟨(la ++ lb).toArray⟩ := by simp [ByteArray.ext_iff]
  have HB := ((hb1.trans (hb2.mono hb1.size)).trans (hb3.mono (Nat.le_trans hb1.size hb2.size)))
  have HS := Nat.le_trans hb1.size (Nat.le_trans hb2.size hb3.size)
  clear hb1 hb2 hb3
  go_wp2_with (first | (go_at_call 18; refine (signed_any a 4 _).mono ?_; rw [hv.out]; rintro e w' ⟨rfl, rfl⟩) | (go_at_call 20; refine (fits_any a 4 _).mono ?_; rw [hf.out]; rintro e w' ⟨rfl, rfl⟩) | (go_at_call 16; refine (put_v ⟨la.toArray⟩ b 4 4 _ hsz h4 (by omega) (by omega)).mono ?_; rw [hlb.out]; rintro e w4 ⟨rfl, hb4⟩))
  all_goals
    go_ret
    exact ⟨ret_bool (by simp), HB.trans (hb4.mono HS)⟩
theorem walk (a0 : Int) (a1 : Int) (w : World) (w0 : (Lit.int .u32 a0).wf = true) (w1 : (Lit.int .u32 a1).wf = true) :
    Calls Try.prog 6 #[.int .u32 a0, .int .u32 a1] w fun e w' => e = .returned (.bool true) ∧ Below w.heap.size w w' := by
  have h0 := bounds_u32 w0
  have h1 := bounds_u32 w1
  exact core a0 a1 w (by omega) (by omega) (by omega) (by omega)
end Go.Proofs.Ytpcpohbbmeonbaa.bitsOrder
