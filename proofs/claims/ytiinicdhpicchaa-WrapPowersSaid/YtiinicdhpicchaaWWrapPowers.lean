/- Sums in any order and in pieces are sums at once; powers of sums of how often are products of powers: the law WrapPowers answers true. No condition. -/
import Derived.Test.YtiinicdhpicchaaZp
namespace Go.Proofs.Ytiinicdhpicchaa.wrapPowers
open Go.ChangeShapes Go.WideShapes Go.ChangeAt Go.RowKit
set_option linter.unusedVariables false
theorem u64_lo (a : Int) : 0 ≤ IntKind.u64.wrap a := by rw [IntKind.wrap_u64]; omega
theorem mod_k (u : Int) (len : Nat) (h0 : 0 ≤ u) (hl : 0 < len) (hl2 : len ≤ 1000) : ∃ k : Nat, k < len ∧ IntKind.i64.wrap (u.tmod len) = k := by
  rw [Int.tmod_eq_emod_of_nonneg h0]
  have h1 := Int.emod_nonneg u (show (len : Int) ≠ 0 by omega)
  have h2 := Int.emod_lt_of_pos u (show (0 : Int) < len by omega)
  refine ⟨(u % len).toNat, by omega, ?_⟩
  rw [IntKind.wrap_i64]; omega
theorem walk (a0 : Option Addr) (len0 cap0 : Nat) (z0 : List Int) (a1 : Int) (a2 : Int) (a3 : Int) (a4 : Int) (w : World) (w0 : IsRow .i64 w a0 len0 cap0 z0) (w1 : (Lit.int .i64 a1).wf = true) (w2 : (Lit.int .i64 a2).wf = true) (w3 : (Lit.int .u8 a3).wf = true) (w4 : (Lit.int .u8 a4).wf = true) :
    Calls Try.prog 6 #[.slice a0 len0 cap0, .int .i64 a1, .int .i64 a2, .int .u8 a3, .int .u8 a4] w fun e w' => e = .returned (.bool true) ∧ Below w.heap.size w w' := by
  have b2 := wf_lo w2
  have b3 := bounds_u8 w3
  have b4 := bounds_u8 w4
  obtain ⟨m, rfl⟩ := Int.eq_ofNat_of_zero_le b3.1
  obtain ⟨n, rfl⟩ := Int.eq_ofNat_of_zero_le b4.1
  by_cases hbig : 1000 < len0
  · exact big a0 len0 cap0 a1 a2 m n w hbig
  · have hv := view_of_row w0
    rcases Nat.eq_zero_or_pos len0 with rfl | hpos
    · rcases w0 with ⟨rfl, _, rfl, _⟩ | ⟨x, rfl, _, hm, _, hc, _⟩
      · exact zeroN a1 a2 m n w (by omega) (by omega) b2.1 b2.2
      · rcases Nat.eq_zero_or_pos cap0 with rfl | hp
        · exact zeroZ x a1 a2 m n w (by omega) (by omega) b2.1 b2.2
        · obtain ⟨b, off, rfl, _⟩ := ints_at hc (by omega)
          exact zeroS b off cap0 hp (by unfold maxLen at hm; omega) a1 a2 m n w (by omega) (by omega) b2.1 b2.2
    · rcases hv.cases with ⟨h, _⟩ | ⟨hne, b, off, cap, h, _⟩
      · have := hv.len.1; rw [h] at this; simp at this; omega
      · have hl := hv.len.1
        simp only [Value.slice.injEq] at h
        obtain ⟨rfl, _, rfl⟩ := h
        obtain ⟨k, hk, hkk⟩ := mod_k (IntKind.u64.wrap a1) len0 (u64_lo a1) hpos (by omega)
        exact core b off len0 cap0 _ a1 a2 m n k w hv hpos (by omega) hk hkk (by omega) (by omega) b2.1 b2.2
end Go.Proofs.Ytiinicdhpicchaa.wrapPowers
