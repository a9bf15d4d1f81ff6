/- Which event could not happen to an iteration: all cases (layer 34). -/
import Derived.Test.YtgbeghaojkhiaaaTrM
namespace Go.Proofs.Ytgbeghaojkhiaaa.tr
open Go.ChangeShapes Go.WideShapes Go.ChangeAt Go.RowKit Go.Maps
open Go.Proofs.Ytgbeghaojkhiaaa.ro
set_option linter.unusedVariables false
set_option linter.unusedSimpArgs false
theorem dF {p : Prop} [Decidable p] (h : ¬ p) : decide p = false := decide_eq_false h
theorem dT {p : Prop} [Decidable p] (h : p) : decide p = true := decide_eq_true h
theorem bF {a b : Int} (h : ¬ a = b) : (a == b) = false := by simpa using h
theorem cn_v {w : World} {ρ : Ro} {j : Nat} {x : LM} (h : LpAt w ρ j x) (hl : x.s.its.length ≤ 2000) (k z i s r : Int) (hr : chN x.s k i s = r) :
    Calls Try.prog 34 #[.pointer (some ⟨x.B, 0, none⟩), .agg #[.int .i64 k, .int .i64 z, .int .i64 i, .int .i64 s]] w fun e w' => e = .returned (.int .i64 r) ∧ Below w.heap.size w w' := by
  obtain ⟨a, cp, hrv, hnc, hcm, hit⟩ := h.form
  have c0 : w.cell? ⟨x.B, 0, none⟩ = some (.slice a x.s.its.length cp) := by rw [← hrv]; exact cel h.o 0
  obtain ⟨n, hn⟩ : ∃ n, x.s.its.length = n := ⟨_, rfl⟩
  rw [hn] at c0 hl hit
  unfold chN at hr
  rw [hn] at hr
  by_cases h1 : i < 0
  · rw [if_pos (.inl h1)] at hr
    subst hr
    exact cn_neg x.B n cp a k z s i w c0 h1 (dT h1)
  obtain ⟨q, rfl⟩ : ∃ q : Nat, i = (q : Int) := ⟨i.toNat, by omega⟩
  by_cases h2 : (n : Int) ≤ (q : Int)
  · rw [if_pos (.inr h2)] at hr
    subst hr
    exact cn_big x.B n cp a k z s q w c0 h1 (dF h1) h2 (dT h2) (dT (by omega)) (by omega)
  have hq : q < n := by omega
  rw [if_neg (by omega)] at hr
  obtain ⟨g, b, rfl, c1, hb, _⟩ := hit q hq
  have t0 := cel hb 0
  have t1 := cel hb 1
  have t2 := cel hb 2
  have t4 := cel hb 4
  simp only [Int.toNat_natCast] at hr
  obtain ⟨y, hy⟩ : ∃ y, x.s.its.getD q it0 = y := ⟨_, rfl⟩
  simp only [hy] at hr t0 t1 t2 t4
  obtain ⟨s0, b1, b2, b3, b4⟩ := y
  simp only [itc] at t0 t1 t2 t4
  have P6 : ¬ n ≤ q := by omega
  have P8 : (q : Int) < (n : Int) := by omega
  cases b4 with
  | true =>
    rw [if_pos rfl] at hr
    subst hr
    exact cn_f x.B n cp _ k z s q g b s0 b1 b2 b3 w c0 rfl h1 (dF h1) h2 (dF h2) (dF P6) P6 hq P8 c1 t0 t1 t2 t4
  | false =>
  rw [if_neg (by simp)] at hr
  simp only [gd] at hr
  by_cases k2 : k = 2
  · subst k2
    simp only [if_true] at hr
    cases b1 with
    | true =>
      simp at hr
      subst hr
      exact cn_2b x.B n cp _ z s q g b s0 b2 b3 w c0 rfl h1 (dF h1) h2 (dF h2) (dF P6) P6 hq P8 c1 t0 t1 t2 t4
    | false =>
    by_cases hs : s = s0
    · subst hs
      simp only [Bool.not_false, decide_true, Bool.and_self, Bool.true_eq_false, if_false, true_and] at hr
      cases b2 with
      | false =>
        simp at hr
        subst hr
        exact cn_2n x.B n cp _ z q g b s b3 w c0 rfl h1 (dF h1) h2 (dF h2) (dF P6) P6 hq P8 c1 t0 t1 t2 t4
      | true =>
      by_cases hq0 : 0 < q
      · obtain ⟨p, rfl⟩ : ∃ p, q = p + 1 := ⟨q - 1, by omega⟩
        obtain ⟨g', b9, e9, e1, hb9, _⟩ := hit p (by omega)
        rw [Option.some.injEq, Addr.mk.injEq] at e9
        obtain ⟨rfl, _⟩ := e9
        have u0 := cel hb9 0
        have u4 := cel hb9 4
        rw [Nat.add_sub_cancel] at hr
        obtain ⟨y9, hy9⟩ : ∃ y, x.s.its.getD p it0 = y := ⟨_, rfl⟩
        simp only [hy9] at hr u0 u4
        obtain ⟨s9, _, _, _, f9⟩ := y9
        simp only [itc] at u0 u4
        have z1 : (0 : Int) < ((p + 1 : Nat) : Int) := by omega
        have j1 : ((p + 1 : Nat) : Int) - 1 = (p : Int) := by omega
        have j2 : IntKind.i64.wrap (p : Int) = (p : Int) := by rw [IntKind.wrap_i64]; omega
        cases f9 with
        | true =>
          simp at hr
          subst hr
          exact cn_2f x.B n cp _ z (p + 1) g b s b3 p b9 s9 w c0 rfl h1 (dF h1) h2 (dF h2) (dF P6) P6 hq P8 c1 t0 t1 t2 t4 z1 (dT z1) hq0 (dT hq0) j1 j2 (by omega) (by omega) e1 u0 u4
        | false =>
          by_cases l1 : s9 ≤ s
          · rw [if_pos ⟨trivial, z1, rfl, l1⟩] at hr
            subst hr
            exact cn_2l x.B n cp _ z (p + 1) g b s b3 p b9 s9 w c0 rfl h1 (dF h1) h2 (dF h2) (dF P6) P6 hq P8 c1 t0 t1 t2 t4 z1 (dT z1) hq0 (dT hq0) j1 j2 (by omega) (by omega) e1 u0 u4 l1 (dT l1)
          · rw [if_neg (fun h => l1 h.2.2.2)] at hr
            subst hr
            exact cn_2m x.B n cp _ z (p + 1) g b s b3 p b9 s9 w c0 rfl h1 (dF h1) h2 (dF h2) (dF P6) P6 hq P8 c1 t0 t1 t2 t4 z1 (dT z1) hq0 (dT hq0) j1 j2 (by omega) (by omega) e1 u0 u4 l1 (dF l1)
      · have z1 : ¬ (0 : Int) < (q : Int) := by omega
        rw [if_neg (fun h => z1 h.2.1)] at hr
        subst hr
        exact cn_20 x.B n cp _ z q g b s b3 w c0 rfl h1 (dF h1) h2 (dF h2) (dF P6) P6 hq P8 c1 t0 t1 t2 t4 z1 (dF z1) hq0 (dF hq0)
    · simp [hs] at hr
      subst hr
      exact cn_2s x.B n cp _ z s q g b s0 b2 b3 w c0 rfl h1 (dF h1) h2 (dF h2) (dF P6) P6 hq P8 c1 t0 t1 t2 t4 hs (bF hs) (dF hs)
  · rw [if_neg k2] at hr
    by_cases k4 : k = 4
    · subst k4
      simp only [if_true] at hr
      cases b1 with
      | false =>
        simp at hr
        subst hr
        exact cn_4b x.B n cp _ z s q g b s0 b2 b3 w c0 rfl h1 (dF h1) h2 (dF h2) (dF P6) P6 hq P8 c1 t0 t1 t2 t4
      | true =>
      by_cases hs : s = s0
      · subst hs
        simp at hr
        subst hr
        exact cn_4g x.B n cp _ z q g b s b2 b3 w c0 rfl h1 (dF h1) h2 (dF h2) (dF P6) P6 hq P8 c1 t0 t1 t2 t4
      · simp [hs] at hr
        subst hr
        exact cn_4s x.B n cp _ z s q g b s0 b2 b3 w c0 rfl h1 (dF h1) h2 (dF h2) (dF P6) P6 hq P8 c1 t0 t1 t2 t4 hs (bF hs) (dF hs)
    · rw [if_neg k4] at hr
      cases b1 with
      | false =>
        simp at hr
        subst hr
        exact cn_ob x.B n cp _ k z s q g b s0 b2 b3 w c0 rfl h1 (dF h1) h2 (dF h2) (dF P6) P6 hq P8 c1 t0 t1 t2 t4 k2 (bF k2) (dF k2) k4 (bF k4) (dF k4)
      | true =>
      by_cases l1 : s0 < s
      · by_cases m1 : s ≤ 1048575
        · simp [l1, m1, k2] at hr
          subst hr
          exact cn_og x.B n cp _ k z s q g b s0 b2 b3 w c0 rfl h1 (dF h1) h2 (dF h2) (dF P6) P6 hq P8 c1 t0 t1 t2 t4 k2 (bF k2) (dF k2) k4 (bF k4) (dF k4) l1 (dT l1) m1 (dT m1)
        · simp [l1, m1] at hr
          subst hr
          exact cn_om x.B n cp _ k z s q g b s0 b2 b3 w c0 rfl h1 (dF h1) h2 (dF h2) (dF P6) P6 hq P8 c1 t0 t1 t2 t4 k2 (bF k2) (dF k2) k4 (bF k4) (dF k4) l1 (dT l1) m1 (dF m1)
      · simp [l1] at hr
        subst hr
        exact cn_os x.B n cp _ k z s q g b s0 b2 b3 w c0 rfl h1 (dF h1) h2 (dF h2) (dF P6) P6 hq P8 c1 t0 t1 t2 t4 k2 (bF k2) (dF k2) k4 (bF k4) (dF k4) l1 (dF l1)
end Go.Proofs.Ytgbeghaojkhiaaa.tr
