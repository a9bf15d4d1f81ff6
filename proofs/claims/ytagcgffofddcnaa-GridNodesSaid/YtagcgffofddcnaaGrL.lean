/- What works (layer 33). -/
import Derived.Test.YtagcgffofddcnaaGrK
import Derived.ChangeKeysEq
namespace Go.Proofs.Ytagcgffofddcnaa.gr
open Go.ChangeShapes Go.WideShapes Go.ChangeAt Go.RowKit
open Go.Proofs.Ytagcgffofddcnaa.ro
open Go.Proofs.Ytagcgffofddcnaa
set_option linter.unusedVariables false
set_option linter.unusedSimpArgs false
def LT2 : List (List C2) := [[(0, false), (1, false)], [(0, false), (1, true)]]
theorem rv_of {w : World} {g : Nat} {l : List C2} (h : w.heap[g]? = some (.cells (flat enC l).toArray 54 (0, 0))) (hl : l.length ≤ 1000000) : RV 2 enC w (.slice (some ⟨g, 0, none⟩) l.length l.length) l := by
  have ho : OR 2 enC w 0 54 (.slice (some ⟨g, 0, none⟩) l.length l.length) l :=
    ⟨by rw [flat_len recC], .inr ⟨g, l.length, (flat enC l).toArray, rfl, Nat.zero_le _, h, Nat.le_refl _, by unfold maxLen; omega, by simp [flat_len recC], by rw [← flat_len recC l]; simp⟩⟩
  exact OR.rv recC ho
set_option maxHeartbeats 4000000 in
theorem two_v (w : World) : Calls Try.prog 27 #[] w fun e w' => ∃ ad, e = .returned (.slice ad 2 2) ∧ PM w' (.slice ad 2 2) LT2 ∧ Below w.heap.size w w' := by
  obtain ⟨W1, hW1⟩ : ∃ W, w.alloc (.cells #[.int .i64 0, .bool false, .int .i64 1, .bool false] 54) = W := ⟨_, rfl⟩
  have hb1 : Below w.heap.size w W1 := by rw [← hW1]; go_grown
  have hX1 : W1.heap[w.heap.size]? = some (.cells #[.int .i64 0, .bool false, .int .i64 1, .bool false] 54 (0, 0)) := by rw [← hW1]; exact heap_new _ _
  obtain ⟨W2, hW2⟩ : ∃ W, W1.alloc (.cells #[.int .i64 0, .bool false, .int .i64 1, .bool true] 54) = W := ⟨_, rfl⟩
  have hb2 : Below W1.heap.size W1 W2 := by rw [← hW2]; go_grown
  have hX2 : W2.heap[W1.heap.size]? = some (.cells #[.int .i64 0, .bool false, .int .i64 1, .bool true] 54 (0, 0)) := by rw [← hW2]; exact heap_new _ _
  obtain ⟨W3, hW3⟩ : ∃ W, W2.alloc (.cells #[.slice (some ⟨w.heap.size, 0, none⟩) 2 2, .slice (some ⟨W1.heap.size, 0, none⟩) 2 2] 46) = W := ⟨_, rfl⟩
  have hb3 : Below W2.heap.size W2 W3 := by rw [← hW3]; go_grown
  have hX3 : W3.heap[W2.heap.size]? = some (.cells #[.slice (some ⟨w.heap.size, 0, none⟩) 2 2, .slice (some ⟨W1.heap.size, 0, none⟩) 2 2] 46 (0, 0)) := by rw [← hW3]; exact heap_new _ _
  have hr1 : RV 2 enC W3 (.slice (some ⟨w.heap.size, 0, none⟩) 2 2) [(0, false), (1, false)] := rv_of (l := [(0, false), (1, false)]) (kb hX1 (tr3 hb2 hb3)) (by decide)
  have hr2 : RV 2 enC W3 (.slice (some ⟨W1.heap.size, 0, none⟩) 2 2) [(0, false), (1, true)] := rv_of (l := [(0, false), (1, true)]) (kb hX2 hb3) (by decide)
  have HP : Hid (PM W3 (.slice (some ⟨W2.heap.size, 0, none⟩) 2 2) LT2) := Lib.hid ⟨some ⟨W2.heap.size, 0, none⟩, 2, rfl, Nat.le_refl _, by decide, fun i hi => by
    obtain ⟨y0, y1⟩ := cel2 hX3
    match i, hi with
    | 0, _ => exact ⟨W2.heap.size, 0, _, rfl, lt_of hX3, y0, hr1⟩
    | 1, _ => exact ⟨W2.heap.size, 0, _, rfl, lt_of hX3, y1, hr2⟩⟩
  have HB := Lib.hid (tr3 (tr3 hb1 hb2) hb3)
  have hz1 : W1.heap.size = w.heap.size + 1 := by rw [← hW1]; simp
  have hz2 : W2.heap.size = w.heap.size + 2 := by rw [← hW2]; simp [hz1]
  have HZ := Lib.hid hz2
  obtain ⟨P, hP⟩ : ∃ P : Ending → World → Prop, (fun (e : Ending) (w' : World) => ∃ ad, e = .returned (.slice ad 2 2) ∧ PM w' (.slice ad 2 2) LT2 ∧ Below w.heap.size w w') = P := ⟨_, rfl⟩
  have HF : P (.returned (.slice (some ⟨W2.heap.size, 0, none⟩) 2 2)) W3 := by rw [← hP]; exact ⟨_, rfl, HP.out, HB.out⟩
  have HF' := Lib.hid HF
  rw [hP]
  clear hP hb1 hX1 hb2 hX2 hb3 hX3 hr1 hr2 hz1 hz2 HF
  go_enter Try.func27, Try.ntmps27
  go_wp2_with fail
  first
    | exact HF'.out
    | (rw [HZ.out] at HF'; exact HF'.out)
    | (go_ret; exact HF'.out)
theorem way_tt : Way LT2 (0, 0) (1, 1) := .on (q := (1, 0)) (by decide) (.on (q := (0, 0)) (by decide) .here)
theorem way_tf : ¬ Way LT2 (1, 0) (0, 1) := by
  intro h
  cases h with
  | on hq h2 =>
    have e1 : ahd LT2 (0, 1) = [(0, 0)] := by decide
    rw [e1] at hq
    simp at hq
    subst hq
    cases h2 with
    | on hq h3 =>
      have e2 : ahd LT2 (0, 0) = [] := by decide
      rw [e2] at hq
      simp at hq
theorem bef_tt : BefP LT2 0 0 1 1 := ⟨by decide, by decide, (0, 0), (1, 1), by decide, by decide, way_tt⟩
theorem bef_tf : ¬ BefP LT2 1 0 0 1 := by
  rintro ⟨_, _, f, z, h1, h2, h3⟩
  have e1 : fndP LT2 (hd 1) (hd 0) = some (1, 0) := by decide
  have e2 : fndP LT2 (hd 0) (hd 1) = some (0, 1) := by decide
  rw [e1] at h1
  rw [e2] at h2
  cases h1
  cases h2
  exact way_tf h3
theorem ch_tt : chkE LT2 = 0 := by decide
theorem eds_tt : eds LT2 = [(0, 0, 0, 1), (0, 0, 1, 0), (1, 0, 1, 1), (0, 1, 1, 1)] := by decide
theorem enc_3 : fl.enc 3 = 4613937818241073152 := by decide
theorem enc_4 : fl.enc 4 = 4616189618054758400 := by decide
theorem cx00 : cx 0 0 = .complex .f64 0 0 := by unfold cx; rw [show hd 0 = 0 from rfl, enc_0]
theorem cx10 : cx 1 0 = .complex .f64 4607182418800017408 0 := by unfold cx; rw [show hd 0 = 0 from rfl, show hd 1 = 1 from rfl, enc_0, enc_1]
theorem cx01 : cx 0 1 = .complex .f64 0 4607182418800017408 := by unfold cx; rw [show hd 0 = 0 from rfl, show hd 1 = 1 from rfl, enc_0, enc_1]
theorem cx11 : cx 1 1 = .complex .f64 4607182418800017408 4607182418800017408 := by unfold cx; rw [show hd 1 = 1 from rfl, enc_1]
theorem cx34 : cx 3 4 = .complex .f64 4613937818241073152 4616189618054758400 := by unfold cx; rw [show hd 3 = 3 from rfl, show hd 4 = 4 from rfl, enc_3, enc_4]
theorem self_o (n : Nat) (h : n < 2 ^ 52) : (FloatKind.f64.format.order (fl.enc n) (fl.enc n) == some .eq) = true := by rw [eqo h h]; simp
theorem o0 : (FloatKind.f64.format.order 0 0 == some .eq) = true := by have := self_o 0 (by decide); rwa [enc_0] at this
theorem o1 : (FloatKind.f64.format.order 4607182418800017408 4607182418800017408 == some .eq) = true := by have := self_o 1 (by decide); rwa [enc_1] at this
theorem o3 : (FloatKind.f64.format.order 4613937818241073152 4613937818241073152 == some .eq) = true := by have := self_o 3 (by decide); rwa [enc_3] at this
theorem o4 : (FloatKind.f64.format.order 4616189618054758400 4616189618054758400 == some .eq) = true := by have := self_o 4 (by decide); rwa [enc_4] at this
end Go.Proofs.Ytagcgffofddcnaa.gr
