/- The instruction that bytes are, as the document has it (layer 3). -/
import Derived.Test.YthllikmnlnakkaaInE
namespace Go.Proofs.Ythllikmnlnakkaa.ins
open Go.ChangeShapes Go.WideShapes Go.ChangeAt Go.RowKit
open Go.Proofs.Ythllikmnlnakkaa.bin Go.Proofs.Ythllikmnlnakkaa.bits
set_option linter.unusedVariables false
set_option linter.unusedSimpArgs false
theorem pget_of (l : List UInt8) (w : World) :
    Calls Try.prog 26 #[.string ⟨l.toArray⟩] w fun e w' => e = .returned (GV l) ∧ Below w.heap.size w w' := by
  by_cases h1 : l.length < 4
  · rw [gv_bad l 1 (by unfold getE; rw [if_pos h1]) (by decide)]
    exact pget_short l w h1
  · by_cases h2 : 4 < l.length
    · rw [gv_bad l 2 (by unfold getE; rw [if_neg h1, if_pos h2]) (by decide)]
      exact pget_long l w h2
    · obtain ⟨b, rest, rfl⟩ : ∃ b rest, l = b :: rest := by
        cases l with
        | nil => simp at h1
        | cons b rest => exact ⟨b, rest, rfl⟩
      exact pget_v b rest w (by rw [List.length_cons] at h1 h2; omega)
def valsL : List UInt8 → List UInt8 → List Int
  | [], _ => []
  | c :: f, r => valB c (r.take (wd c)) :: valsL f (r.drop (wd c))
theorem readL_bad (f : List UInt8) : ∀ r, (readL f r).1 = 0 ∨ (readL f r).1 = 3 := by
  induction f with
  | nil => intro r; exact .inl rfl
  | cons c f ih =>
    intro r
    unfold readL
    split
    · exact ih _
    · exact .inr rfl
theorem readL_vals (f : List UInt8) : ∀ r, (readL f r).1 = 0 → (readL f r).2.1 = valsL f r ∧ (readL f r).2.2 = r.drop (sumW f) := by
  induction f with
  | nil => intro r _; exact ⟨rfl, by simp [readL, sumW]⟩
  | cons c f ih =>
    intro r h
    unfold readL at h ⊢
    split
    · rename_i hk
      rw [if_pos hk] at h
      obtain ⟨h1, h2⟩ := ih _ h
      exact ⟨by simp only [valsL]; rw [h1], by simp only [sumW]; rw [h2, List.drop_drop]⟩
    · rename_i hk
      rw [if_neg hk] at h
      exact absurd h (by simp)
theorem chk_vals (f : List UInt8) : ∀ (r : List UInt8) (z : List Int), (∀ x ∈ z, x = 0) → chkL f (valsL f r ++ z) = (readL f r).1 := by
  induction f with
  | nil =>
    intro r z hz
    have : z.all (· == 0) = true := List.all_eq_true.2 fun x hx => by simp [hz x hx]
    simp [valsL, chkL, readL, this]
  | cons c f ih =>
    intro r z hz
    show (if okL c (valB c (r.take (wd c))) then chkL f (valsL f (r.drop (wd c)) ++ z) else 3) = _
    rw [ih _ z hz]
    show _ = (if okL c (valB c (r.take (wd c))) then ((readL f (r.drop (wd c))).1, valB c (r.take (wd c)) :: (readL f (r.drop (wd c))).2.1, (readL f (r.drop (wd c))).2.2) else (3, [], r)).1
    split <;> rfl
theorem vals_len (f : List UInt8) : ∀ r, (valsL f r).length = f.length := by
  induction f with
  | nil => intro r; rfl
  | cons c f ih => intro r; simp [valsL, ih]
theorem three_pad (vs : List Int) (h : vs.length ≤ 3) : three (vs.getD 0 0) (vs.getD 1 0) (vs.getD 2 0) = vs ++ List.replicate (3 - vs.length) 0 := by
  match vs, h with
  | [], _ => rfl
  | [a], _ => rfl
  | [a, b], _ => rfl
  | [a, b, c], _ => rfl
theorem row3_set2 (vs : List Int) (m n : Int) (h : vs.length < 3) : (row3 (vs ++ [m])).set! vs.length (.int .i64 n) = row3 (vs ++ [n]) := by
  match vs, h with
  | [], _ => rfl
  | [a], _ => rfl
  | [a, b], _ => rfl
theorem str_sub (l : List UInt8) (i k : Nat) : (⟨l.toArray⟩ : ByteArray).extract i (i + k) = ⟨((l.drop i).take k).toArray⟩ := by
  rw [ByteArray.ext_iff, ByteArray.data_extract]
  apply Array.ext'
  rw [Array.toList_extract, List.extract_eq_take_drop, show i + k - i = k by omega]
theorem of_l (l : List UInt8) (w : World) (h : l.length ≤ 4) : Calls Try.prog 28 #[.string ⟨l.toArray⟩] w fun e w' => e = .returned (.int .i64 (ofB l)) ∧ w = w' := by
  have := of_v ⟨l.toArray⟩ w (by rw [str_size]; exact h)
  simpa using this
set_option maxRecDepth 20000 in
theorem rget_short (l : List UInt8) (w : World) (h : l.length < 4) : Calls Try.prog 30 #[.string ⟨l.toArray⟩] w fun e w' => e = .returned (gz 1) ∧ Below w.heap.size w w' := by
  have hs := str_size l
  have hI : (l.length : Int) < 4 := by omega
  unfold gz
  go_enter Try.func30, Try.ntmps30
  go_wp2_with fail
  exact bodyPost_ret (v := .tuple #[.agg #[.int .i64 0, .int .i64 0, .int .i64 0, .int .i64 0], .int .i64 1]) (by simp [results, Try.results30, go_sem]) rfl ⟨rfl, by go_grown⟩
set_option maxRecDepth 20000 in
theorem rget_long (l : List UInt8) (w : World) (h : 4 < l.length) : Calls Try.prog 30 #[.string ⟨l.toArray⟩] w fun e w' => e = .returned (gz 2) ∧ Below w.heap.size w w' := by
  have hs := str_size l
  have hI : ¬ (l.length : Int) < 4 := by omega
  have hI2 : (4 : Int) < l.length := by omega
  unfold gz
  go_enter Try.func30, Try.ntmps30
  go_wp2_with fail
  exact bodyPost_ret (v := .tuple #[.agg #[.int .i64 0, .int .i64 0, .int .i64 0, .int .i64 0], .int .i64 2]) (by simp [results, Try.results30, go_sem]) rfl ⟨rfl, by go_grown⟩
set_option maxRecDepth 20000 in
theorem rget_kind (b : UInt8) (l : List UInt8) (w : World) (h : l.length = 4) (h0 : l.getD 0 0 = b) (h25 : 25 < b.toNat) : Calls Try.prog 30 #[.string ⟨l.toArray⟩] w fun e w' => e = .returned (gz 5) ∧ Below w.heap.size w w' := by
  have hs := str_size l
  rw [h] at hs
  have hat : (⟨l.toArray⟩ : ByteArray)[0]'(by rw [hs]; omega) = b := by rw [str_at, h0]
  have hbl := b.toNat_lt
  have hI : (25 : Int) < (b.toNat : Int) := by omega
  have hl4 : (l.length : Int) = 4 := by omega
  unfold gz
  clear h0
  go_enter Try.func30, Try.ntmps30
  go_wp2_with fail
  exact bodyPost_ret (v := .tuple #[.agg #[.int .i64 0, .int .i64 0, .int .i64 0, .int .i64 0], .int .i64 5]) (by simp [results, Try.results30, go_sem]) rfl ⟨rfl, by go_grown⟩
end Go.Proofs.Ythllikmnlnakkaa.ins
