/- The contracts of layer 2's Cut (New, Num, Left, Done), of the reference's Of and Fits. -/
import Derived.Test.YtokkgfefiblmiaaPut
namespace Go.Proofs.Ytokkgfefiblmiaa.bits
open Go.ChangeShapes Go.WideShapes Go.ChangeAt Go.RowKit
open Go.Proofs.Ytokkgfefiblmiaa.bin
set_option linter.unusedVariables false
set_option linter.unusedSimpArgs false

/-- In world w block C is a cut: what is left, and whether a read has failed. -/
def CutAt (w : World) (C : Nat) (rest : ByteArray) (failed : Bool) : Prop := w.heap[C]? = some (.cells #[.string rest, .bool failed] 76 (0, 0))
theorem CutAt.lt {w : World} {C : Nat} {r : ByteArray} {f : Bool} (h : CutAt w C r f) : C < w.heap.size := (Array.getElem?_eq_some_iff.1 h).1
theorem CutAt.below {w w' : World} {C : Nat} {r : ByteArray} {f : Bool} (h : CutAt w C r f) (hb : Below w.heap.size w w') : CutAt w' C r f := (hb.block C h.lt).trans h
theorem CutAt.facts {w : World} {C : Nat} {r : ByteArray} {f : Bool} (h : CutAt w C r f) : w.cell? ⟨C, 0, none⟩ = some (.string r) ∧ w.cell? ⟨C, 1, none⟩ = some (.bool f) ∧ w.frozen? ⟨C, 0, none⟩ = false ∧ w.frozen? ⟨C, 1, none⟩ = false := by
  unfold CutAt at h
  exact ⟨by simp [World.cell?, h], by simp [World.cell?, h], by simp [World.frozen?, h], by simp [World.frozen?, h]⟩
theorem CutAt.set0 {w : World} {C : Nat} {r r' : ByteArray} {f : Bool} (h : CutAt w C r f) : CutAt (w.setCell ⟨C, 0, none⟩ (.string r')) C r' f := by
  unfold CutAt at *
  obtain ⟨hlt, hk⟩ := Array.getElem?_eq_some_iff.1 h
  show (w.heap.modify C _)[C]? = _
  rw [Array.getElem?_eq_getElem (by rw [Array.size_modify]; exact hlt), Array.getElem_modify_self, hk]
  simp
theorem CutAt.set1 {w : World} {C : Nat} {r : ByteArray} {f f' : Bool} (h : CutAt w C r f) : CutAt (w.setCell ⟨C, 1, none⟩ (.bool f')) C r f' := by
  unfold CutAt at *
  obtain ⟨hlt, hk⟩ := Array.getElem?_eq_some_iff.1 h
  show (w.heap.modify C _)[C]? = _
  rw [Array.getElem?_eq_getElem (by rw [Array.size_modify]; exact hlt), Array.getElem_modify_self, hk]
  simp
theorem new_v (s : ByteArray) (w : World) : Calls Try.prog 31 #[.string s] w fun e w' => e = .returned (.pointer (some ⟨w.heap.size, 0, none⟩)) ∧ CutAt w' w.heap.size s false ∧ Below w.heap.size w w' := by
  go_enter Try.func31, Try.ntmps31
  go_wp2
  go_ret
  refine ⟨rfl, ?_, by go_grown⟩
  unfold CutAt
  show (w.heap.push _)[w.heap.size]? = _
  simp
theorem num_nil (k : Int) (w : World) : Calls Try.prog 33 #[.pointer none, .int .i64 k] w fun e w' => e = .returned (.int .i64 0) ∧ w = w' := by
  go_enter Try.func33, Try.ntmps33
  go_wp2
  go_ret
  exact ⟨rfl, rfl⟩
theorem left_nil (w : World) : Calls Try.prog 32 #[.pointer none] w fun e w' => e = .returned (.int .i64 0) ∧ w = w' := by
  go_enter Try.func32, Try.ntmps32
  go_wp2
  go_ret
  exact ⟨rfl, rfl⟩
theorem left_v (C : Nat) (r : ByteArray) (f : Bool) (w : World) (h : CutAt w C r f) : Calls Try.prog 32 #[.pointer (some ⟨C, 0, none⟩)] w fun e w' => e = .returned (.int .i64 r.size) ∧ w = w' := by
  obtain ⟨h0, h1, _, _⟩ := h.facts
  go_enter Try.func32, Try.ntmps32
  go_wp2
  go_ret
  exact ⟨rfl, rfl⟩
theorem num_failed (C : Nat) (r : ByteArray) (k : Int) (w : World) (h : CutAt w C r true) : Calls Try.prog 33 #[.pointer (some ⟨C, 0, none⟩), .int .i64 k] w fun e w' => e = .returned (.int .i64 0) ∧ CutAt w' C r true ∧ w' = w.setCell ⟨C, 1, none⟩ (.bool true) := by
  obtain ⟨h0, h1, h2, h3⟩ := h.facts
  have H := Lib.hid h
  clear h
  go_enter Try.func33, Try.ntmps33
  go_wp2_with (go_at_call 38; refine (held_v k _ _ rfl).mono ?_; rintro e w' ⟨rfl, rfl⟩)
  go_ret
  exact ⟨rfl, H.out.set1, rfl⟩
theorem num_short (C : Nat) (r : ByteArray) (k : Int) (h : Nat) (w : World) (hC : CutAt w C r false) (hh : Hid (hz k = h)) (hs : r.size < h) : Calls Try.prog 33 #[.pointer (some ⟨C, 0, none⟩), .int .i64 k] w fun e w' => e = .returned (.int .i64 0) ∧ CutAt w' C r true ∧ w' = w.setCell ⟨C, 1, none⟩ (.bool true) := by
  obtain ⟨h0, h1, h2, h3⟩ := hC.facts
  have H := Lib.hid hC
  have hsd : decide (r.size < h) = true := by simpa using hs
  clear hC
  go_enter Try.func33, Try.ntmps33
  go_wp2_with (go_at_call 38; refine (held_v k h _ hh.out).mono ?_; rintro e w' ⟨rfl, rfl⟩)
  go_ret
  exact ⟨rfl, H.out.set1, rfl⟩
/-- the number that bytes are -/
def ofB (l : List UInt8) : Nat := l.foldl (fun n b => n * 256 + b.toNat) 0
theorem ofB_snoc (l : List UInt8) (b : UInt8) : ofB (l ++ [b]) = ofB l * 256 + b.toNat := by simp [ofB]
theorem foldB_lt (l : List UInt8) : ∀ n : Nat, l.foldl (fun n b => n * 256 + b.toNat) n < (n + 1) * 256 ^ l.length := by
  induction l with
  | nil => intro n; simp
  | cons b l ih =>
    intro n
    have h := ih (n * 256 + b.toNat)
    have hb := b.toNat_lt
    rw [List.foldl_cons, List.length_cons, Nat.pow_succ, Nat.mul_comm (256 ^ l.length) 256, ← Nat.mul_assoc]
    exact Nat.lt_of_lt_of_le h (Nat.mul_le_mul_right _ (by omega))
theorem ofB_lt (l : List UInt8) : ofB l < 256 ^ l.length := by
  have h := foldB_lt l 0
  unfold ofB
  omega
theorem ofB_lt4 (l : List UInt8) (h : l.length ≤ 4) : ofB l < 4294967296 :=
  Nat.lt_of_lt_of_le (ofB_lt l) (Nat.pow_le_pow_right (by decide) h)
theorem ofB_lt3 (l : List UInt8) (h : l.length ≤ 3) : ofB l < 16777216 :=
  Nat.lt_of_lt_of_le (ofB_lt l) (Nat.pow_le_pow_right (by decide) h)
theorem take_snocB (l : List UInt8) (k : Nat) (h : k < l.length) : l.take (k + 1) = l.take k ++ [l[k]] := by
  rw [List.take_succ_eq_append_getElem h]
theorem or_i64 (n b : Nat) (hn : n < 16777216) (hb : b < 256) : Go.bits .or .i64 ((n : Int) * 256) (b : Int) = ((n * 256 + b : Nat) : Int) := by
  show IntKind.i64.wrap ((BitVec.ofInt 64 ((n : Int) * 256) ||| BitVec.ofInt 64 b).toNat : Nat) = _
  rw [BitVec.toNat_or, BitVec.toNat_ofInt, BitVec.toNat_ofInt]
  have h1 : (((n : Int) * 256) % ((2 ^ 64 : Nat) : Int)).toNat = n * 2 ^ 8 := by omega
  have h2 : ((b : Int) % ((2 ^ 64 : Nat) : Int)).toNat = b := by omega
  rw [h1, h2, Nat.or_comm, or_add b 8 n (by omega), IntKind.wrap_i64]
  omega
set_option maxHeartbeats 4000000 in
theorem num_ok (C : Nat) (r : ByteArray) (k : Int) (h : Nat) (w : World) (hC : CutAt w C r false) (hh : Hid (hz k = h)) (h1 : 1 ≤ h) (h4 : h ≤ 4) (hs : h ≤ r.size) (hm : r.size ≤ 1000000) : Calls Try.prog 33 #[.pointer (some ⟨C, 0, none⟩), .int .i64 k] w fun e w' => e = .returned (.int .i64 (ofB (r.data.toList.take h))) ∧ CutAt w' C (r.extract h r.size) false ∧ w' = w.setCell ⟨C, 0, none⟩ (.string (r.extract h r.size)) := by
  obtain ⟨c0, c1, c2, c3⟩ := hC.facts
  have H := Lib.hid hC
  have hsd : decide (r.size < h) = false := by simp; omega
  have hrl : r.data.toList.length = r.size := rfl
  clear hC
  go_enter Try.func33, Try.ntmps33
  go_wp2_with (go_at_call 38; refine (held_v k h _ hh.out).mono ?_; rintro e w' ⟨rfl, rfl⟩)
  go_loop [5, 28] (fun n i => ∃ (j m : Nat), j ≤ h ∧ i = .int .i64 (j : Int) ∧ n = .int .i64 (m : Int) ∧ Hid (m = ofB (r.data.toList.take j))) (fun _ i => h - (intOf i).toNat)
  case atStart => exact ⟨0, 0, by omega, rfl, rfl, Lib.hid (by simp [ofB])⟩
  case round =>
    obtain ⟨j, m, hj, rfl, rfl, hmj⟩ := hrel
    by_cases hlt : j < h
    · have hm3 : m < 16777216 := by rw [hmj.out]; exact ofB_lt3 _ (by rw [List.length_take]; omega)
      obtain ⟨b, hb⟩ : ∃ b, r[j]'(by omega) = b := ⟨_, rfl⟩
      have hbl := b.toNat_lt
      have hor := or_i64 m b.toNat hm3 hbl
      have hwb : wrap64 (b.toNat : Int) = b.toNat := by unfold wrap64; omega
      have hnx : Hid (m * 256 + b.toNat = ofB (r.data.toList.take (j + 1))) := Lib.hid (by
        rw [take_snocB _ j (by omega), ofB_snoc, ← hmj.out]
        have e : r.data.toList[j]'(by omega) = b := by rw [← hb]; rfl
        rw [e])
      go_wp2_with fail
      go_round
      case rel => exact ⟨j + 1, m * 256 + b.toNat, by omega, by go_num, rfl, hnx⟩
      case measure => simp [intOf] <;> omega
    · obtain rfl : j = h := by omega
      go_wp2_with fail
      go_ret
      exact ⟨by rw [hmj.out]; rfl, H.out.set0, rfl⟩
end Go.Proofs.Ytokkgfefiblmiaa.bits
