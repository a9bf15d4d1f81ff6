/- An instruction as bytes (layer 3). -/
import Derived.Test.YtdneblbaofhehaaInC
import Derived.Lib.OthersKept
import Derived.Deep.RegionHeld3
namespace Go.Proofs.Ytdneblbaofhehaa.ins
open Go.ChangeShapes Go.WideShapes Go.ChangeAt Go.RowKit
open Go.Proofs.Ytdneblbaofhehaa.bin Go.Proofs.Ytdneblbaofhehaa.bits
set_option linter.unusedVariables false
set_option linter.unusedSimpArgs false
def encL : List UInt8 → List Int → List UInt8
  | [], _ => []
  | c :: f, n :: fs => putB n (wd c) ++ encL f fs
  | _ :: _, [] => []
def pad (l : List UInt8) : List UInt8 := l ++ List.replicate (4 - l.length) 0
def encI (op A B C : Int) : List UInt8 := pad (byteAt op 0 :: encL (frmI op) (three A B C))
theorem pad_step (l : List UInt8) (h : l.length < 4) : pad (l ++ [0]) = pad l := by
  unfold pad
  rw [List.append_assoc, List.length_append]
  congr 1
  rw [show 4 - l.length = (4 - (l.length + 1)) + 1 by omega, List.replicate_succ]
  rfl
theorem pad_full (l : List UInt8) (h : 4 ≤ l.length) : pad l = l := by
  unfold pad
  rw [show 4 - l.length = 0 by omega]
  simp
theorem wd_pos (x : UInt8) : 1 ≤ wd x ∧ wd x ≤ 2 := by unfold wd; split <;> omega
theorem wd_hz (x : UInt8) : hz ((wd x : Nat) : Int) = wd x := by unfold wd; split <;> rfl
theorem width_v (x : UInt8) (hx : Lt x) (w : World) : Calls Try.prog 40 #[.int .u8 (x.toNat : Int)] w fun e w' => e = .returned (.int .i64 ((wd x : Nat) : Int)) ∧ w = w' := by
  rcases hx with rfl | rfl | rfl | rfl
  · exact width_1 114 (.inl rfl) w
  · exact width_2 110 (.inl rfl) w
  · exact width_2 116 (.inr rfl) w
  · exact width_1 102 (.inr rfl) w
theorem zero_byte : putB 0 1 = [0] := by decide
theorem kb {W W' : World} {B : Nat} {o : Obj} (h : W.heap[B]? = some o) (hb : Below W.heap.size W W') : W'.heap[B]? = some o :=
  (hb.block B (Array.getElem?_eq_some_iff.1 h).1).trans h
set_option maxRecDepth 20000 in
set_option maxHeartbeats 4000000 in
theorem chkI_op {op A B C : Int} (h : chkI op A B C = 0) : 0 ≤ op ∧ op ≤ 25 := by
  unfold chkI at h
  by_cases h1 : op < 0 ∨ 25 < op
  · rw [if_pos h1] at h; omega
  · omega
theorem str_app (s : List UInt8) : (⟨s.toArray⟩ : ByteArray) ++ ⟨#[0]⟩ = ⟨(s ++ [0]).toArray⟩ := by
  rw [ByteArray.ext_iff, ByteArray.data_append]
  apply Array.ext'
  simp

end Go.Proofs.Ytdneblbaofhehaa.ins
