/- The contracts of layer 2 (bits) on strings: Put and the reference's, Cut, and the reference's Of. -/
import Derived.Test.YtbmndjedgedbdaaBits
import Derived.Test.YtbmndjedgedbdaaRow1
import Derived.Test.YtbmndjedgedbdaaBin
import Derived.Handy
import Derived.Outline
namespace Go.Proofs.Ytbmndjedgedbdaa.bits
open Go.ChangeShapes Go.WideShapes Go.ChangeAt Go.RowKit
open Go.Proofs.Ytbmndjedgedbdaa.bin
set_option linter.unusedVariables false
set_option linter.unusedSimpArgs false

def byteAt (n : Int) (i : Nat) : UInt8 := UInt8.ofNat (n / 2 ^ (8 * i) % 256).toNat
def putB (n : Int) : Nat → List UInt8
  | 0 => []
  | k + 1 => byteAt n k :: putB n k
theorem putB_len (n : Int) (k : Nat) : (putB n k).length = k := by
  induction k with
  | zero => rfl
  | succ k ih => simp [putB, ih]
theorem byteAt_val (n : Int) (i : Nat) : (((byteAt n i).toNat : Nat) : Int) = n / 2 ^ (8 * i) % 256 := by
  unfold byteAt
  rw [UInt8.toNat_ofNat']
  have h1 := Int.emod_nonneg (n / 2 ^ (8 * i)) (show (256 : Int) ≠ 0 by decide)
  have h2 := Int.emod_lt_of_pos (n / 2 ^ (8 * i)) (show (0 : Int) < 256 by decide)
  omega
theorem byteAt_wrap (n : Int) (i : Nat) : IntKind.u8.wrap (n / 2 ^ (8 * i)) = (((byteAt n i).toNat : Nat) : Int) := by
  rw [byteAt_val]; simp [IntKind.wrap, IntKind.bits, IntKind.signed]
theorem infoU8 : (Try.prog.info? 5).map (fun i => (i.zero, i.size, i.bytes)) = some (some (.int .u8 0), 1, 1) := by kernel_rfl
theorem ret_str {a b : ByteArray} (h : a = b) : Ending.returned (.string a) = .returned (.string b) := by rw [h]
def bytesV (l : List UInt8) : List Value := l.map fun b => .int .u8 b.toNat
theorem bytesV_len (l : List UInt8) : (bytesV l).length = l.length := by simp [bytesV]
theorem below_grown {w0 w w' : World} {v : Value} {xs : List Value} {o : Obj} (hb : Below w0.heap.size w0 w) (hrow : Row1 w w0.heap.size v xs) (hg : (w.alloc o).grownBy w' v.ownBlock) : Below w0.heap.size w0 w' :=
  (hb.alloc hb.size o).grown hg (Nat.le_trans hb.size (by simp)) (fun q hq => (hrow.lt q hq).1)
theorem below_bytes (w : World) (e : TypeId) (s : ByteArray) : Below w.heap.size w (Lib.bytesWorld w e s) :=
  ⟨by unfold Lib.bytesWorld World.freeze; split <;> rfl, by unfold Lib.bytesWorld World.freeze; split <;> rfl, by unfold Lib.bytesWorld World.freeze; split <;> rfl, by rw [Lib.bytesWorld_size]; omega, fun k hk => Lib.bytesWorld_at_old w e s k hk⟩
set_option maxHeartbeats 4000000 in
set_option maxRecDepth 20000 in
theorem low_byte (n : Int) (h k : Nat) (hk : k < h) (h4 : h ≤ 4) (h1 : 1 ≤ h) : n % pw h / 2 ^ (8 * k) % 256 = (((byteAt n k).toNat : Nat) : Int) := by
  rw [byteAt_val]
  rcases show h = 1 ∨ h = 2 ∨ h = 3 ∨ h = 4 by omega with rfl | rfl | rfl | rfl <;> rcases show k = 0 ∨ k = 1 ∨ k = 2 ∨ k = 3 by omega with rfl | rfl | rfl | rfl <;> simp [pw] <;> omega

end Go.Proofs.Ytbmndjedgedbdaa.bits
