/- The contracts of layer 2 (bits) on strings: Put and the reference's, Cut, and the reference's Of. -/
import Derived.Test.YtokkgfefiblmiaaBits
import Derived.Test.YtokkgfefiblmiaaRow1
import Derived.Test.YtokkgfefiblmiaaBin
import Derived.Handy
import Derived.Outline
namespace Go.Proofs.Ytokkgfefiblmiaa.bits
open Go.ChangeShapes Go.WideShapes Go.ChangeAt Go.RowKit
open Go.Proofs.Ytokkgfefiblmiaa.bin
set_option linter.unusedVariables false
set_option linter.unusedSimpArgs false

def byteAt (n : Int) (i : Nat) : UInt8 := UInt8.ofNat (n / 2 ^ (8 * i) % 256).toNat
def putB (n : Int) : Nat → List UInt8
  | 0 => []
  | k + 1 => byteAt n k :: putB n k
theorem putB_len (n : Int) (k : Nat) : (putB n k).length = k := by
  induction k with
  | zero => rfl
  | succ k ih => simp [putB, ih]
theorem byteAt_val (n : Int) (i : Nat) : (((byteAt n i).toNat : Nat) : Int) = n / 2 ^ (8 * i) % 256 := by
  unfold byteAt
  rw [UInt8.toNat_ofNat']
  have h1 := Int.emod_nonneg (n / 2 ^ (8 * i)) (show (256 : Int) ≠ 0 by decide)
  have h2 := Int.emod_lt_of_pos (n / 2 ^ (8 * i)) (show (0 : Int) < 256 by decide)
  omega
theorem byteAt_wrap (n : Int) (i : Nat) : IntKind.u8.wrap (n / 2 ^ (8 * i)) = (((byteAt n i).toNat : Nat) : Int) := by
  rw [byteAt_val]; simp [IntKind.wrap, IntKind.bits, IntKind.signed]
theorem infoU8 : (Try.prog.info? 5).map (fun i => (i.zero, i.size, i.bytes)) = some (some (.int .u8 0), 1, 1) := by kernel_rfl
theorem ret_str {a b : ByteArray} (h : a = b) : Ending.returned (.string a) = .returned (.string b) := by rw [h]
def bytesV (l : List UInt8) : List Value := l.map fun b => .int .u8 b.toNat
theorem bytesV_len (l : List UInt8) : (bytesV l).length = l.length := by simp [bytesV]
theorem below_grown {w0 w w' : World} {v : Value} {xs : List Value} {o : Obj} (hb : Below w0.heap.size w0 w) (hrow : Row1 w w0.heap.size v xs) (hg : (w.alloc o).grownBy w' v.ownBlock) : Below w0.heap.size w0 w' :=
  (hb.alloc hb.size o).grown hg (Nat.le_trans hb.size (by simp)) (fun q hq => (hrow.lt q hq).1)
theorem below_bytes (w : World) (e : TypeId) (s : ByteArray) : Below w.heap.size w (Lib.bytesWorld w e s) :=
  ⟨by unfold Lib.bytesWorld World.freeze; split <;> rfl, by unfold Lib.bytesWorld World.freeze; split <;> rfl, by unfold Lib.bytesWorld World.freeze; split <;> rfl, by rw [Lib.bytesWorld_size]; omega, fun k hk => Lib.bytesWorld_at_old w e s k hk⟩
theorem back_v {w : World} {base : Nat} {v : Value} {l : List UInt8} (h : Row1 w base v (bytesV l)) (hne : v.ownBlock ≠ none) : (convert 63 9 v).run Try.prog w = .ok (.string ⟨l.toArray⟩) w := by
  rcases h with ⟨rfl, _⟩ | ⟨g, cap, rfl, hb, hg, hl, hm, hc, _⟩
  · exact absurd rfl hne
  · rw [bytesV_len]
    refine run_convert_bytes_back (P := Try.prog) w 63 9 5 ⟨g, 0, none⟩ cap l Try.underlying63 Try.underlying5 Try.underlying9 ?_
    intro j hj
    have hadd : (⟨g, 0, none⟩ : Addr).add j = ⟨g, j, none⟩ := by unfold Addr.add; split <;> simp_all
    rw [hadd, hc j (by rw [bytesV_len]; exact hj)]
    simp [bytesV, hj]
set_option maxHeartbeats 4000000 in
set_option maxRecDepth 20000 in
theorem put_v (s : ByteArray) (n size : Int) (h : Nat) (w : World) (hs : s.size ≤ 1000000) (hh : Hid (hz size = h)) (h1 : 1 ≤ h) (h4 : h ≤ 4) : Calls Try.prog 29 #[.string s, .int .i64 n, .int .i64 size] w fun e w' => e = .returned (.string ⟨(s.data.toList ++ putB n h).toArray⟩) ∧ Below w.heap.size w w' := by
  have kc := Lib.run_convert_string_bytes (P := Try.prog) w 9 63 5 s Try.underlying9 Try.underlying63 Try.underlying5
  have hr0 := Row1.ofString w 5 s (by unfold maxLen; omega)
  have hb0 : Below w.heap.size w (Lib.bytesWorld w 5 s) := below_bytes w _ s
  obtain ⟨i0, hi, hz0, hz1, hz2⟩ := info_parts infoU8
  obtain ⟨s0, hs0⟩ : ∃ s0, s.data.toList = s0 := ⟨_, rfl⟩
  have hsl : s0.length ≤ 1000000 := by rw [← hs0]; simpa using hs
  rw [hs0] at hr0 ⊢
  clear hs0 hs
  go_enter Try.func29, Try.ntmps29
  go_wp2_with (go_at_call 38; refine (held_v size h _ hh.out).mono ?_; rintro e w' ⟨rfl, rfl⟩)
  go_loopw [7, 8] (fun v i wr => ∃ (j : Nat) (l : List UInt8), j ≤ h ∧ i = .int .i64 ((j : Int) - 1) ∧ Row1 wr w.heap.size v (bytesV l) ∧ v.ownBlock ≠ none ∧ Below w.heap.size w wr ∧ l ++ putB n j = s0 ++ putB n h ∧ l.length ≤ 1000004 - j) (fun _ i _ => (intOf i + 1).toNat)
  case atStart => exact ⟨h, s0, by omega, rfl, hr0, by simp [Value.ownBlock], hb0, rfl, by omega⟩
  case round =>
    obtain ⟨j0, l, hj, rfl, hrow, hne, hbn, hl, hll⟩ := hrel
    have HL := Lib.hid hl
    clear hl kc hr0 hb0
    by_cases hlt : 0 < j0
    · obtain ⟨j, rfl⟩ : ∃ j, j0 = j + 1 := ⟨j0 - 1, by omega⟩
      have hj1 : ((j + 1 : Nat) : Int) - 1 = (j : Int) := by omega
      rw [hj1]
      clear hj1
      obtain ⟨b, hb⟩ : ∃ b, byteAt n j = b := ⟨_, rfl⟩
      have hbv := byteAt_wrap n j
      rw [hb] at hbv
      have HB := Lib.hid hb
      have hbl : (bytesV l).length = l.length := bytesV_len l
      have e8 : (8 * (j : Int)).toNat = 8 * j := by omega
      clear hb
      go_wp2_with (at_builtin; refine wpList_append_one _ rfl _ _ 63 rfl w.heap.size 5 i0 (.int .u8 0) 1 Try.underlying63 hi hz0 hz1 hz2 rfl _ _ rfl (hrow.alloc _) ⟨wr.heap.size, 0, none⟩ 1 (.int .u8 b.toNat) rfl (by go_simp) rfl (by unfold maxLen; omega) (by omega) (Nat.le_trans hbn.size (by simp)) ?_)
      intro v' w' hrow' hgrow _ hne'
      have hbn' := below_grown hbn hrow hgrow
      clear hrow hgrow hbn hbl
      go_wp2_with fail
      go_roundw
      case rel => exact ⟨j, l ++ [b], by omega, rfl, by simpa [bytesV] using hrow', hne', hbn', by have h := HL.out; simp only [putB, HB.out] at h; simpa using h, by simp; omega⟩
      case measure => simp [intOf] <;> omega
    · obtain rfl : j0 = 0 := by omega
      have hk := back_v hrow hne
      have hl := HL.out
      simp only [putB, List.append_nil] at hl
      subst hl
      clear HL
      go_wp2_with fail
      go_ret
      exact ⟨rfl, hbn⟩
theorem low_byte (n : Int) (h k : Nat) (hk : k < h) (h4 : h ≤ 4) (h1 : 1 ≤ h) : n % pw h / 2 ^ (8 * k) % 256 = (((byteAt n k).toNat : Nat) : Int) := by
  rw [byteAt_val]
  rcases show h = 1 ∨ h = 2 ∨ h = 3 ∨ h = 4 by omega with rfl | rfl | rfl | rfl <;> rcases show k = 0 ∨ k = 1 ∨ k = 2 ∨ k = 3 by omega with rfl | rfl | rfl | rfl <;> simp [pw] <;> omega

end Go.Proofs.Ytokkgfefiblmiaa.bits
