/- Sets in a row: one more in one of them, all of one in another one, how many (layer 31). -/
import Derived.Test.YtpflimnngilhnaaRhA
import Derived.RegionTactic
import Derived.ChangeAlike
import Derived.Handy
import Derived.StillTailTactics
import Derived.Deep.RegionHeld3
namespace Go.Proofs.Ytpflimnngilhnaa.rh
open Go.ChangeShapes Go.WideShapes Go.ChangeAt Go.RowKit
set_option linter.unusedVariables false
set_option linter.unusedSimpArgs false
/-- Block S is N words of bits. -/
def SR (w : World) (S t N : Nat) (f : Nat → Nat) : Prop := w.rowIs S t N (fun i => .int .u64 ((f i : Nat) : Int)) ∧ ∀ i, f i < 18446744073709551616
/-- Only block S is otherwise, of those that were. -/
def KS (S : Nat) (w w' : World) : Prop := Below S w w' ∧ ∀ b, S < b → b < w.heap.size → w'.heap[b]? = w.heap[b]?
theorem KS.refl (S : Nat) (w : World) : KS S w w := ⟨Below.refl _ _, fun _ _ _ => rfl⟩
theorem KS.trans {S : Nat} {w w' w'' : World} (h : KS S w w') (k : KS S w' w'') : KS S w w'' :=
  ⟨h.1.trans k.1, fun b h1 h2 => (k.2 b h1 (Nat.lt_of_lt_of_le h2 h.1.size)).trans (h.2 b h1 h2)⟩
theorem KS.of_below {S : Nat} {w w' : World} (h : Below w.heap.size w w') (hS : S < w.heap.size) : KS S w w' :=
  ⟨h.mono (Nat.le_of_lt hS), fun b _ h2 => h.block b h2⟩
theorem KS.set (S i : Nat) (v : Value) (w : World) : KS S w (w.setCell ⟨S, i, none⟩ v) :=
  ⟨(Below.refl S w).setCell (p := ⟨S, i, none⟩) (Nat.le_refl S) v, fun b h1 h2 => by
    show (w.heap.modify S _)[b]? = _
    rw [Array.getElem?_modify, if_neg (by omega)]⟩
theorem KS.drew (S : Nat) (w : World) : KS S w w.drew := ⟨by go_grown, fun _ _ _ => rfl⟩
theorem SR.below {w w' : World} {S t N : Nat} {f : Nat → Nat} (h : SR w S t N f) (hb : Below w.heap.size w w') : SR w' S t N f :=
  ⟨h.1.of_block (hb.block S h.1.lt), h.2⟩
theorem SR.set {w : World} {S t N : Nat} {f : Nat → Nat} (h : SR w S t N f) (i x : Nat) (hx : x < 18446744073709551616) : SR (w.setCell ⟨S, i, none⟩ (.int .u64 ((x : Nat) : Int))) S t N (fun j => if j = i then x else f j) :=
  ⟨(h.1.set i _).congr fun j hj => by dsimp only; split <;> rfl, fun j => by dsimp only; split; exact hx; exact h.2 j⟩
theorem SR.congr {w : World} {S t N : Nat} {f g : Nat → Nat} (h : SR w S t N f) (e : ∀ i, f i = g i) : SR w S t N g := by
  have : f = g := funext e
  subst this; exact h
theorem or_lt (a b : Nat) (ha : a < 18446744073709551616) (hb : b < 18446744073709551616) : a ||| b < 18446744073709551616 := by
  rw [show 18446744073709551616 = 2 ^ 64 from rfl] at *
  exact Nat.or_lt_two_pow ha hb
theorem add_of (S t N o a q r : Nat) (f : Nat → Nat) (w : World) (h : SR w S t N f) (ha : a = 64 * q + r) (hr : r < 64) (hq : q < 16) (ho : o + 16 ≤ N) :
    Calls Try.prog 50 #[.pointer (some ⟨S, o, none⟩), .int .i64 (a : Int)] w fun e w' => e = .returned (.tuple #[]) ∧ SR w' S t N (fun i => if i = o + q then f i ||| 2 ^ r else f i) ∧ KS S w w' := by
  have h1 : (a : Int) / 64 = (q : Int) := by omega
  have h2 : (a : Int) % 64 = (r : Int) := by omega
  have h3 : (a : Int).tdiv 64 = (q : Int) := by rw [Int.tdiv_eq_ediv_of_nonneg (by omega)]; omega
  have h4 : (a : Int).tmod 64 = (r : Int) := by rw [Int.tmod_eq_emod_of_nonneg (by omega)]; omega
  have hc := h.1.cell (i := o + q) (by omega)
  have hf := h.1.frozen (o + q)
  have hp : 2 ^ r < 18446744073709551616 := by rw [show 18446744073709551616 = 2 ^ 64 from rfl]; exact Nat.pow_lt_pow_right (by decide) hr
  have hx := h.2 (o + q)
  have H := Lib.hid h
  have HX : Hid (f (o + q) = f (o + q)) := Lib.hid rfl
  obtain ⟨x, hxe⟩ : ∃ x, f (o + q) = x := ⟨_, rfl⟩
  rw [hxe] at hc hx
  obtain ⟨p, hpe⟩ : ∃ p, 2 ^ r = p := ⟨_, rfl⟩
  rw [hpe] at hp ⊢
  have hw : IntKind.u64.wrap (2 ^ r) = (p : Int) := by
    rw [show ((2 : Int) ^ r) = ((2 ^ r : Nat) : Int) by rw [Int.natCast_pow]; rfl, hpe]; exact wrapN p hp
  have hor := u64_or_nat x p hx hp
  have hol := or_lt x p hx hp
  have HXE := Lib.hid hxe
  clear h ha hxe hpe HX
  go_enter Try.func50, Try.ntmps50
  go_wp2_with fail
  go_region
  go_end0
  refine ⟨rfl, ?_, (KS.set S _ _ w).trans (KS.drew S _)⟩
  have h5 := (H.out.set (o + q) (x ||| p) hol).below (w' := (w.setCell ⟨S, o + q, none⟩ (.int .u64 ((x ||| p : Nat) : Int))).drew) (by go_grown)
  refine h5.congr fun i => ?_
  split
  · rename_i e; rw [e, HXE.out]
  · rfl
set_option maxRecDepth 20000 in
theorem join_of (S t N o u : Nat) (f : Nat → Nat) (w : World) (h : SR w S t N f) (ho : o + 16 ≤ N) (hu : u + 16 ≤ o) :
    Calls Try.prog 51 #[.pointer (some ⟨S, o, none⟩), .pointer (some ⟨S, u, none⟩)] w fun e w' => e = .returned (.tuple #[]) ∧ SR w' S t N (fun i => if o ≤ i ∧ i < o + 16 then f i ||| f (u + (i - o)) else f i) ∧ KS S w w' := by
  have H := Lib.hid h
  clear h
  go_enter Try.func51, Try.ntmps51
  go_wp2_with fail
  go_loopw [5] (fun i wr => ∃ k : Nat, k ≤ 16 ∧ i = .int .i64 (k : Int) ∧ Hid (SR wr S t N (fun i => if o ≤ i ∧ i < o + k then f i ||| f (u + (i - o)) else f i)) ∧ Hid (KS S w wr)) (fun i _ => 16 - (intOf i).toNat)
  case atStart => exact ⟨0, by omega, rfl, Lib.hid (H.out.congr fun i => by rw [if_neg (by omega)]), Lib.hid (KS.refl S w)⟩
  case round =>
    obtain ⟨k, hk, rfl, HS, HK⟩ := hrel
    by_cases hlt : k < 16
    · have hc := HS.out.1.cell (i := o + k) (by omega)
      have hd := HS.out.1.cell (i := u + k) (by omega)
      have hf := HS.out.1.frozen (o + k)
      have hx := HS.out.2 (o + k)
      have hy := HS.out.2 (u + k)
      dsimp only at hc hd hx hy
      rw [if_neg (by omega)] at hc hx
      rw [if_neg (by omega)] at hd hy
      obtain ⟨x, hxe⟩ : ∃ x, f (o + k) = x := ⟨_, rfl⟩
      obtain ⟨y, hye⟩ : ∃ y, f (u + k) = y := ⟨_, rfl⟩
      rw [hxe] at hc hx
      rw [hye] at hd hy
      have hor := u64_or_nat x y hx hy
      have hol := or_lt x y hx hy
      have HXE := Lib.hid (And.intro hxe hye)
      clear hxe hye
      go_wp2_with fail
      go_region
      go_wp2_with fail
      have h5 := (HS.out.set (o + k) (x ||| y) hol).below (w' := (wr.setCell ⟨S, o + k, none⟩ (.int .u64 ((x ||| y : Nat) : Int))).drew) (by go_grown)
      have hk5 := Lib.hid (HK.out.trans ((KS.set S (o + k) (.int .u64 ((x ||| y : Nat) : Int)) wr).trans (KS.drew S _)))
      go_roundw
      case rel =>
        refine ⟨k + 1, by omega, by go_num, Lib.hid (h5.congr fun i => ?_), hk5⟩
        by_cases e : i = o + k
        · subst e
          rw [if_pos rfl, if_pos (by omega), HXE.out.1, show u + (o + k - o) = u + k by omega, HXE.out.2]
        · rw [if_neg e]
          by_cases e2 : o ≤ i ∧ i < o + k
          · rw [if_pos e2, if_pos (by omega)]
          · rw [if_neg e2, if_neg (by omega)]
      case measure => simp [intOf]; omega
    · obtain rfl : k = 16 := by omega
      go_wp2_with fail
      go_end0
      exact ⟨rfl, HS.out, HK.out⟩
def tot (f : Nat → Nat) : Nat → Nat
  | 0 => 0
  | k + 1 => tot f k + cnt (f k).testBit 64
theorem tot_le (f : Nat → Nat) (k : Nat) : tot f k ≤ 64 * k := by
  induction k with
  | zero => exact Nat.le_refl _
  | succ k ih => have := cnt_le (f k).testBit 64; simp only [tot]; omega
end Go.Proofs.Ytpflimnngilhnaa.rh
