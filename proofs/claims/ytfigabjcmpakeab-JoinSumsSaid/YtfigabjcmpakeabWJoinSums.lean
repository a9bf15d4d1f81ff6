/- As many as came, less as many as left: the law JoinSums answers true. No condition. -/
import Derived.Test.YtfigabjcmpakeabJoin
import Derived.Test.YtfigabjcmpakeabGrids
namespace Go.Proofs.Ytfigabjcmpakeab.joinSums
open Go.ChangeShapes Go.WideShapes Go.ChangeAt Go.RowKit
set_option linter.unusedVariables false
theorem big (x : Option Addr) (len cap : Nat) (a1 : Int) (w : World) (h : 1000 < len) :
    Calls Try.prog 12 #[.slice x len cap, .int .u8 a1] w fun e w' => e = .returned (.bool true) ∧ Below w.heap.size w w' := by
  go_enter Try.func12, Try.ntmps12
  go_wp2_with (first | (go_at_call 40; refine (works18 _).mono ?_; rintro e w' ⟨rfl, hb1⟩))
  go_ret
  exact ⟨rfl, hb1⟩
def base (A : Nat) (s : Int) : List Int := (List.replicate 256 (0 : Int)).set A s
theorem base_len (A : Nat) (s : Int) : (base A s).length = 256 := by unfold base; rw [List.length_set, List.length_replicate]
theorem base_get (A : Nat) (s : Int) (h : A < 256) : (base A s).getD A 0 = s := by unfold base; rw [List.getD_eq_getElem?_getD, List.getElem?_set_self (by rw [List.length_replicate]; exact h)]; rfl
theorem base_set (A : Nat) (s t : Int) : (base A s).set A t = base A t := by unfold base; rw [List.set_set]
theorem leave_b (S g A : Nat) (x y : Int) (q : Bool) (w0 w : World) (h : J w0 w S g (base A x)) (hA : A < 256) (hq : Hid ((x == 1) = q)) (hy : Hid (wrap64 (x + -1) = y)) : Calls Try.prog 43 #[.pointer (some ⟨S, 0, none⟩), .int .i64 A] w fun e w' => e = .returned (.bool q) ∧ J w0 w' S g (base A y) := by
  have := leave_j S g (base A x) A w0 w h (by rw [base_len]; exact hA) (by rw [base_len]; decide)
  rw [base_get A x hA, base_set, hq.out, hy.out] at this
  exact this
theorem spawn_b (S g A : Nat) (x y : Int) (w0 w : World) (h : J w0 w S g (base A x)) (hA : A < 256) (hy : Hid (wrap64 (x + 1) = y)) : Calls Try.prog 42 #[.pointer (some ⟨S, 0, none⟩), .int .i64 A] w fun e w' => e = .returned (.tuple #[]) ∧ J w0 w' S g (base A y) := by
  have := spawn_j S g (base A x) A w0 w h (by rw [base_len]; exact hA) (by rw [base_len]; decide)
  rw [base_get A x hA, base_set, hy.out] at this
  exact this
theorem again_b (S g A : Nat) (w0 w : World) (h : J w0 w S g (List.replicate 256 0)) (hA : A < 256) : Calls Try.prog 44 #[.pointer (some ⟨S, 0, none⟩), .int .i64 A] w fun e w' => e = .returned (.tuple #[]) ∧ J w0 w' S g (base A 1) :=
  again_j S g (List.replicate 256 0) A w0 w h (by rw [List.length_replicate]; exact hA) (by rw [List.length_replicate]; decide)
theorem load_b (S g A : Nat) (x : Int) (w0 w : World) (h : J w0 w S g (base A x)) (hA : A < 256) : Calls Try.prog 45 #[.pointer (some ⟨S, 0, none⟩), .int .i64 A] w fun e w' => e = .returned (.tuple #[.int .i64 x, .bool true]) ∧ w = w' := by
  have := load_j S g (base A x) A w0 w h (by rw [base_len]; exact hA) (by rw [base_len]; decide)
  rw [base_get A x hA] at this
  exact this
def Bits (x : Option Addr) (len : Nat) (w : World) (z : Nat → Bool) : Prop := ∀ i, i < len → ∃ b off, x = some ⟨b, off, none⟩ ∧ b < w.heap.size ∧ w.cell? ⟨b, off + i, none⟩ = some (.bool (z i))
set_option maxHeartbeats 4000000 in
set_option maxRecDepth 20000 in
theorem small (x : Option Addr) (len cap : Nat) (zs : Nat → Bool) (A : Nat) (w : World) (hA : A < 256) (h : len ≤ 1000) (hx : Hid (Bits x len w zs)) :
    Calls Try.prog 12 #[.slice x len cap, .int .u8 A] w fun e w' => e = .returned (.bool true) ∧ Below w.heap.size w w' := by
  go_enter Try.func12, Try.ntmps12
  go_wp2_with (first | (go_at_call 40; refine (works18 _).mono ?_; rintro e w1 ⟨rfl, hb1⟩))
  refine (new_j 256 w _ hb1 (by decide)).mono ?_
  rintro e w2 ⟨S, g, rfl, h0⟩
  clear hb1
  go_wp2_with fail
  refine (again_b S g A w _ h0 hA).mono ?_
  rintro e w3 ⟨rfl, h2⟩
  clear h0
  go_wp2_with fail
  go_loopw [6, 7] (fun n i wr => ∃ (k : Nat) (s : Int), k ≤ len ∧ i = .int .i64 k ∧ n = .int .i64 s ∧ (-1000 + (len - k : Nat) ≤ s ∧ s ≤ 1001 - (len - k : Nat)) ∧ J w wr S g (base A s)) (fun _ i _ => len - (intOf i).toNat)
  case atStart => exact ⟨0, 1, Nat.zero_le _, rfl, rfl, by omega, h2⟩
  case round =>
    clear h2
    obtain ⟨k, s, hk, rfl, rfl, hs, h2⟩ := hrel
    by_cases hlt : k < len
    · obtain ⟨b, off, rfl, hb, hz⟩ := hx.out k hlt
      have hz' : wr.cell? ⟨b, off + k, none⟩ = some (.bool (zs k)) := (h2.2.1.cell (p := ⟨b, off + k, none⟩) hb).trans hz
      cases hzk : zs k
      · rw [hzk] at hz' hz
        have HZ := Lib.hid hzk
        clear hzk
        have HY : Hid (wrap64 (s + -1) = s - 1) := Lib.hid (by unfold wrap64; omega)
        by_cases hs1 : s = 1
        · subst hs1
          have HQ : Hid (((1 : Int) == 1) = true) := Lib.hid rfl
          go_wp2_with (first | (go_at_call 43; refine (leave_b S g A _ _ _ w _ h2 hA HQ HY).mono ?_; rintro e wx ⟨rfl, h3⟩; have hz3 := (h3.2.1.cell (p := ⟨b, off + k, none⟩) hb).trans hz) | (go_at_call 45; refine (load_b S g A _ w _ h3 hA).mono ?_; rintro e wy ⟨rfl, rfl⟩))
          go_roundw
          case rel => exact ⟨k + 1, 0, by omega, by go_num, by go_num, by omega, by simpa using h3⟩
          case measure => simp [intOf]; omega
        · have q1 : (s == 1) = false := by simp; omega
          have q2 : (s - 1 == 0) = false := by simp; omega
          have HQ := Lib.hid q1
          clear q1
          go_wp2_with (first | (go_at_call 43; refine (leave_b S g A _ _ _ w _ h2 hA HQ HY).mono ?_; rintro e wx ⟨rfl, h3⟩; have hz3 := (h3.2.1.cell (p := ⟨b, off + k, none⟩) hb).trans hz) | (go_at_call 45; refine (load_b S g A _ w _ h3 hA).mono ?_; rintro e wy ⟨rfl, rfl⟩))
          go_roundw
          case rel => exact ⟨k + 1, s - 1, by omega, by go_num, rfl, by omega, h3⟩
          case measure => simp [intOf]; omega
      · rw [hzk] at hz' hz
        have HZ := Lib.hid hzk
        clear hzk
        have HY : Hid (wrap64 (s + 1) = s + 1) := Lib.hid (by unfold wrap64; omega)
        go_wp2_with (first | (go_at_call 42; refine (spawn_b S g A _ _ w _ h2 hA HY).mono ?_; rintro e wx ⟨rfl, h3⟩; have hz3 := (h3.2.1.cell (p := ⟨b, off + k, none⟩) hb).trans hz) | (go_at_call 45; refine (load_b S g A _ w _ h3 hA).mono ?_; rintro e wy ⟨rfl, rfl⟩))
        go_roundw
        case rel => exact ⟨k + 1, s + 1, by omega, by go_num, rfl, by omega, h3⟩
        case measure => simp [intOf]; omega
    · go_wp2_with fail
      go_ret
      exact ⟨rfl, h2.2.1⟩
theorem walk (a0 : Option Addr) (len0 cap0 : Nat) (z0 : Nat → Bool) (a1 : Int) (w : World) (w0 : IsBools w a0 len0 cap0 z0) (w1 : (Lit.int .u8 a1).wf = true) :
    Calls Try.prog 12 #[.slice a0 len0 cap0, .int .u8 a1] w fun e w' => e = .returned (.bool true) ∧ Below w.heap.size w w' := by
  have hb := bounds_u8 w1
  obtain ⟨A, rfl⟩ := Int.eq_ofNat_of_zero_le hb.1
  by_cases h : 1000 < len0
  · exact big a0 len0 cap0 A w h
  · refine small a0 len0 cap0 z0 A w (by omega) (by omega) (fun i hi => ?_)
    rcases w0.split with h0 | ⟨b, off, rfl, hlt, hle, hm, hc⟩
    · omega
    · exact ⟨b, off, rfl, hlt, hc i (by omega)⟩
end Go.Proofs.Ytfigabjcmpakeab.joinSums
