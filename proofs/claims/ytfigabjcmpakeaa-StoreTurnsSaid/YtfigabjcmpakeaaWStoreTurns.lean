/- Numbers that are added to a word, in any order, make their sum, and each is told what those ahead had made: the law StoreTurns answers true. No condition. -/
import Derived.Test.YtfigabjcmpakeaaStoreAll
namespace Go.Proofs.Ytfigabjcmpakeaa.storeTurns
open Go.ChangeShapes Go.WideShapes Go.ChangeAt Go.RowKit
set_option linter.unusedVariables false
theorem big (x : Option Addr) (len cap : Nat) (a1 : Int) (w : World) (h : 500 < len) :
    Calls Try.prog 6 #[.slice x len cap, .int .u8 a1] w fun e w' => e = .returned (.bool true) ∧ Below w.heap.size w w' := by
  go_enter Try.func6, Try.ntmps6
  go_wp2_with (first | (go_at_call 15; refine (works09 _).mono ?_; rintro e w' ⟨rfl, hb1⟩))
  go_ret
  exact ⟨rfl, hb1⟩
def base (A : Nat) (s : Int) : List Int := (List.replicate 256 (0 : Int)).set A s
theorem base_len (A : Nat) (s : Int) : (base A s).length = 256 := by unfold base; rw [List.length_set, List.length_replicate]
theorem base_get (A : Nat) (s : Int) (h : A < 256) : (base A s).getD A 0 = s := by unfold base; rw [List.getD_eq_getElem?_getD, List.getElem?_set_self (by rw [List.length_replicate]; exact h)]; rfl
theorem base_set (A : Nat) (s t : Int) : (base A s).set A t = base A t := by unfold base; rw [List.set_set]
theorem base_zero (A : Nat) : base A 0 = List.replicate 256 (0 : Int) := by unfold base; exact List.set_replicate_self
set_option maxHeartbeats 1000000 in
theorem small (x : Option Addr) (len cap : Nat) (zs : List Int) (A : Nat) (w : World) (hA : A < 256) (h : len ≤ 500) (hc : Hid (∀ i, i < len → ∃ b off, x = some ⟨b, off, none⟩ ∧ b < w.heap.size ∧ w.cell? ⟨b, off + i, none⟩ = some (.int .i64 (zs.getD i 0)))) :
    Calls Try.prog 6 #[.slice x len cap, .int .u8 A] w fun e w' => e = .returned (.bool true) ∧ Below w.heap.size w w' := by
  go_enter Try.func6, Try.ntmps6
  go_wp2_with (first | (go_at_call 15; refine (works09 _).mono ?_; rintro e w1 ⟨rfl, hb1⟩))
  refine (new_n 256 _ (by decide)).mono ?_
  rintro e w2 ⟨rfl, hs, hb2⟩
  have hsz := hb1.size
  have hbb : Below w.heap.size w w2 := hb1.trans (hb2.mono hsz)
  rw [← base_zero A] at hs
  clear hb1 hb2
  generalize w1.heap.size = g at *
  go_wp2_with fail
  go_loopw [6, 7] (fun sum i wr => ∃ (k : Nat) (s : Int), k ≤ len ∧ i = .int .i64 k ∧ sum = .int .i64 s ∧ StoreAt wr (g + 1) g (base A s) ∧ Below w.heap.size w wr) (fun _ i _ => len - (intOf i).toNat)
  case atStart => exact ⟨0, 0, Nat.zero_le _, rfl, rfl, hs, hbb⟩
  case round =>
    clear hs hbb
    obtain ⟨k, s, hk, rfl, rfl, hs, hbw⟩ := hrel
    by_cases hlt : k < len
    · obtain ⟨b, off, rfl, hb, hz⟩ := hc.out k hlt
      have hz' : wr.cell? ⟨b, off + k, none⟩ = some (.int .i64 (zs.getD k 0)) := (hbw.cell (p := ⟨b, off + k, none⟩) hb).trans hz
      clear hz
      have HC := Lib.hid hc
      clear hc
      generalize zs.getD k 0 = z at hz'
      go_wp2_with fail
      refine (add_in _ _ (base A s) A z _ hs (by rw [base_len]; exact hA) (by rw [base_len]; decide)).mono ?_
      rintro e w3 ⟨rfl, hw3⟩
      rw [base_get A s hA] at hw3 ⊢
      have hs3 := hs.set A (wrap64 (s + z))
      rw [hw3, base_set] at hs3
      have hb3 : Below w.heap.size w w3 := by rw [← hw3]; exact hbw.setCell hsz _
      have hz3 : w3.cell? ⟨b, off + k, none⟩ = some (.int .i64 z) := (hb3.cell (p := ⟨b, off + k, none⟩) hb).trans ((hbw.cell (p := ⟨b, off + k, none⟩) hb).symm.trans hz')
      clear hw3 hs hbw hz'
      go_wp2_with fail
      go_roundw
      case rel => exact ⟨k + 1, _, by omega, by go_num, rfl, hs3, hb3⟩
      case measure => simp [intOf]; omega
    · go_wp2_with fail
      refine (load_in _ _ (base A s) A _ hs (by rw [base_len]; exact hA) (by rw [base_len]; decide)).mono ?_
      rintro e w3 ⟨rfl, rfl⟩
      rw [base_get A s hA]
      go_wp2_with fail
      go_ret
      exact ⟨rfl, hbw⟩
theorem walk (a0 : Option Addr) (len0 cap0 : Nat) (z0 : List Int) (a1 : Int) (w : World) (w0 : IsRow .i64 w a0 len0 cap0 z0) (w1 : (Lit.int .u8 a1).wf = true) :
    Calls Try.prog 6 #[.slice a0 len0 cap0, .int .u8 a1] w fun e w' => e = .returned (.bool true) ∧ Below w.heap.size w w' := by
  have hb := bounds_u8 w1
  obtain ⟨A, rfl⟩ := Int.eq_ofNat_of_zero_le hb.1
  by_cases h : 500 < len0
  · exact big a0 len0 cap0 A w h
  · refine small a0 len0 cap0 z0 A w (by omega) (by omega) (fun i hi => ?_)
    rcases w0.split with h0 | ⟨b, off, rfl, hlt, hle, hm, hz, hc, _⟩
    · omega
    · exact ⟨b, off, rfl, hlt, hc i (by omega)⟩
end Go.Proofs.Ytfigabjcmpakeaa.storeTurns
