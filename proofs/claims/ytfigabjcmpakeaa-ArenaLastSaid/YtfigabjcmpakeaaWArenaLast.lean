/- Numbers that are given back in any order are taken in the other one: the law ArenaLast answers true. No condition. -/
import Derived.Test.YtfigabjcmpakeaaArW
namespace Go.Proofs.Ytfigabjcmpakeaa.arenaLast
open Go.ChangeShapes Go.WideShapes Go.ChangeAt Go.RowKit
open Go.Proofs.Ytfigabjcmpakeaa.ar
set_option linter.unusedVariables false
set_option linter.unusedSimpArgs false
def bkx (N t : Nat) : Nat → List Int
  | 0 => []
  | i + 1 => bkx N t i ++ [(((i + t) % N : Nat) : Int) + 1]
def hsx (N t : Nat) : Nat → List Bool
  | 0 => List.replicate N true
  | i + 1 => (hsx N t i).set ((i + t) % N) false
theorem bkx_len (N t i : Nat) : (bkx N t i).length = i := by
  induction i with
  | zero => rfl
  | succ i ih => simp [bkx, ih]
theorem hsx_len (N t i : Nat) : (hsx N t i).length = N := by
  induction i with
  | zero => simp [hsx]
  | succ i ih => simp [hsx, ih]
theorem hsx_at (N t i q : Nat) (hq : q < N) (h : ∀ j, j < i → (j + t) % N ≠ q) : (hsx N t i)[q]? = some true := by
  induction i with
  | zero => simp [hsx, hq]
  | succ i ih =>
    unfold hsx
    rw [List.getElem?_set_ne (h i (by omega))]
    exact ih fun j hj => h j (by omega)
theorem mod_ne (N t i j : Nat) (hj : j < i) (hi : i < N) : (j + t) % N ≠ (i + t) % N := by
  intro e
  have h1 := Nat.sub_mod_eq_zero_of_mod_eq e.symm
  rw [show i + t - (j + t) = i - j by omega, Nat.mod_eq_of_lt (by omega)] at h1
  omega
theorem rep_set (k : Nat) : (List.replicate k true ++ [false]).set k true = List.replicate (k + 1) true := by
  rw [List.set_append_right _ _ (by simp)]
  simp [List.replicate_succ']
set_option maxRecDepth 20000 in
set_option maxHeartbeats 4000000 in
theorem core (x t N : Nat) (w : World) (hx : x ≤ 255) (ht : t ≤ 255) (hN : x % 100 + 1 = N) :
    Calls Try.prog 10 #[.int .u8 (x : Int), .int .u8 (t : Int)] w fun e w' => e = .returned (.bool true) ∧ Below w.heap.size w w' := by
  obtain ⟨S, hS⟩ : ∃ S : Nat → Prop, S = fun _ => False := ⟨_, rfl⟩
  have hS0 : ∀ w : World, ∀ k, S k → k < w.heap.size := fun w k hk => by rw [hS] at hk; exact hk.elim
  have HS := Lib.hid hS0
  clear hS0 hS
  have hN1 : 1 ≤ N := by omega
  have hN2 : N ≤ 100 := by omega
  have hd1 : IntKind.i64.wrap (x : Int) = (x : Int) := by rw [IntKind.wrap_i64]; omega
  have hd2 : (x : Int).tmod 100 = (N : Int) - 1 := by rw [Int.tmod_eq_emod_of_nonneg (by omega)]; omega
  have hd3 : IntKind.i64.wrap (t : Int) = (t : Int) := by rw [IntKind.wrap_i64]; omega
  have hd4 : (N : Int) - 1 + 1 = (N : Int) := by omega
  have hz1 : ((N : Int) == 0) = false := by simp; omega
  have hz2 : ¬ (N : Int) = 0 := by omega
  have hz3 : ¬ N = 0 := by omega
  clear hN hx
  go_enter Try.func10, Try.ntmps10
  go_wp2_with fail
  refine (works10 _).mono ?_
  rintro e w0 ⟨rfl, hb0⟩
  go_wp2_with fail
  refine (new_of S w.heap.size (N : Int) (N : Int) (N : Int) _ (by rw [if_neg (by omega)]) (by rw [if_neg (by omega)]) hb0.size (HS.out _)).mono ?_
  rintro e w1 ⟨rfl, hA, hb1⟩
  have hb : Below w.heap.size w w1 := hb0.trans (hb1.mono hb0.size)
  obtain ⟨A, hAe⟩ : ∃ A, A = w0.heap.size := ⟨_, rfl⟩
  rw [← hAe] at hA ⊢
  have H := Lib.hid hA
  clear hAe hb0 hb1 hA
  go_wp2_with fail
  go_loopw [7] (fun i wr => ∃ (k : Nat) (hv bv : Value), k ≤ N ∧ i = .int .i64 ((k : Int) + 1) ∧ Hid (AS S w.heap.size A wr (N : Int) ((List.replicate k true).length : Int) (k : Int) hv bv hv bv (List.replicate k true) []) ∧ Below w.heap.size w wr) (fun i _ => N + 1 - (intOf i).toNat)
  case atStart => exact ⟨0, _, _, by omega, rfl, Lib.hid (by simpa using H.out), hb⟩
  case round =>
    obtain ⟨k, hv, bv, hk, rfl, hA, hbn⟩ := hrel
    clear H hb
    by_cases hlt : k < N
    · go_wp2_with fail
      refine (take_yes _ k (List.replicate k true ++ [false]) [] ((k : Int) + 1) hA.out (.inr ⟨rfl, by simp; omega, by simp, rfl, rfl⟩) (by simp; omega) (by simp) (by simp; omega) (by simp) ?_).mono ?_
      · rw [rep_set, List.count_replicate_self, if_pos (by omega)]; omega
      rintro e w2 ⟨hv', bv', rfl, hA2, hb2, _⟩
      rw [rep_set] at hA2
      have H2 := Lib.hid hA2
      clear hA2 hA
      go_wp2_with fail
      go_roundw
      case rel => exact ⟨k + 1, _, _, by omega, by go_num, Lib.hid (by have := H2.out; push_cast; exact this), hbn.trans hb2⟩
      case measure => simp [intOf]; omega
    · obtain rfl : k = N := by omega
      go_wp2_with fail
      go_loopw [10] (fun i wr => ∃ (j : Nat) (hv bv : Value), j ≤ k ∧ i = .int .i64 (j : Int) ∧ Hid (AS S w.heap.size A wr (k : Int) ((hsx k t j).length : Int) (k : Int) hv bv hv bv (hsx k t j) (bkx k t j)) ∧ Below w.heap.size w wr) (fun i _ => k - (intOf i).toNat)
      case atStart => exact ⟨0, hv, bv, by omega, rfl, hA, hbn⟩
      case round =>
        obtain ⟨j, hv, bv, hj, rfl, hA, hbn⟩ := hrel
        by_cases hlt : j < k
        · obtain ⟨q, hq⟩ : ∃ q, (j + t) % k = q := ⟨_, rfl⟩
          have hqi : ((j : Int) + (t : Int)).tmod (k : Int) = (q : Int) := by
            rw [Int.tmod_eq_emod_of_nonneg (by omega), ← hq]; push_cast; rfl
          have hqk : q < k := by rw [← hq]; exact Nat.mod_lt _ (by omega)
          have hat := hsx_at k t j q hqk (fun i hi => by rw [← hq]; exact mod_ne k t j i hi hlt)
          have HQ := Lib.hid hq
          clear hq
          have C := Lib.hid (give_yes _ q hA.out (by rw [hsx_len]; omega) (by rw [bkx_len]; omega) hat)
          clear hat hA
          go_wp2_with fail
          refine C.out.mono ?_
          rintro e w2 ⟨hv', bv', rfl, hA2, hb2, _⟩
          have H2 : Hid (AS S w.heap.size A w2 (k : Int) ((hsx k t (j + 1)).length : Int) (k : Int) hv' bv' hv' bv' (hsx k t (j + 1)) (bkx k t (j + 1))) := Lib.hid (by
            have e1 : hsx k t (j + 1) = (hsx k t j).set q false := by rw [← HQ.out]; rfl
            have e2 : bkx k t (j + 1) = bkx k t j ++ [(q : Int) + 1] := by rw [← HQ.out]; rfl
            rw [e1, e2]; exact hA2)
          clear hA2 C
          go_wp2_with fail
          go_roundw
          case rel => exact ⟨j + 1, _, _, by omega, by go_num, H2, hbn.trans hb2⟩
          case measure => simp [intOf]; omega
        · obtain rfl : j = k := by omega
          go_wp2_with fail
          go_loopw [11] (fun i wr => ∃ (r : Nat) (hs : List Bool) (hv bv : Value), r ≤ j ∧ hs.length = j ∧ i = .int .i64 ((r : Int) - 1) ∧ Hid (AS S w.heap.size A wr (j : Int) (hs.length : Int) (j : Int) hv bv hv bv hs (bkx j t r)) ∧ Below w.heap.size w wr) (fun i _ => (intOf i + 1).toNat)
          case atStart => exact ⟨j, hsx j t j, hv, bv, by omega, hsx_len _ _ _, rfl, hA, hbn⟩
          case round =>
            obtain ⟨r, hs, hv, bv, hr, hhs, rfl, hA, hbn⟩ := hrel
            have HH := Lib.hid hhs
            clear hhs
            by_cases hlt : 0 < r
            · obtain ⟨r, rfl⟩ : ∃ r', r = r' + 1 := ⟨r - 1, by omega⟩
              have hr1 : ((r + 1 : Nat) : Int) - 1 = (r : Int) := by omega
              rw [hr1]
              clear hr1
              obtain ⟨q, hq⟩ : ∃ q, (r + t) % j = q := ⟨_, rfl⟩
              have hqi : ((r : Int) + (t : Int)).tmod (j : Int) = (q : Int) := by
                rw [Int.tmod_eq_emod_of_nonneg (by omega), ← hq]; push_cast; rfl
              have hqk : q < j := by rw [← hq]; exact Nat.mod_lt _ (by omega)
              have hbq : bkx j t (r + 1) = bkx j t r ++ [(q : Int) + 1] := by rw [← hq]; rfl
              have C := Lib.hid (take_yes _ q hs (bkx j t r) (j : Int) hA.out (.inl ⟨_, hbq, rfl, rfl⟩) (by rw [HH.out]; omega) (by rw [bkx_len]; omega) (by rw [HH.out]; omega) (by rw [HH.out]; exact hqk) (by
                rw [if_neg]
                have := List.count_le_length (a := true) (l := hs.set q true)
                rw [List.length_set, HH.out] at this
                omega))
              have HQ := Lib.hid hq
              clear hq hbq hA
              go_wp2_with fail
              refine C.out.mono ?_
              rintro e w2 ⟨hv', bv', rfl, hA2, hb2, _⟩
              have H2 := Lib.hid hA2
              clear hA2 C
              go_wp2_with fail
              go_roundw
              case rel => exact ⟨r, _, _, _, by omega, by rw [List.length_set, HH.out], by go_num, H2, hbn.trans hb2⟩
              case measure => simp [intOf] <;> omega
            · obtain rfl : r = 0 := by omega
              have C := Lib.hid (peak_of _ hA.out)
              clear hA
              go_wp2_with (go_at_call 38; refine C.out.mono ?_; rintro e w' ⟨rfl, rfl⟩)
              go_ret
              exact ⟨by simp, hbn⟩
theorem walk (a0 : Int) (a1 : Int) (w : World) (w0 : (Lit.int .u8 a0).wf = true) (w1 : (Lit.int .u8 a1).wf = true) :
    Calls Try.prog 10 #[.int .u8 a0, .int .u8 a1] w fun e w' => e = .returned (.bool true) ∧ Below w.heap.size w w' := by
  have h0 : 0 ≤ a0 ∧ a0 ≤ 255 := bounds_u8 w0
  have h1 : 0 ≤ a1 ∧ a1 ≤ 255 := bounds_u8 w1
  obtain ⟨x, rfl⟩ : ∃ x : Nat, a0 = (x : Int) := ⟨a0.toNat, by omega⟩
  obtain ⟨t, rfl⟩ : ∃ t : Nat, a1 = (t : Int) := ⟨a1.toNat, by omega⟩
  exact core x t _ w (by omega) (by omega) rfl
end Go.Proofs.Ytfigabjcmpakeaa.arenaLast
