/- While a thief stands still, an owner pushes and pops with three accesses: the law DequeFree answers true. No condition. -/
import Derived.Test.YtegbifphekhgkaaDqT
import Derived.Deep.RegionHeld3
import Derived.Deep.DrawnRows
namespace Go.Proofs.Ytegbifphekhgkaa.dequeFree
open Go.ChangeShapes Go.WideShapes Go.ChangeAt Go.RowKit
attribute [local go_sem ↓] Go.wp_at_zero Go.wp_at_succ
set_option linter.unusedVariables false
set_option linter.unusedSimpArgs false
def fs (k : Nat) : Nat → Int := fun i => if i < k then 100 + (i : Int) else 0
theorem fs_upd (k : Nat) (hk : k < 40) : ∀ i, updI (fs k) (k % 40) (100 + (k : Int)) i = fs (k + 1) i := by
  intro i
  unfold updI fs
  rw [Nat.mod_eq_of_lt hk]
  by_cases e : i = k
  · subst e; rw [if_pos rfl, if_pos (by omega)]
  · rw [if_neg e]
    by_cases h : i < k
    · rw [if_pos h, if_pos (by omega)]
    · rw [if_neg h, if_neg (by omega)]
set_option maxRecDepth 20000 in
set_option maxHeartbeats 2000000 in
theorem core (x y z n m p : Nat) (w : World) (hx : x ≤ 255) (hy : y ≤ 255) (hz : z ≤ 255) (hn : x % 20 + 3 = n) (hm : y % 7 = m) (hp : z % (n - 1) = p) :
    Calls Try.prog 7 #[.int .u8 (x : Int), .int .u8 (y : Int), .int .u8 (z : Int)] w fun e w' => e = .returned (.bool true) ∧ Below w.heap.size w w' := by
  have hO := Lib.hid (wok 40 1 44 98 (by omega) (by omega) (by omega) (by omega) (by omega))
  have hn1 : 3 ≤ n := by omega
  have hn2 : n < 23 := by omega
  have hm2 : m < 7 := by omega
  have hp2 : p < n - 1 := by rw [← hp]; exact Nat.mod_lt _ (by omega)
  have hd1 : IntKind.i64.wrap (x : Int) = (x : Int) := by rw [IntKind.wrap_i64]; omega
  have hd2 : (x : Int).tmod 20 = (n : Int) - 3 := by rw [Int.tmod_eq_emod_of_nonneg (by omega)]; omega
  have hd0 : (n : Int) - 3 + 3 = (n : Int) := by omega
  have hd3 : IntKind.i64.wrap (y : Int) = (y : Int) := by rw [IntKind.wrap_i64]; omega
  have hd4 : (y : Int).tmod 7 = (m : Int) := by rw [Int.tmod_eq_emod_of_nonneg (by omega)]; omega
  have hd5 : IntKind.i64.wrap (z : Int) = (z : Int) := by rw [IntKind.wrap_i64]; omega
  have hd6 : (z : Int).tmod ((n : Int) - 1) = (p : Int) := by
    rw [Int.tmod_eq_emod_of_nonneg (by omega), ← hp, show (n : Int) - 1 = ((n - 1 : Nat) : Int) by omega]; rfl
  have hd7 : IntKind.i64.wrap ((n : Int) - 1) = (n : Int) - 1 := by rw [IntKind.wrap_i64]; omega
  have hd8 : ((n : Int) - 1 == 0) = false := by simp; omega
  have hd9 : ¬ (n : Int) - 1 = 0 := by omega
  clear hn hm hp hx hy hz
  go_enter Try.func7, Try.ntmps7
  go_wp2_with fail
  refine (works13 w).mono ?_
  rintro e wk ⟨rfl, hbk⟩
  go_wp2_with fail
  refine (plan13 40 wk).mono ?_
  rintro e w1 ⟨rfl, hb1⟩
  go_wp2_with fail
  obtain ⟨W, hW⟩ : ∃ W, W = w1.alloc (Obj.cells #[Value.int .i64 2, .int .i64 1, .int .i64 1, .int .i64 40] 25) := ⟨_, rfl⟩
  have hp : W.heap[w1.heap.size]? = some (.cells #[Value.int .i64 2, .int .i64 1, .int .i64 1, .int .i64 40] 25 (0, 0)) := by rw [hW]; exact heap_alloc_new _ _
  have hb : Below w.heap.size w W := by rw [hW]; exact btr (btr hbk hb1) (by go_grown)
  rw [← hW]
  clear hW hb1 hbk
  generalize w1.heap.size = Pl at *
  refine (size13 40 98 _ (by omega) (by omega) rfl).mono ?_
  rintro e w2 ⟨rfl, hb2⟩
  have hp2 := (hb2.block Pl (lt_of_heap hp)).trans hp
  have hbw2 := btr hb hb2
  clear hb hb2 hp
  go_wp2_with fail
  refine (new_n 98 _ (by omega)).mono ?_
  rintro e w3 ⟨rfl, hs, hb3⟩
  have hg : Pl < w2.heap.size := lt_of_heap hp2
  have HL : Hid (LS w w3 (w2.heap.size + 1) w2.heap.size Pl 40 (List.replicate 98 0)) := Lib.hid ⟨⟨hs, btr hbw2 hb3, hbw2.size⟩, (hb3.block Pl hg).trans hp2, by omega⟩
  have HQ := Lib.hid (dq0 44 40 98 (by omega))
  clear hs hb3 hp2 hbw2 hg
  generalize w2.heap.size + 1 = S at *
  generalize w2.heap.size = g at *
  go_wp2_with fail
  go_loopw [10, 11] (fun t i wr => ∃ (k : Nat) (xs : List Int), k ≤ n ∧ t = .int .i64 (k : Int) ∧ i = .int .i64 (k : Int) ∧ Hid (LS w wr S g Pl 40 xs) ∧ Hid (Dq 44 40 xs 0 (k : Int) 0 0 (fs k)) ∧ xs.length = 98) (fun _ i _ => n - (intOf i).toNat)
  case atStart => exact ⟨0, _, by omega, rfl, rfl, HL, Lib.hid (congrD HQ.out fun i => by simp [fs]), by simp⟩
  case round =>
    clear HL HQ
    obtain ⟨k, xs, hk, rfl, rfl, HL, HQ, hl⟩ := hrel
    by_cases hlt : k < n
    · obtain ⟨c0, c1, c2, c3⟩ := HL.out.cells
      go_wp2_with fail
      refine (push_new S g 40 1 (k : Int) (100 + (k : Int)) _ w _ HL.out.j (by omega) (by omega)).mono ?_
      rintro e w4 ⟨A, rfl, hA, hb4, hS4⟩
      have HP : Hid (Pl ≠ A) := Lib.hid (by have := HL.out.lt; omega)
      have HL4 := Lib.hid (HL.out.below hb4)
      have HS4 := Lib.hid hS4
      clear hA hb4 hS4 HL c0 c1 c2 c3
      go_wp2_with fail
      obtain ⟨xs5, hR, q5, hl5⟩ := push_run (S := S) (g := g) (A := A) (kk := 1) k (100 + (k : Int)) (by rw [hl]; exact hO.out) HQ.out (by omega) (by omega)
      refine (run_of S g A 3 _ _ _ _ w _ hR (by omega) HS4.out).mono ?_
      rintro e w5 ⟨rfl, hS, hF⟩
      have HL5 := Lib.hid (HL4.out.step hS hF HP.out)
      have HS5 := Lib.hid hS
      have HQ5 := Lib.hid (congrD q5 (fs_upd k (by omega)))
      clear hR hS hF HL4 HS4 q5 HQ
      go_wp2_with fail
      refine (tail_of A _ _ HS5.out.a).mono ?_
      rintro e w6 ⟨rfl, rfl⟩
      go_wp2_with fail
      go_roundw
      case rel => exact ⟨k + 1, xs5, by omega, by go_num, by go_num, HL5, HQ5, by omega⟩
      case measure => simp [intOf]; omega
    · obtain rfl : k = n := by omega
      obtain ⟨c0, c1, c2, c3⟩ := HL.out.cells
      go_wp2_with fail
      refine (steal_new S g 40 1 _ w _ HL.out.j).mono ?_
      rintro e w4 ⟨A, rfl, hA, hb4, hS4⟩
      have HP : Hid (Pl ≠ A) := Lib.hid (by have := HL.out.lt; omega)
      have HL4 := Lib.hid (HL.out.below hb4)
      have HT4 : Hid (WT w w4 S g A (thO A 0)) := Lib.hid hS4.wt
      clear hA hb4 hS4 HL c0 c1 c2 c3
      go_wp2_with fail
      go_loopw [14] (fun i wr => ∃ (s : Nat) (xs : List Int), s ≤ m ∧ i = .int .i64 (s : Int) ∧ Hid (LS w wr S g Pl 40 xs) ∧ Hid (Dq 44 40 xs (thH s) (k : Int) (thK s) 0 (fs k)) ∧ xs.length = 98 ∧ Hid (WT w wr S g A (thO A s))) (fun i _ => m - (intOf i).toNat)
      case atStart => exact ⟨0, _, by omega, rfl, HL4, HQ, hl, HT4⟩
      case round =>
        clear HL4 HT4 HQ hl
        obtain ⟨s, xs, hs, rfl, HL, HQ, hl, HT⟩ := hrel
        by_cases hsl : s < m
        · obtain ⟨xs1, hC, q1, hl1⟩ := th_step S g A s xs (k : Int) (fs k) (by omega) hl (by omega) (by unfold fs; rw [if_pos (by omega)]; rfl) HQ.out
          have hsI : (s : Int) < (m : Int) := by omega
          go_wp2_with fail
          refine (step_of S g A xs xs1 _ _ false w _ hC (Lib.hid (Or.inr (by obtain ⟨f, hf⟩ := thO_nx A (s + 1); exact ⟨f, hf, rfl⟩))) (HT.out.ws HL.out)).mono ?_
          rintro e w5 ⟨rfl, hS, hF⟩
          have HL5 := Lib.hid (HL.out.step hS hF HP.out)
          have HT5 := Lib.hid hS.wt
          have HQ5 := Lib.hid q1
          clear hC q1 hS hF HL HQ HT
          go_wp2_with fail
          go_roundw
          case rel => exact ⟨s + 1, xs1, by omega, by go_num, HL5, HQ5, hl1, HT5⟩
          case measure => simp [intOf]; omega
        · obtain rfl : s = m := by omega
          have hsI : ¬ (s : Int) < (s : Int) := by omega
          obtain ⟨c0, c1, c2, c3⟩ := HL.out.cells
          go_wp2_with fail
          refine (push_new S g 40 1 (k : Int) 7 _ w _ HL.out.j (by omega) (by omega)).mono ?_
          rintro e w4 ⟨A2, rfl, hA, hb4, hS4⟩
          have HP2 : Hid (Pl ≠ A2) := Lib.hid (by have := HL.out.lt; omega)
          have HN2 : Hid (A ≠ A2) := Lib.hid (by have := HT.out.a.lt; omega)
          have HL4 := Lib.hid (HL.out.below hb4)
          have HT4 := Lib.hid (HT.out.below hb4)
          have HS4 := Lib.hid hS4
          clear hA hb4 hS4 HL HT c0 c1 c2 c3
          go_wp2_with fail
          obtain ⟨xs5, hR, q5, hl5⟩ := push_run (S := S) (g := g) (A := A2) (kk := 1) k 7 (by rw [hl]; exact hO.out) HQ.out (by omega) (by have := thH_le s; omega)
          refine (run_of S g A2 3 _ _ _ _ w _ hR (by omega) HS4.out).mono ?_
          rintro e w5 ⟨rfl, hS, hF⟩
          have HL5 := Lib.hid (HL4.out.step hS hF HP2.out)
          have HS5 := Lib.hid hS
          have HT5 := Lib.hid (HT4.out.step hF HN2.out)
          have HQ5 : Hid (Dq 44 40 xs5 (thH s) ((k + 1 : Nat) : Int) (thK s) 0 (updI (fs k) k 7)) := Lib.hid (by rw [Nat.mod_eq_of_lt (show k < 40 by omega)] at q5; push_cast; exact q5)
          clear hR hS hF HL4 HS4 HT4 q5 HQ HP2 HN2
          go_wp2_with (first | (go_at_call 23; refine (full_of A2 _ _ HS5.out.a).mono ?_; rintro e w9 ⟨rfl, rfl⟩) | (go_at_call 24; refine (tail_of A2 _ _ HS5.out.a).mono ?_; rintro e w9 ⟨rfl, rfl⟩))
          go_loopw [10, 15, 16] (fun t v i wr => ∃ (j T : Nat) (xs : List Int), j ≤ p ∧ T + j = k + 1 ∧ t = .int .i64 (T : Int) ∧ i = .int .i64 (j : Int) ∧ Hid (LS w wr S g Pl 40 xs) ∧ Hid (Dq 44 40 xs (thH s) (T : Int) (thK s) 0 (updI (fs k) k 7)) ∧ xs.length = 98 ∧ Hid (WT w wr S g A (thO A s))) (fun _ _ i _ => p - (intOf i).toNat)
          case atStart => exact ⟨0, k + 1, _, by omega, by omega, by push_cast; rfl, rfl, HL5, HQ5, by omega, HT5⟩
          case round =>
            clear HL5 HQ5 HT5 HS5 hl hl5
            obtain ⟨j, T1, xs, hj, hT1, rfl, rfl, HL, HQ, hl, HT⟩ := hrel
            by_cases hjl : j < p
            · have hjI : (j : Int) < (p : Int) := by omega
              obtain ⟨c0, c1, c2, c3⟩ := HL.out.cells
              obtain ⟨T, hT⟩ : ∃ T : Nat, T = k - j := ⟨_, rfl⟩
              have hT3 : Hid ((T : Int) + 1 = (T1 : Int)) := Lib.hid (by omega)
              go_wp2_with fail
              refine (pop_new S g 40 1 (T1 : Int) _ w _ HL.out.j (by omega) (by omega)).mono ?_
              rintro e w4 ⟨A2, rfl, hA, hb4, hS4⟩
              have HP2 : Hid (Pl ≠ A2) := Lib.hid (by have := HL.out.lt; omega)
              have HN2 : Hid (A ≠ A2) := Lib.hid (by have := HT.out.a.lt; omega)
              have HL4 := Lib.hid (HL.out.below hb4)
              have HT4 := Lib.hid (HT.out.below hb4)
              have HS4 := Lib.hid hS4
              clear hA hb4 hS4 HL HT c0 c1 c2 c3
              go_wp2_with fail
              obtain ⟨v, hv, hv1⟩ : ∃ v : Int, updI (fs k) k 7 (T % 40) = v ∧ (if j = 0 then v = 7 else v = 100 + (k : Int) - (j : Int)) := by
                refine ⟨_, rfl, ?_⟩
                rw [Nat.mod_eq_of_lt (by omega)]
                unfold updI fs
                by_cases e : j = 0
                · rw [if_pos e, if_pos (by omega)]
                · rw [if_neg e, if_neg (by omega), if_pos (by omega)]; omega
              obtain ⟨xs5, hR, q5, hl5⟩ := pop_run' (S := S) (g := g) (A := A2) (kk := 1) T (T1 : Int) v (by rw [hl]; exact hO.out) HQ.out (by omega) (by have := thH_le s; omega) hv hT3.out
              refine (run_of S g A2 3 _ _ _ _ w _ hR (by omega) HS4.out).mono ?_
              rintro e w5 ⟨rfl, hS, hF⟩
              have HL5 := Lib.hid (HL4.out.step hS hF HP2.out)
              have HS5 := Lib.hid hS
              have HT5 := Lib.hid (HT4.out.step hF HN2.out)
              have HQ5 := Lib.hid q5
              have C := Lib.hid (fun w h => got_of A2 ⟨40, 1, (T : Int), 0, 0, 0, 0, v, true, false, .nilFunc⟩ true v true w h (Lib.hid (Or.inl ⟨rfl, rfl⟩)) (Lib.hid (Or.inl ⟨rfl, rfl, rfl, rfl⟩)))
              have hw1 : IntKind.i64.wrap (100 + (k : Int)) = 100 + (k : Int) := by rw [IntKind.wrap_i64]; omega
              have hw2 : IntKind.i64.wrap (100 + (k : Int) - (j : Int)) = 100 + (k : Int) - (j : Int) := by rw [IntKind.wrap_i64]; omega
              clear hR hS hF HL4 HS4 HT4 q5 HQ HP2 HN2 hT3 hv
              by_cases hj0 : j = 0
              · subst hj0
                rw [if_pos rfl] at hv1
                subst hv1
                go_wp2_with fail
                refine (C.out _ HS5.out.a).mono ?_
                rintro e w6 ⟨rfl, rfl⟩
                go_wp2_with (first | (go_at_call 24; refine (tail_of A2 _ _ HS5.out.a).mono ?_; rintro e w9 ⟨rfl, rfl⟩))
                go_roundw
                case rel => exact ⟨0 + 1, T, xs5, by omega, by omega, by rw [show T = k by omega], by go_num, HL5, HQ5, by omega, HT5⟩
                case measure => simp [intOf]; omega
              · rw [if_neg hj0] at hv1
                have hj1 : (0 : Int) < (j : Int) := by omega
                have hj2 : ((j : Int) == 0) = false := by simp; omega
                have hj3 : ¬ (j : Int) = 0 := by omega
                go_wp2_with fail
                refine (C.out _ HS5.out.a).mono ?_
                rintro e w6 ⟨rfl, rfl⟩
                go_wp2_with (first | (go_at_call 24; refine (tail_of A2 _ _ HS5.out.a).mono ?_; rintro e w9 ⟨rfl, rfl⟩))
                go_roundw
                case rel => exact ⟨j + 1, T, xs5, by omega, by omega, by rw [hT], by go_num, HL5, HQ5, by omega, HT5⟩
                case measure => simp [intOf]; omega
            · have hjI : ¬ (j : Int) < (p : Int) := by omega
              obtain ⟨xs5, o5, hR, hgt, hhs, hnx⟩ := th_run S g A (T1 : Int) _ (by omega) (by unfold updI fs; rw [if_neg (by omega), if_pos (by omega)]; rfl) (6 - s) s xs (by omega) hl HQ.out
              go_wp2_with fail
              refine (run_of S g A _ _ _ _ _ w _ hR (by omega) (HT.out.ws HL.out)).mono ?_
              rintro e w5 ⟨rfl, hS, hF⟩
              have HS5 := Lib.hid hS
              have C := Lib.hid (fun w h => got_of A o5 true 100 true w h (Lib.hid (Or.inl ⟨hnx, rfl⟩)) (Lib.hid (Or.inl ⟨rfl, hhs, rfl, hgt.symm⟩)))
              clear hR hS hF HL HT HQ hgt hhs hnx
              go_wp2_with fail
              refine (C.out _ HS5.out.a).mono ?_
              rintro e w6 ⟨rfl, rfl⟩
              go_wp2_with fail
              go_ret
              exact ⟨rfl, HS5.out.j.2.1⟩
theorem walk (a0 : Int) (a1 : Int) (a2 : Int) (w : World) (w0 : (Lit.int .u8 a0).wf = true) (w1 : (Lit.int .u8 a1).wf = true) (w2 : (Lit.int .u8 a2).wf = true) :
    Calls Try.prog 7 #[.int .u8 a0, .int .u8 a1, .int .u8 a2] w fun e w' => e = .returned (.bool true) ∧ Below w.heap.size w w' := by
  have h0 : 0 ≤ a0 ∧ a0 ≤ 255 := bounds_u8 w0
  have h1 : 0 ≤ a1 ∧ a1 ≤ 255 := bounds_u8 w1
  have h2 : 0 ≤ a2 ∧ a2 ≤ 255 := bounds_u8 w2
  obtain ⟨x, rfl⟩ : ∃ x : Nat, a0 = (x : Int) := ⟨a0.toNat, by omega⟩
  obtain ⟨y, rfl⟩ : ∃ y : Nat, a1 = (y : Int) := ⟨a1.toNat, by omega⟩
  obtain ⟨z, rfl⟩ : ∃ z : Nat, a2 = (z : Int) := ⟨a2.toNat, by omega⟩
  exact core x y z _ _ _ w (by omega) (by omega) (by omega) rfl rfl rfl
end Go.Proofs.Ytegbifphekhgkaa.dequeFree
