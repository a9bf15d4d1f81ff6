/- Thieves alone get what was pushed in order, each once: the law DequeThieves answers true. No condition. -/
import Derived.Test.YtegbifphekhgkaaDqK
import Derived.Deep.RegionHeld3
import Derived.Deep.DrawnRows
namespace Go.Proofs.Ytegbifphekhgkaa.dequeThieves
open Go.ChangeShapes Go.WideShapes Go.ChangeAt Go.RowKit
attribute [local go_sem ↓] Go.wp_at_zero Go.wp_at_succ
set_option linter.unusedVariables false
set_option linter.unusedSimpArgs false
def fs (k : Nat) : Nat → Int := fun i => if i < k then 100 + (i : Int) else 0
theorem congrD {P D : Nat} {xs : List Int} {h t k s : Int} {f f' : Nat → Int} (q : Dq P D xs h t k s f) (hf : ∀ i, f i = f' i) : Dq P D xs h t k s f' :=
  ⟨q.hd, q.tl, q.ka, q.sv, fun i hi => (q.sl i hi).trans (hf i), q.ln⟩
theorem fs_upd (k : Nat) (hk : k < 40) : ∀ i, updI (fs k) (k % 40) (100 + (k : Int)) i = fs (k + 1) i := by
  intro i
  unfold updI fs
  rw [Nat.mod_eq_of_lt hk]
  by_cases e : i = k
  · subst e; rw [if_pos rfl, if_pos (by omega)]
  · rw [if_neg e]
    by_cases h : i < k
    · rw [if_pos h, if_pos (by omega)]
    · rw [if_neg h, if_neg (by omega)]
set_option maxRecDepth 20000 in
set_option maxHeartbeats 2000000 in
theorem core (x y n m : Nat) (w : World) (hx : x ≤ 255) (hy : y ≤ 255) (hn : x % 30 = n) (hm : y % 5 = m) :
    Calls Try.prog 6 #[.int .u8 (x : Int), .int .u8 (y : Int)] w fun e w' => e = .returned (.bool true) ∧ Below w.heap.size w w' := by
  have hO := Lib.hid (wok 40 1 44 98 (by omega) (by omega) (by omega) (by omega) (by omega))
  have hn2 : n < 30 := by omega
  have hm2 : m < 5 := by omega
  have hd1 : IntKind.i64.wrap (x : Int) = (x : Int) := by rw [IntKind.wrap_i64]; omega
  have hd2 : (x : Int).tmod 30 = (n : Int) := by rw [Int.tmod_eq_emod_of_nonneg (by omega)]; omega
  have hd3 : IntKind.i64.wrap (y : Int) = (y : Int) := by rw [IntKind.wrap_i64]; omega
  have hd4 : (y : Int).tmod 5 = (m : Int) := by rw [Int.tmod_eq_emod_of_nonneg (by omega)]; omega
  have hd5 : IntKind.i64.wrap ((n : Int) + (m : Int)) = (n : Int) + (m : Int) := by rw [IntKind.wrap_i64]; omega
  clear hn hm hx hy
  go_enter Try.func6, Try.ntmps6
  go_wp2_with fail
  refine (works13 w).mono ?_
  rintro e wk ⟨rfl, hbk⟩
  go_wp2_with fail
  refine (plan13 40 wk).mono ?_
  rintro e w1 ⟨rfl, hb1⟩
  go_wp2_with fail
  obtain ⟨W, hW⟩ : ∃ W, W = w1.alloc (Obj.cells #[Value.int .i64 2, .int .i64 1, .int .i64 1, .int .i64 40] 25) := ⟨_, rfl⟩
  have hp : W.heap[w1.heap.size]? = some (.cells #[Value.int .i64 2, .int .i64 1, .int .i64 1, .int .i64 40] 25 (0, 0)) := by rw [hW]; exact heap_alloc_new _ _
  have hb : Below w.heap.size w W := by rw [hW]; exact btr (btr hbk hb1) (by go_grown)
  rw [← hW]
  clear hW hb1 hbk
  generalize w1.heap.size = Pl at *
  refine (size13 40 98 _ (by omega) (by omega) rfl).mono ?_
  rintro e w2 ⟨rfl, hb2⟩
  have hp2 := (hb2.block Pl (lt_of_heap hp)).trans hp
  have hbw2 := btr hb hb2
  clear hb hb2 hp
  go_wp2_with fail
  refine (new_n 98 _ (by omega)).mono ?_
  rintro e w3 ⟨rfl, hs, hb3⟩
  have hg : Pl < w2.heap.size := lt_of_heap hp2
  have HL : Hid (LS w w3 (w2.heap.size + 1) w2.heap.size Pl 40 (List.replicate 98 0)) := Lib.hid ⟨⟨hs, btr hbw2 hb3, hbw2.size⟩, (hb3.block Pl hg).trans hp2, by omega⟩
  have HQ := Lib.hid (dq0 44 40 98 (by omega))
  clear hs hb3 hp2 hbw2 hg
  generalize w2.heap.size + 1 = S at *
  generalize w2.heap.size = g at *
  go_wp2_with fail
  go_loopw [8, 9] (fun t i wr => ∃ (k : Nat) (xs : List Int), k ≤ n ∧ t = .int .i64 (k : Int) ∧ i = .int .i64 (k : Int) ∧ Hid (LS w wr S g Pl 40 xs) ∧ Hid (Dq 44 40 xs 0 (k : Int) 0 0 (fs k)) ∧ xs.length = 98) (fun _ i _ => n - (intOf i).toNat)
  case atStart => exact ⟨0, _, by omega, rfl, rfl, HL, Lib.hid (congrD HQ.out fun i => by simp [fs]), by simp⟩
  case round =>
    clear HL HQ
    obtain ⟨k, xs, hk, rfl, rfl, HL, HQ, hl⟩ := hrel
    by_cases hlt : k < n
    · obtain ⟨c0, c1, c2, c3⟩ := HL.out.cells
      go_wp2_with fail
      refine (push_new S g 40 1 (k : Int) (100 + (k : Int)) _ w _ HL.out.j (by omega) (by omega)).mono ?_
      rintro e w4 ⟨A, rfl, hA, hb4, hS4⟩
      have HP : Hid (Pl ≠ A) := Lib.hid (by have := HL.out.lt; omega)
      have HL4 := Lib.hid (HL.out.below hb4)
      have HS4 := Lib.hid hS4
      clear hA hb4 hS4 HL c0 c1 c2 c3
      go_wp2_with fail
      obtain ⟨xs5, hR, q5, hl5⟩ := push_run (S := S) (g := g) (A := A) (kk := 1) k (100 + (k : Int)) (by rw [hl]; exact hO.out) HQ.out (by omega) (by omega)
      refine (run_of S g A 3 _ _ _ _ w _ hR (by omega) HS4.out).mono ?_
      rintro e w5 ⟨rfl, hS, hF⟩
      have HL5 := Lib.hid (HL4.out.step hS hF HP.out)
      have HS5 := Lib.hid hS
      have HQ5 := Lib.hid (congrD q5 (fs_upd k (by omega)))
      clear hR hS hF HL4 HS4 q5 HQ
      go_wp2_with fail
      refine (tail_of A _ _ HS5.out.a).mono ?_
      rintro e w6 ⟨rfl, rfl⟩
      go_wp2_with fail
      go_roundw
      case rel => exact ⟨k + 1, xs5, by omega, by go_num, by go_num, HL5, HQ5, by omega⟩
      case measure => simp [intOf]; omega
    · obtain rfl : k = n := by omega
      go_wp2_with fail
      go_loopw [11] (fun i wr => ∃ (j : Nat) (c : Int) (xs : List Int), j ≤ k + m ∧ i = .int .i64 (j : Int) ∧ Hid (LS w wr S g Pl 40 xs) ∧ Hid (Dq 44 40 xs ((min j k : Nat) : Int) (k : Int) c c (fs k)) ∧ xs.length = 98) (fun i _ => k + m - (intOf i).toNat)
      case atStart => exact ⟨0, 0, _, by omega, rfl, HL, Lib.hid (by simpa using HQ.out), hl⟩
      case round =>
        clear HL HQ hl
        obtain ⟨j, c, xs, hj, rfl, HL, HQ, hl⟩ := hrel
        by_cases hjl : j < k + m
        · obtain ⟨c0, c1, c2, c3⟩ := HL.out.cells
          have hji : (j : Int) < (k : Int) + (m : Int) := by omega
          go_wp2_with fail
          refine (steal_new S g 40 1 _ w _ HL.out.j).mono ?_
          rintro e w4 ⟨A, rfl, hA, hb4, hS4⟩
          have HP : Hid (Pl ≠ A) := Lib.hid (by have := HL.out.lt; omega)
          have HL4 := Lib.hid (HL.out.below hb4)
          have HS4 := Lib.hid hS4
          clear hA hb4 hS4 HL c0 c1 c2 c3
          go_wp2_with fail
          by_cases hjk : j < k
          · have hmin : min j k = j := by omega
            have q := HQ.out
            rw [hmin] at q
            obtain ⟨xs5, o5, hR, hgt, hhs, hnx, q5, hl5⟩ := steal_run (S := S) (g := g) (A := A) (kk := 1) j (100 + (j : Int)) (by rw [hl]; exact hO.out) q (by omega) (by omega) (by unfold fs; rw [Nat.mod_eq_of_lt (by omega), if_pos hjk])
            refine (run_of S g A 7 _ _ _ _ w _ hR (by omega) HS4.out).mono ?_
            rintro e w5 ⟨rfl, hS, hF⟩
            have HL5 := Lib.hid (HL4.out.step hS hF HP.out)
            have HS5 := Lib.hid hS
            have HQ5 : Hid (Dq 44 40 xs5 ((min (j + 1) k : Nat) : Int) (k : Int) (wrap64 (c + 1)) (wrap64 (c + 1)) (fs k)) := Lib.hid (by rw [show min (j + 1) k = j + 1 by omega]; push_cast; exact q5)
            have C := Lib.hid (fun w h => got_of A o5 true (100 + (j : Int)) true w h (Lib.hid (Or.inl ⟨hnx, rfl⟩)) (Lib.hid (Or.inl ⟨rfl, hhs, rfl, hgt.symm⟩)))
            have hjI : (j : Int) < (k : Int) := by omega
            have hw : IntKind.i64.wrap (100 + (j : Int)) = 100 + (j : Int) := by rw [IntKind.wrap_i64]; omega
            have hD : decide ((j : Int) < (k : Int)) = true := by simp; omega
            clear hR hS hF HL4 HS4 q5 HQ q hgt hhs hnx hmin
            go_wp2_with fail
            refine (C.out _ HS5.out.a).mono ?_
            rintro e w6 ⟨rfl, rfl⟩
            go_wp2_with fail
            go_roundw
            case rel => exact ⟨j + 1, _, xs5, by omega, by go_num, HL5, HQ5, by omega⟩
            case measure => simp [intOf]; omega
          · have hmin : min j k = k := by omega
            have q := HQ.out
            rw [hmin] at q
            obtain ⟨xs5, o5, hR, hhs, hnx, q5, hl5⟩ := steal_none (S := S) (g := g) (A := A) (kk := 1) k (by rw [hl]; exact hO.out) q (by omega) (by omega)
            refine (run_of S g A 7 _ _ _ _ w _ hR (by omega) HS4.out).mono ?_
            rintro e w5 ⟨rfl, hS, hF⟩
            have HL5 := Lib.hid (HL4.out.step hS hF HP.out)
            have HS5 := Lib.hid hS
            have HQ5 : Hid (Dq 44 40 xs5 ((min (j + 1) k : Nat) : Int) (k : Int) (wrap64 (c + 1)) (wrap64 (c + 1)) (fs k)) := Lib.hid (by rw [show min (j + 1) k = k by omega]; exact q5)
            have C := Lib.hid (fun w h => got_of A o5 true 0 false w h (Lib.hid (Or.inl ⟨hnx, rfl⟩)) (Lib.hid (Or.inr ⟨Or.inr hhs, rfl, rfl⟩)))
            have hjI : ¬ (j : Int) < (k : Int) := by omega
            have hD : decide ((j : Int) < (k : Int)) = false := by simp; omega
            clear hR hS hF HL4 HS4 q5 HQ q hhs hnx hmin
            go_wp2_with fail
            refine (C.out _ HS5.out.a).mono ?_
            rintro e w6 ⟨rfl, rfl⟩
            go_wp2_with fail
            go_roundw
            case rel => exact ⟨j + 1, _, xs5, by omega, by go_num, HL5, HQ5, by omega⟩
            case measure => simp [intOf]; omega
        · have hji : ¬ (j : Int) < (k : Int) + (m : Int) := by omega
          go_wp2_with fail
          go_ret
          exact ⟨rfl, HL.out.j.2.1⟩
theorem walk (a0 : Int) (a1 : Int) (w : World) (w0 : (Lit.int .u8 a0).wf = true) (w1 : (Lit.int .u8 a1).wf = true) :
    Calls Try.prog 6 #[.int .u8 a0, .int .u8 a1] w fun e w' => e = .returned (.bool true) ∧ Below w.heap.size w w' := by
  have h0 : 0 ≤ a0 ∧ a0 ≤ 255 := bounds_u8 w0
  have h1 : 0 ≤ a1 ∧ a1 ≤ 255 := bounds_u8 w1
  have := core a0.toNat a1.toNat _ _ w (by omega) (by omega) rfl rfl
  rw [show (a0.toNat : Int) = a0 by omega, show (a1.toNat : Int) = a1 by omega] at this
  exact this
end Go.Proofs.Ytegbifphekhgkaa.dequeThieves
