/- Of those that one spawned, and itself, just the last one that leaves is told so: the law JoinLast answers true. No condition. -/
import Derived.Test.YtfigabjcmpakeabJoin
namespace Go.Proofs.Ytfigabjcmpakeab.joinLast
open Go.ChangeShapes Go.WideShapes Go.ChangeAt Go.RowKit
set_option linter.unusedVariables false
theorem big (x y : Option Addr) (len cap len1 cap1 : Nat) (w : World) (h : 60 < len ∨ 1000 < len1) :
    Calls Try.prog 11 #[.slice x len cap, .slice y len1 cap1] w fun e w' => e = .returned (.bool true) ∧ Below w.heap.size w w' := by
  by_cases h1 : 60 < len
  · clear h
    go_enter Try.func11, Try.ntmps11
    go_wp2_with (first | (go_at_call 40; refine (works18 _).mono ?_; rintro e w' ⟨rfl, hb1⟩))
    go_ret
    exact ⟨rfl, hb1⟩
  · have h2 : 1000 < len1 := by omega
    clear h
    go_enter Try.func11, Try.ntmps11
    go_wp2_with (first | (go_at_call 40; refine (works18 _).mono ?_; rintro e w' ⟨rfl, hb1⟩))
    go_ret
    exact ⟨rfl, hb1⟩
def Word (Q : Int → Prop) (x : Option Addr) (len : Nat) (w : World) (zs : List Int) : Prop := ∀ i, i < len → ∃ b off, x = some ⟨b, off, none⟩ ∧ b < w.heap.size ∧ w.cell? ⟨b, off + i, none⟩ = some (.int .u8 (zs.getD i 0)) ∧ Q (zs.getD i 0)
theorem leave1 (S g : Nat) (x y : Int) (q : Bool) (w0 w : World) (h : J w0 w S g [x]) (hq : (x == 1) = q) (hy : wrap64 (x + -1) = y) : Calls Try.prog 43 #[.pointer (some ⟨S, 0, none⟩), .int .i64 0] w fun e w' => e = .returned (.bool q) ∧ J w0 w' S g [y] := by
  subst hq hy
  exact leave_j S g [x] 0 w0 w h (by show 0 < 1; decide) (by show 1 ≤ 1048576; decide)
theorem spawn1 (S g : Nat) (x y : Int) (w0 w : World) (h : J w0 w S g [x]) (hy : wrap64 (x + 1) = y) : Calls Try.prog 42 #[.pointer (some ⟨S, 0, none⟩), .int .i64 0] w fun e w' => e = .returned (.tuple #[]) ∧ J w0 w' S g [y] := by
  subst hy
  exact spawn_j S g [x] 0 w0 w h (by show 0 < 1; decide) (by show 1 ≤ 1048576; decide)
set_option maxHeartbeats 4000000 in
set_option maxRecDepth 20000 in
theorem small (x y : Option Addr) (len cap len1 cap1 : Nat) (zs ys : List Int) (w : World) (h : len ≤ 60) (h1 : len1 ≤ 1000) (hx : Hid (Word (fun z => 0 ≤ z ∧ z ≤ 255) x len w zs)) (hy : Hid (Word (fun z => 0 ≤ z ∧ z ≤ 255) y len1 w ys)) :
    Calls Try.prog 11 #[.slice x len cap, .slice y len1 cap1] w fun e w' => e = .returned (.bool true) ∧ Below w.heap.size w w' := by
  go_enter Try.func11, Try.ntmps11
  go_wp2_with (first | (go_at_call 40; refine (works18 _).mono ?_; rintro e w1 ⟨rfl, hb1⟩))
  refine (new_j 1 w _ hb1 (by decide)).mono ?_
  rintro e w2 ⟨S, g, rfl, h0⟩
  clear hb1
  go_wp2_with fail
  refine (again_j S g _ 0 w _ h0 (by decide) (by decide)).mono ?_
  rintro e w3 ⟨rfl, h2⟩
  replace h2 : J w w3 S g [1] := h2
  clear h0
  go_wp2_with fail
  have hd : Below w.heap.size w w3 := h2.2.1
  go_loopw [6, 7] (fun at_ i wr => ∃ (k a : Nat), k ≤ len ∧ i = .int .i64 k ∧ at_ = .int .i64 a ∧ a ≤ 18 * k ∧ J w wr S g [1]) (fun _ i _ => len - (intOf i).toNat)
  case atStart => exact ⟨0, 0, Nat.zero_le _, rfl, rfl, Nat.zero_le _, h2⟩
  case round =>
    clear h2 hd
    obtain ⟨k, a, hk, rfl, rfl, ha, h2⟩ := hrel
    by_cases hlt : k < len
    · obtain ⟨b, off, rfl, hb, hz, hz0⟩ := hx.out k hlt
      have hz' : wr.cell? ⟨b, off + k, none⟩ = some (.int .u8 (zs.getD k 0)) := (h2.2.1.cell (p := ⟨b, off + k, none⟩) hb).trans hz
      clear hz
      generalize zs.getD k 0 = z at hz' hz0
      obtain ⟨Z, rfl⟩ := Int.eq_ofNat_of_zero_le hz0.1
      obtain ⟨m, hm, hm8⟩ : ∃ m : Nat, (Z : Int).tmod 9 = m ∧ m ≤ 8 := ⟨Z % 9, by rw [Int.tmod_eq_emod_of_nonneg (by omega)]; omega, by omega⟩
      have hz1 := hz0.2
      clear hz0
      go_wp2_with fail
      go_loopw [6, 9, 10, 11, 12] (fun at_ out left told gone wr => ∃ (a o l : Nat) (t : Int) (gn : Bool), at_ = .int .i64 a ∧ out = .int .i64 o ∧ left = .int .i64 l ∧ told = .int .i64 t ∧ gone = .bool gn ∧ o ≤ m ∧ l ≤ o ∧ (gn = true → o = m) ∧ t = (if gn = true ∧ l = 0 then 1 else 0) ∧ J w wr S g [l + (if gn = true then 0 else 1)] ∧ a + 2 * (m - o) + l + (if gn = true then 0 else 1) ≤ 18 * k + 17) (fun at_ _ _ _ _ _ => 2000 - (intOf at_).toNat)
      case atStart => exact ⟨a, 0, 0, 0, false, rfl, rfl, rfl, rfl, rfl, Nat.zero_le _, Nat.zero_le _, by simp, by simp, by simpa using h2, by simp; omega⟩
      case round =>
        clear h2 hz' hm ha
        obtain ⟨a, o, l, t, gn, rfl, rfl, rfl, rfl, rfl, ho, hl, hgo, ht, h2, hme⟩ := hrel
        have key : ∀ (c : Nat), (c % 3 = 0 ∨ c % 3 = 1 ∨ c % 3 = 2) := by omega
        cases gn
        · replace ht : t = 0 := by simpa using ht
          subst ht
          replace h2 : J w wr S g [(l : Int) + 1] := by simpa using h2
          replace hme : a + 2 * (m - o) + l + 1 ≤ 18 * k + 17 := by simpa using hme
          clear hgo
          by_cases hom : o < m
          · by_cases hl0 : l = 0
            · subst hl0
              by_cases hla : a < len1
              · obtain ⟨b1, off1, rfl, hb1, hc, hc0⟩ := hy.out a hla
                have hc' : wr.cell? ⟨b1, off1 + a, none⟩ = some (.int .u8 (ys.getD a 0)) := (h2.2.1.cell (p := ⟨b1, off1 + a, none⟩) hb1).trans hc
                clear hc
                generalize ys.getD a 0 = c at hc' hc0
                obtain ⟨C, rfl⟩ := Int.eq_ofNat_of_zero_le hc0.1
                have hC := hc0.2
                clear hc0
                have hl64 := hme
                rcases key C with hr0 | hr0 | hr0
                · have hr : (C : Int).tmod 3 = 0 := by rw [Int.tmod_eq_emod_of_nonneg (by omega)]; omega
                  clear hr0
                  have HY : Hid (wrap64 (((0 : Nat) : Int) + 1 + 1) = ((0 : Nat) : Int) + 1 + 1) := Lib.hid (by unfold wrap64; omega)
                  go_wp2_with (first | (go_at_call 42; refine (spawn1 S g _ _ w _ h2 HY.out).mono ?_; rintro e wx ⟨rfl, h3⟩) | (go_at_call 43; refine (leave1 S g _ _ _ w _ h2 HQ.out HY.out).mono ?_; rintro e wx ⟨rfl, h3⟩))
                  go_roundw
                  case rel => exact ⟨a + 1, o + 1, 0 + 1, 0, false, by go_num, by go_num, by go_num, rfl, rfl, by omega, by omega, by simp, by simp, by simpa using h3, by simp; omega⟩
                  case measure => simp [intOf]; omega
                · have hr : (C : Int).tmod 3 = 1 := by rw [Int.tmod_eq_emod_of_nonneg (by omega)]; omega
                  clear hr0
                  have HY : Hid (wrap64 (((0 : Nat) : Int) + 1 + 1) = ((0 : Nat) : Int) + 1 + 1) := Lib.hid (by unfold wrap64; omega)
                  go_wp2_with (first | (go_at_call 42; refine (spawn1 S g _ _ w _ h2 HY.out).mono ?_; rintro e wx ⟨rfl, h3⟩) | (go_at_call 43; refine (leave1 S g _ _ _ w _ h2 HQ.out HY.out).mono ?_; rintro e wx ⟨rfl, h3⟩))
                  go_roundw
                  case rel => exact ⟨a + 1, o + 1, 0 + 1, 0, false, by go_num, by go_num, by go_num, rfl, rfl, by omega, by omega, by simp, by simp, by simpa using h3, by simp; omega⟩
                  case measure => simp [intOf]; omega
                · have hr : (C : Int).tmod 3 = 2 := by rw [Int.tmod_eq_emod_of_nonneg (by omega)]; omega
                  clear hr0
                  have HY : Hid (wrap64 (((0 : Nat) : Int) + 1 + 1) = ((0 : Nat) : Int) + 1 + 1) := Lib.hid (by unfold wrap64; omega)
                  go_wp2_with (first | (go_at_call 42; refine (spawn1 S g _ _ w _ h2 HY.out).mono ?_; rintro e wx ⟨rfl, h3⟩) | (go_at_call 43; refine (leave1 S g _ _ _ w _ h2 HQ.out HY.out).mono ?_; rintro e wx ⟨rfl, h3⟩))
                  go_roundw
                  case rel => exact ⟨a + 1, o + 1, 0 + 1, 0, false, by go_num, by go_num, by go_num, rfl, rfl, by omega, by omega, by simp, by simp, by simpa using h3, by simp; omega⟩
                  case measure => simp [intOf]; omega
              · have hl64 := hme
                have HY : Hid (wrap64 (((0 : Nat) : Int) + 1 + 1) = ((0 : Nat) : Int) + 1 + 1) := Lib.hid (by unfold wrap64; omega)
                go_wp2_with (first | (go_at_call 42; refine (spawn1 S g _ _ w _ h2 HY.out).mono ?_; rintro e wx ⟨rfl, h3⟩) | (go_at_call 43; refine (leave1 S g _ _ _ w _ h2 HQ.out HY.out).mono ?_; rintro e wx ⟨rfl, h3⟩))
                go_roundw
                case rel => exact ⟨a + 1, o + 1, 0 + 1, 0, false, by go_num, by go_num, by go_num, rfl, rfl, by omega, by omega, by simp, by simp, by simpa using h3, by simp; omega⟩
                case measure => simp [intOf]; omega
            · have q0 : ((l : Int) == 0) = false := by simp; omega
              by_cases hla : a < len1
              · obtain ⟨b1, off1, rfl, hb1, hc, hc0⟩ := hy.out a hla
                have hc' : wr.cell? ⟨b1, off1 + a, none⟩ = some (.int .u8 (ys.getD a 0)) := (h2.2.1.cell (p := ⟨b1, off1 + a, none⟩) hb1).trans hc
                clear hc
                generalize ys.getD a 0 = c at hc' hc0
                obtain ⟨C, rfl⟩ := Int.eq_ofNat_of_zero_le hc0.1
                have hC := hc0.2
                clear hc0
                have hl64 : l ≤ 8 := by omega
                rcases key C with hr0 | hr0 | hr0
                · have hr : (C : Int).tmod 3 = 0 := by rw [Int.tmod_eq_emod_of_nonneg (by omega)]; omega
                  clear hr0
                  have HY : Hid (wrap64 ((l : Int) + 1 + 1) = (l : Int) + 1 + 1) := Lib.hid (by unfold wrap64; omega)
                  go_wp2_with (first | (go_at_call 42; refine (spawn1 S g _ _ w _ h2 HY.out).mono ?_; rintro e wx ⟨rfl, h3⟩) | (go_at_call 43; refine (leave1 S g _ _ _ w _ h2 HQ.out HY.out).mono ?_; rintro e wx ⟨rfl, h3⟩))
                  go_roundw
                  case rel => exact ⟨a + 1, o + 1, l + 1, 0, false, by go_num, by go_num, by go_num, rfl, rfl, by omega, by omega, by simp, by simp, by simpa using h3, by simp; omega⟩
                  case measure => simp [intOf]; omega
                · have hr : (C : Int).tmod 3 = 1 := by rw [Int.tmod_eq_emod_of_nonneg (by omega)]; omega
                  clear hr0
                  have HY : Hid (wrap64 ((l : Int) + 1 + -1) = (l : Int)) := Lib.hid (by unfold wrap64; omega)
                  have HQ : Hid (((l : Int) + 1 == 1) = false) := Lib.hid (by simp; omega)
                  go_wp2_with (first | (go_at_call 42; refine (spawn1 S g _ _ w _ h2 HY.out).mono ?_; rintro e wx ⟨rfl, h3⟩) | (go_at_call 43; refine (leave1 S g _ _ _ w _ h2 HQ.out HY.out).mono ?_; rintro e wx ⟨rfl, h3⟩))
                  go_roundw
                  case rel => exact ⟨a + 1, o, l - 1, 0, false, by go_num, rfl, by go_num, rfl, rfl, by omega, by omega, by simp, by simp, by simpa [show ((l - 1 : Nat) : Int) + 1 = (l : Int) from by omega] using h3, by simp; omega⟩
                  case measure => simp [intOf]; omega
                · have hr : (C : Int).tmod 3 = 2 := by rw [Int.tmod_eq_emod_of_nonneg (by omega)]; omega
                  clear hr0
                  have HY : Hid (wrap64 ((l : Int) + 1 + -1) = (l : Int)) := Lib.hid (by unfold wrap64; omega)
                  have HQ : Hid (((l : Int) + 1 == 1) = false) := Lib.hid (by simp; omega)
                  go_wp2_with (first | (go_at_call 42; refine (spawn1 S g _ _ w _ h2 HY.out).mono ?_; rintro e wx ⟨rfl, h3⟩) | (go_at_call 43; refine (leave1 S g _ _ _ w _ h2 HQ.out HY.out).mono ?_; rintro e wx ⟨rfl, h3⟩))
                  go_roundw
                  case rel => exact ⟨a + 1, o, l - 1, 0, false, by go_num, rfl, by go_num, rfl, rfl, by omega, by omega, by simp, by simp, by simpa [show ((l - 1 : Nat) : Int) + 1 = (l : Int) from by omega] using h3, by simp; omega⟩
                  case measure => simp [intOf]; omega
              · have hl64 : l ≤ 8 := by omega
                have HY : Hid (wrap64 ((l : Int) + 1 + 1) = (l : Int) + 1 + 1) := Lib.hid (by unfold wrap64; omega)
                go_wp2_with (first | (go_at_call 42; refine (spawn1 S g _ _ w _ h2 HY.out).mono ?_; rintro e wx ⟨rfl, h3⟩) | (go_at_call 43; refine (leave1 S g _ _ _ w _ h2 HQ.out HY.out).mono ?_; rintro e wx ⟨rfl, h3⟩))
                go_roundw
                case rel => exact ⟨a + 1, o + 1, l + 1, 0, false, by go_num, by go_num, by go_num, rfl, rfl, by omega, by omega, by simp, by simp, by simpa using h3, by simp; omega⟩
                case measure => simp [intOf]; omega
          · obtain rfl : o = m := by omega
            by_cases hl0 : l = 0
            · subst hl0
              by_cases hla : a < len1
              · obtain ⟨b1, off1, rfl, hb1, hc, hc0⟩ := hy.out a hla
                have hc' : wr.cell? ⟨b1, off1 + a, none⟩ = some (.int .u8 (ys.getD a 0)) := (h2.2.1.cell (p := ⟨b1, off1 + a, none⟩) hb1).trans hc
                clear hc
                generalize ys.getD a 0 = c at hc' hc0
                obtain ⟨C, rfl⟩ := Int.eq_ofNat_of_zero_le hc0.1
                have hC := hc0.2
                clear hc0
                have hl64 := hme
                rcases key C with hr0 | hr0 | hr0
                · have hr : (C : Int).tmod 3 = 0 := by rw [Int.tmod_eq_emod_of_nonneg (by omega)]; omega
                  clear hr0
                  have HY : Hid (wrap64 (((0 : Nat) : Int) + 1 + -1) = 0) := Lib.hid (by unfold wrap64; omega)
                  have HQ : Hid ((((0 : Nat) : Int) + 1 == 1) = true) := Lib.hid (by simp)
                  go_wp2_with (first | (go_at_call 42; refine (spawn1 S g _ _ w _ h2 HY.out).mono ?_; rintro e wx ⟨rfl, h3⟩) | (go_at_call 43; refine (leave1 S g _ _ _ w _ h2 HQ.out HY.out).mono ?_; rintro e wx ⟨rfl, h3⟩))
                  go_roundw
                  case rel => exact ⟨a + 1, o, 0, 1, true, by go_num, rfl, rfl, by go_num, rfl, Nat.le_refl _, Nat.zero_le _, fun _ => rfl, by simp, by simpa using h3, by simp; omega⟩
                  case measure => simp [intOf]; omega
                · have hr : (C : Int).tmod 3 = 1 := by rw [Int.tmod_eq_emod_of_nonneg (by omega)]; omega
                  clear hr0
                  have HY : Hid (wrap64 (((0 : Nat) : Int) + 1 + -1) = 0) := Lib.hid (by unfold wrap64; omega)
                  have HQ : Hid ((((0 : Nat) : Int) + 1 == 1) = true) := Lib.hid (by simp)
                  go_wp2_with (first | (go_at_call 42; refine (spawn1 S g _ _ w _ h2 HY.out).mono ?_; rintro e wx ⟨rfl, h3⟩) | (go_at_call 43; refine (leave1 S g _ _ _ w _ h2 HQ.out HY.out).mono ?_; rintro e wx ⟨rfl, h3⟩))
                  go_roundw
                  case rel => exact ⟨a + 1, o, 0, 1, true, by go_num, rfl, rfl, by go_num, rfl, Nat.le_refl _, Nat.zero_le _, fun _ => rfl, by simp, by simpa using h3, by simp; omega⟩
                  case measure => simp [intOf]; omega
                · have hr : (C : Int).tmod 3 = 2 := by rw [Int.tmod_eq_emod_of_nonneg (by omega)]; omega
                  clear hr0
                  have HY : Hid (wrap64 (((0 : Nat) : Int) + 1 + -1) = 0) := Lib.hid (by unfold wrap64; omega)
                  have HQ : Hid ((((0 : Nat) : Int) + 1 == 1) = true) := Lib.hid (by simp)
                  go_wp2_with (first | (go_at_call 42; refine (spawn1 S g _ _ w _ h2 HY.out).mono ?_; rintro e wx ⟨rfl, h3⟩) | (go_at_call 43; refine (leave1 S g _ _ _ w _ h2 HQ.out HY.out).mono ?_; rintro e wx ⟨rfl, h3⟩))
                  go_roundw
                  case rel => exact ⟨a + 1, o, 0, 1, true, by go_num, rfl, rfl, by go_num, rfl, Nat.le_refl _, Nat.zero_le _, fun _ => rfl, by simp, by simpa using h3, by simp; omega⟩
                  case measure => simp [intOf]; omega
              · have hl64 := hme
                have HY : Hid (wrap64 (((0 : Nat) : Int) + 1 + -1) = 0) := Lib.hid (by unfold wrap64; omega)
                have HQ : Hid ((((0 : Nat) : Int) + 1 == 1) = true) := Lib.hid (by simp)
                go_wp2_with (first | (go_at_call 42; refine (spawn1 S g _ _ w _ h2 HY.out).mono ?_; rintro e wx ⟨rfl, h3⟩) | (go_at_call 43; refine (leave1 S g _ _ _ w _ h2 HQ.out HY.out).mono ?_; rintro e wx ⟨rfl, h3⟩))
                go_roundw
                case rel => exact ⟨a + 1, o, 0, 1, true, by go_num, rfl, rfl, by go_num, rfl, Nat.le_refl _, Nat.zero_le _, fun _ => rfl, by simp, by simpa using h3, by simp; omega⟩
                case measure => simp [intOf]; omega
            · have q0 : ((l : Int) == 0) = false := by simp; omega
              by_cases hla : a < len1
              · obtain ⟨b1, off1, rfl, hb1, hc, hc0⟩ := hy.out a hla
                have hc' : wr.cell? ⟨b1, off1 + a, none⟩ = some (.int .u8 (ys.getD a 0)) := (h2.2.1.cell (p := ⟨b1, off1 + a, none⟩) hb1).trans hc
                clear hc
                generalize ys.getD a 0 = c at hc' hc0
                obtain ⟨C, rfl⟩ := Int.eq_ofNat_of_zero_le hc0.1
                have hC := hc0.2
                clear hc0
                have hl64 : l ≤ 8 := by omega
                rcases key C with hr0 | hr0 | hr0
                · have hr : (C : Int).tmod 3 = 0 := by rw [Int.tmod_eq_emod_of_nonneg (by omega)]; omega
                  clear hr0
                  have HY : Hid (wrap64 ((l : Int) + 1 + -1) = (l : Int)) := Lib.hid (by unfold wrap64; omega)
                  have HQ : Hid (((l : Int) + 1 == 1) = false) := Lib.hid (by simp; omega)
                  go_wp2_with (first | (go_at_call 42; refine (spawn1 S g _ _ w _ h2 HY.out).mono ?_; rintro e wx ⟨rfl, h3⟩) | (go_at_call 43; refine (leave1 S g _ _ _ w _ h2 HQ.out HY.out).mono ?_; rintro e wx ⟨rfl, h3⟩))
                  go_roundw
                  case rel => exact ⟨a + 1, o, l, 0, true, by go_num, rfl, rfl, rfl, rfl, Nat.le_refl _, hl, fun _ => rfl, by rw [if_neg (by omega)], by simpa using h3, by simp; omega⟩
                  case measure => simp [intOf]; omega
                · have hr : (C : Int).tmod 3 = 1 := by rw [Int.tmod_eq_emod_of_nonneg (by omega)]; omega
                  clear hr0
                  have HY : Hid (wrap64 ((l : Int) + 1 + -1) = (l : Int)) := Lib.hid (by unfold wrap64; omega)
                  have HQ : Hid (((l : Int) + 1 == 1) = false) := Lib.hid (by simp; omega)
                  go_wp2_with (first | (go_at_call 42; refine (spawn1 S g _ _ w _ h2 HY.out).mono ?_; rintro e wx ⟨rfl, h3⟩) | (go_at_call 43; refine (leave1 S g _ _ _ w _ h2 HQ.out HY.out).mono ?_; rintro e wx ⟨rfl, h3⟩))
                  go_roundw
                  case rel => exact ⟨a + 1, o, l - 1, 0, false, by go_num, rfl, by go_num, rfl, rfl, by omega, by omega, by simp, by simp, by simpa [show ((l - 1 : Nat) : Int) + 1 = (l : Int) from by omega] using h3, by simp; omega⟩
                  case measure => simp [intOf]; omega
                · have hr : (C : Int).tmod 3 = 2 := by rw [Int.tmod_eq_emod_of_nonneg (by omega)]; omega
                  clear hr0
                  have HY : Hid (wrap64 ((l : Int) + 1 + -1) = (l : Int)) := Lib.hid (by unfold wrap64; omega)
                  have HQ : Hid (((l : Int) + 1 == 1) = false) := Lib.hid (by simp; omega)
                  go_wp2_with (first | (go_at_call 42; refine (spawn1 S g _ _ w _ h2 HY.out).mono ?_; rintro e wx ⟨rfl, h3⟩) | (go_at_call 43; refine (leave1 S g _ _ _ w _ h2 HQ.out HY.out).mono ?_; rintro e wx ⟨rfl, h3⟩))
                  go_roundw
                  case rel => exact ⟨a + 1, o, l, 0, true, by go_num, rfl, rfl, rfl, rfl, Nat.le_refl _, hl, fun _ => rfl, by rw [if_neg (by omega)], by simpa using h3, by simp; omega⟩
                  case measure => simp [intOf]; omega
              · have hl64 : l ≤ 8 := by omega
                have HY : Hid (wrap64 ((l : Int) + 1 + -1) = (l : Int)) := Lib.hid (by unfold wrap64; omega)
                have HQ : Hid (((l : Int) + 1 == 1) = false) := Lib.hid (by simp; omega)
                go_wp2_with (first | (go_at_call 42; refine (spawn1 S g _ _ w _ h2 HY.out).mono ?_; rintro e wx ⟨rfl, h3⟩) | (go_at_call 43; refine (leave1 S g _ _ _ w _ h2 HQ.out HY.out).mono ?_; rintro e wx ⟨rfl, h3⟩))
                go_roundw
                case rel => exact ⟨a + 1, o, l, 0, true, by go_num, rfl, rfl, rfl, rfl, Nat.le_refl _, hl, fun _ => rfl, by rw [if_neg (by omega)], by simpa using h3, by simp; omega⟩
                case measure => simp [intOf]; omega
        · replace hgo := hgo rfl
          subst hgo
          replace h2 : J w wr S g [(l : Int)] := by simpa using h2
          by_cases hl0 : l = 0
          · subst hl0
            replace ht : t = 1 := by simpa using ht
            subst ht
            replace hme : a ≤ 18 * k + 17 := by simp at hme; omega
            go_wp2_with fail
            refine (again_j S g _ 0 w _ h2 (by decide) (by decide)).mono ?_
            rintro e wx ⟨rfl, h3⟩
            replace h3 : J w wx S g [1] := h3
            clear h2
            go_wp2_with fail
            go_roundw
            case rel => exact ⟨k + 1, a, by omega, by go_num, rfl, by omega, h3⟩
            case measure => simp [intOf]; omega
          · replace ht : t = 0 := by rw [ht, if_neg (by omega)]
            subst ht
            replace hme : a + l ≤ 18 * k + 17 := by simp at hme; omega
            by_cases hl1 : l = 1
            · by_cases hla : a < len1
              · obtain ⟨b1, off1, rfl, hb1, hc, hc0⟩ := hy.out a hla
                have hc' : wr.cell? ⟨b1, off1 + a, none⟩ = some (.int .u8 (ys.getD a 0)) := (h2.2.1.cell (p := ⟨b1, off1 + a, none⟩) hb1).trans hc
                clear hc
                generalize ys.getD a 0 = c at hc' hc0
                obtain ⟨C, rfl⟩ := Int.eq_ofNat_of_zero_le hc0.1
                have hC := hc0.2
                clear hc0
                have hl64 := hme
                rcases key C with hr0 | hr0 | hr0
                · have hr : (C : Int).tmod 3 = 0 := by rw [Int.tmod_eq_emod_of_nonneg (by omega)]; omega
                  clear hr0
                  subst hl1
                  have HY : Hid (wrap64 ((1 : Nat) + -1 : Int) = 0) := Lib.hid (by unfold wrap64; omega)
                  have HQ : Hid ((((1 : Nat) : Int) == 1) = true) := Lib.hid (by simp)
                  go_wp2_with (first | (go_at_call 42; refine (spawn1 S g _ _ w _ h2 HY.out).mono ?_; rintro e wx ⟨rfl, h3⟩) | (go_at_call 43; refine (leave1 S g _ _ _ w _ h2 HQ.out HY.out).mono ?_; rintro e wx ⟨rfl, h3⟩))
                  go_roundw
                  case rel => exact ⟨a + 1, o, 0, 1, true, by go_num, rfl, by go_num, by go_num, rfl, Nat.le_refl _, Nat.zero_le _, fun _ => rfl, by simp, by simpa using h3, by simp; omega⟩
                  case measure => simp [intOf]; omega
                · have hr : (C : Int).tmod 3 = 1 := by rw [Int.tmod_eq_emod_of_nonneg (by omega)]; omega
                  clear hr0
                  subst hl1
                  have HY : Hid (wrap64 ((1 : Nat) + -1 : Int) = 0) := Lib.hid (by unfold wrap64; omega)
                  have HQ : Hid ((((1 : Nat) : Int) == 1) = true) := Lib.hid (by simp)
                  go_wp2_with (first | (go_at_call 42; refine (spawn1 S g _ _ w _ h2 HY.out).mono ?_; rintro e wx ⟨rfl, h3⟩) | (go_at_call 43; refine (leave1 S g _ _ _ w _ h2 HQ.out HY.out).mono ?_; rintro e wx ⟨rfl, h3⟩))
                  go_roundw
                  case rel => exact ⟨a + 1, o, 0, 1, true, by go_num, rfl, by go_num, by go_num, rfl, Nat.le_refl _, Nat.zero_le _, fun _ => rfl, by simp, by simpa using h3, by simp; omega⟩
                  case measure => simp [intOf]; omega
                · have hr : (C : Int).tmod 3 = 2 := by rw [Int.tmod_eq_emod_of_nonneg (by omega)]; omega
                  clear hr0
                  subst hl1
                  have HY : Hid (wrap64 ((1 : Nat) + -1 : Int) = 0) := Lib.hid (by unfold wrap64; omega)
                  have HQ : Hid ((((1 : Nat) : Int) == 1) = true) := Lib.hid (by simp)
                  go_wp2_with (first | (go_at_call 42; refine (spawn1 S g _ _ w _ h2 HY.out).mono ?_; rintro e wx ⟨rfl, h3⟩) | (go_at_call 43; refine (leave1 S g _ _ _ w _ h2 HQ.out HY.out).mono ?_; rintro e wx ⟨rfl, h3⟩))
                  go_roundw
                  case rel => exact ⟨a + 1, o, 0, 1, true, by go_num, rfl, by go_num, by go_num, rfl, Nat.le_refl _, Nat.zero_le _, fun _ => rfl, by simp, by simpa using h3, by simp; omega⟩
                  case measure => simp [intOf]; omega
              · have hl64 := hme
                subst hl1
                have HY : Hid (wrap64 ((1 : Nat) + -1 : Int) = 0) := Lib.hid (by unfold wrap64; omega)
                have HQ : Hid ((((1 : Nat) : Int) == 1) = true) := Lib.hid (by simp)
                go_wp2_with (first | (go_at_call 42; refine (spawn1 S g _ _ w _ h2 HY.out).mono ?_; rintro e wx ⟨rfl, h3⟩) | (go_at_call 43; refine (leave1 S g _ _ _ w _ h2 HQ.out HY.out).mono ?_; rintro e wx ⟨rfl, h3⟩))
                go_roundw
                case rel => exact ⟨a + 1, o, 0, 1, true, by go_num, rfl, by go_num, by go_num, rfl, Nat.le_refl _, Nat.zero_le _, fun _ => rfl, by simp, by simpa using h3, by simp; omega⟩
                case measure => simp [intOf]; omega
            · by_cases hla : a < len1
              · obtain ⟨b1, off1, rfl, hb1, hc, hc0⟩ := hy.out a hla
                have hc' : wr.cell? ⟨b1, off1 + a, none⟩ = some (.int .u8 (ys.getD a 0)) := (h2.2.1.cell (p := ⟨b1, off1 + a, none⟩) hb1).trans hc
                clear hc
                generalize ys.getD a 0 = c at hc' hc0
                obtain ⟨C, rfl⟩ := Int.eq_ofNat_of_zero_le hc0.1
                have hC := hc0.2
                clear hc0
                have hl64 : l ≤ 8 := by omega
                rcases key C with hr0 | hr0 | hr0
                · have hr : (C : Int).tmod 3 = 0 := by rw [Int.tmod_eq_emod_of_nonneg (by omega)]; omega
                  clear hr0
                  have HY : Hid (wrap64 ((l : Int) + -1) = ((l - 1 : Nat) : Int)) := Lib.hid (by unfold wrap64; omega)
                  have HQ : Hid (((l : Int) == 1) = false) := Lib.hid (by simp; omega)
                  have q1 : ((l : Int) - 1 == 0) = false := by simp; omega
                  have q2 : (((l - 1 : Nat) : Int) == 0) = false := by simp; omega
                  go_wp2_with (first | (go_at_call 42; refine (spawn1 S g _ _ w _ h2 HY.out).mono ?_; rintro e wx ⟨rfl, h3⟩) | (go_at_call 43; refine (leave1 S g _ _ _ w _ h2 HQ.out HY.out).mono ?_; rintro e wx ⟨rfl, h3⟩))
                  go_roundw
                  case rel => exact ⟨a + 1, o, l - 1, 0, true, by go_num, rfl, by go_num, rfl, rfl, Nat.le_refl _, by omega, fun _ => rfl, by rw [if_neg (by omega)], by simpa using h3, by simp; omega⟩
                  case measure => simp [intOf]; omega
                · have hr : (C : Int).tmod 3 = 1 := by rw [Int.tmod_eq_emod_of_nonneg (by omega)]; omega
                  clear hr0
                  have HY : Hid (wrap64 ((l : Int) + -1) = ((l - 1 : Nat) : Int)) := Lib.hid (by unfold wrap64; omega)
                  have HQ : Hid (((l : Int) == 1) = false) := Lib.hid (by simp; omega)
                  have q1 : ((l : Int) - 1 == 0) = false := by simp; omega
                  have q2 : (((l - 1 : Nat) : Int) == 0) = false := by simp; omega
                  go_wp2_with (first | (go_at_call 42; refine (spawn1 S g _ _ w _ h2 HY.out).mono ?_; rintro e wx ⟨rfl, h3⟩) | (go_at_call 43; refine (leave1 S g _ _ _ w _ h2 HQ.out HY.out).mono ?_; rintro e wx ⟨rfl, h3⟩))
                  go_roundw
                  case rel => exact ⟨a + 1, o, l - 1, 0, true, by go_num, rfl, by go_num, rfl, rfl, Nat.le_refl _, by omega, fun _ => rfl, by rw [if_neg (by omega)], by simpa using h3, by simp; omega⟩
                  case measure => simp [intOf]; omega
                · have hr : (C : Int).tmod 3 = 2 := by rw [Int.tmod_eq_emod_of_nonneg (by omega)]; omega
                  clear hr0
                  have HY : Hid (wrap64 ((l : Int) + -1) = ((l - 1 : Nat) : Int)) := Lib.hid (by unfold wrap64; omega)
                  have HQ : Hid (((l : Int) == 1) = false) := Lib.hid (by simp; omega)
                  have q1 : ((l : Int) - 1 == 0) = false := by simp; omega
                  have q2 : (((l - 1 : Nat) : Int) == 0) = false := by simp; omega
                  go_wp2_with (first | (go_at_call 42; refine (spawn1 S g _ _ w _ h2 HY.out).mono ?_; rintro e wx ⟨rfl, h3⟩) | (go_at_call 43; refine (leave1 S g _ _ _ w _ h2 HQ.out HY.out).mono ?_; rintro e wx ⟨rfl, h3⟩))
                  go_roundw
                  case rel => exact ⟨a + 1, o, l - 1, 0, true, by go_num, rfl, by go_num, rfl, rfl, Nat.le_refl _, by omega, fun _ => rfl, by rw [if_neg (by omega)], by simpa using h3, by simp; omega⟩
                  case measure => simp [intOf]; omega
              · have hl64 : l ≤ 8 := by omega
                have HY : Hid (wrap64 ((l : Int) + -1) = ((l - 1 : Nat) : Int)) := Lib.hid (by unfold wrap64; omega)
                have HQ : Hid (((l : Int) == 1) = false) := Lib.hid (by simp; omega)
                have q1 : ((l : Int) - 1 == 0) = false := by simp; omega
                have q2 : (((l - 1 : Nat) : Int) == 0) = false := by simp; omega
                go_wp2_with (first | (go_at_call 42; refine (spawn1 S g _ _ w _ h2 HY.out).mono ?_; rintro e wx ⟨rfl, h3⟩) | (go_at_call 43; refine (leave1 S g _ _ _ w _ h2 HQ.out HY.out).mono ?_; rintro e wx ⟨rfl, h3⟩))
                go_roundw
                case rel => exact ⟨a + 1, o, l - 1, 0, true, by go_num, rfl, by go_num, rfl, rfl, Nat.le_refl _, by omega, fun _ => rfl, by rw [if_neg (by omega)], by simpa using h3, by simp; omega⟩
                case measure => simp [intOf]; omega
    · go_wp2_with fail
      go_ret
      exact ⟨rfl, h2.2.1⟩
theorem word_of (x : Option Addr) (len cap : Nat) (zs : List Int) (w : World) (h : IsRow .u8 w x len cap zs) : Word (fun z => 0 ≤ z ∧ z ≤ 255) x len w zs := by
  intro i hi
  rcases h.split with h0 | ⟨b, off, rfl, hlt, hle, hm, hz, hc, hw⟩
  · omega
  · refine ⟨b, off, rfl, hlt, hc i (by omega), ?_⟩
    have hi' : i < zs.length := by omega
    have hmem : zs.getD i 0 ∈ zs := by rw [List.getD_eq_getElem?_getD, List.getElem?_eq_getElem hi']; exact List.getElem_mem hi'
    exact bounds_u8 (hw _ hmem)
theorem walk (a0 : Option Addr) (len0 cap0 : Nat) (z0 : List Int) (a1 : Option Addr) (len1 cap1 : Nat) (z1 : List Int) (w : World) (w0 : IsRow .u8 w a0 len0 cap0 z0) (w1 : IsRow .u8 w a1 len1 cap1 z1) :
    Calls Try.prog 11 #[.slice a0 len0 cap0, .slice a1 len1 cap1] w fun e w' => e = .returned (.bool true) ∧ Below w.heap.size w w' := by
  by_cases h : 60 < len0 ∨ 1000 < len1
  · exact big a0 a1 len0 cap0 len1 cap1 w h
  · exact small a0 a1 len0 cap0 len1 cap1 z0 z1 w (by omega) (by omega) (word_of _ _ _ _ _ w0) (word_of _ _ _ _ _ w1)
end Go.Proofs.Ytfigabjcmpakeab.joinLast
