/- Levels, and the widest one (layer 41). -/
import Derived.Test.YtpflimnngilhnaaSpF
namespace Go.Proofs.Ytpflimnngilhnaa.rh
open Go.ChangeShapes Go.WideShapes Go.ChangeAt Go.RowKit
set_option linter.unusedVariables false
set_option linter.unusedSimpArgs false
def one : Nat → Nat := fun _ => 1
theorem one_sum (n : Nat) : smW one n = n := smW_ones n
/-- how many rows of things lie ahead of one. -/
def lv (L : List (List Int)) (i : Nat) : Nat := hg L one i - 1
theorem hg_pos {L : List (List Int)} (hv : Valid L) (W : Nat → Nat) (h : ∀ i, 1 ≤ W i) (b : Nat) : 1 ≤ hg L W b := by
  rw [hg_unf hv]; have := h b; omega
theorem lv_le {L : List (List Int)} (hv : Valid L) (b : Nat) : lv L b ≤ b := by
  have := hg_le hv one b
  rw [one_sum] at this
  unfold lv; omega
def cl (L : List (List Int)) : Nat → Nat → Nat
  | 0, _ => 0
  | k + 1, x => cl L k x + if lv L k = x then 1 else 0
theorem cl_le (L : List (List Int)) (k x : Nat) : cl L k x ≤ k := by
  induction k with
  | zero => exact Nat.le_refl _
  | succ k ih => simp only [cl]; split <;> omega
theorem levels_bad (a : Option Addr) (n cap : Nat) (L : List (List Int)) (c : Int) (w : World) (h : MV w (.slice a n cap) L) (hc : ck L = c) (h0 : c = 9 ∨ c = 3) :
    Calls Try.prog 21 #[.slice a n cap] w fun e w' => e = .returned (.tuple #[.slice none 0 0, .int .i64 c]) ∧ w = w' := by
  have C := scheck_bad a n cap L c w h hc h0
  clear h hc
  rcases h0 with rfl | rfl
  all_goals
    replace C := Lib.hid C
    go_enter Try.func21, Try.ntmps21
    go_wp2_with (first | (go_at_call 32; (with_reducible refine C.out.mono ?_); rintro e w1 ⟨rfl, rfl⟩))
    go_ret2
    exact ⟨rfl, rfl⟩
def lF (L : List (List Int)) (k i : Nat) : Nat := if i < k then hg L one i - 1 else hg L one i
set_option maxRecDepth 20000 in
set_option maxHeartbeats 2000000 in
theorem levels_of (a : Option Addr) (n cap : Nat) (L : List (List Int)) (w : World) (h : MV w (.slice a n cap) L) (hc : ck L = 0) :
    Calls Try.prog 21 #[.slice a n cap] w (YPost w n (lv L)) := by
  have hn : n ≤ 1000 := by have := ck_cases L; have := h.len.1; omega
  have hV : Valid L := valid_of (by have := ck_cases L; rcases this with h | h | h; omega; omega; exact h.2.2)
  have HVa := Lib.hid hV
  have C := Lib.hid (scheck_of a n cap L w h hc)
  have hmk := mk_ints n (by omega)
  have H := Lib.hid h
  clear h hc
  go_enter Try.func21, Try.ntmps21
  go_wp2_with (first | (go_at_call 32; (with_reducible refine C.out.mono ?_); rintro e w1 ⟨rfl, HB1⟩))
  have HBw := Lib.hid HB1
  obtain ⟨S, hS⟩ : ∃ S, w1.heap.size = S := ⟨_, rfl⟩
  have HS := Lib.hid hS
  obtain ⟨W0, hW0⟩ : ∃ W0, w1.alloc (intsObj n) = W0 := ⟨_, rfl⟩
  have HW0 := Lib.hid hW0
  have hr0 : Hid (NR W0 S n (oneB 0)) := Lib.hid (by rw [← hW0, ← hS]; exact (made_ints n w1).congr fun i _ => by unfold oneB; rw [if_neg (by omega)])
  have hB0 : Hid (Below w1.heap.size w1 W0) := Lib.hid (by rw [← hW0]; go_grown)
  clear HB1 hS hW0 C
  rw [HW0.out, HS.out]
  go_loopw [19] (fun i wr => ∃ (k : Nat), k ≤ n ∧ i = .int .i64 (k : Int) ∧ Hid (NR wr S n (oneB k)) ∧ Hid (Below w1.heap.size w1 wr)) (fun i _ => n - (intOf i).toNat)
  case atStart => exact ⟨0, by omega, rfl, hr0, hB0⟩
  case round =>
    clear hr0 hB0 hmk HW0
    obtain ⟨k, hk, rfl, HR, HB⟩ := hrel
    by_cases hlt : k < n
    · have hcz := HR.out.at k _ hlt rfl
      have hfz := World.rowIs.frozen HR.out k
      have H5 : Hid (NR (wr.setCell ⟨S, k, none⟩ (.int .i64 1)) S n (oneB (k + 1))) := Lib.hid ((HR.out.set k 1).congr fun i _ => by
        unfold oneB
        by_cases e : i = k
        · rw [if_pos e, if_pos (by omega)]
        · rw [if_neg e]
          by_cases e2 : i < k
          · rw [if_pos e2, if_pos (by omega)]
          · rw [if_neg e2, if_neg (by omega)])
      have HB5 := Lib.hid (HB.out.setCell (p := ⟨S, k, none⟩) (by rw [HS.out]; exact Nat.le_refl _) (.int .i64 1))
      clear HR HB
      go_wp2_with fail
      go_roundw
      case rel => exact ⟨k + 1, by omega, by go_num, H5, HB5⟩
      case measure => simp [intOf]; omega
    · obtain rfl : k = n := by omega
      have hR1 : NR wr S k one := HR.out.congr fun i hi => by unfold oneB one; rw [if_pos hi]
      have C2 := Lib.hid (heights_of a k cap S one L wr (H.out.below (HBw.out.trans (HB.out.mono HBw.out.size))) HVa.out hn hR1 (by rw [one_sum]; omega))
      unfold NPost at C2
      have HBr := Lib.hid (trans3 HBw.out HB.out)
      clear HR HB hR1
      go_wp2_with (first | (go_at_call 34; (with_reducible refine C2.out.mono ?_); rintro e w2 ⟨S2, rfl, hS2, HR2, HB2⟩))
      have HBg := Lib.hid (trans3 HBr.out HB2)
      have HRg : Hid (NR w2 S2 k (lF L 0)) := Lib.hid (HR2.congr fun i _ => by unfold lF; rw [if_neg (by omega)])
      have hS3 : w.heap.size ≤ S2 := Nat.le_trans HBr.out.size hS2
      have HS3 := Lib.hid hS3
      clear C2 HR2 HB2 hS2 hS3 HBr
      go_loopw [31] (fun i wi => ∃ (j : Nat), j ≤ k ∧ i = .int .i64 (j : Int) ∧ Hid (NR wi S2 k (lF L j)) ∧ Hid (Below w.heap.size w wi)) (fun i _ => k - (intOf i).toNat)
      case atStart => exact ⟨0, by omega, rfl, HRg, HBg⟩
      case round =>
        clear HRg HBg
        obtain ⟨j, hj, rfl, HR, HB⟩ := hrel
        by_cases hjl : j < k
        · obtain ⟨x, hx⟩ : ∃ x, hg L one j = x := ⟨_, rfl⟩
          have hx1 : 1 ≤ x := by rw [← hx]; exact hg_pos HVa.out one (fun _ => Nat.le_refl _) j
          have hx2 : x ≤ 1000 := by have := hg_le HVa.out one j; rw [one_sum, hx] at this; omega
          obtain ⟨y, rfl⟩ : ∃ y, x = y + 1 := ⟨x - 1, by omega⟩
          have hcz := HR.out.at j (y + 1) hjl (by unfold lF; rw [if_neg (Nat.lt_irrefl _), hx])
          have hfz := World.rowIs.frozen HR.out j
          have hsub : ((y + 1 : Nat) : Int) - 1 = (y : Int) := by omega
          have H5 := Lib.hid ((HR.out.set j y).congr (g := lF L (j + 1)) fun i _ => by
            unfold lF
            by_cases e : i = j
            · subst e; rw [if_pos rfl, if_pos (by omega), hx]; omega
            · rw [if_neg e]
              by_cases e2 : i < j
              · rw [if_pos e2, if_pos (by omega)]
              · rw [if_neg e2, if_neg (by omega)])
          have HB5 := Lib.hid (HB.out.setCell (p := ⟨S2, j, none⟩) HS3.out (.int .i64 (y : Int)))
          clear HR HB hx hx1
          go_wp2_with fail
          go_roundw
          case rel => exact ⟨j + 1, by omega, by go_num, H5, HB5⟩
          case measure => simp [intOf]; omega
        · obtain rfl : j = k := by omega
          go_wp2_with fail
          go_ret2
          exact ⟨S2, rfl, HR.out.congr fun i hi => by unfold lF lv; rw [if_pos hi], HB.out⟩
theorem widest_bad (a : Option Addr) (n cap : Nat) (L : List (List Int)) (c : Int) (w : World) (h : MV w (.slice a n cap) L) (hc : ck L = c) (h0 : c = 9 ∨ c = 3) :
    Calls Try.prog 22 #[.slice a n cap] w fun e w' => e = .returned (.tuple #[.int .i64 0, .int .i64 c]) ∧ w = w' := by
  have C := levels_bad a n cap L c w h hc h0
  clear h hc
  rcases h0 with rfl | rfl
  all_goals
    replace C := Lib.hid C
    go_enter Try.func22, Try.ntmps22
    go_wp2_with (first | (go_at_call 21; (with_reducible refine C.out.mono ?_); rintro e w1 ⟨rfl, rfl⟩))
    go_ret2
    exact ⟨rfl, rfl⟩
set_option maxRecDepth 20000 in
theorem widest_of (a : Option Addr) (n cap : Nat) (L : List (List Int)) (w : World) (h : MV w (.slice a n cap) L) (hc : ck L = 0) :
    Calls Try.prog 22 #[.slice a n cap] w fun e w' => e = .returned (.tuple #[.int .i64 ((gt (cl L n) n : Nat) : Int), .int .i64 0]) ∧ Below w.heap.size w w' := by
  have hn : n ≤ 1000 := by have := ck_cases L; have := h.len.1; omega
  have hV : Valid L := valid_of (by have := ck_cases L; rcases this with h | h | h; omega; omega; exact h.2.2)
  have HVa := Lib.hid hV
  have C := Lib.hid (levels_of a n cap L w h hc)
  unfold YPost at C
  have hmk := mk_ints n (by omega)
  clear h hc
  go_enter Try.func22, Try.ntmps22
  go_wp2_with (first | (go_at_call 21; (with_reducible refine C.out.mono ?_); rintro e w1 ⟨SL, rfl, HRL, HB1⟩))
  have HBw := Lib.hid HB1
  have HRL1 := Lib.hid HRL
  obtain ⟨S, hS⟩ : ∃ S, w1.heap.size = S := ⟨_, rfl⟩
  have HS := Lib.hid hS
  obtain ⟨W0, hW0⟩ : ∃ W0, w1.alloc (intsObj n) = W0 := ⟨_, rfl⟩
  have HW0 := Lib.hid hW0
  have hr0 : Hid (NR W0 S n (cl L 0)) := Lib.hid (by rw [← hW0, ← hS]; exact (made_ints n w1).congr fun i _ => rfl)
  have hB0 : Hid (Below w1.heap.size w1 W0) := Lib.hid (by rw [← hW0]; go_grown)
  clear HB1 hS hW0 C HRL
  rw [HW0.out, HS.out]
  go_loopw [22] (fun i wr => ∃ (k : Nat), k ≤ n ∧ i = .int .i64 (k : Int) ∧ Hid (NR wr S n (cl L k)) ∧ Hid (Below w1.heap.size w1 wr)) (fun i _ => n - (intOf i).toNat)
  case atStart => exact ⟨0, by omega, rfl, hr0, hB0⟩
  case round =>
    clear hr0 hB0 hmk HW0
    obtain ⟨k, hk, rfl, HR, HB⟩ := hrel
    by_cases hlt : k < n
    · obtain ⟨y, hy⟩ : ∃ y, lv L k = y := ⟨_, rfl⟩
      have hyl : y < n := by have := lv_le HVa.out k; omega
      have hyl2 : (y : Int) < (n : Int) := by omega
      have hcy := (HRL1.out.below HB.out).at k y hlt hy
      obtain ⟨x, hx⟩ : ∃ x, cl L k y = x := ⟨_, rfl⟩
      have hxl : x ≤ 1000 := by have := cl_le L k y; omega
      have hcz := HR.out.at y x hyl hx
      have hfz := World.rowIs.frozen HR.out y
      have H5 := Lib.hid ((HR.out.set y (x + 1)).congr (g := cl L (k + 1)) fun i _ => by
        simp only [cl, hy]
        by_cases e : i = y
        · subst e; rw [if_pos rfl, if_pos rfl, hx]
        · rw [if_neg e, if_neg (fun h => e h.symm)]; rfl)
      have HB5 := Lib.hid (HB.out.setCell (p := ⟨S, y, none⟩) (by rw [HS.out]; exact Nat.le_refl _) (.int .i64 ((x + 1 : Nat) : Int)))
      clear HR HB hx hy
      go_wp2_with fail
      go_roundw
      case rel => exact ⟨k + 1, by omega, by go_num, H5, HB5⟩
      case measure => simp [intOf]; omega
    · obtain rfl : k = n := by omega
      have C2 := Lib.hid (greatest_of k S _ wr HR.out (by omega))
      have HBr := Lib.hid (trans3 HBw.out HB.out)
      clear HR HB
      go_wp2_with (first | (go_at_call 33; (with_reducible refine C2.out.mono ?_); rintro e w2 ⟨rfl, rfl⟩))
      go_ret2
      exact ⟨rfl, HBr.out⟩
end Go.Proofs.Ytpflimnngilhnaa.rh
