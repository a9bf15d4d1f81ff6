/- A level, as the document reckons it (layer 41). -/
import Derived.Test.YtpflimnngilhnaaSpW
namespace Go.Proofs.Ytpflimnngilhnaa.rh
open Go.ChangeShapes Go.WideShapes Go.ChangeAt Go.RowKit
set_option linter.unusedVariables false
set_option linter.unusedSimpArgs false
set_option maxRecDepth 20000 in
theorem rlevel_of (a : Option Addr) (n cap i x : Nat) (L : List (List Int)) (w : World) (h : MV w (.slice a n cap) L) (hV : Valid L) (hn : n ≤ 1000) (hi : i < n) (hx : lv L i = x) :
    Calls Try.prog 26 #[.slice a n cap, .int .i64 (i : Int)] w fun e w' => e = .returned (.int .i64 (x : Int)) ∧ Below w.heap.size w w' := by
  have hmk := mk_ints n (by omega)
  have H := Lib.hid h
  have HVa := Lib.hid hV
  have HX := Lib.hid hx
  obtain ⟨S, hS⟩ : ∃ S, w.heap.size = S := ⟨_, rfl⟩
  have HS := Lib.hid hS
  obtain ⟨W0, hW0⟩ : ∃ W0, w.alloc (intsObj n) = W0 := ⟨_, rfl⟩
  have HW0 := Lib.hid hW0
  have hr0 : Hid (NR W0 S n (oneB 0)) := Lib.hid (by rw [← hW0, ← hS]; exact (made_ints n w).congr fun i _ => by unfold oneB; rw [if_neg (by omega)])
  have hB0 : Hid (Below w.heap.size w W0) := Lib.hid (by rw [← hW0]; go_grown)
  clear h hV hS hW0 hx
  go_enter Try.func26, Try.ntmps26
  go_wp2_with fail
  rw [HW0.out, HS.out]
  go_loopw [6] (fun i wr => ∃ (k : Nat), k ≤ n ∧ i = .int .i64 (k : Int) ∧ Hid (NR wr S n (oneB k)) ∧ Hid (Below w.heap.size w wr)) (fun i _ => n - (intOf i).toNat)
  case atStart => exact ⟨0, by omega, rfl, hr0, hB0⟩
  case round =>
    clear hr0 hB0 HW0
    obtain ⟨k, hk, rfl, HR, HB⟩ := hrel
    by_cases hlt : k < n
    · have hcz := HR.out.at k _ hlt rfl
      have hfz := World.rowIs.frozen HR.out k
      have H5 : Hid (NR (wr.setCell ⟨S, k, none⟩ (.int .i64 1)) S n (oneB (k + 1))) := Lib.hid ((HR.out.set k 1).congr fun i _ => by
        unfold oneB
        by_cases e : i = k
        · rw [if_pos e, if_pos (by omega)]
        · rw [if_neg e]
          by_cases e2 : i < k
          · rw [if_pos e2, if_pos (by omega)]
          · rw [if_neg e2, if_neg (by omega)])
      have HB5 := Lib.hid (HB.out.setCell (p := ⟨S, k, none⟩) (by rw [HS.out]; exact Nat.le_refl _) (.int .i64 1))
      clear HR HB hmk
      go_wp2_with fail
      go_roundw
      case rel => exact ⟨k + 1, by omega, by go_num, H5, HB5⟩
      case measure => simp [intOf]; omega
    · obtain rfl : k = n := by omega
      have hR1 : NR wr S k one := HR.out.congr fun i hi => by unfold oneB one; rw [if_pos hi]
      obtain ⟨T, hT⟩ : ∃ T, wr.heap.size = T := ⟨_, rfl⟩
      have HT := Lib.hid hT
      obtain ⟨W1, hW1⟩ : ∃ W1, wr.alloc (intsObj k) = W1 := ⟨_, rfl⟩
      have HW1 := Lib.hid hW1
      have hn1 : Below wr.heap.size wr W1 := by rw [← hW1]; exact (Below.refl _ _).alloc (Nat.le_refl _) _
      have hz1 : NR W1 T k (fun _ => 0) := by rw [← hW1, ← hT]; exact made_ints k wr
      have hlx : lv L i = x := HX.out
      have CP := path_of a k cap T S one L wr (H.out.below HB.out) HVa.out hn hR1 (fun _ => Nat.le_refl _) (by rw [one_sum]; omega) (by rw [hT]; exact Nat.le_refl _) i hi (fun _ => 0) W1 hn1 hz1 (fun _ => .inl rfl)
      unfold RwPost at CP
      obtain ⟨y, hy⟩ : ∃ y, hg L one i = y := ⟨_, rfl⟩
      have hyp : 1 ≤ y := by rw [← hy]; exact hg_pos HVa.out one (fun _ => Nat.le_refl _) i
      have hyx : y = x + 1 := by unfold lv at hlx; omega
      have hxl : x ≤ 1000 := by have := lv_le HVa.out i; omega
      rw [hy, hyx] at CP
      have HC := Lib.hid CP
      have HBr := Lib.hid HB.out
      have hsub : ((x + 1 : Nat) : Int) - 1 = (x : Int) := by omega
      clear HR HB hR1 hT hW1 hn1 hz1 hlx CP hy hyp hyx HX
      go_wp2_with fail
      rw [HW1.out, HT.out]
      go_wp2_with (first | (go_at_call 35; (with_reducible refine HC.out.mono ?_); rintro e w2 ⟨rfl, g2, _, _, HB2⟩))
      go_ret
      exact ⟨by first | rfl | simp, trans3 HBr.out HB2⟩
theorem ints_row (va vb : Value) (xs : List Int) (wr : World) (q : Nat) (hA : View wr va xs) (hB : View wr vb xs) :
    Calls Try.prog 19 #[va, vb] (wr.drewN q) fun e w' => e = .returned (.bool true) ∧ ∃ m, w' = wr.drewN m :=
  (ints_any va vb xs xs (wr.drewN q) (hA.drewN q) (hB.drewN q)).mono fun e w' h => by
    obtain ⟨h1, m, h2⟩ := h
    exact ⟨by rw [h1]; simp, q + m, by rw [h2, World.drewN_drewN]⟩
theorem gt_levels {L : List (List Int)} (hv : Valid L) (n : Nat) : gt (cl L n) n = gt (fun i => cl L n (lv L i)) n := by
  apply Nat.le_antisymm
  · refine gt_le _ _ _ fun x hx => ?_
    by_cases h : ∃ i, i < n ∧ lv L i = x
    · obtain ⟨i, hi, rfl⟩ := h
      exact le_gt (fun i => cl L n (lv L i)) n i hi
    · have : ∀ k, k ≤ n → cl L k x = 0 := by
        intro k
        induction k with
        | zero => intro _; rfl
        | succ k ih =>
          intro hk
          simp only [cl]
          rw [ih (by omega), if_neg (fun e => h ⟨k, by omega, e⟩)]
      rw [this n (Nat.le_refl _)]; exact Nat.zero_le _
  · refine gt_le _ _ _ fun i hi => ?_
    exact le_gt (cl L n) n (lv L i) (by have := lv_le hv i; omega)
end Go.Proofs.Ytpflimnngilhnaa.rh
