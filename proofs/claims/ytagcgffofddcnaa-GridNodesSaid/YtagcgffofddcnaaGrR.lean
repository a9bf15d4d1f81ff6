/- Rows in memory of their own; too many rows; what is wrong with rows, by the document (layer 33). -/
import Derived.Test.YtagcgffofddcnaaGrQ
namespace Go.Proofs.Ytagcgffofddcnaa.gr
open Go.ChangeShapes Go.WideShapes Go.ChangeAt Go.RowKit
open Go.Proofs.Ytagcgffofddcnaa.ro
open Go.Proofs.Ytagcgffofddcnaa
set_option linter.unusedVariables false
set_option linter.unusedSimpArgs false
theorem hd_cast (n : Int) : ((hd n : Nat) : Int) = if n < 0 then 0 else if 1048576 < n then 1048576 else n := by
  unfold hd
  split
  · omega
  · split <;> omega
theorem lheld_v (w : World) (n : Int) : Calls Try.prog 10 #[.int .i64 n] w fun e w' => e = .returned (.int .i64 (hd n)) ∧ w = w' := by
  rw [hd_cast]
  by_cases h1 : n < 0
  · rw [if_pos h1]
    go_enter Try.func10, Try.ntmps10
    go_wp2_with fail
    go_ret
    exact ⟨rfl, rfl⟩
  · rw [if_neg h1]
    by_cases h2 : 1048576 < n
    · rw [if_pos h2]
      go_enter Try.func10, Try.ntmps10
      go_wp2_with fail
      go_ret
      exact ⟨rfl, rfl⟩
    · rw [if_neg h2]
      go_enter Try.func10, Try.ntmps10
      go_wp2_with fail
      go_ret
      exact ⟨rfl, rfl⟩
/-- not too many. -/
structure Fw (L : List (List C2)) : Prop where
  m : L.length ≤ 103
  r : ∀ i, i < L.length → (L.getD i []).length ≤ 102
  s : cnt L L.length ≤ 300
set_option maxHeartbeats 4000000 in
theorem great_v (a : Option Addr) (n c : Nat) (L : List (List C2)) (w : World) (h : PM w (.slice a n c) L) :
    Calls Try.prog 15 #[.slice a n c] w fun e w' => ∃ g, e = .returned (.bool g) ∧ (g = false → Fw L) ∧ w = w' := by
  obtain ⟨P, hP⟩ : ∃ P : Ending → World → Prop, (fun (e : Ending) (w' : World) => ∃ g, e = .returned (.bool g) ∧ (g = false → Fw L) ∧ w = w') = P := ⟨_, rfl⟩
  have HF1 : Hid (P (.returned (.bool true)) w) := Lib.hid (by rw [← hP]; exact ⟨true, rfl, by simp, rfl⟩)
  have HF0 : Hid (Fw L → P (.returned (.bool false)) w) := Lib.hid (by intro hf; rw [← hP]; exact ⟨false, rfl, fun _ => hf, rfl⟩)
  rw [hP]
  clear hP
  obtain ⟨hnl, hnc, hcm⟩ := h.len
  unfold maxLen at hcm
  have HR0 := Lib.hid h
  have HNL := Lib.hid hnl
  have h0 : Hid (∀ i, i < 0 → (L.getD i []).length ≤ 102) := Lib.hid (fun i hi => by omega)
  have h1 : Hid (cnt L 0 = 0) := Lib.hid rfl
  clear h hnl
  go_enter Try.func15, Try.ntmps15
  go_wp2_with fail
  go_loopw [3, 4] (fun s i wr => ∃ (k t : Nat), i = .int .i64 (k : Int) ∧ s = .int .i64 (t : Int) ∧ k ≤ n ∧ k ≤ 103 ∧ t ≤ 300 ∧ Hid (cnt L k = t) ∧ Hid (∀ i, i < k → (L.getD i []).length ≤ 102) ∧ wr = w) (fun s i _ => n - (intOf i).toNat)
  case atStart => exact ⟨0, 0, rfl, rfl, by omega, by omega, by omega, h1, h0, rfl⟩
  case round =>
    clear h0 h1
    obtain ⟨k, t, rfl, rfl, hk, hk3, ht, HC, HI, rfl⟩ := hrel
    by_cases hlt : k < n
    · obtain ⟨b, o, ai, ci, rfl, hbl, c0, hrow⟩ := HR0.out.row k hlt
      have hlm := hrow.len.2
      unfold maxLen at hlm
      have HS : Hid (cnt L (k + 1) = t + (L.getD k []).length) := Lib.hid (by rw [cnt, HC.out])
      obtain ⟨m, hm⟩ : ∃ m, (L.getD k []).length = m := ⟨_, rfl⟩
      have HM := Lib.hid hm
      rw [hm] at c0 HS hlm
      have hkI : (k : Int) < (n : Int) := by omega
      clear hm hrow
      by_cases b1 : 102 < k
      · obtain ⟨X, hX⟩ : ∃ X, IntKind.i64.wrap ((t : Int) + (m : Int)) = X := ⟨_, rfl⟩
        have b1' : (102 : Int) < (k : Int) := by omega
        have b1d : decide ((102 : Int) < (k : Int)) = true := by simpa using b1'
        have b1n : decide (102 < k) = true := by simpa using b1
        go_wp2_with fail
        first | exact HF1.out | (go_ret; exact HF1.out)
      have b1' : ¬ (102 : Int) < (k : Int) := by omega
      have b1d : decide ((102 : Int) < (k : Int)) = false := by simpa using b1'
      have b1n : decide (102 < k) = false := by simpa using b1
      obtain ⟨X, hX⟩ : ∃ X, IntKind.i64.wrap ((t : Int) + (m : Int)) = X := ⟨_, rfl⟩
      by_cases b2 : 102 < m
      · have b2' : (102 : Int) < (m : Int) := by omega
        have b2d : decide ((102 : Int) < (m : Int)) = true := by simpa using b2'
        have b2n : decide (102 < m) = true := by simpa using b2
        go_wp2_with fail
        first | exact HF1.out | (go_ret; exact HF1.out)
      have b2' : ¬ (102 : Int) < (m : Int) := by omega
      have b2d : decide ((102 : Int) < (m : Int)) = false := by simpa using b2'
      have b2n : decide (102 < m) = false := by simpa using b2
      have hXX : X = ((t + m : Nat) : Int) := by rw [← hX, IntKind.wrap_i64]; omega
      subst hXX
      by_cases b3 : 300 < t + m
      · have b3' : (300 : Int) < ((t + m : Nat) : Int) := by omega
        have b3d : decide ((300 : Int) < ((t + m : Nat) : Int)) = true := by simpa using b3'
        have b3n : decide (300 < t + m) = true := by simpa using b3
        have b3x : (300 : Int) < (t : Int) + (m : Int) := by omega
        go_wp2_with fail
        first | exact HF1.out | (go_ret; exact HF1.out)
      · have b3' : ¬ (300 : Int) < ((t + m : Nat) : Int) := by omega
        have b3d : decide ((300 : Int) < ((t + m : Nat) : Int)) = false := by simpa using b3'
        have b3n : decide (300 < t + m) = false := by simpa using b3
        have b3x : ¬ (300 : Int) < (t : Int) + (m : Int) := by omega
        have HI1 : Hid (∀ i, i < k + 1 → (L.getD i []).length ≤ 102) := Lib.hid (fun i hi => by
          rcases Nat.lt_or_ge i k with h | h
          · exact HI.out i h
          · obtain rfl : i = k := by omega
            rw [HM.out]; omega)
        go_wp2_with fail
        go_roundw
        case rel => exact ⟨k + 1, t + m, by go_num, by first | rfl | go_num, by omega, by omega, by omega, HS, HI1, by first | rfl | trivial⟩
        case measure => simp [intOf]; omega
    · obtain rfl : k = n := by omega
      have HF : Hid (Fw L) := Lib.hid ⟨by rw [← HNL.out]; exact hk3, by rw [← HNL.out]; exact HI.out, by rw [← HNL.out, HC.out]; exact ht⟩
      go_wp2_with fail
      first | exact HF0.out HF.out | (go_ret; exact HF0.out HF.out)
set_option maxHeartbeats 4000000 in
theorem own_v (a : Option Addr) (n c : Nat) (L : List (List C2)) (w : World) (h : PM w (.slice a n c) L) (hF : Fw L) :
    Calls Try.prog 17 #[.slice a n c] w fun e w' => ∃ a' c', e = .returned (.slice a' n c') ∧ PM w' (.slice a' n c') L ∧ Below w.heap.size w w' := by
  obtain ⟨hnl, hnc, hcm⟩ := h.len
  unfold maxLen at hcm
  have HR0 := Lib.hid h
  have HNL := Lib.hid hnl
  have HFW := Lib.hid hF
  have hn103 : n ≤ 103 := by have := hF.m; omega
  have h0 : Hid (OP w w.heap.size (.slice none 0 0) [] (L.take 0)) := Lib.hid (OP.nil _ _)
  have h1 : Hid (Below w.heap.size w w) := Lib.hid (Below.refl _ _)
  clear h hnl hF
  go_enter Try.func17, Try.ntmps17
  go_wp2_with fail
  go_loopw [3, 4] (fun s i wr => ∃ (k : Nat) (a' : Option Addr) (c' : Nat), i = .int .i64 (k : Int) ∧ s = .slice a' k c' ∧ k ≤ n ∧ Hid (∃ rows, OP wr w.heap.size (.slice a' k c') rows (L.take k)) ∧ Hid (Below w.heap.size w wr)) (fun s i _ => n - (intOf i).toNat)
  case atStart => exact ⟨0, none, 0, rfl, rfl, by omega, Lib.hid ⟨_, h0.out⟩, h1⟩
  case round =>
    clear h0 h1
    obtain ⟨k, a', c', rfl, rfl, hk, HO, HB⟩ := hrel
    by_cases hlt : k < n
    · obtain ⟨b, o, ai, ci, rfl, hbl, c0, hrow⟩ := (HR0.out.below HB.out).row k hlt
      have hr102 := HFW.out.r k (by rw [← HNL.out]; exact hlt)
      obtain ⟨l, hl⟩ : ∃ l, L.getD k [] = l := ⟨_, rfl⟩
      rw [hl] at c0 hrow hr102
      have HT : Hid (L.take (k + 1) = L.take k ++ [l]) := Lib.hid (by
        rw [List.take_add_one, ← hl]
        have : L[k]? = some (L.getD k []) := by
          rw [List.getD_eq_getElem?_getD, List.getElem?_eq_getElem (by rw [← HNL.out]; exact hlt)]
          rfl
        rw [this]
        rfl)
      have HLK : Hid ((L.take k).length = k) := Lib.hid (by rw [List.length_take]; have := HNL.out; omega)
      have hkI : (k : Int) < (n : Int) := by omega
      have HRX : Hid (∀ w', Below wr.heap.size wr w' → RV 2 enC w' (.slice ai l.length ci) l) := Lib.hid (fun w' hb => hrow.below hb)
      have hlm : l.length ≤ 1000000 := by omega
      clear hl hrow
      go_wp2_with ((at_builtin; refine wpList_copyR rfl _ _ 46 54 _ 16 rfl Try.underlying46 infoI rfl (by decide) recC wr.heap.size wr.heap.size rfl (ro.heap_new _ _) (Nat.le_refl _) l (HRX.out _ (by go_grown)) hlm ?_))
      intro v1 w1 ho1 hb1
      obtain ⟨a1, c1, rfl⟩ := ho1.form
      have hB1 : Below wr.heap.size wr w1 := Below.trans (by go_grown) hb1
      obtain ⟨rows, hop⟩ := HO.out
      have HO1 := Lib.hid (OP.below hop hB1)
      have HB1 := Lib.hid (tr3 HB.out hB1)
      have hsz := HB1.out.size
      have HOR : Hid (OR 2 enC w1 w.heap.size 54 (.slice a1 l.length c1) l) := Lib.hid (by
        have h9 := HB.out.size
        refine ⟨ho1.1, ?_⟩
        rcases ho1.2 with h | ⟨g, cap, cur, e, hg, r⟩
        · exact .inl h
        · exact .inr ⟨g, cap, cur, e, Nat.le_trans h9 hg, r⟩)
      have hlk100 : (L.take k).length ≤ 100000 := by rw [HLK.out]; omega
      obtain ⟨W, hW⟩ : ∃ W, w1.alloc (.cells #[.slice a1 l.length c1] 46) = W := ⟨_, rfl⟩
      have hbW : Below w1.heap.size w1 W := by rw [← hW]; go_grown
      have hXW : W.heap[w1.heap.size]? = some (.cells #[.slice a1 l.length c1] 46 (0, 0)) := by rw [← hW]; exact heap_new _ _
      have hcW := cel hXW 0
      have HOW := Lib.hid (OP.below HO1.out hbW)
      have HORW := Lib.hid (OR.below HOR.out hbW)
      have HBW := Lib.hid (tr3 HB1.out hbW)
      have hszW : w.heap.size ≤ W.heap.size := HBW.out.size
      clear ho1 hb1 hB1 hop HO HB HO1 HOR HB1 hXW hbW c0
      go_wp2_with ((at_builtin; refine wpList_appP rfl _ _ rfl w.heap.size (.slice a' k c') rows (L.take k) rfl ⟨w1.heap.size, 0, none⟩ 1 rfl (.slice a1 l.length c1) l HOW.out hcW HORW.out rfl hlk100 hszW ?_))
      intro v2 w2 ho2 hg2 hor2
      rw [← HT.out] at ho2
      have hlk1 : (L.take (k + 1)).length = k + 1 := by rw [List.length_take]; have := HNL.out; omega
      obtain ⟨a2, c2, e2⟩ : ∃ a2 c2, v2 = .slice a2 (k + 1) c2 := by
        obtain ⟨hl0, h | ⟨g, cap, cur, e, r⟩⟩ := ho2.1
        · exfalso; simp [hlk1] at h
        · rw [hlk1] at e; exact ⟨_, _, e⟩
      subst e2
      have HO2 : Hid (∃ rows, OP w2 w.heap.size (.slice a2 (k + 1) c2) rows (L.take (k + 1))) := Lib.hid ⟨_, ho2⟩
      have HB2 : Hid (Below w.heap.size w w2) := Lib.hid (HBW.out.trans ⟨hg2.os, hg2.tape, hg2.output, hg2.size, fun p hp => hg2.block p (Nat.lt_of_lt_of_le hp hszW) (fun e => by have := (own_ltP HOW.out.1 p e.symm).1; omega)⟩)
      clear ho2 hg2 hor2 HOW HORW HBW
      go_wp2_with fail
      go_roundw
      case rel => exact ⟨k + 1, a2, c2, by go_num, rfl, by omega, HO2, HB2⟩
      case measure => simp [intOf]; omega
    · obtain rfl : k = n := by omega
      have HP : Hid (PM wr (.slice a' k c') L) := Lib.hid (by
        obtain ⟨rows, ho⟩ := HO.out
        rw [List.take_of_length_le (by rw [← HNL.out]; exact Nat.le_refl _)] at ho
        exact ho.pm)
      go_wp2_with fail
      go_ret
      exact ⟨_, _, rfl, HP.out, HB.out⟩
end Go.Proofs.Ytagcgffofddcnaa.gr
