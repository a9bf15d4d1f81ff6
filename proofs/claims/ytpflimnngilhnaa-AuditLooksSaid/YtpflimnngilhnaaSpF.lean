/- Work and span of right strands; weights, as the document reckons them (layer 41). -/
import Derived.Test.YtpflimnngilhnaaSpE
namespace Go.Proofs.Ytpflimnngilhnaa.rh
open Go.ChangeShapes Go.WideShapes Go.ChangeAt Go.RowKit
set_option linter.unusedVariables false
set_option linter.unusedSimpArgs false
/-- an answer, or out of range. -/
def VPost (w : World) (ok : Bool) (x : Nat) (e : Ending) (w' : World) : Prop :=
  e = .returned (.tuple #[.int .i64 (if ok then (x : Int) else 0), .int .i64 (if ok then 0 else 3)]) ∧ Below w.heap.size w w'
theorem smW_sum_le (W : Nat → Nat) (n i : Nat) (h : i < n) : W i ≤ smW W n := by
  have := smW_mono W (i + 1) n h
  simp only [smW] at this
  omega
def YPost (w : World) (n : Nat) (f : Nat → Nat) (e : Ending) (w' : World) : Prop := ∃ S, e = .returned (.tuple #[.slice (some ⟨S, 0, none⟩) n n, .int .i64 0]) ∧ NR w' S n f ∧ Below w.heap.size w w'
theorem weights_yes (a aa : Option Addr) (n cap m ca : Nat) (L : List (List Int)) (l : List Acc) (q : Value) (w : World) (h : MV w (.slice a n cap) L) (hl : RV 3 enA w (.slice aa m ca) l) (hc : ck L = 0) (hm : m ≤ 1000) (hI : inA l n m = true) :
    Calls Try.prog 15 #[.agg #[.slice a n cap, q, .slice aa m ca]] w (YPost w n (wA l m)) :=
  (weights_of a aa n cap m ca L l q w h hl hc hm).mono fun e w' h => by
    rcases h with ⟨_, h⟩ | ⟨h, _⟩
    · exact h
    · rw [hI] at h; cases h
theorem weights_no (a aa : Option Addr) (n cap m ca : Nat) (L : List (List Int)) (l : List Acc) (q : Value) (w : World) (h : MV w (.slice a n cap) L) (hl : RV 3 enA w (.slice aa m ca) l) (hc : ck L = 0) (hm : m ≤ 1000) (hI : inA l n m = false) :
    Calls Try.prog 15 #[.agg #[.slice a n cap, q, .slice aa m ca]] w fun e w' => e = .returned (.tuple #[.slice none 0 0, .int .i64 3]) ∧ Below w.heap.size w w' :=
  (weights_of a aa n cap m ca L l q w h hl hc hm).mono fun e w' h => by
    rcases h with ⟨h, _⟩ | ⟨_, h⟩
    · rw [hI] at h; cases h
    · exact h
set_option maxRecDepth 20000 in
theorem work_no (a aa : Option Addr) (n cap m ca : Nat) (L : List (List Int)) (l : List Acc) (q : Value) (w : World) (h : MV w (.slice a n cap) L) (hl : RV 3 enA w (.slice aa m ca) l) (hc : ck L = 0) (hm : m ≤ 1000) (hI : inA l n m = false) :
    Calls Try.prog 16 #[.agg #[.slice a n cap, q, .slice aa m ca]] w fun e w' => e = .returned (.tuple #[.int .i64 0, .int .i64 3]) ∧ Below w.heap.size w w' := by
  have hB := (Below.refl w.heap.size w).alloc (Nat.le_refl _) (.cells #[.slice a n cap, q, .slice aa m ca] 44)
  have C1 := Lib.hid (weights_no a aa n cap m ca L l q _ (h.below hB) (hl.below hB) hc hm hI)
  have HB := Lib.hid hB
  clear h hl hc hB hI
  go_enter Try.func16, Try.ntmps16
  go_wp2_with (first | (go_at_call 15; (with_reducible refine C1.out.mono ?_); rintro e w1 ⟨rfl, HB1⟩))
  have HBf := Lib.hid (trans3 HB.out HB1)
  go_loop [6, 16] (fun m i => i = .int .i64 0 ∧ m = .int .i64 0) (fun _ _ => 0)
  case atStart => exact ⟨rfl, rfl⟩
  case round =>
    obtain ⟨rfl, rfl⟩ := hrel
    go_wp2_with fail
    go_ret2
    exact ⟨rfl, HBf.out⟩
set_option maxRecDepth 20000 in
theorem work_yes (a aa : Option Addr) (n cap m ca : Nat) (L : List (List Int)) (l : List Acc) (q : Value) (w : World) (h : MV w (.slice a n cap) L) (hl : RV 3 enA w (.slice aa m ca) l) (hc : ck L = 0) (hm : m ≤ 1000) (hI : inA l n m = true) :
    Calls Try.prog 16 #[.agg #[.slice a n cap, q, .slice aa m ca]] w fun e w' => e = .returned (.tuple #[.int .i64 ((n + m : Nat) : Int), .int .i64 0]) ∧ Below w.heap.size w w' := by
  have hn : n ≤ 1000 := by have := ck_cases L; have := h.len.1; omega
  have hB := (Below.refl w.heap.size w).alloc (Nat.le_refl _) (.cells #[.slice a n cap, q, .slice aa m ca] 44)
  have C1 := Lib.hid (weights_yes a aa n cap m ca L l q _ (h.below hB) (hl.below hB) hc hm hI)
  have HB := Lib.hid hB
  have HSM := Lib.hid (wA_sum l n m hI)
  unfold YPost at C1
  clear h hl hc hB hI
  go_enter Try.func16, Try.ntmps16
  go_wp2_with (first | (go_at_call 15; (with_reducible refine C1.out.mono ?_); rintro e w1 ⟨S, rfl, HR, HB1⟩))
  have HBf := Lib.hid (trans3 HB.out HB1)
  have HRR := Lib.hid HR
  clear HR HB1 HB C1
  go_loop [6, 16] (fun s i => ∃ k : Nat, k ≤ n ∧ i = .int .i64 (k : Int) ∧ s = .int .i64 ((smW (wA l m) k : Nat) : Int)) (fun _ i => n - (intOf i).toNat)
  case atStart => exact ⟨0, by omega, rfl, rfl⟩
  case round =>
    obtain ⟨k, hk, rfl, rfl⟩ := hrel
    have hxl := smW_mono (wA l m) k n hk
    rw [HSM.out] at hxl
    obtain ⟨x, hx⟩ : ∃ x, smW (wA l m) k = x := ⟨_, rfl⟩
    rw [hx] at hxl ⊢
    by_cases hlt : k < n
    · obtain ⟨v, hv⟩ : ∃ v, wA l m k = v := ⟨_, rfl⟩
      have hvl : v ≤ 2000 := by have := cntA_le l k m; unfold wA at hv; omega
      have hc := HRR.out.at k v hlt hv
      have HE : Hid (smW (wA l m) (k + 1) = x + v) := Lib.hid (by rw [smW, hx, hv])
      clear hx hv
      go_wp2_with fail
      go_round
      case rel => exact ⟨k + 1, by omega, by go_num, by rw [HE.out]; go_num⟩
      case measure => simp [intOf]; omega
    · obtain rfl : k = n := by omega
      have HX : Hid (x = k + m) := Lib.hid (by rw [← hx, HSM.out])
      clear hx
      go_wp2_with fail
      go_ret2
      exact ⟨by rw [HX.out]; rfl, HBf.out⟩
set_option maxRecDepth 20000 in
theorem span_no (a aa : Option Addr) (n cap m ca : Nat) (L : List (List Int)) (l : List Acc) (q : Value) (w : World) (h : MV w (.slice a n cap) L) (hl : RV 3 enA w (.slice aa m ca) l) (hc : ck L = 0) (hm : m ≤ 1000) (hI : inA l n m = false) :
    Calls Try.prog 17 #[.agg #[.slice a n cap, q, .slice aa m ca]] w fun e w' => e = .returned (.tuple #[.int .i64 0, .int .i64 3]) ∧ Below w.heap.size w w' := by
  have hB := (Below.refl w.heap.size w).alloc (Nat.le_refl _) (.cells #[.slice a n cap, q, .slice aa m ca] 44)
  have C1 := Lib.hid (weights_no a aa n cap m ca L l q _ (h.below hB) (hl.below hB) hc hm hI)
  have HB := Lib.hid hB
  clear h hl hc hB hI
  go_enter Try.func17, Try.ntmps17
  go_wp2_with (first | (go_at_call 15; (with_reducible refine C1.out.mono ?_); rintro e w1 ⟨rfl, HB1⟩))
  go_ret2
  exact ⟨rfl, trans3 HB.out HB1⟩
set_option maxRecDepth 20000 in
theorem span_yes (a aa : Option Addr) (n cap m ca : Nat) (L : List (List Int)) (l : List Acc) (q : Value) (w : World) (h : MV w (.slice a n cap) L) (hl : RV 3 enA w (.slice aa m ca) l) (hc : ck L = 0) (hm : m ≤ 1000) (hI : inA l n m = true) :
    Calls Try.prog 17 #[.agg #[.slice a n cap, q, .slice aa m ca]] w fun e w' => e = .returned (.tuple #[.int .i64 ((gt (hg L (wA l m)) n : Nat) : Int), .int .i64 0]) ∧ Below w.heap.size w w' := by
  have hn : n ≤ 1000 := by have := ck_cases L; have := h.len.1; omega
  have hV : Valid L := valid_of (by have := ck_cases L; rcases this with h | h | h; omega; omega; exact h.2.2)
  obtain ⟨D, hD⟩ : ∃ D, w.heap.size = D := ⟨_, rfl⟩
  have HD := Lib.hid hD
  obtain ⟨WA, hWA⟩ : ∃ WA, w.alloc (.cells #[.slice a n cap, q, .slice aa m ca] 44) = WA := ⟨_, rfl⟩
  have HWA := Lib.hid hWA
  have hB : Below w.heap.size w WA := by rw [← hWA]; exact (Below.refl _ _).alloc (Nat.le_refl _) _
  have hDA : WA.heap[D]? = some (.cells #[.slice a n cap, q, .slice aa m ca] 44 (0, 0)) := by rw [← hWA, ← hD]; exact heap_box1 w _ _
  have dA0 : WA.cell? ⟨D, 0, none⟩ = some (.slice a n cap) := by simp [World.cell?, hDA]
  have dA1 : WA.cell? ⟨D, 1, none⟩ = some q := by simp [World.cell?, hDA]
  have dA2 : WA.cell? ⟨D, 2, none⟩ = some (.slice aa m ca) := by simp [World.cell?, hDA]
  have HDA := Lib.hid hDA
  have C1 := Lib.hid (weights_yes a aa n cap m ca L l q _ (h.below hB) (hl.below hB) hc hm hI)
  have C2 := Lib.hid (fun S w1 (h1 : Below WA.heap.size WA w1) hR => heights_of a n cap S (wA l m) L w1 ((h.below hB).below h1) hV hn hR (by rw [wA_sum l n m hI]; omega))
  unfold YPost at C1
  unfold NPost at C2
  have HB := Lib.hid hB
  clear h hl hc hB hI hD hWA hDA
  go_enter Try.func17, Try.ntmps17
  go_wp2_with fail
  first | rw [HWA.out, HD.out] | skip
  go_wp2_with (first | (go_at_call 15; (with_reducible refine C1.out.mono ?_); (rintro e w1 ⟨S, rfl, HR, HB1⟩); (have hD1 := (HB1.block D (Array.getElem?_eq_some_iff.1 HDA.out).1).trans HDA.out); (have d0 : w1.cell? ⟨D, 0, none⟩ = some (.slice a n cap) := by simp [World.cell?, hD1])))
  have C3 := Lib.hid (C2.out S w1 HB1 HR)
  have HBf := Lib.hid (trans3 HB.out HB1)
  clear HR HB1 C1 C2 hD1
  go_wp2_with (first | (go_at_call 34; (with_reducible refine C3.out.mono ?_); rintro e w2 ⟨S2, rfl, _, HR2, HB2⟩))
  have C4 := Lib.hid (greatest_of n S2 _ w2 HR2 (by omega))
  have HBg := Lib.hid (trans3 HBf.out HB2)
  clear C3 HR2 HB2
  go_wp2_with (first | (go_at_call 33; (with_reducible refine C4.out.mono ?_); rintro e w3 ⟨rfl, rfl⟩))
  go_ret2
  exact ⟨rfl, HBg.out⟩
theorem rweights_bad (a : Option Addr) (n cap : Nat) (L : List (List Int)) (c : Int) (r : Value) (w : World) (h : MV w (.slice a n cap) L) (hc : ck L = c) (h0 : c = 9 ∨ c = 3) :
    Calls Try.prog 18 #[.slice a n cap, r] w fun e w' => e = .returned (.tuple #[.slice none 0 0, .int .i64 c]) ∧ w = w' := by
  have C := Lib.hid (rcheck_of a n cap L c w h hc)
  clear h hc
  rcases h0 with rfl | rfl
  all_goals
    go_enter Try.func18, Try.ntmps18
    go_wp2_with (first | (go_at_call 25; (with_reducible refine C.out.mono ?_); rintro e w1 ⟨rfl, rfl⟩))
    go_ret2
    exact ⟨rfl, rfl⟩
def wF (l : List Acc) (m i j x : Nat) : Nat := if x < i then wA l m x else if x = i then wA l j x else 0
def wE (l : List Acc) (m i x : Nat) : Nat := if x < i then wA l m x else 0
set_option maxRecDepth 20000 in
set_option maxHeartbeats 2000000 in
theorem rweights_of (a aa : Option Addr) (n cap m ca : Nat) (L : List (List Int)) (l : List Acc) (w : World) (h : MV w (.slice a n cap) L) (hl : RV 3 enA w (.slice aa m ca) l) (hc : ck L = 0) (hm : m ≤ 1000) :
    Calls Try.prog 18 #[.slice a n cap, .slice aa m ca] w (WPost w n m l) := by
  have hn : n ≤ 1000 := by have := ck_cases L; have := h.len.1; omega
  obtain ⟨hml, hm1, hm2⟩ := hl.len
  unfold maxLen at hm2
  have C := Lib.hid (rcheck_of a n cap L 0 w h hc)
  have hmk := mk_ints n (by omega)
  have HL1 := Lib.hid hl
  obtain ⟨S, hS⟩ : ∃ S, w.heap.size = S := ⟨_, rfl⟩
  have HS := Lib.hid hS
  obtain ⟨W0, hW0⟩ : ∃ W0, w.alloc (intsObj n) = W0 := ⟨_, rfl⟩
  have HW0 := Lib.hid hW0
  have hr0 : Hid (NR W0 S n (wE l m 0)) := Lib.hid (by rw [← hW0, ← hS]; exact (made_ints n w).congr fun i _ => by unfold wE; rw [if_neg (by omega)])
  have hB0 : Hid (Below w.heap.size w W0) := Lib.hid (by rw [← hW0]; go_grown)
  clear h hl hc hS hW0 hml
  go_enter Try.func18, Try.ntmps18
  go_wp2_with (first | (go_at_call 25; (with_reducible refine C.out.mono ?_); rintro e w1 ⟨rfl, rfl⟩))
  rw [HW0.out, HS.out]
  go_loopw [8] (fun i wr => ∃ (k : Nat), wr = W0 ∧ k ≤ m ∧ i = .int .i64 (k : Int) ∧ Hid (inA l n k = true)) (fun i _ => m - (intOf i).toNat)
  case atStart => exact ⟨0, rfl, by omega, rfl, Lib.hid rfl⟩
  case round =>
    clear hmk HW0
    obtain ⟨k, rfl, hk, rfl, HI⟩ := hrel
    by_cases hlt : k < m
    · obtain ⟨b, o, rfl, hbl, c0, c1, c2⟩ := acc_at (HL1.out.below hB0.out) k hlt
      obtain ⟨p, hp⟩ : ∃ p, l.getD k a0 = p := ⟨_, rfl⟩
      rw [hp] at c0 c1 c2
      obtain ⟨s, wd, wt⟩ := p
      dsimp only at c0 c1 c2
      have HP := Lib.hid hp
      clear hp c1 c2
      by_cases hs0 : 0 ≤ s
      · have hs1 : ¬ s < 0 := by omega
        by_cases hsn : s < (n : Int)
        · have hs2 : ¬ (n : Int) ≤ s := by omega
          have HI6 : Hid (inA l n (k + 1) = true) := Lib.hid (by
            simp only [inA, HI.out, HP.out, Bool.true_and]
            unfold inB; simp; omega)
          go_wp2_with fail
          go_roundw
          case rel => exact ⟨k + 1, (by trivial), by omega, by go_num, HI6⟩
          case measure => simp [intOf]; omega
        · have hs2 : (n : Int) ≤ s := by omega
          have HF : Hid (inA l n m = false) := Lib.hid (inA_bad hlt (by rw [HP.out]; unfold inB; simp; omega))
          go_wp2_with fail
          go_ret2
          exact .inr ⟨HF.out, rfl, hB0.out⟩
      · have hs1 : s < 0 := by omega
        have HF : Hid (inA l n m = false) := Lib.hid (inA_bad hlt (by rw [HP.out]; unfold inB; simp; omega))
        go_wp2_with fail
        go_ret2
        exact .inr ⟨HF.out, rfl, hB0.out⟩
    · obtain rfl : k = m := by omega
      go_wp2_with fail
      go_loopw [9] (fun i wi => ∃ (y : Nat), y ≤ n ∧ i = .int .i64 (y : Int) ∧ Hid (NR wi S n (wE l k y)) ∧ Hid (Below w.heap.size w wi)) (fun i _ => n - (intOf i).toNat)
      case atStart => exact ⟨0, by omega, rfl, hr0, hB0⟩
      case round =>
        clear hr0 hB0
        obtain ⟨y, hy, rfl, HR, HB⟩ := hrel
        by_cases hyl : y < n
        · have hcz := HR.out.at y _ hyl rfl
          have hfz := World.rowIs.frozen HR.out y
          have H5 : Hid (NR (wr.setCell ⟨S, y, none⟩ (.int .i64 1)) S n (wF l k y 0)) := Lib.hid ((HR.out.set y 1).congr fun i _ => by
            unfold wF wE
            by_cases e : i = y
            · subst e; rw [if_pos rfl, if_neg (by omega), if_pos rfl]; rfl
            · rw [if_neg e]
              by_cases e2 : i < y
              · rw [if_pos e2, if_pos e2]
              · rw [if_neg e2, if_neg e2, if_neg e])
          have HB5 := Lib.hid (HB.out.setCell (p := ⟨S, y, none⟩) (by rw [HS.out]; exact Nat.le_refl _) (.int .i64 1))
          clear HR HB
          go_wp2_with fail
          go_loopw [10] (fun i wi => ∃ (j : Nat), j ≤ k ∧ i = .int .i64 (j : Int) ∧ Hid (NR wi S n (wF l k y j)) ∧ Hid (Below w.heap.size w wi)) (fun i _ => k - (intOf i).toNat)
          case atStart => exact ⟨0, by omega, rfl, H5, HB5⟩
          case round =>
            clear H5 HB5 hcz hfz
            obtain ⟨j, hj, rfl, HR, HB⟩ := hrel
            by_cases hjl : j < k
            · obtain ⟨b, o, rfl, hbl, c0, c1, c2⟩ := acc_at (HL1.out.below HB.out) j hjl
              obtain ⟨p, hp⟩ : ∃ p, l.getD j a0 = p := ⟨_, rfl⟩
              rw [hp] at c0 c1 c2
              obtain ⟨s, wd, wt⟩ := p
              dsimp only at c0 c1 c2
              have HP := Lib.hid hp
              clear hp c1 c2
              by_cases hs : s = (y : Int)
              · subst hs
                obtain ⟨x, hx⟩ : ∃ x, wF l k y j y = x := ⟨_, rfl⟩
                have hxl : x ≤ 2000 := by
                  have := cntA_le l y j
                  unfold wF at hx; rw [if_neg (by omega), if_pos rfl] at hx; unfold wA at hx; omega
                have hcz := HR.out.at y x hyl hx
                have hfz := World.rowIs.frozen HR.out y
                have H6 := Lib.hid ((HR.out.set y (x + 1)).congr (g := wF l k y (j + 1)) fun i _ => by
                  rw [← hx]
                  unfold wF
                  by_cases e : i = y
                  · subst e
                    rw [if_pos rfl, if_neg (by omega), if_pos rfl, if_neg (by omega), if_pos rfl]
                    unfold wA
                    simp only [cntA, HP.out]
                    rw [if_pos trivial]; omega
                  · rw [if_neg e]
                    by_cases e2 : i < y
                    · rw [if_pos e2, if_pos e2]
                    · rw [if_neg e2, if_neg e, if_neg e2, if_neg e])
                have HB6 := Lib.hid (HB.out.setCell (p := ⟨S, y, none⟩) (by rw [HS.out]; exact Nat.le_refl _) (.int .i64 ((x + 1 : Nat) : Int)))
                clear HR HB hx
                go_wp2_with fail
                go_roundw
                case rel => exact ⟨j + 1, by omega, by go_num, H6, HB6⟩
                case measure => simp [intOf]; omega
              · have H6 := Lib.hid (HR.out.congr (g := wF l k y (j + 1)) fun i _ => by
                  unfold wF
                  by_cases e2 : i < y
                  · rw [if_pos e2, if_pos e2]
                  · by_cases e : i = y
                    · subst e
                      rw [if_neg e2, if_pos rfl, if_neg e2, if_pos rfl]
                      unfold wA
                      simp only [cntA, HP.out]
                      rw [if_neg hs]; rfl
                    · rw [if_neg e2, if_neg e, if_neg e2, if_neg e])
                have hsb : (s == (y : Int)) = false := by simpa using hs
                clear HR
                go_wp2_with fail
                go_roundw
                case rel => exact ⟨j + 1, by omega, by go_num, H6, HB⟩
                case measure => simp [intOf]; omega
            · obtain rfl : j = k := by omega
              have H6 := Lib.hid (HR.out.congr (g := wE l j (y + 1)) fun i _ => by
                unfold wF wE
                by_cases e2 : i < y
                · rw [if_pos e2, if_pos (by omega)]
                · by_cases e : i = y
                  · rw [if_neg e2, if_pos e, if_pos (by omega)]
                  · rw [if_neg e2, if_neg e, if_neg (by omega)])
              clear HR
              go_wp2_with fail
              go_roundw
              case rel => exact ⟨y + 1, by omega, by go_num, H6, HB⟩
              case measure => simp [intOf]; omega
        · obtain rfl : y = n := by omega
          go_wp2_with fail
          go_ret2
          exact .inl ⟨HI.out, S, rfl, HR.out.congr fun i hi => by unfold wE; rw [if_pos hi], HB.out⟩
end Go.Proofs.Ytpflimnngilhnaa.rh
