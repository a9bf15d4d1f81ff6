/- Weights: the program's, the document's; all together (layer 41). -/
import Derived.Test.YtpflimnngilhnaaSpB
namespace Go.Proofs.Ytpflimnngilhnaa.rh
open Go.ChangeShapes Go.WideShapes Go.ChangeAt Go.RowKit
set_option linter.unusedVariables false
set_option linter.unusedSimpArgs false
/-- what is wrong with strands and accesses. -/
def cw (L : List (List Int)) (l : List Acc) : Int := if ck L = 0 then (if inA l L.length l.length then 0 else 3) else ck L
def dagV (p q r : Value) : Value := .agg #[p, q, r]
theorem getD_some {l : List Acc} {i : Nat} (h : i < l.length) : l[i]? = some (l.getD i a0) := by
  rw [List.getD_eq_getElem?_getD, List.getElem?_eq_getElem h]; rfl
theorem acc_at {w : World} {a : Option Addr} {n cap : Nat} {l : List Acc} (h : RV 3 enA w (.slice a n cap) l) (i : Nat) (hi : i < n) :
    ∃ b o, a = some ⟨b, o, none⟩ ∧ b < w.heap.size ∧ w.cell? ⟨b, o + i * 3, none⟩ = some (.int .i64 (l.getD i a0).1) ∧ w.cell? ⟨b, o + i * 3 + 1, none⟩ = some (.int .i64 (l.getD i a0).2.1) ∧ w.cell? ⟨b, o + i * 3 + 2, none⟩ = some (.bool (l.getD i a0).2.2) := by
  obtain ⟨rfl, _, _⟩ := h.len
  obtain ⟨b, o, e, hb, hc⟩ := h.at i _ (getD_some hi)
  exact ⟨b, o, e, hb, hc 0 _ rfl, hc 1 _ rfl, hc 2 _ rfl⟩
set_option maxRecDepth 20000 in
theorem weights_bad (a : Option Addr) (n cap : Nat) (L : List (List Int)) (c : Int) (q r : Value) (w : World) (h : MV w (.slice a n cap) L) (hc : ck L = c) (h0 : c = 9 ∨ c = 3) :
    Calls Try.prog 15 #[.agg #[.slice a n cap, q, r]] w fun e w' => e = .returned (.tuple #[.slice none 0 0, .int .i64 c]) ∧ Below w.heap.size w w' := by
  have C := Lib.hid (fun w1 h1 => scheck_bad a n cap L c w1 h1 hc h0)
  have H := Lib.hid h
  clear h hc
  go_enter Try.func15, Try.ntmps15
  have HA := Lib.hid (H.out.below (w' := w.alloc (.cells #[.slice a n cap, q, r] 44)) ((Below.refl _ _).alloc (Nat.le_refl _) _))
  have HB : Hid (Below w.heap.size w (w.alloc (.cells #[.slice a n cap, q, r] 44))) := Lib.hid ((Below.refl _ _).alloc (Nat.le_refl _) _)
  rcases h0 with rfl | rfl
  all_goals
    have C1 := Lib.hid (C.out _ HA.out)
    go_wp2_with (first | (go_at_call 32; (with_reducible refine C1.out.mono ?_); rintro e w1 ⟨rfl, rfl⟩))
    go_ret2
    exact ⟨rfl, HB.out⟩
theorem heap_box1 (w : World) (v : Array Value) (t : TypeId) : (w.alloc (.cells v t)).heap[w.heap.size]? = some (.cells v t (0, 0)) := by
  show (w.heap.push _)[w.heap.size]? = _
  rw [Array.getElem?_push_size]
def oneB (k i : Nat) : Nat := if i < k then 1 else 0
def WPost (w : World) (n m : Nat) (l : List Acc) (e : Ending) (w' : World) : Prop :=
  (inA l n m = true ∧ ∃ S, e = .returned (.tuple #[.slice (some ⟨S, 0, none⟩) n n, .int .i64 0]) ∧ NR w' S n (wA l m) ∧ Below w.heap.size w w') ∨
  (inA l n m = false ∧ e = .returned (.tuple #[.slice none 0 0, .int .i64 3]) ∧ Below w.heap.size w w')
set_option maxRecDepth 20000 in
set_option maxHeartbeats 2000000 in
theorem weights_of (a aa : Option Addr) (n cap m ca : Nat) (L : List (List Int)) (l : List Acc) (q : Value) (w : World) (h : MV w (.slice a n cap) L) (hl : RV 3 enA w (.slice aa m ca) l) (hc : ck L = 0) (hm : m ≤ 1000) :
    Calls Try.prog 15 #[.agg #[.slice a n cap, q, .slice aa m ca]] w (WPost w n m l) := by
  have hn : n ≤ 1000 := by have := ck_cases L; have := h.len.1; omega
  obtain ⟨hml, hm1, hm2⟩ := hl.len
  unfold maxLen at hm2
  have C := Lib.hid (fun w1 h1 => scheck_of a n cap L w1 h1 hc)
  have hmk := mk_ints n (by omega)
  obtain ⟨D, hD⟩ : ∃ D, w.heap.size = D := ⟨_, rfl⟩
  have HD := Lib.hid hD
  obtain ⟨WA, hWA⟩ : ∃ WA, w.alloc (.cells #[.slice a n cap, q, .slice aa m ca] 44) = WA := ⟨_, rfl⟩
  have HWA := Lib.hid hWA
  have hBA : Below w.heap.size w WA := by rw [← hWA]; exact (Below.refl _ _).alloc (Nat.le_refl _) _
  have hDA : WA.heap[D]? = some (.cells #[.slice a n cap, q, .slice aa m ca] 44 (0, 0)) := by rw [← hWA, ← hD]; exact heap_box1 w _ _
  have HBA := Lib.hid hBA
  have HDA := Lib.hid hDA
  have HMA := Lib.hid (h.below hBA)
  have HLA := Lib.hid (hl.below hBA)
  have C1 := Lib.hid (C.out WA HMA.out)
  clear h hl hc hD hWA hBA hDA C hml
  go_enter Try.func15, Try.ntmps15
  go_wp2_with fail
  rw [HWA.out, HD.out]
  go_wp2_with (first | (go_at_call 32; (with_reducible refine C1.out.mono ?_); (rintro e w1 ⟨rfl, HB1⟩); (have hD1 := (HB1.block D (Array.getElem?_eq_some_iff.1 HDA.out).1).trans HDA.out); (have d0 : w1.cell? ⟨D, 0, none⟩ = some (.slice a n cap) := by simp [World.cell?, hD1])))
  have HD1 := Lib.hid hD1
  have HL1 := Lib.hid (HLA.out.below HB1)
  have HBw := Lib.hid (trans3 HBA.out HB1)
  obtain ⟨S, hS⟩ : ∃ S, w1.heap.size = S := ⟨_, rfl⟩
  have HS := Lib.hid hS
  obtain ⟨W0, hW0⟩ : ∃ W0, w1.alloc (intsObj n) = W0 := ⟨_, rfl⟩
  have HW0 := Lib.hid hW0
  have hr0 : Hid (NR W0 S n (oneB 0)) := Lib.hid (by rw [← hW0, ← hS]; exact (made_ints n w1).congr fun i _ => by unfold oneB; rw [if_neg (by omega)])
  have hB0 : Hid (Below w1.heap.size w1 W0) := Lib.hid (by rw [← hW0]; go_grown)
  clear hD1 HB1 hS hW0 C1 HMA HLA HDA HBA
  rw [HW0.out, HS.out]
  go_loopw [21] (fun i wr => ∃ (k : Nat), k ≤ n ∧ i = .int .i64 (k : Int) ∧ Hid (NR wr S n (oneB k)) ∧ Hid (Below w1.heap.size w1 wr)) (fun i _ => n - (intOf i).toNat)
  case atStart => exact ⟨0, by omega, rfl, hr0, hB0⟩
  case round =>
    clear hr0 hB0 hmk HW0
    obtain ⟨k, hk, rfl, HR, HB⟩ := hrel
    by_cases hlt : k < n
    · have hcz := HR.out.at k _ hlt rfl
      have hfz := World.rowIs.frozen HR.out k
      have H5 : Hid (NR (wr.setCell ⟨S, k, none⟩ (.int .i64 1)) S n (oneB (k + 1))) := Lib.hid ((HR.out.set k 1).congr fun i _ => by
        unfold oneB
        by_cases e : i = k
        · rw [if_pos e, if_pos (by omega)]
        · rw [if_neg e]
          by_cases e2 : i < k
          · rw [if_pos e2, if_pos (by omega)]
          · rw [if_neg e2, if_neg (by omega)])
      have HB5 := Lib.hid (HB.out.setCell (p := ⟨S, k, none⟩) (by rw [HS.out]; exact Nat.le_refl _) (.int .i64 1))
      clear HR HB
      go_wp2_with fail
      go_roundw
      case rel => exact ⟨k + 1, by omega, by go_num, H5, HB5⟩
      case measure => simp [intOf]; omega
    · obtain rfl : k = n := by omega
      have hDr : wr.heap[D]? = some (.cells #[.slice a k cap, q, .slice aa m ca] 44 (0, 0)) := (HB.out.block D (Array.getElem?_eq_some_iff.1 HD1.out).1).trans HD1.out
      have d2 : wr.cell? ⟨D, 2, none⟩ = some (.slice aa m ca) := by simp [World.cell?, hDr]
      have HRr : Hid (NR wr S k (wA l 0)) := Lib.hid (HR.out.congr fun i hi => by unfold oneB wA cntA; rw [if_pos hi])
      have HBr := HB
      clear HR HB hDr d0
      go_wp2_with fail
      go_loopw [31] (fun i wi => ∃ (j : Nat), j ≤ m ∧ i = .int .i64 (j : Int) ∧ Hid (inA l k j = true) ∧ Hid (NR wi S k (wA l j)) ∧ Hid (Below w1.heap.size w1 wi)) (fun i _ => m - (intOf i).toNat)
      case atStart => exact ⟨0, by omega, rfl, Lib.hid rfl, HRr, HBr⟩
      case round =>
        clear HRr HBr d2
        obtain ⟨j, hj, rfl, HI, HR, HB⟩ := hrel
        by_cases hjl : j < m
        · obtain ⟨b, o, rfl, hbl, c0, c1, c2⟩ := acc_at (HL1.out.below HB.out) j hjl
          obtain ⟨p, hp⟩ : ∃ p, l.getD j a0 = p := ⟨_, rfl⟩
          rw [hp] at c0 c1 c2
          obtain ⟨s, wd, wt⟩ := p
          dsimp only at c0 c1 c2
          have HP := Lib.hid hp
          clear hp
          have hnew : Below w1.heap.size w1 (wr.alloc (.cells #[.int .i64 s, .int .i64 wd, .bool wt] 71)) := HB.out.alloc HB.out.size _
          by_cases hs0 : 0 ≤ s
          · have hs1 : ¬ s < 0 := by omega
            by_cases hsn : s < (k : Int)
            · have hs2 : ¬ (k : Int) ≤ s := by omega
              obtain ⟨y, rfl⟩ : ∃ y : Nat, s = (y : Int) := ⟨s.toNat, by omega⟩
              have hy : y < k := by omega
              have hR5 : NR (wr.alloc (.cells #[.int .i64 (y : Int), .int .i64 wd, .bool wt] 71)) S k (wA l j) := HR.out.below ((Below.refl _ _).alloc (Nat.le_refl _) _)
              obtain ⟨x, hx⟩ : ∃ x, wA l j y = x := ⟨_, rfl⟩
              have hxl : x ≤ 2000 := by have := cntA_le l y j; unfold wA at hx; omega
              have hcz := hR5.at y x hy hx
              have hfz := World.rowIs.frozen hR5 y
              have H6 := Lib.hid ((hR5.set y (x + 1)).congr (g := wA l (j + 1)) fun i _ => by
                unfold wA
                simp only [cntA, HP.out]
                by_cases e : i = y
                · subst e; rw [if_pos rfl, if_pos rfl, ← hx]; unfold wA; omega
                · rw [if_neg e, if_neg (by omega)]; rfl)
              have HB6 := Lib.hid (hnew.setCell (p := ⟨S, y, none⟩) (by rw [HS.out]; exact Nat.le_refl _) (.int .i64 ((x + 1 : Nat) : Int)))
              have HI6 : Hid (inA l k (j + 1) = true) := Lib.hid (by
                simp only [inA, HI.out, HP.out, Bool.true_and]
                unfold inB; simp; omega)
              clear hnew hR5 HR HB hx
              go_wp2_with fail
              go_roundw
              case rel => exact ⟨j + 1, by omega, by go_num, HI6, H6, HB6⟩
              case measure => simp [intOf]; omega
            · have hs2 : (k : Int) ≤ s := by omega
              have HF : Hid (inA l k m = false) := Lib.hid (inA_bad hjl (by rw [HP.out]; unfold inB; simp; omega))
              have HBn := Lib.hid (HBw.out.trans (hnew.mono HBw.out.size))
              clear hnew
              go_wp2_with fail
              go_ret2
              exact .inr ⟨HF.out, rfl, HBn.out⟩
          · have hs1 : s < 0 := by omega
            have HF : Hid (inA l k m = false) := Lib.hid (inA_bad hjl (by rw [HP.out]; unfold inB; simp; omega))
            have HBn := Lib.hid (HBw.out.trans (hnew.mono HBw.out.size))
            clear hnew
            go_wp2_with fail
            go_ret2
            exact .inr ⟨HF.out, rfl, HBn.out⟩
        · obtain rfl : j = m := by omega
          go_wp2_with fail
          go_ret2
          exact .inl ⟨HI.out, S, rfl, HR.out, HBw.out.trans (HB.out.mono HBw.out.size)⟩
end Go.Proofs.Ytpflimnngilhnaa.rh
