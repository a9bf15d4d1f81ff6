/- The place of a node (layer 33): the program. -/
import Derived.Test.YtagcgffofddcnaaGrF
namespace Go.Proofs.Ytagcgffofddcnaa.gr
open Go.ChangeShapes Go.WideShapes Go.ChangeAt Go.RowKit
open Go.Proofs.Ytagcgffofddcnaa.ro
open Go.Proofs.Ytagcgffofddcnaa
set_option linter.unusedVariables false
set_option linter.unusedSimpArgs false
/-- the first one of the first n cells whose stage is s. -/
def fndN (l : List C2) (s : Nat) : Nat → Option Nat
  | 0 => none
  | n + 1 => match fndN l s n with
    | some k => some k
    | none => if hd (l.getD n d2).1 = s then some n else none
def fndP (L : List (List C2)) (i s : Nat) : Option Pl :=
  if i < L.length then (fndN (L.getD i []) s (L.getD i []).length).map fun k => (i, k) else none
theorem fndN_stay (l : List C2) (s : Nat) {k x : Nat} (h : fndN l s k = some x) : ∀ n, k ≤ n → fndN l s n = some x
  | 0, hn => by obtain rfl : k = 0 := by omega
                exact h
  | n + 1, hn => by
    rcases Nat.lt_or_ge n k with h1 | h1
    · obtain rfl : k = n + 1 := by omega
      exact h
    · rw [fndN, fndN_stay l s h n h1]
theorem fndN_lt (l : List C2) (s : Nat) {x : Nat} : ∀ n, fndN l s n = some x → x < n ∧ hd (l.getD x d2).1 = s
  | 0, h => by simp [fndN] at h
  | n + 1, h => by
    rw [fndN] at h
    cases e : fndN l s n with
    | some k =>
      rw [e] at h
      simp at h
      subst h
      have := fndN_lt l s n e
      exact ⟨by omega, this.2⟩
    | none =>
      rw [e] at h
      simp only at h
      split at h
      · simp at h
        subst h
        exact ⟨by omega, by assumption⟩
      · simp at h
theorem fndN_none (l : List C2) (s : Nat) : ∀ n, fndN l s n = none → ∀ x, x < n → hd (l.getD x d2).1 ≠ s
  | 0, h, x, hx => by omega
  | n + 1, h, x, hx => by
    rw [fndN] at h
    cases e : fndN l s n with
    | some k => rw [e] at h; simp at h
    | none =>
      rw [e] at h
      simp only at h
      split at h
      · simp at h
      · rcases Nat.lt_or_ge x n with h1 | h1
        · exact fndN_none l s n e x h1
        · obtain rfl : x = n := by omega
          assumption
theorem fndP_some {L : List (List C2)} {i s : Nat} {p : Pl} (h : fndP L i s = some p) : In L p ∧ p.1 = i ∧ hd (st L p) = s := by
  unfold fndP at h
  split at h
  · rename_i hi
    cases e : fndN (L.getD i []) s (L.getD i []).length with
    | none => rw [e] at h; simp at h
    | some k =>
      rw [e] at h
      simp at h
      subst h
      have := fndN_lt _ _ _ e
      exact ⟨⟨hi, this.1⟩, rfl, this.2⟩
  · simp at h
theorem fndP_none {L : List (List C2)} {i s : Nat} (h : fndP L i s = none) {p : Pl} (hp : In L p) (h1 : p.1 = i) : hd (st L p) ≠ s := by
  unfold fndP at h
  subst h1
  rw [if_pos hp.1] at h
  simp at h
  exact fndN_none _ _ _ h p.2 hp.2
def plV : Option Pl → Value
  | some p => .tuple #[.agg #[.int .i64 (p.1 : Int), .int .i64 (p.2 : Int)], .bool true]
  | none => .tuple #[.agg #[.int .i64 0, .int .i64 0], .bool false]
theorem fbd (w : World) (n : Nat) : Below w.heap.size w (w.drewN n) := ⟨rfl, rfl, rfl, Nat.le_refl _, fun _ _ => rfl⟩
set_option maxHeartbeats 8000000 in
theorem find_v (ad : Option Addr) (n c : Nat) (L : List (List C2)) (a b : Int) (w : World) (h : PM w (.slice ad n c) L) (hL : Rts L) :
    Calls Try.prog 33 #[.slice ad n c, cx a b] w fun e w' => e = .returned (plV (fndP L (hd a) (hd b))) ∧ Below w.heap.size w w' := by
  obtain ⟨hnl, hnc, hcm⟩ := h.len
  unfold maxLen at hcm
  have HR0 := Lib.hid h
  have HNL := Lib.hid hnl
  have hn100 : n ≤ 100 := by have := hL.m; omega
  have HI0 := Lib.hid (fun w9 => iter_v w9 a b)
  obtain ⟨R, hR⟩ : ∃ R, plV (fndP L (hd a) (hd b)) = R := ⟨_, rfl⟩
  obtain ⟨P, hP⟩ : ∃ P : Ending → World → Prop, (fun (e : Ending) (w' : World) => e = .returned R ∧ Below w.heap.size w w') = P := ⟨_, rfl⟩
  rw [hR, hP]
  have HF : Hid (∀ w', Below w.heap.size w w' → P (.returned R) w') := Lib.hid (by rintro w' hb; rw [← hP]; exact ⟨rfl, hb⟩)
  have HRR := Lib.hid hR
  have hHd := hd_le a
  have HE1 : Hid (∀ s, (FloatKind.f64.format.order (fl.enc (hd ((hd a : Nat) : Int))) (fl.enc (hd a)) == some .eq) = true ∧ (FloatKind.f64.format.order (fl.enc (hd s)) (fl.enc (hd b)) == some .eq) = decide (hd s = hd b)) := Lib.hid (fun s => ⟨by rw [eqo (hd_lt _) (hd_lt _)]; simp; unfold hd; omega, eqo (hd_lt _) (hd_lt _)⟩)
  obtain ⟨I, hI⟩ : ∃ I, hd a = I := ⟨_, rfl⟩
  obtain ⟨J, hJ⟩ : ∃ J, hd b = J := ⟨_, rfl⟩
  rw [hI] at HI0 HE1 HRR hHd
  rw [hJ] at HE1 HRR
  unfold cx at HI0 ⊢
  rw [hI] at HI0 ⊢
  obtain ⟨X2, hX2⟩ : ∃ X, fl.enc I = X := ⟨_, rfl⟩
  obtain ⟨Y2, hY2⟩ : ∃ X, fl.enc (hd b) = X := ⟨_, rfl⟩
  rw [hJ] at hY2 ⊢
  rw [hX2] at HE1 HI0 ⊢
  rw [hY2] at HE1 ⊢
  rw [hJ, hY2] at HI0
  clear hI hJ hX2 hY2 hP hR h hnl
  obtain ⟨W, hW⟩ : ∃ W, w.alloc (.cells #[.int .i64 0, .int .i64 0] 71) = W := ⟨_, rfl⟩
  have hbW : Below w.heap.size w W := by rw [← hW]; go_grown
  have hXW : W.heap[w.heap.size]? = some (.cells #[.int .i64 0, .int .i64 0] 71 (0, 0)) := by rw [← hW]; exact heap_new _ _
  have HXW := Lib.hid hXW
  have HBW := Lib.hid hbW
  have x0 := cel hXW 0
  have x1 := cel hXW 1
  have y0 := frz hXW 0
  have y1 := frz hXW 1
  clear hXW hbW
  by_cases hI : I < n
  · obtain ⟨o1, o2, ai, ci, rfl, hbl, c0, hrow⟩ := (HR0.out.below HBW.out).row I hI
    obtain ⟨m, hm⟩ : ∃ m, (L.getD I []).length = m := ⟨_, rfl⟩
    have hm100 : m ≤ 100 := by have := (hL.r I (by rw [← HNL.out]; exact hI)).m; omega
    rw [hm] at c0
    have HM := Lib.hid hm
    have hFP : fndP L I J = (fndN (L.getD I []) J m).map fun k => (I, k) := by unfold fndP; rw [if_pos (by rw [← HNL.out]; exact hI), hm]
    have HFP := Lib.hid hFP
    have hiI : (I : Int) < (n : Int) := by omega
    have hiN : ¬ (n : Int) ≤ (I : Int) := by omega
    have hiN' : ¬ n ≤ I := by omega
    have hiNd : decide (n ≤ I) = false := by simpa using hiN'
    have HX0 : Hid (W.heap[w.heap.size]? = some (.cells #[.int .i64 0, .int .i64 0] 71 (0, 0))) := HXW
    have h00 : Hid (Below W.heap.size W W) := Lib.hid (Below.refl _ _)
    have h01 : Hid (fndN (L.getD I []) J 0 = none) := Lib.hid rfl
    clear hm hrow hFP hL x0 x1 y0 y1
    go_enter Try.func33, Try.ntmps33
    go_wp2_with fail
    refine (HI0.out _).mono ?_
    rintro e w5 ⟨rfl, rfl⟩
    go_wp2_with fail
    go_loopw [21] (fun i wr => ∃ k : Nat, i = .int .i64 (k : Int) ∧ k ≤ m ∧ Hid (fndN (L.getD I []) J k = none) ∧ Hid (Below W.heap.size W wr)) (fun i _ => m - (intOf i).toNat)
    case atStart => exact ⟨0, rfl, by omega, h01, h00⟩
    case round =>
      clear h00 h01
      obtain ⟨k, rfl, hk, HK, HB⟩ := hrel
      have HX := Lib.hid (kb HXW.out HB.out)
      have y0 := frz HX.out 0
      have y1 := frz HX.out 1
      have x0 := cel HX.out 0
      have x1 := cel HX.out 1
      by_cases hkm : k < m
      · have hkI : (k : Int) < (m : Int) := by omega
        have hin : In L (I, k) := ⟨by rw [← HNL.out]; exact hI, by show k < (L.getD I []).length; rw [HM.out]; exact hkm⟩
        obtain ⟨W2, hW2⟩ : ∃ W2, wr.alloc (.cells #[.int .i64 (I : Int), .int .i64 (k : Int)] 71) = W2 := ⟨_, rfl⟩
        have hb2 : Below wr.heap.size wr W2 := by rw [← hW2]; go_grown
        have hX2 : W2.heap[wr.heap.size]? = some (.cells #[.int .i64 (I : Int), .int .i64 (k : Int)] 71 (0, 0)) := by rw [← hW2]; exact heap_new _ _
        obtain ⟨g8, hg8⟩ : ∃ g, wr.heap.size = g := ⟨_, rfl⟩
        rw [hg8] at hX2
        obtain ⟨z0, z1⟩ := cel2 hX2
        have HB2 := Lib.hid (tr3 HB.out hb2)
        have HN1 := Lib.hid (node_of (.slice (some ⟨o1, o2, none⟩) n c) L (I, k) W2 (HR0.out.below (tr3 HBW.out HB2.out)) hin)
        have hst : ((L.getD I []).getD k d2).1 = st L (I, k) := rfl
        have HNX : Hid (fndN (L.getD I []) J (k + 1) = if hd (st L (I, k)) = J then some k else none) := Lib.hid (by rw [fndN, HK.out]; simp only; rw [hst])
        obtain ⟨hE1, hE2⟩ := HE1.out (st L (I, k))
        obtain ⟨X1, hX1⟩ : ∃ X, fl.enc (hd ((I : Nat) : Int)) = X := ⟨_, rfl⟩
        obtain ⟨Y1, hY1⟩ : ∃ X, fl.enc (hd (st L (I, k))) = X := ⟨_, rfl⟩
        rw [hX1] at hE1
        rw [hY1] at hE2
        have hc1 : cx (I : Int) (st L (I, k)) = .complex .f64 X1 Y1 := by unfold cx; rw [hX1, hY1]
        simp only [hc1] at HN1
        obtain ⟨v, hv⟩ : ∃ v, decide (hd (st L (I, k)) = J) = v := ⟨_, rfl⟩
        rw [hv] at hE2
        have HX8 := Lib.hid hX2
        have HXW2 := Lib.hid (kb HX.out hb2)
        clear hX1 hY1 hc1 hst hin hb2 hX2 c0
        cases v with
        | true =>
          have hfin : fndN (L.getD I []) J m = some k := fndN_stay _ _ (by rw [HNX.out, if_pos (by simpa using hv)]) m hkm
          have HRV : Hid (R = .tuple #[.agg #[.int .i64 (I : Int), .int .i64 (k : Int)], .bool true]) := Lib.hid (by rw [← HRR.out, HFP.out, hfin]; rfl)
          clear hv hfin
          go_wp2_with fail
          refine HN1.out.mono ?_
          rintro e w6 ⟨rfl, hb6⟩
          have HX6 := kb HXW2.out hb6
          have HX7 := kb HX8.out hb6
          have y0' := frz HX6 0
          have y1' := frz HX6 1
          obtain ⟨x0', x1'⟩ := cel2 HX6
          obtain ⟨z0', z1'⟩ := cel2 HX7
          have hlt6 := lt_of HX6
          have HB6 := Lib.hid (tr3 HBW.out (tr3 HB2.out hb6))
          clear HX6 HX7 hb6 z0 z1 x0 x1 y0 y1
          go_wp2_with fail
          refine bodyPost_ret (v := R) ?_ rfl (HF.out _ (Below.trans HB6.out ?_))
          · rw [results_cell_tmp rfl, HRV.out]
            go_simp
          · go_grown
        | false =>
          have HK1 : Hid (fndN (L.getD I []) J (k + 1) = none) := Lib.hid (by rw [HNX.out, if_neg (by simpa using hv)])
          clear hv
          go_wp2_with fail
          refine HN1.out.mono ?_
          rintro e w6 ⟨rfl, hb6⟩
          have HB6 := Lib.hid (tr3 HB2.out hb6)
          clear hb6
          go_wp2_with fail
          go_roundw
          case rel => exact ⟨k + 1, by go_num, by omega, HK1, HB6⟩
          case measure => simp [intOf]; omega
      · obtain rfl : k = m := by omega
        have HRV : Hid (R = .tuple #[.agg #[.int .i64 0, .int .i64 0], .bool false]) := Lib.hid (by rw [← HRR.out, HFP.out, HK.out]; rfl)
        have hlt6 := lt_of HX.out
        have HB6 := Lib.hid (tr3 HBW.out HB.out)
        go_wp2_with fail
        refine bodyPost_ret (v := R) ?_ rfl (HF.out _ (Below.trans HB6.out ?_))
        · rw [results_cell_tmp rfl, HRV.out]
          go_simp
        · go_grown
  · have HRV : Hid (R = .tuple #[.agg #[.int .i64 0, .int .i64 0], .bool false]) := Lib.hid (by rw [← HRR.out]; unfold fndP; rw [if_neg (by rw [← HNL.out]; exact hI)]; rfl)
    have hiN : (n : Int) ≤ (I : Int) := by omega
    have hiN' : n ≤ I := by omega
    have hiNd : decide (n ≤ I) = true := by simpa using hiN'
    go_enter Try.func33, Try.ntmps33
    go_wp2_with fail
    refine (HI0.out _).mono ?_
    rintro e w5 ⟨rfl, rfl⟩
    go_wp2_with fail
    refine bodyPost_ret (v := R) ?_ rfl (HF.out _ (Below.trans HBW.out ?_))
    · rw [results_cell_tmp rfl, HRV.out]
      go_simp
    · go_grown
end Go.Proofs.Ytagcgffofddcnaa.gr
