/- What is wrong with rows (layer 33): the program. -/
import Derived.Test.YtgbeghaojkhiaaaGrP
namespace Go.Proofs.Ytgbeghaojkhiaaa.gr
open Go.ChangeShapes Go.WideShapes Go.ChangeAt Go.RowKit
open Go.Proofs.Ytgbeghaojkhiaaa.ro
set_option linter.unusedVariables false
set_option linter.unusedSimpArgs false
theorem tr3 {w w1 w2 : World} (h : Below w.heap.size w w1) (h2 : Below w1.heap.size w1 w2) : Below w.heap.size w w2 := h.trans (h2.mono h.size)
theorem ce_ne (a b : Int) (c d : Bool) (v : Bool) (h : (a == b && c == d) = v) (w : World) : Sem.run Try.prog (binOp .neq 37 (.agg #[.int .i64 a, .bool c]) (.agg #[.int .i64 b, .bool d])) w = .ok (.bool (!v)) w := by
  have e : (Op.equalIn 10000 37 (.agg #[.int .i64 a, .bool c]) (.agg #[.int .i64 b, .bool d])).run Try.prog w = .ok v w := by
    rw [show (10000 : Nat) = 9999 + 1 from rfl, run_equalIn_struct w 9999 37 _ _ (by kernel_rfl) (by kernel_rfl)]
    rw [← h]
    by_cases h1 : a = b <;> cases c <;> cases d <;> simp [go_sem, Try.underlying37, h1]
  simp only [binOp]
  simp [Op.equal, Op.maxDepth, e]
theorem cel2 {w : World} {g e : Nat} {x y : Value} (h : w.heap[g]? = some (.cells #[x, y] e (0, 0))) : w.cell? ⟨g, 0, none⟩ = some x ∧ w.cell? ⟨g, 1, none⟩ = some y := ⟨cel h 0, cel h 1⟩
theorem kb {w w' : World} {g : Nat} {o : Obj} (h : w.heap[g]? = some o) (hb : Below w.heap.size w w') : w'.heap[g]? = some o := (hb.block g (lt_of h)).trans h
set_option maxHeartbeats 4000000 in
theorem row_v (a : Option Addr) (n c : Nat) (l : List C2) (r : Int) (w : World) (h : RV 2 enC w (.slice a n c) l) (hr : rowE l = r) :
    Calls Try.prog 43 #[.slice a n c] w fun e w' => e = .returned (.int .i64 r) ∧ Below w.heap.size w w' := by
  obtain ⟨hnl, hnc, hcm⟩ := h.len
  unfold maxLen at hcm
  have HR0 := Lib.hid h
  have HNL := Lib.hid hnl
  unfold rowE at hr
  rw [← hnl] at hr
  by_cases h1 : 100 < n
  · rw [if_pos h1] at hr
    subst hr
    have h1' : (100 : Int) < n := by omega
    clear h hnl
    go_enter Try.func43, Try.ntmps43
    go_wp2_with fail
    all_goals first | (go_ret; exact ⟨rfl, Below.refl _ _⟩) | skip
  rw [if_neg h1] at hr
  have h1' : ¬ (100 : Int) < n := by omega
  have h1'' : (n : Int) ≤ 100 := by omega
  by_cases h2 : n = 0
  · rw [if_pos h2] at hr
    subst hr
    subst h2
    clear h hnl
    go_enter Try.func43, Try.ntmps43
    go_wp2_with fail
    all_goals first | (go_ret; exact ⟨rfl, Below.refl _ _⟩) | skip
  rw [if_neg h2] at hr
  have h2' : ¬ (n : Int) = 0 := by omega
  have h2d : ((n : Int) == 0) = false := by simpa using h2
  obtain ⟨b, o, rfl, hbl, c0, c1⟩ := RV.two h 0 (by omega)
  have hz : (0 : Int) < n := by omega
  have hz' : 0 < n := by omega
  obtain ⟨⟨s0, b0⟩, hx0⟩ : ∃ x, l.getD 0 d2 = x := ⟨_, rfl⟩
  rw [hx0] at c0 c1 hr
  obtain ⟨v, hv⟩ : ∃ v, (s0 == 0 && b0 == false) = v := ⟨_, rfl⟩
  have HNE := ce_ne s0 0 b0 false v hv
  have hvv : v = true ↔ (s0, b0) = d2 := by
    rw [← hv]
    unfold d2
    cases b0 <;> simp
  simp only [Nat.zero_mul, Nat.add_zero] at c0 c1
  cases v with
  | false =>
    rw [if_pos (by rw [Ne, ← hvv]; simp)] at hr
    subst hr
    clear h hnl hv hvv
    go_enter Try.func43, Try.ntmps43
    go_wp2_with fail
    all_goals first | (go_ret; exact ⟨rfl, Below.refl _ _⟩) | skip
  | true =>
    rw [if_neg (by rw [Ne, ← hvv]; simp)] at hr
    obtain ⟨m, rfl⟩ : ∃ m, n = m + 1 := ⟨n - 1, by omega⟩
    rw [Nat.add_sub_cancel] at hr
    have HRR := Lib.hid hr
    have h0 : Hid (Below w.heap.size w w) := Lib.hid (Below.refl _ _)
    have k1 : decide ((100 : Int) < (m : Int) + 1) = false := by simp; omega
    have k2 : ((m : Int) + 1 == 0) = false := by simp; omega
    have k3 : ¬ (100 : Int) < (m : Int) + 1 := by omega
    have k4 : (0 : Int) < (m : Int) + 1 := by omega
    clear h hnl hv hvv hr h1 h1' h1'' h2 h2' h2d hz hz'
    by_cases hc1 : c = 1
    · subst hc1
      obtain rfl : m = 0 := by omega
      have hrr : r = 0 := by rw [← HRR.out]; rfl
      subst hrr
      go_enter Try.func43, Try.ntmps43
      go_wp2_with fail
      go_loopw [22] (fun i wr => i = .int .i64 (0 : Int) ∧ Hid (Below w.heap.size w wr)) (fun i _ => (intOf i).toNat)
      case atStart => exact ⟨rfl, h0⟩
      case round =>
        obtain ⟨rfl, HB⟩ := hrel
        go_wp2_with fail
        go_ret
        exact ⟨rfl, HB.out⟩
    go_enter Try.func43, Try.ntmps43
    go_wp2_with fail
    go_loopw [22] (fun i wr => ∃ k : Nat, i = .int .i64 (k : Int) ∧ k ≤ m ∧ Hid (badN l k = false) ∧ Hid (Below w.heap.size w wr)) (fun i _ => m - (intOf i).toNat)
    case atStart => exact ⟨0, rfl, by omega, Lib.hid rfl, h0⟩
    case round =>
      clear h0 c0 c1
      obtain ⟨k, rfl, hk, HI, HB⟩ := hrel
      by_cases hlt : k < m
      · obtain ⟨b', o', e1, hbl', d0, d1⟩ := RV.two (HR0.out.below HB.out) k (by omega)
        cases e1
        obtain ⟨b', o', e1, hbl', e0, e1'⟩ := RV.two (HR0.out.below HB.out) (k + 1) (by omega)
        cases e1
        have hsx : badN l (k + 1) = (badN l k || badC (l.getD k d2) (l.getD (k + 1) d2)) := rfl
        rw [HI.out, Bool.false_or] at hsx
        have hst := badN_stay l (k + 1) m (by omega)
        obtain ⟨⟨s1, x1⟩, hx1⟩ : ∃ x, l.getD k d2 = x := ⟨_, rfl⟩
        obtain ⟨⟨s2, x2⟩, hx2⟩ : ∃ x, l.getD (k + 1) d2 = x := ⟨_, rfl⟩
        rw [hx1] at d0 d1 hsx
        rw [hx2] at e0 e1' hsx
        unfold badC at hsx
        simp only at hsx
        have hkm : (k : Int) < (m : Int) := by omega
        have hkm' : (k : Int) < (m : Int) + 1 := by omega
        have HSX := Lib.hid hsx
        have HST := Lib.hid hst
        clear hsx hst hx1 hx2
        rw [show o + (k + 1) * 2 = o + 2 + k * 2 by omega] at e0 e1'
        obtain ⟨W2, hW2⟩ : ∃ W2, wr.alloc (.cells #[.int .i64 s2, .bool x2] 37) = W2 := ⟨_, rfl⟩
        have hb2 : Below wr.heap.size wr W2 := by rw [← hW2]; go_grown
        have hX2 : W2.heap[wr.heap.size]? = some (.cells #[.int .i64 s2, .bool x2] 37 (0, 0)) := by rw [← hW2]; exact heap_new _ _
        obtain ⟨p0, p1⟩ := cel2 hX2
        have q0 := (hb2.cell (p := ⟨b, o + k * 2, none⟩) hbl').trans d0
        have HB2 := Lib.hid (tr3 HB.out hb2)
        clear HB hb2 hX2 d1
        obtain ⟨t1, ht1⟩ : ∃ t, decide (s2 ≤ s1) = t := ⟨_, rfl⟩
        obtain ⟨t2, ht2⟩ : ∃ t, decide ((1048575 : Int) < s2) = t := ⟨_, rfl⟩
        rw [ht1, ht2] at HSX
        have HSX' := Lib.hid HSX.out
        clear HSX
        cases t1 with
        | true =>
          have ht1' : s2 ≤ s1 := by simpa using ht1
          have hrr : r = 4 := by rw [← HRR.out, if_pos (HST.out (by rw [HSX'.out]; rfl))]
          subst hrr
          go_wp2_with fail
          go_quiet (fail)
          go_wp2_with fail
          go_ret
          exact ⟨rfl, below_drewN HB2.out _⟩
        | false =>
          have ht1' : ¬ s2 ≤ s1 := by simpa using ht1
          cases t2 with
          | true =>
            have ht2' : (1048575 : Int) < s2 := by simpa using ht2
            have hrr : r = 4 := by rw [← HRR.out, if_pos (HST.out (by rw [HSX'.out]; rfl))]
            subst hrr
            go_wp2_with fail
            go_quiet (fail)
            go_wp2_with fail
            go_ret
            exact ⟨rfl, below_drewN HB2.out _⟩
          | false =>
            have ht2' : ¬ (1048575 : Int) < s2 := by simpa using ht2
            have HI1 : Hid (badN l (k + 1) = false) := Lib.hid (by rw [HSX'.out]; rfl)
            go_wp2_with fail
            go_quiet (fail)
            go_wp2_with fail
            go_roundw
            case rel => exact ⟨k + 1, by go_num, by omega, HI1, Lib.hid (below_drewN HB2.out _)⟩
            case measure => simp [intOf]; omega
      · obtain rfl : k = m := by omega
        have hrr : r = 0 := by rw [← HRR.out, HI.out]; rfl
        subst hrr
        go_wp2_with fail
        go_ret
        exact ⟨rfl, HB.out⟩
end Go.Proofs.Ytgbeghaojkhiaaa.gr
