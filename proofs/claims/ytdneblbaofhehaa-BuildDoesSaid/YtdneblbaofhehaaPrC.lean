/- What is wrong with a function, with a program (layer 4). -/
import Derived.Test.YtdneblbaofhehaaPrB
namespace Go.Proofs.Ytdneblbaofhehaa.pr
open Go.ChangeShapes Go.WideShapes Go.ChangeAt Go.RowKit
open Go.Proofs.Ytdneblbaofhehaa.bin Go.Proofs.Ytdneblbaofhehaa.bits Go.Proofs.Ytdneblbaofhehaa.ins
set_option linter.unusedVariables false
set_option linter.unusedSimpArgs false
theorem cel4 {w : World} {g : Nat} {a b c d : Value} {e : TypeId} (h : w.heap[g]? = some (.cells #[a, b, c, d] e (0, 0))) : w.cell? ⟨g, 0, none⟩ = some a ∧ w.cell? ⟨g, 1, none⟩ = some b ∧ w.cell? ⟨g, 2, none⟩ = some c ∧ w.cell? ⟨g, 3, none⟩ = some d := ⟨cel h 0, cel h 1, cel h 2, cel h 3⟩
def ck4 (x : I4) : Int := chkI x.1 x.2.1 x.2.2.1 x.2.2.2
def ld4 (x : I4) (p q : Nat) : Bool := leadsI x.1 x.2.1 x.2.2.1 x.2.2.2 p q
def insR (l : List I4) (q : Nat) : Nat → Int
  | 0 => 0
  | k + 1 => if insR l q k ≠ 0 then insR l q k else if ck4 (l.getD k d4) ≠ 0 then ck4 (l.getD k d4) else if ld4 (l.getD k d4) l.length q then 0 else 11
def okEnd (op : Int) : Bool := op == 0 || op == 18 || op == 25
def fnE (l : List I4) (q : Nat) : Int := if lenE l.length ≠ 0 then lenE l.length else if insR l q l.length ≠ 0 then insR l q l.length else if okEnd (l.getD (l.length - 1) d4).1 then 0 else 12
def fnR (L : List (List I4)) : Nat → Int
  | 0 => 0
  | k + 1 => if fnR L k ≠ 0 then fnR L k else fnE (L.getD k []) L.length
def prE (m : Int) (L : List (List I4)) : Int := if cntE m L.length ≠ 0 then cntE m L.length else fnR L L.length
theorem insR_stay (l : List I4) (q k m : Nat) (h : k ≤ m) (hk : insR l q k ≠ 0) : insR l q m = insR l q k := by
  induction m with
  | zero => rw [show k = 0 by omega]
  | succ m ih =>
    by_cases e : k = m + 1
    · rw [e]
    · have := ih (by omega)
      rw [show insR l q (m + 1) = if insR l q m ≠ 0 then insR l q m else if ck4 (l.getD m d4) ≠ 0 then ck4 (l.getD m d4) else if ld4 (l.getD m d4) l.length q then 0 else 11 from rfl, this, if_pos hk]
theorem fnR_stay (L : List (List I4)) (k m : Nat) (h : k ≤ m) (hk : fnR L k ≠ 0) : fnR L m = fnR L k := by
  induction m with
  | zero => rw [show k = 0 by omega]
  | succ m ih =>
    by_cases e : k = m + 1
    · rw [e]
    · have := ih (by omega)
      rw [show fnR L (m + 1) = if fnR L m ≠ 0 then fnR L m else fnE (L.getD m []) L.length from rfl, this, if_pos hk]
set_option maxRecDepth 20000 in
set_option maxHeartbeats 4000000 in
theorem fn_v (a : Option Addr) (n c q : Nat) (l : List I4) (r : Int) (w : World) (h : RV 4 enI w (.slice a n c) l) (hq : q ≤ 100000) (hr : fnE l q = r) :
    Calls Try.prog 27 #[.slice a n c, .int .i64 (q : Int)] w fun e w' => e = .returned (.int .i64 r) ∧ Below w.heap.size w w' := by
  obtain ⟨hnl, hnc, hcm⟩ := h.len
  unfold maxLen at hcm
  have HR0 := Lib.hid h
  have HNL := Lib.hid hnl
  unfold fnE at hr
  rw [← hnl] at hr
  obtain ⟨e1, he1⟩ : ∃ e, lenE n = e := ⟨_, rfl⟩
  rw [he1] at hr
  have CL := Lib.hid (len_v n e1 w he1)
  by_cases h1 : e1 = 0
  · subst h1
    rw [if_neg (by decide)] at hr
    have hn1 : 1 ≤ n ∧ n ≤ 200 := by
      unfold lenE at he1
      by_cases h0 : n = 0
      · rw [if_pos h0] at he1; omega
      · rw [if_neg h0] at he1
        by_cases h2 : 200 < n
        · rw [if_pos h2] at he1; omega
        · omega
    obtain ⟨hn0, hn200⟩ := hn1
    have HRR := Lib.hid hr
    have h0 : Hid (Below w.heap.size w w) := Lib.hid (Below.refl _ _)
    clear h hnl hr he1
    go_enter Try.func27, Try.ntmps27
    go_wp2_with (go_at_call 30; (refine CL.out.mono ?_); rintro e w' ⟨rfl, rfl⟩)
    go_loopw [17] (fun i wr => ∃ k : Nat, i = .int .i64 (k : Int) ∧ k ≤ n ∧ Hid (insR l q k = 0) ∧ Hid (Below w.heap.size w wr)) (fun i _ => n - (intOf i).toNat)
    case atStart => exact ⟨0, rfl, by omega, Lib.hid rfl, h0⟩
    case round =>
      clear h0
      obtain ⟨k, rfl, hk, HI, HB⟩ := hrel
      by_cases hlt : k < n
      · obtain ⟨b, o, rfl, hbl, c0, c1, c2, c3⟩ := RV.four (HR0.out.below HB.out) k hlt
        have hst := insR_stay l q (k + 1) n (by omega)
        have hsx : insR l q (k + 1) = if ck4 (l.getD k d4) ≠ 0 then ck4 (l.getD k d4) else if ld4 (l.getD k d4) l.length q then 0 else 11 := by rw [insR, if_neg (by rw [HI.out]; decide)]
        rw [← HNL.out] at hsx
        obtain ⟨⟨op, A, B, C⟩, hx⟩ : ∃ x, l.getD k d4 = x := ⟨_, rfl⟩
        rw [hx] at c0 c1 c2 c3 hsx
        obtain ⟨cc, hcc⟩ : ∃ cc, ck4 (op, A, B, C) = cc := ⟨_, rfl⟩
        obtain ⟨ll, hll⟩ : ∃ ll, ld4 (op, A, B, C) n q = ll := ⟨_, rfl⟩
        rw [hcc, hll] at hsx
        have CC := Lib.hid (fun w => pchk_of op A B C cc w hcc)
        have CD := Lib.hid (fun w => leads_v op A B C n q ll w hll)
        have HST := Lib.hid hst
        have HSX := Lib.hid hsx
        have hplI : (k : Int) < (n : Int) := by omega
        obtain ⟨W2, hW2⟩ : ∃ W2, wr.alloc (.cells #[.int .i64 op, .int .i64 A, .int .i64 B, .int .i64 C] 33) = W2 := ⟨_, rfl⟩
        have hb2 : Below wr.heap.size wr W2 := by rw [← hW2]; go_grown
        have HX2 := Lib.hid (show W2.heap[wr.heap.size]? = some (.cells #[.int .i64 op, .int .i64 A, .int .i64 B, .int .i64 C] 33 (0, 0)) by rw [← hW2]; exact heap_new _ _ _)
        have HB2 := Lib.hid (tr3 HB.out hb2)
        have HW2 := Lib.hid hW2
        clear hst hsx hx hcc hll hW2 hb2 HB
        go_wp2_with fail
        rw [HW2.out]
        refine (CC.out _).mono ?_
        rintro e w5 ⟨rfl, hb5⟩
        obtain ⟨p0, p1, p2, p3⟩ := cel4 (kb HX2.out hb5)
        have HB5 := Lib.hid (tr3 HB2.out hb5)
        clear hb5 c0 c1 c2 c3 HW2
        by_cases hc0 : cc = 0
        · subst hc0
          cases ll with
          | true =>
            have HI1 : Hid (insR l q (k + 1) = 0) := Lib.hid (by rw [HSX.out]; simp)
            go_wp2_with fail
            refine (CD.out _).mono ?_
            rintro e w6 ⟨rfl, hb6⟩
            have HB6 := Lib.hid (tr3 HB5.out hb6)
            clear hb6
            go_wp2_with fail
            go_roundw
            case rel => exact ⟨k + 1, by go_num, by omega, HI1, HB6⟩
            case measure => simp [intOf]; omega
          | false =>
            have hi1 : insR l q (k + 1) = 11 := by rw [HSX.out]; simp
            have hrv : r = 11 := by
              have h2 := HST.out (by rw [hi1]; decide)
              rw [hi1] at h2
              rw [← HRR.out, h2, if_pos (by decide)]
            subst hrv
            go_wp2_with fail
            refine (CD.out _).mono ?_
            rintro e w6 ⟨rfl, hb6⟩
            have HB6 := Lib.hid (tr3 HB5.out hb6)
            clear hb6
            go_wp2_with fail
            go_ret
            exact ⟨rfl, HB6.out⟩
        · have hcb : (cc == 0) = false := by simpa using hc0
          have hcn : (cc != 0) = true := by simpa using hc0
          have hi1 : insR l q (k + 1) = cc := by rw [HSX.out, if_pos hc0]
          have hrv : r = cc := by
            have h2 := HST.out (by rw [hi1]; exact hc0)
            rw [hi1] at h2
            rw [← HRR.out, h2, if_pos hc0]
          subst hrv
          go_wp2_with fail
          go_ret
          exact ⟨rfl, HB5.out⟩
      · obtain rfl : k = n := by omega
        obtain ⟨b, o, rfl, hbl, c0, c1, c2, c3⟩ := RV.four (HR0.out.below HB.out) (k - 1) (by omega)
        obtain ⟨⟨op, A, B, C⟩, hx⟩ : ∃ x, l.getD (k - 1) d4 = x := ⟨_, rfl⟩
        have hrr := HRR.out
        rw [hx] at c0 hrr
        rw [if_neg (by rw [HI.out]; decide)] at hrr
        have hk1 : ((k - 1 : Nat) : Int) = (k : Int) - 1 := by omega
        obtain ⟨j, hj⟩ : ∃ j, k - 1 = j := ⟨_, rfl⟩
        rw [hj] at c0 hk1
        have hwr : IntKind.i64.wrap ((k : Int) - 1) = (j : Int) := by rw [IntKind.wrap_i64]; omega
        have hwr2 : wrap64 ((k : Int) - 1) = (j : Int) := by unfold wrap64; omega
        have hkj : (k : Int) - 1 = (j : Int) := by omega
        have hjk : (j : Int) < (k : Int) := by omega
        clear c1 c2 c3 hx HI hk1
        unfold okEnd at hrr
        by_cases o0 : op = 0
        · subst o0
          have : r = 0 := by rw [← hrr]; rfl
          subst this
          clear hrr
          go_wp2_with fail
          go_ret
          exact ⟨rfl, HB.out⟩
        · have o0b : (op == 0) = false := by simpa using o0
          by_cases o1 : op = 18
          · subst o1
            have : r = 0 := by rw [← hrr]; rfl
            subst this
            clear hrr
            go_wp2_with fail
            go_ret
            exact ⟨rfl, HB.out⟩
          · have o1b : (op == 18) = false := by simpa using o1
            by_cases o2 : op = 25
            · subst o2
              have : r = 0 := by rw [← hrr]; rfl
              subst this
              clear hrr
              go_wp2_with fail
              go_ret
              exact ⟨rfl, HB.out⟩
            · have o2b : (op == 25) = false := by simpa using o2
              have : r = 12 := by rw [← hrr, o0b, o1b, o2b]; rfl
              subst this
              clear hrr
              go_wp2_with fail
              go_ret
              exact ⟨rfl, HB.out⟩
  · have h1b : (e1 == 0) = false := by simpa using h1
    have h1n : (e1 != 0) = true := by simpa using h1
    rw [if_pos h1] at hr
    subst hr
    clear h hnl he1
    go_enter Try.func27, Try.ntmps27
    go_wp2_with (go_at_call 30; (refine CL.out.mono ?_); rintro e w' ⟨rfl, rfl⟩)
    go_ret
    exact ⟨rfl, Below.refl _ _⟩
end Go.Proofs.Ytdneblbaofhehaa.pr
