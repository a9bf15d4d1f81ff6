/- The document's search along edges (layer 33). -/
import Derived.Test.YtagcgffofddcnaaGrT
namespace Go.Proofs.Ytagcgffofddcnaa.gr
open Go.ChangeShapes Go.WideShapes Go.ChangeAt Go.RowKit
open Go.Proofs.Ytagcgffofddcnaa.ro
open Go.Proofs.Ytagcgffofddcnaa
set_option linter.unusedVariables false
set_option linter.unusedSimpArgs false
set_option maxRecDepth 1000000 in
theorem a2_eq (a b c d : Int) (v : Bool) (h : (a == c && b == d) = v) (w : World) : Sem.run Try.prog (binOp .eql 44 (.agg #[.int .i64 a, .int .i64 b]) (.agg #[.int .i64 c, .int .i64 d])) w = .ok (.bool v) w := by
  have hi : ∃ i, Try.prog.info? 3 = some i := ⟨_, rfl⟩
  obtain ⟨i, hi⟩ := hi
  have e : (Op.equalIn 10000 44 (.agg #[.int .i64 a, .int .i64 b]) (.agg #[.int .i64 c, .int .i64 d])).run Try.prog w = .ok v w := by
    rw [show (10000 : Nat) = 9999 + 1 from rfl, run_equalIn_array w 9999 _ _ Try.underlying44 hi]
    rw [← h]
    have hc : Try.prog.cellsOf 3 = 1 := by kernel_rfl
    rw [hc]
    by_cases h1 : a = c <;> by_cases h2 : b = d <;> simp [Op.eqItems, List.range, List.range.loop, go_sem, Try.underlying3, h1, h2]
  simp only [binOp]
  simp [Op.equal, Op.maxDepth, e]
theorem RV.four {w : World} {a : Option Addr} {n c : Nat} {E : List Q4} (h : RV 4 enQ w (.slice a n c) E) (i : Nat) {q : Q4} (hq : E[i]? = some q) :
    ∃ b o, a = some ⟨b, o, none⟩ ∧ b < w.heap.size ∧ w.cell? ⟨b, o + i * 4, none⟩ = some (.int .i64 q.1) ∧ w.cell? ⟨b, o + i * 4 + 1, none⟩ = some (.int .i64 q.2.1) ∧ w.cell? ⟨b, o + i * 4 + 2, none⟩ = some (.int .i64 q.2.2.1) ∧ w.cell? ⟨b, o + i * 4 + 3, none⟩ = some (.int .i64 q.2.2.2) := by
  obtain ⟨b, o, e, hl, hc⟩ := h.at i q hq
  refine ⟨b, o, e, hl, ?_, ?_, ?_, ?_⟩
  · have := hc 0 _ rfl; rwa [Nat.add_zero] at this
  · have := hc 1 _ rfl; rwa [← Nat.add_assoc] at this
  · have := hc 2 _ rfl; rwa [← Nat.add_assoc] at this
  · have := hc 3 _ rfl; rwa [← Nat.add_assoc] at this
def BefC (E : List Q4) (n : Nat) : Prop := ∀ (ad : Option Addr) (c : Nat) (a1 a2 b1 b2 : Int) (w : World), RV 4 enQ w (.slice ad E.length c) E →
    Calls Try.prog 22 #[.slice ad n c, .agg #[.int .i64 a1, .int .i64 a2], .agg #[.int .i64 b1, .int .i64 b2]] w fun e w' => e = .returned (.bool (befN E (a1, a2) n (b1, b2))) ∧ Below w.heap.size w w'
set_option maxRecDepth 20000 in
set_option maxHeartbeats 8000000 in
theorem bef_step (E : List Q4) (n : Nat) (hE : E.length ≤ 1000000) (hn : n ≤ E.length) (IH : ∀ j, j < n → BefC E j) : BefC E n := by
  intro ad c a1 a2 b1 b2 w h
  have hc := h.len.2
  unfold maxLen at hc
  have HR := Lib.hid h
  have HIH := Lib.hid IH
  have HNE := Lib.hid hn
  obtain ⟨r, hr⟩ : ∃ r, befN E (a1, a2) n (b1, b2) = r := ⟨_, rfl⟩
  rw [hr]
  have hbd : (n : Int) ≤ 1000000 := by omega
  have hnc : n ≤ c := by omega
  clear h hc
  obtain ⟨P, hP⟩ : ∃ P : Ending → World → Prop, (fun (e : Ending) (w' : World) => e = .returned (.bool r) ∧ Below w.heap.size w w') = P := ⟨_, rfl⟩
  have HF : Hid (∀ x w', x = r → Below w.heap.size w w' → P (.returned (.bool x)) w') := Lib.hid (by rintro x w' rfl hb; rw [← hP]; exact ⟨rfl, hb⟩)
  rw [hP]
  clear hP
  have HRR := Lib.hid hr
  have hr0 : Hid (befN E (a1, a2) n (b1, b2) = r) := HRR
  clear hr IH hn
  obtain ⟨W0, hW0⟩ : ∃ W, w.alloc (.cells #[.int .i64 a1, .int .i64 a2] 44) = W := ⟨_, rfl⟩
  obtain ⟨W, hW⟩ : ∃ W, W0.alloc (.cells #[.int .i64 b1, .int .i64 b2] 44) = W := ⟨_, rfl⟩
  have hb0 : Below w.heap.size w W0 := by rw [← hW0]; go_grown
  have hb1 : Below W0.heap.size W0 W := by rw [← hW]; go_grown
  have hx0 : W0.heap[w.heap.size]? = some (.cells #[.int .i64 a1, .int .i64 a2] 44 (0, 0)) := by rw [← hW0]; exact heap_new _ _
  have hx1 : W.heap[W0.heap.size]? = some (.cells #[.int .i64 b1, .int .i64 b2] 44 (0, 0)) := by rw [← hW]; exact heap_new _ _
  have HX0 := Lib.hid (kb hx0 hb1)
  have HX1 := Lib.hid hx1
  have HBW := Lib.hid (tr3 hb0 hb1)
  have hz : W0.heap.size = w.heap.size + 1 := by rw [← hW0]; simp
  have HZ := Lib.hid hz
  obtain ⟨gA, hgA⟩ : ∃ g, w.heap.size = g := ⟨_, rfl⟩
  obtain ⟨gB, hgB⟩ : ∃ g, W0.heap.size = g := ⟨_, rfl⟩
  rw [hgA] at HX0
  rw [hgB] at HX1
  have h00 : Hid (Below W.heap.size W W) := Lib.hid (Below.refl _ _)
  clear hb0 hb1 hx0 hx1 hz
  go_enter Try.func22, Try.ntmps22
  go_wp2_with fail
  go_loopw [7] (fun i wr => ∃ (x : Int) (k : Nat), i = .int .i64 x ∧ Hid (x + 1 = (k : Int)) ∧ k ≤ n ∧ Hid (befN E (a1, a2) k (b1, b2) = r) ∧ Hid (Below W.heap.size W wr)) (fun i _ => (intOf i + 1).toNat)
  case atStart => exact ⟨(n : Int) - 1, n, by first | rfl | go_num, Lib.hid (by omega), Nat.le_refl _, hr0, h00⟩
  case round =>
    clear h00 hr0
    obtain ⟨x, k, rfl, HK, hk, HI, HB⟩ := hrel
    have HBw := Lib.hid (tr3 HBW.out HB.out)
    by_cases hk0 : k = 0
    · obtain rfl : x = -1 := by have := HK.out; omega
      have hrr : Hid (false = r) := Lib.hid (by rw [← HI.out, hk0]; rfl)
      have hneg : ¬ (0 : Int) ≤ -1 := by omega
      have hnegd : decide ((0 : Int) ≤ -1) = false := by decide
      clear hk0
      go_wp2_with fail
      first | exact HF.out _ _ hrr.out HBw.out | (go_ret; exact HF.out _ _ hrr.out HBw.out)
    · obtain ⟨j, hj⟩ : ∃ j, k - 1 = j := ⟨_, rfl⟩
      obtain rfl : x = (j : Int) := by have := HK.out; omega
      have hkj : k = j + 1 := by omega
      have hjn : j < n := by omega
      obtain ⟨q, hq⟩ : ∃ q, E[j]? = some q := ⟨_, List.getElem?_eq_getElem (by have := HNE.out; omega)⟩
      obtain ⟨b, o, rfl, hbl, c0, c1, c2, c3⟩ := RV.four (HR.out.below HBw.out) j hq
      have HST : Hid ((if q.2.2.1 = b1 ∧ q.2.2.2 = b2 ∧ ((q.1 = a1 ∧ q.2.1 = a2) ∨ befN E (a1, a2) j (q.1, q.2.1) = true) then true else befN E (a1, a2) j (b1, b2)) = r) := Lib.hid (by
        have h9 := HI.out
        rw [hkj, befN] at h9
        have hg : E.getD j q0 = q := by rw [List.getD_eq_getElem?_getD, hq]; rfl
        rw [hg] at h9
        exact h9)
      obtain ⟨e0, he0⟩ : ∃ e, q.1 = e := ⟨_, rfl⟩
      obtain ⟨e1, he1⟩ : ∃ e, q.2.1 = e := ⟨_, rfl⟩
      obtain ⟨e2, he2⟩ : ∃ e, q.2.2.1 = e := ⟨_, rfl⟩
      obtain ⟨e3, he3⟩ : ∃ e, q.2.2.2 = e := ⟨_, rfl⟩
      rw [he0, he1, he2, he3] at HST
      rw [he0] at c0
      rw [he1] at c1
      rw [he2] at c2
      rw [he3] at c3
      have HKJ := Lib.hid hkj
      clear hj hkj hq he0 he1 he2 he3 HI hk0
      have hjI : (j : Int) < (n : Int) := by omega
      have hj0 : (0 : Int) ≤ (j : Int) := by omega
      have hjc : (j : Int) ≤ (c : Int) := by omega
      have hjc' : j ≤ c := by omega
      have hwj : IntKind.i64.wrap ((j : Int) - 1) = (j : Int) - 1 := by rw [IntKind.wrap_i64]; omega
      obtain ⟨W2, hW2⟩ : ∃ W2, wr.alloc (.cells #[.int .i64 e0, .int .i64 e1, .int .i64 e2, .int .i64 e3] 43) = W2 := ⟨_, rfl⟩
      have hbW2 : Below wr.heap.size wr W2 := by rw [← hW2]; go_grown
      have hX2 : W2.heap[wr.heap.size]? = some (.cells #[.int .i64 e0, .int .i64 e1, .int .i64 e2, .int .i64 e3] 43 (0, 0)) := by rw [← hW2]; exact heap_new _ _
      obtain ⟨g8, hg8⟩ : ∃ g, wr.heap.size = g := ⟨_, rfl⟩
      rw [hg8] at hX2
      have z0 := cel hX2 0
      have z1 := cel hX2 1
      have z2 := cel hX2 2
      have z3 := cel hX2 3
      have HB2 := Lib.hid (tr3 HB.out hbW2)
      have HA2 := Lib.hid (kb HX0.out HB2.out)
      have HY2 := Lib.hid (kb HX1.out HB2.out)
      obtain ⟨p0, p1⟩ := cel2 HA2.out
      obtain ⟨y0, y1⟩ := cel2 HY2.out
      have HBw2 := Lib.hid (tr3 HBW.out HB2.out)
      have hxm : Hid ((j : Int) - 1 + 1 = (j : Int)) := Lib.hid (by omega)
      by_cases hm : e2 = b1 ∧ e3 = b2
      · obtain ⟨hm1, hm2⟩ := hm
        subst hm1
        subst hm2
        have hd1 : (e2 == e2) = true := by simp
        have hd2 : (e3 == e3) = true := by simp
        have hd3 : (e2 != e2) = false := by simp
        have hd4 : (e3 != e3) = false := by simp
        obtain ⟨W3, hW3⟩ : ∃ W3, W2.alloc (.cells #[.int .i64 e0, .int .i64 e1] 44) = W3 := ⟨_, rfl⟩
        have hbW3 : Below W2.heap.size W2 W3 := by rw [← hW3]; go_grown
        have hX3 : W3.heap[W2.heap.size]? = some (.cells #[.int .i64 e0, .int .i64 e1] 44 (0, 0)) := by rw [← hW3]; exact heap_new _ _
        obtain ⟨g9, hg9⟩ : ∃ g, W2.heap.size = g := ⟨_, rfl⟩
        rw [hg9] at hX3
        have HB3 := Lib.hid (tr3 HB2.out hbW3)
        have HX3 := Lib.hid hX3
        obtain ⟨f0, f1⟩ := cel2 hX3
        obtain ⟨p0', p1'⟩ := cel2 (kb HA2.out hbW3)
        have HBw3 := Lib.hid (tr3 HBW.out HB3.out)
        obtain ⟨v, hv⟩ : ∃ v, (e0 == a1 && e1 == a2) = v := ⟨_, rfl⟩
        have hEq : ∀ w9 : World, Sem.run Try.prog (binOp .eql 44 (.agg #[.int .i64 e0, .int .i64 e1]) (.agg #[.int .i64 a1, .int .i64 a2])) w9 = .ok (.bool v) w9 := fun w9 => a2_eq e0 e1 a1 a2 v hv w9
        have HV : Hid (v = true ↔ (e0 = a1 ∧ e1 = a2)) := Lib.hid (by rw [← hv]; simp)
        clear hv hX2 hX3 hbW2 hbW3
        cases v with
        | true =>
          have hrr : Hid (true = r) := Lib.hid (by
            have h9 := HST.out
            rw [if_pos ⟨rfl, rfl, .inl (HV.out.1 rfl)⟩] at h9
            exact h9)
          go_wp2_with fail
          go_quiet (fail)
          go_wp2_with fail
          first | exact HF.out _ _ hrr.out (below_drewN HBw3.out _) | (go_ret; exact HF.out _ _ hrr.out (below_drewN HBw3.out _))
        | false =>
          obtain ⟨v2, hv2⟩ : ∃ v2, befN E (a1, a2) j (e0, e1) = v2 := ⟨_, rfl⟩
          have HC : Hid (∀ w9, Below W3.heap.size W3 w9 → Calls Try.prog 22 #[.slice (some ⟨b, o, none⟩) j c, .agg #[.int .i64 a1, .int .i64 a2], .agg #[.int .i64 e0, .int .i64 e1]] w9 fun e w' => e = .returned (.bool v2) ∧ Below w9.heap.size w9 w') := Lib.hid (fun w9 hb => by
            rw [← hv2]
            exact HIH.out j hjn _ c a1 a2 e0 e1 w9 (HR.out.below (tr3 HBw3.out hb)))
          have HS : Hid (∀ w', Below W3.heap.size W3 w' → w'.cell? ⟨gA, 0, none⟩ = some (.int .i64 a1) ∧ w'.cell? ⟨gA, 1, none⟩ = some (.int .i64 a2) ∧ w'.cell? ⟨g9, 0, none⟩ = some (.int .i64 e0) ∧ w'.cell? ⟨g9, 1, none⟩ = some (.int .i64 e1)) := Lib.hid (fun w' hb => by
            obtain ⟨u0, u1⟩ := cel2 (kb HX0.out (tr3 HB3.out hb))
            obtain ⟨u2, u3⟩ := cel2 (kb HX3.out hb)
            exact ⟨u0, u1, u2, u3⟩)
          have hnv : ¬ (e0 = a1 ∧ e1 = a2) := fun h => by have := HV.out.2 h; simp at this
          have HT : Hid (v2 = true → true = r) := Lib.hid (fun e9 => by
            have h9 := HST.out
            rw [if_pos ⟨rfl, rfl, .inr (hv2.trans e9)⟩] at h9
            exact h9)
          have HU : Hid (v2 = false → befN E (a1, a2) j (e2, e3) = r) := Lib.hid (fun e9 => by
            have h9 := HST.out
            rw [if_neg (by rintro ⟨_, _, h | h⟩; exact hnv h; rw [hv2, e9] at h; simp at h)] at h9
            exact h9)
          clear hnv
          clear hv2
          go_wp2_with fail
          go_region_held3 (fun w' => w'.cell? ⟨gA, 0, none⟩ = some (.int .i64 a1) ∧ w'.cell? ⟨gA, 1, none⟩ = some (.int .i64 a2) ∧ w'.cell? ⟨g9, 0, none⟩ = some (.int .i64 e0) ∧ w'.cell? ⟨g9, 1, none⟩ = some (.int .i64 e1)) (first | (with_reducible assumption) | exact HS.out _ hbb5 | (refine HS.out _ ?_; go_grown; done))
            (first
              | ((go_at_call 22; (with_reducible refine (HC.out _ ?_).mono ?_); (focus (go_grown; done)); rintro e w5 ⟨rfl, hb5⟩; have hbb5 : Below W3.heap.size W3 w5 := by exact tr3 (by go_grown) hb5)))
          all_goals
            have HBf := Lib.hid (tr3 HB3.out hbb5)
            have HBg := Lib.hid (tr3 HBW.out HBf.out)
            cases v2 with
            | true =>
              have hrr : Hid (true = r) := Lib.hid (HT.out (by first | rfl | trivial))
              go_wp2_with fail
              first | exact HF.out _ _ hrr.out HBg.out | (go_ret; exact HF.out _ _ hrr.out HBg.out)
            | false =>
              have HI1 : Hid (befN E (a1, a2) j (e2, e3) = r) := Lib.hid (HU.out (by first | rfl | trivial))
              go_wp2_with fail
              go_roundw
              case rel => exact ⟨(j : Int) - 1, j, by first | rfl | go_num, hxm, by omega, HI1, HBf⟩
              case measure => first | (simp [intOf]; done) | (simp [intOf]; omega)
      · have HI1 : Hid (befN E (a1, a2) j (b1, b2) = r) := Lib.hid (by
          have h9 := HST.out
          rw [if_neg (by rintro ⟨h1, h2, _⟩; exact hm ⟨h1, h2⟩)] at h9
          exact h9)
        clear hX2 hbW2
        by_cases hm1 : e2 = b1
        · have hm2 : ¬ e3 = b2 := fun h => hm ⟨hm1, h⟩
          have hd1 : (e2 == b1) = true := by simpa using hm1
          have hd3 : (e2 != b1) = false := by simpa using hm1
          have hd2 : (e3 == b2) = false := by simpa using hm2
          have hd4 : (e3 != b2) = true := by simpa using hm2
          clear hm hm1
          go_wp2_with fail
          go_roundw
          case rel => exact ⟨(j : Int) - 1, j, by first | rfl | go_num, hxm, by omega, HI1, HB2⟩
          case measure => first | (simp [intOf]; done) | (simp [intOf]; omega)
        · have hd1 : (e2 == b1) = false := by simpa using hm1
          have hd3 : (e2 != b1) = true := by simpa using hm1
          go_wp2_with fail
          go_roundw
          case rel => exact ⟨(j : Int) - 1, j, by first | rfl | go_num, hxm, by omega, HI1, HB2⟩
          case measure => first | (simp [intOf]; done) | (simp [intOf]; omega)
theorem bef_all (E : List Q4) (hE : E.length ≤ 1000000) : ∀ n, n ≤ E.length → BefC E n := by
  intro n
  induction n using Nat.strongRecOn with
  | ind n ih => exact fun hn => bef_step E n hE hn (fun j hj => ih j hj (by omega))
end Go.Proofs.Ytagcgffofddcnaa.gr
