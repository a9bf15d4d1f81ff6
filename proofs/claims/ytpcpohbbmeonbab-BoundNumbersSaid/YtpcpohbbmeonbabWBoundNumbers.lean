/- How many frames, slots and steps any run needs, and how it may be run: the law BoundNumbers answers true. No condition. -/
import Derived.Test.YtpcpohbbmeonbabParams
import Derived.Test.YtpcpohbbmeonbabSinkRef
import Derived.Outline
namespace Go.Proofs.Ytpcpohbbmeonbab.boundNumbers
open Go.ChangeShapes Go.WideShapes Go.ChangeAt Go.RowKit
set_option linter.unusedVariables false
theorem eq52 (a b c d n : Int) (w : World) : (binOp .eql 52 (.agg #[.int .i64 a, .int .i64 b, .int .i64 c, .int .i64 d, .int .i64 n, .bool false, .bool false]) (.agg #[.int .i64 a, .int .i64 b, .int .i64 c, .int .i64 d, .int .i64 n, .bool false, .bool false])).run Try.prog w = .ok (.bool true) w := by
  have h : (Op.equalIn 10000 52 (.agg #[.int .i64 a, .int .i64 b, .int .i64 c, .int .i64 d, .int .i64 n, .bool false, .bool false]) (.agg #[.int .i64 a, .int .i64 b, .int .i64 c, .int .i64 d, .int .i64 n, .bool false, .bool false])).run Try.prog w = .ok true w := by
    rw [show (10000 : Nat) = 9999 + 1 from rfl, run_equalIn_struct w 9999 52 _ _ (by kernel_rfl) (by kernel_rfl)]
    simp [go_sem, Try.underlying52]
  simp only [binOp]
  simp [Op.equal, Op.maxDepth, h]
set_option maxHeartbeats 4000000 in
set_option maxRecDepth 20000 in
theorem c_ok (f wk th ins win v : Int) (x : Option Addr) (n c : Nat) (xs : List Int) (w : World) (hV : View w (.slice x n c) xs) (hn : n ≤ 2000) (hf : f ≤ 1099511627776) (hv : Hid ((if f < 1 then 1 else f) = v)) (hmax : (if f < 1 then (1 : Int) else f) = v) (h0 : 1 ≤ v) (h1 : v ≤ 1099511627776) (hO : Hid (Okay wk v th (v + 2))) (hn1 : n ≤ 1000) (o1 : v ≤ 254) (a0 : 1 ≤ wk) (a1 : wk ≤ 64) (b0 : 1 ≤ th) (b1 : th ≤ 64) :
    Calls Try.prog 9 #[.int .i64 f, .slice x n c, .int .i64 wk, .int .i64 th, .int .i64 ins, .int .i64 win] w fun e w' => e = .returned (.bool true) ∧ Below w.heap.size w w' := by
  have hd1 : decide (2000 < n) = false := by simp; omega
  have HL := Lib.hid (View.len hV).1
  have hlx : xs.length ≤ 2000 := by rw [← HL.out]; exact hn
  have he := eq52
  obtain ⟨sv, hsv⟩ : ∃ s, Hid (stV ins wk win = s) := ⟨_, Lib.hid rfl⟩
  go_enter Try.func9, Try.ntmps9
  go_wp2_with (first | (go_at_call 28; refine (works35 _).mono ?_; rintro e w1 ⟨rfl, hb1⟩) | (at_builtin; refine wpList_copy_view rfl _ _ rfl w1.heap.size w.heap.size rfl ?o1 ?b1 xs ?v1 (by omega) ?_))
  case o1 => exact (heap_made w1 _)
  case b1 => exact hb1.size
  case v1 => exact (hV.below hb1).below ((Below.refl _ _).alloc (Nat.le_refl _) _)
  intro va w2 hVa hb2
  have hbw : Below w.heap.size w w2 := (hb1.alloc hb1.size _).trans hb2
  clear hb2 hb1
  obtain ⟨aa, ca, hva⟩ : ∃ aa ca, va = .slice aa n ca := by obtain ⟨x, y, h, _⟩ := hVa; exact ⟨x, y, by rw [HL.out]; exact h⟩
  subst hva
  clear hVa hV hlx
  go_wp2_with (first | (go_at_call 29; refine (frames_any _ _ aa n ca _ f _ v _ hv.out).mono ?_; rintro e w' ⟨rfl, rfl⟩) | (go_at_call 30; refine (deque_any _ _ aa n ca _ f _ v _ hv h0 h1).mono ?_; rintro e w' ⟨rfl, rfl⟩) | (go_at_call 31; refine (steps_any ins wk win _).mono ?_; rw [hsv.out]; rintro e w' ⟨rfl, rfl⟩) | (go_at_call 32; refine (rsteps_any ins wk win _).mono ?_; rw [hsv.out]; rintro e w' ⟨rfl, rfl⟩) | (go_at_call 33; refine (params_ok aa n ca f v wk th _ hv h0 o1 a0 a1 b0 b1 hn1).mono ?_; rintro e w3 ⟨rfl, hb3⟩; have hb3' : Below w.heap.size w w3 := Below.trans (by have := hbw.size; go_grown) (hb3.mono (by have := hbw.size; simp; omega)); clear hb3) | (go_at_call 34; refine (right_v wk v th (v + 2) true _ (Lib.hid ⟨fun _ => rfl, fun _ => hO.out⟩)).mono ?_; rintro e w4 ⟨rfl, hb4⟩; have q0 : w4.cell? ⟨w3.heap.size, 0, none⟩ = some (.int .i64 wk) := keepc (by go_simp) hb4; have q1 : w4.cell? ⟨w3.heap.size, 1, none⟩ = some (.int .i64 th) := keepc (by go_simp) hb4; have q2 : w4.cell? ⟨w3.heap.size, 2, none⟩ = some (.int .i64 v) := keepc (by go_simp) hb4; have q3 : w4.cell? ⟨w3.heap.size, 3, none⟩ = some (.int .i64 (v + 2)) := keepc (by go_simp) hb4; have q4 : w4.cell? ⟨w3.heap.size, 4, none⟩ = some (.int .i64 n) := keepc (by go_simp) hb4; have q5 : w4.cell? ⟨w3.heap.size, 5, none⟩ = some (.bool false) := keepc (by go_simp) hb4; have q6 : w4.cell? ⟨w3.heap.size, 6, none⟩ = some (.bool false) := keepc (by go_simp) hb4; have hb4' : Below w.heap.size w w4 := Below.trans (by have := hb3'.size; go_grown) (hb4.mono (by have := hb3'.size; simp; omega)); clear hb4))
  all_goals
    go_ret
    exact ⟨rfl, hb4'⟩
set_option maxHeartbeats 4000000 in
set_option maxRecDepth 20000 in
theorem c_no (f wk th ins win v : Int) (x : Option Addr) (n c : Nat) (xs : List Int) (w : World) (hV : View w (.slice x n c) xs) (hn : n ≤ 2000) (hf : f ≤ 1099511627776) (hv : Hid ((if f < 1 then 1 else f) = v)) (hmax : (if f < 1 then (1 : Int) else f) = v) (h0 : 1 ≤ v) (h1 : v ≤ 1099511627776) (hO : Hid (¬ Okay wk v th (v + 2))) (hn1 : n ≤ 1000) :
    Calls Try.prog 9 #[.int .i64 f, .slice x n c, .int .i64 wk, .int .i64 th, .int .i64 ins, .int .i64 win] w fun e w' => e = .returned (.bool true) ∧ Below w.heap.size w w' := by
  have hd1 : decide (2000 < n) = false := by simp; omega
  have HL := Lib.hid (View.len hV).1
  have hlx : xs.length ≤ 2000 := by rw [← HL.out]; exact hn
  have he := eq52
  obtain ⟨sv, hsv⟩ : ∃ s, Hid (stV ins wk win = s) := ⟨_, Lib.hid rfl⟩
  go_enter Try.func9, Try.ntmps9
  go_wp2_with (first | (go_at_call 28; refine (works35 _).mono ?_; rintro e w1 ⟨rfl, hb1⟩) | (at_builtin; refine wpList_copy_view rfl _ _ rfl w1.heap.size w.heap.size rfl ?o1 ?b1 xs ?v1 (by omega) ?_))
  case o1 => exact (heap_made w1 _)
  case b1 => exact hb1.size
  case v1 => exact (hV.below hb1).below ((Below.refl _ _).alloc (Nat.le_refl _) _)
  intro va w2 hVa hb2
  have hbw : Below w.heap.size w w2 := (hb1.alloc hb1.size _).trans hb2
  clear hb2 hb1
  obtain ⟨aa, ca, hva⟩ : ∃ aa ca, va = .slice aa n ca := by obtain ⟨x, y, h, _⟩ := hVa; exact ⟨x, y, by rw [HL.out]; exact h⟩
  subst hva
  clear hVa hV hlx
  go_wp2_with (first | (go_at_call 29; refine (frames_any _ _ aa n ca _ f _ v _ hv.out).mono ?_; rintro e w' ⟨rfl, rfl⟩) | (go_at_call 30; refine (deque_any _ _ aa n ca _ f _ v _ hv h0 h1).mono ?_; rintro e w' ⟨rfl, rfl⟩) | (go_at_call 31; refine (steps_any ins wk win _).mono ?_; rw [hsv.out]; rintro e w' ⟨rfl, rfl⟩) | (go_at_call 32; refine (rsteps_any ins wk win _).mono ?_; rw [hsv.out]; rintro e w' ⟨rfl, rfl⟩) | (go_at_call 33; refine (params_no1 aa n ca f v wk th _ hv h0 h1 hO).mono ?_; rintro e w3 ⟨rfl, hb3⟩; have hb3' : Below w.heap.size w w3 := Below.trans (by have := hbw.size; go_grown) (hb3.mono (by have := hbw.size; simp; omega)); clear hb3) | (go_at_call 34; refine (right_v wk v th (v + 2) false _ (Lib.hid ⟨fun h => absurd h hO.out, fun h => by cases h⟩)).mono ?_; rintro e w4 ⟨rfl, hb4⟩; have q0 : w4.cell? ⟨w3.heap.size, 0, none⟩ = some (.int .i64 0) := keepc (by go_simp) hb4; have q1 : w4.cell? ⟨w3.heap.size, 1, none⟩ = some (.int .i64 0) := keepc (by go_simp) hb4; have q2 : w4.cell? ⟨w3.heap.size, 2, none⟩ = some (.int .i64 0) := keepc (by go_simp) hb4; have q3 : w4.cell? ⟨w3.heap.size, 3, none⟩ = some (.int .i64 0) := keepc (by go_simp) hb4; have q4 : w4.cell? ⟨w3.heap.size, 4, none⟩ = some (.int .i64 0) := keepc (by go_simp) hb4; have q5 : w4.cell? ⟨w3.heap.size, 5, none⟩ = some (.bool false) := keepc (by go_simp) hb4; have q6 : w4.cell? ⟨w3.heap.size, 6, none⟩ = some (.bool false) := keepc (by go_simp) hb4; have hb4' : Below w.heap.size w w4 := Below.trans (by have := hb3'.size; go_grown) (hb4.mono (by have := hb3'.size; simp; omega)); clear hb4))
  all_goals
    go_ret
    exact ⟨rfl, hb4'⟩
set_option maxHeartbeats 4000000 in
set_option maxRecDepth 20000 in
theorem c_much_ok (f wk th ins win v : Int) (x : Option Addr) (n c : Nat) (xs : List Int) (w : World) (hV : View w (.slice x n c) xs) (hn : n ≤ 2000) (hf : f ≤ 1099511627776) (hv : Hid ((if f < 1 then 1 else f) = v)) (hmax : (if f < 1 then (1 : Int) else f) = v) (h0 : 1 ≤ v) (h1 : v ≤ 1099511627776) (hO : Hid (Okay wk v th (v + 2))) (hn1 : 1000 < n) (o1 : v ≤ 254) (a0 : 1 ≤ wk) (a1 : wk ≤ 64) (b0 : 1 ≤ th) (b1 : th ≤ 64) :
    Calls Try.prog 9 #[.int .i64 f, .slice x n c, .int .i64 wk, .int .i64 th, .int .i64 ins, .int .i64 win] w fun e w' => e = .returned (.bool true) ∧ Below w.heap.size w w' := by
  have hd1 : decide (2000 < n) = false := by simp; omega
  have HL := Lib.hid (View.len hV).1
  have hlx : xs.length ≤ 2000 := by rw [← HL.out]; exact hn
  have he := eq52
  obtain ⟨sv, hsv⟩ : ∃ s, Hid (stV ins wk win = s) := ⟨_, Lib.hid rfl⟩
  go_enter Try.func9, Try.ntmps9
  go_wp2_with (first | (go_at_call 28; refine (works35 _).mono ?_; rintro e w1 ⟨rfl, hb1⟩) | (at_builtin; refine wpList_copy_view rfl _ _ rfl w1.heap.size w.heap.size rfl ?o1 ?b1 xs ?v1 (by omega) ?_))
  case o1 => exact (heap_made w1 _)
  case b1 => exact hb1.size
  case v1 => exact (hV.below hb1).below ((Below.refl _ _).alloc (Nat.le_refl _) _)
  intro va w2 hVa hb2
  have hbw : Below w.heap.size w w2 := (hb1.alloc hb1.size _).trans hb2
  clear hb2 hb1
  obtain ⟨aa, ca, hva⟩ : ∃ aa ca, va = .slice aa n ca := by obtain ⟨x, y, h, _⟩ := hVa; exact ⟨x, y, by rw [HL.out]; exact h⟩
  subst hva
  clear hVa hV hlx
  go_wp2_with (first | (go_at_call 29; refine (frames_any _ _ aa n ca _ f _ v _ hv.out).mono ?_; rintro e w' ⟨rfl, rfl⟩) | (go_at_call 30; refine (deque_any _ _ aa n ca _ f _ v _ hv h0 h1).mono ?_; rintro e w' ⟨rfl, rfl⟩) | (go_at_call 31; refine (steps_any ins wk win _).mono ?_; rw [hsv.out]; rintro e w' ⟨rfl, rfl⟩) | (go_at_call 32; refine (rsteps_any ins wk win _).mono ?_; rw [hsv.out]; rintro e w' ⟨rfl, rfl⟩) | (go_at_call 33; refine (params_no2 aa n ca f v wk th _ hv h0 o1 a0 a1 b0 b1 hn1).mono ?_; rintro e w3 ⟨rfl, hb3⟩; have hb3' : Below w.heap.size w w3 := Below.trans (by have := hbw.size; go_grown) (hb3.mono (by have := hbw.size; simp; omega)); clear hb3))
  all_goals
    go_ret
    exact ⟨rfl, by have := hb3'.size; go_grown⟩
set_option maxHeartbeats 4000000 in
set_option maxRecDepth 20000 in
theorem c_much_no (f wk th ins win v : Int) (x : Option Addr) (n c : Nat) (xs : List Int) (w : World) (hV : View w (.slice x n c) xs) (hn : n ≤ 2000) (hf : f ≤ 1099511627776) (hv : Hid ((if f < 1 then 1 else f) = v)) (hmax : (if f < 1 then (1 : Int) else f) = v) (h0 : 1 ≤ v) (h1 : v ≤ 1099511627776) (hO : Hid (¬ Okay wk v th (v + 2))) (hn1 : 1000 < n) :
    Calls Try.prog 9 #[.int .i64 f, .slice x n c, .int .i64 wk, .int .i64 th, .int .i64 ins, .int .i64 win] w fun e w' => e = .returned (.bool true) ∧ Below w.heap.size w w' := by
  have hd1 : decide (2000 < n) = false := by simp; omega
  have HL := Lib.hid (View.len hV).1
  have hlx : xs.length ≤ 2000 := by rw [← HL.out]; exact hn
  have he := eq52
  obtain ⟨sv, hsv⟩ : ∃ s, Hid (stV ins wk win = s) := ⟨_, Lib.hid rfl⟩
  go_enter Try.func9, Try.ntmps9
  go_wp2_with (first | (go_at_call 28; refine (works35 _).mono ?_; rintro e w1 ⟨rfl, hb1⟩) | (at_builtin; refine wpList_copy_view rfl _ _ rfl w1.heap.size w.heap.size rfl ?o1 ?b1 xs ?v1 (by omega) ?_))
  case o1 => exact (heap_made w1 _)
  case b1 => exact hb1.size
  case v1 => exact (hV.below hb1).below ((Below.refl _ _).alloc (Nat.le_refl _) _)
  intro va w2 hVa hb2
  have hbw : Below w.heap.size w w2 := (hb1.alloc hb1.size _).trans hb2
  clear hb2 hb1
  obtain ⟨aa, ca, hva⟩ : ∃ aa ca, va = .slice aa n ca := by obtain ⟨x, y, h, _⟩ := hVa; exact ⟨x, y, by rw [HL.out]; exact h⟩
  subst hva
  clear hVa hV hlx
  go_wp2_with (first | (go_at_call 29; refine (frames_any _ _ aa n ca _ f _ v _ hv.out).mono ?_; rintro e w' ⟨rfl, rfl⟩) | (go_at_call 30; refine (deque_any _ _ aa n ca _ f _ v _ hv h0 h1).mono ?_; rintro e w' ⟨rfl, rfl⟩) | (go_at_call 31; refine (steps_any ins wk win _).mono ?_; rw [hsv.out]; rintro e w' ⟨rfl, rfl⟩) | (go_at_call 32; refine (rsteps_any ins wk win _).mono ?_; rw [hsv.out]; rintro e w' ⟨rfl, rfl⟩) | (go_at_call 33; refine (params_no1 aa n ca f v wk th _ hv h0 h1 hO).mono ?_; rintro e w3 ⟨rfl, hb3⟩; have hb3' : Below w.heap.size w w3 := Below.trans (by have := hbw.size; go_grown) (hb3.mono (by have := hbw.size; simp; omega)); clear hb3))
  all_goals
    go_ret
    exact ⟨rfl, by have := hb3'.size; go_grown⟩
theorem big (f wk th ins win : Int) (x : Option Addr) (n c : Nat) (w : World) (h : 2000 < n ∨ 1099511627776 < f) :
    Calls Try.prog 9 #[.int .i64 f, .slice x n c, .int .i64 wk, .int .i64 th, .int .i64 ins, .int .i64 win] w fun e w' => e = .returned (.bool true) ∧ Below w.heap.size w w' := by
  by_cases h1 : 2000 < n
  · have hd : decide (2000 < n) = true := by simpa using h1
    go_enter Try.func9, Try.ntmps9
    go_wp2_with (go_at_call 28; refine (works35 _).mono ?_; rintro e w1 ⟨rfl, hb1⟩)
    go_ret
    exact ⟨rfl, hb1⟩
  · have hd : decide (2000 < n) = false := by simpa using h1
    have h2 : 1099511627776 < f := by omega
    have hd2 : decide (1099511627776 < f) = true := by simpa using h2
    go_enter Try.func9, Try.ntmps9
    go_wp2_with (go_at_call 28; refine (works35 _).mono ?_; rintro e w1 ⟨rfl, hb1⟩)
    go_ret
    exact ⟨rfl, hb1⟩
theorem walk (a0 : Int) (a1 : Option Addr) (len1 cap1 : Nat) (z1 : List Int) (a2 : Int) (a3 : Int) (a4 : Int) (a5 : Int) (w : World) (w0 : (Lit.int .i64 a0).wf = true) (w1 : IsRow .i64 w a1 len1 cap1 z1) (w2 : (Lit.int .i64 a2).wf = true) (w3 : (Lit.int .i64 a3).wf = true) (w4 : (Lit.int .i64 a4).wf = true) (w5 : (Lit.int .i64 a5).wf = true) :
    Calls Try.prog 9 #[.int .i64 a0, .slice a1 len1 cap1, .int .i64 a2, .int .i64 a3, .int .i64 a4, .int .i64 a5] w fun e w' => e = .returned (.bool true) ∧ Below w.heap.size w w' := by
  by_cases h : 2000 < len1 ∨ 1099511627776 < a0
  · exact big a0 a2 a3 a4 a5 a1 len1 cap1 w h
  · have hV := view_of_row w1
    obtain ⟨v, hv⟩ : ∃ v, (if a0 < 1 then (1 : Int) else a0) = v := ⟨_, rfl⟩
    have hb : 1 ≤ v ∧ v ≤ 1099511627776 := by rw [← hv]; split <;> omega
    by_cases hO : Okay a2 v a3 (v + 2)
    · have hO' := hO
      obtain ⟨o1, o2, o3, o4, o5, o6, o7, o8⟩ := hO'
      by_cases hn : len1 ≤ 1000
      · exact c_ok a0 a2 a3 a4 a5 v a1 len1 cap1 _ w hV (by omega) (by omega) (Lib.hid hv) hv hb.1 hb.2 (Lib.hid hO) hn (by omega) o1 o2 o5 o6
      · exact c_much_ok a0 a2 a3 a4 a5 v a1 len1 cap1 _ w hV (by omega) (by omega) (Lib.hid hv) hv hb.1 hb.2 (Lib.hid hO) (by omega) (by omega) o1 o2 o5 o6
    · by_cases hn : len1 ≤ 1000
      · exact c_no a0 a2 a3 a4 a5 v a1 len1 cap1 _ w hV (by omega) (by omega) (Lib.hid hv) hv hb.1 hb.2 (Lib.hid hO) hn
      · exact c_much_no a0 a2 a3 a4 a5 v a1 len1 cap1 _ w hV (by omega) (by omega) (Lib.hid hv) hv hb.1 hb.2 (Lib.hid hO) (by omega)
end Go.Proofs.Ytpcpohbbmeonbab.boundNumbers
