/- InsGets, the walk (layer 3). -/
import Derived.Test.YtbokjgmndokifaaDoorInW
import Derived.Test.YtbokjgmndokifaaDoorInG
namespace Go.Proofs.YtbokjgmndokifaaDoor.insGets
open Go.ChangeShapes Go.WideShapes Go.ChangeAt Go.RowKit
open Go.Proofs.YtbokjgmndokifaaDoor.bin Go.Proofs.YtbokjgmndokifaaDoor.bits Go.Proofs.YtbokjgmndokifaaDoor.ins
set_option linter.unusedVariables false
set_option linter.unusedSimpArgs false
theorem get_cases (l : List UInt8) : ∃ y0 y1 y2 y3 g : Int, GV l = .tuple #[.agg #[.int .i64 y0, .int .i64 y1, .int .i64 y2, .int .i64 y3], .int .i64 g] ∧ chkI y0 y1 y2 y3 = 0 ∧ (g = 0 → encI y0 y1 y2 y3 = l) := by
  have bad : ∀ e : Int, e ≠ 0 → getE l = e → ∃ y0 y1 y2 y3 g : Int, GV l = .tuple #[.agg #[.int .i64 y0, .int .i64 y1, .int .i64 y2, .int .i64 y3], .int .i64 g] ∧ chkI y0 y1 y2 y3 = 0 ∧ (g = 0 → encI y0 y1 y2 y3 = l) :=
    fun e he h => ⟨0, 0, 0, 0, e, gv_bad l e h he, by decide, fun h0 => absurd h0 he⟩
  by_cases h1 : l.length < 4
  · exact bad 1 (by decide) (by unfold getE; rw [if_pos h1])
  · by_cases h2 : 4 < l.length
    · exact bad 2 (by decide) (by unfold getE; rw [if_neg h1, if_pos h2])
    · obtain ⟨b, rest, rfl⟩ : ∃ b rest, l = b :: rest := by
        cases l with
        | nil => simp at h1
        | cons b rest => exact ⟨b, rest, rfl⟩
      have hr : rest.length = 3 := by rw [List.length_cons] at h1 h2; omega
      by_cases h25 : 25 < b.toNat
      · exact bad 5 (by decide) (ge_five b rest hr h25)
      · by_cases hT : (readL (frm b.toNat) rest).1 = 0
        · cases hz : (readL (frm b.toNat) rest).2.2.all (· == 0) with
          | false => exact bad 4 (by decide) (ge_four b rest hr h25 hT hz)
          | true =>
            obtain ⟨A, B, C, hA, hB, hC, he, hc⟩ := put_get b rest hr h25 hT hz
            refine ⟨(b.toNat : Int), A, B, C, 0, ?_, hc, fun _ => he⟩
            rw [gv_good b rest _ hr h25 hT hz rfl, hA, hB, hC]
        · exact bad 3 (by decide) (ge_three b rest hr h25 hT)
set_option maxRecDepth 20000 in
set_option maxHeartbeats 4000000 in
theorem walk (a0 : ByteArray) (w : World) (w0 : a0.size ≤ maxLen) (hN : NM w) :
    Calls Tryd.prog 5 #[.string a0] w fun e w' => e = .returned (.bool true) ∧ Below w.heap.size w w' := by
  obtain ⟨l, rfl⟩ : ∃ l : List UInt8, a0 = ⟨l.toArray⟩ := ⟨a0.data.toList, by cases a0; simp⟩
  have hs := str_size l
  have CW := Lib.hid (works03 w hN)
  obtain ⟨y0, y1, y2, y3, g, hG, hc, hE⟩ := get_cases l
  have C1 := fun w => pget_of l w
  have C2 := fun w => rget_of l w
  rw [hG] at C1 C2
  replace C1 := Lib.hid C1
  replace C2 := Lib.hid C2
  have C3 := fun w => pput_of y0 y1 y2 y3 0 w hc
  rw [if_pos rfl] at C3
  obtain ⟨s, hss⟩ : ∃ s, encI y0 y1 y2 y3 = s := ⟨_, rfl⟩
  rw [hss] at C3 hE
  replace C3 := Lib.hid C3
  have HEQ : ∀ w : World, (binOp .eql 30 (.agg #[.int .i64 y0, .int .i64 y1, .int .i64 y2, .int .i64 y3]) (.agg #[.int .i64 y0, .int .i64 y1, .int .i64 y2, .int .i64 y3])).run Tryd.prog w = .ok (.bool true) w := fun w => ins_eq _ _ _ _ _ _ _ _ true w (by simp)
  clear hG hc hss hN w0
  by_cases hl : 1000 < l.length
  · have hlI : (1000 : Int) < (l.length : Int) := by omega
    go_enter Tryd.func5, Tryd.ntmps5
    go_wp2_with (go_at_call 7; (refine CW.out.mono ?_); rintro e w1 ⟨rfl, hb1⟩)
    go_ret
    exact ⟨rfl, hb1⟩
  · have hlI : ¬ (1000 : Int) < (l.length : Int) := by omega
    go_enter Tryd.func5, Tryd.ntmps5
    go_wp2_with fail
    refine CW.out.mono ?_
    rintro e w1 ⟨rfl, hb1⟩
    have HB1 := Lib.hid hb1
    clear hb1
    go_wp2_with fail
    refine (C1.out _).mono ?_
    rintro e w2 ⟨rfl, hb2⟩
    obtain ⟨W3, hW3⟩ : ∃ W3, w2.alloc (.cells #[.int .i64 y0, .int .i64 y1, .int .i64 y2, .int .i64 y3] 30) = W3 := ⟨_, rfl⟩
    have hb3 : Below w2.heap.size w2 W3 := by rw [← hW3]; go_grown
    have hx3 : W3.heap[w2.heap.size]? = some (.cells #[.int .i64 y0, .int .i64 y1, .int .i64 y2, .int .i64 y3] 30 (0, 0)) := by rw [← hW3]; exact heap_new _ _ _
    have HB3 := Lib.hid (tr3 (tr3 HB1.out hb2) hb3)
    have HX3 := Lib.hid hx3
    have HW3 := Lib.hid hW3
    clear hb2 hb3 hx3 hW3 HB1
    go_wp2_with fail
    rw [HW3.out]
    refine (C2.out _).mono ?_
    rintro e w4 ⟨rfl, hb4⟩
    obtain ⟨W5, hW5⟩ : ∃ W5, w4.alloc (.cells #[.int .i64 y0, .int .i64 y1, .int .i64 y2, .int .i64 y3] 30) = W5 := ⟨_, rfl⟩
    have hb5 : Below w4.heap.size w4 W5 := by rw [← hW5]; go_grown
    have hx5 := kb (kb HX3.out hb4) hb5
    obtain ⟨p0, p1, p2, p3⟩ := cel4 hx5
    have hy5 : W5.heap[w4.heap.size]? = some (.cells #[.int .i64 y0, .int .i64 y1, .int .i64 y2, .int .i64 y3] 30 (0, 0)) := by rw [← hW5]; exact heap_new _ _ _
    have HB5 := Lib.hid (tr3 (tr3 HB3.out hb4) hb5)
    have HX5 := Lib.hid hx5
    have HY5 := Lib.hid hy5
    have HW5 := Lib.hid hW5
    clear hb4 hb5 hx5 hy5 HX3 HB3 HW3 hW5
    rw [← HW5.out] at p0 p1 p2 p3
    go_wp2_with fail
    rw [HW5.out]
    refine (C3.out _).mono ?_
    rintro e w6 ⟨rfl, hb6⟩
    obtain ⟨q0, q1, q2, q3⟩ := cel4 (kb HX5.out hb6)
    obtain ⟨r0, r1, r2, r3⟩ := cel4 (kb HY5.out hb6)
    have HB6 := Lib.hid (tr3 HB5.out hb6)
    clear hb6 p0 p1 p2 p3
    by_cases h0 : g = 0
    · obtain rfl := hE h0
      subst h0
      go_wp2_with fail
      go_ret
      exact ⟨rfl, HB6.out⟩
    · have hcb : (g == 0) = false := by simpa using h0
      have hcn : (g != 0) = true := by simpa using h0
      clear hE
      go_wp2_with fail
      go_ret
      exact ⟨by first | rfl | simp, HB6.out⟩
end Go.Proofs.YtbokjgmndokifaaDoor.insGets
