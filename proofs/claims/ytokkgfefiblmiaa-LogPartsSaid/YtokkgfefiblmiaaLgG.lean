/- The events of a loop, and their places, as the law gathers them; the anchor (layer 24). -/
import Derived.Test.YtokkgfefiblmiaaLgF
namespace Go.Proofs.Ytokkgfefiblmiaa.lg
open Go.ChangeShapes Go.WideShapes Go.ChangeAt Go.RowKit Go.Maps
open Go.Proofs.Ytokkgfefiblmiaa.ro Go.Shelf
set_option linter.unusedVariables false
set_option linter.unusedSimpArgs false
attribute [local go_sem ↓] Go.wp_at_zero Go.wp_at_succ
attribute [local go_sem] Oper.semAt_some
theorem thoseP_v (p0 : Option Addr) (g : Nat) (cs : Array Value) (w : World) :
    Calls Try.prog 23 #[.pointer p0, .func (.func g) #[] cs] w fun e w' => e = .returned (.func (.func 35) #[] #[.pointer (some ⟨w.heap.size, 0, none⟩), .pointer (some ⟨w.heap.size + 1, 0, none⟩)]) ∧ w' = (w.alloc (.cells #[.pointer p0] 24)).alloc (.cells #[.func (.func g) #[] cs] 54) :=
  callsIn_wide.1 (those_in Fence.wide 1 trivial rfl p0 g cs w)
theorem ofl_v (p0 : Option Addr) (y : Int) (w : World) :
    Calls Try.prog 25 #[.pointer p0, .int .i64 y] w fun e w' => e = .returned (.func (.func 35) #[] #[.pointer (some ⟨w.heap.size + 1, 0, none⟩), .pointer (some ⟨w.heap.size + 2, 0, none⟩)]) ∧ w' = ((w.alloc (.cells #[.int .i64 y] 3)).alloc (.cells #[.pointer p0] 24)).alloc (.cells #[.func (.func 36) #[] #[.pointer (some ⟨w.heap.size, 0, none⟩)]] 54) := by
  go_enter Try.func25, Try.ntmps25
  go_wp2_with (go_at_call 23; (with_reducible refine (thoseP_v _ _ _ _).mono ?_); rintro _ _ ⟨rfl, rfl⟩)
  go_ret
  exact ⟨rfl, rfl⟩
theorem eq_those (a b : Nat) (w : World) : (binOp .eql 52 (.func (.func 35) #[] #[.pointer (some ⟨a, 0, none⟩), .pointer (some ⟨b, 0, none⟩)]) .nilFunc).run Try.prog w = .ok (.bool false) w := by kernel_rfl
theorem OJ.below {w0 W W' : World} {most : Int} {pre : List (Int × I4)} (h : OJ w0 most pre W) (hb : Below W.heap.size W W') : OJ w0 most pre W' := by
  obtain ⟨v, u, hK⟩ := h
  exact ⟨v, u, hK.below hb⟩
set_option maxRecDepth 20000 in
set_option maxHeartbeats 1000000 in
theorem of_v {n0 A : Nat} {w : World} {v : Value} {es : List I4} (h : LG n0 w A v es) (hl : es.length ≤ 100000) (y most : Int) (hm : (es.length : Int) < most) :
    Calls Try.prog 9 #[.pointer (some ⟨A, 0, none⟩), .int .i64 y, .int .i64 most] w fun e W' => ∃ a b, e = .returned (.tuple #[a, b]) ∧ OR 4 enE W' (w.heap.size + 6) 28 a ((tel (ql y) es es.length).map fun x => x.2) ∧ W'.ownsRow (w.heap.size + 6) 3 1 b (tel (ql y) es es.length).length (((tel (ql y) es es.length).map fun x => x.1).map (Value.int .i64)) ∧ Below w.heap.size w W' ∧ w.heap.size + 6 ≤ W'.heap.size := by
  obtain ⟨wa, hwa⟩ : ∃ wa, w.alloc (.cells #[.int .i64 most] 3) = wa := ⟨_, rfl⟩
  obtain ⟨wb, hwb⟩ : ∃ wb, wa.alloc (.cells #[.slice none 0 0] 22) = wb := ⟨_, rfl⟩
  obtain ⟨wc, hwc⟩ : ∃ wc, wb.alloc (.cells #[.slice none 0 0] 29) = wc := ⟨_, rfl⟩
  obtain ⟨wd, hwd⟩ : ∃ wd, wc.alloc (.cells #[.int .i64 y] 3) = wd := ⟨_, rfl⟩
  obtain ⟨we, hwe⟩ : ∃ we, wd.alloc (.cells #[.pointer (some ⟨A, 0, none⟩)] 24) = we := ⟨_, rfl⟩
  obtain ⟨wf, hwf⟩ : ∃ wf, we.alloc (.cells #[.func (.func 36) #[] #[.pointer (some ⟨w.heap.size + 3, 0, none⟩)]] 54) = wf := ⟨_, rfl⟩
  have sa : wa.heap.size = w.heap.size + 1 := by rw [← hwa]; simp
  have sb : wb.heap.size = w.heap.size + 2 := by rw [← hwb, World.size_alloc, sa]
  have sc : wc.heap.size = w.heap.size + 3 := by rw [← hwc, World.size_alloc, sb]
  have sd : wd.heap.size = w.heap.size + 4 := by rw [← hwd, World.size_alloc, sc]
  have se : we.heap.size = w.heap.size + 5 := by rw [← hwe, World.size_alloc, sd]
  have sf : wf.heap.size = w.heap.size + 6 := by rw [← hwf, World.size_alloc, se]
  have b0 : wf.heap[w.heap.size]? = some (.cells #[.int .i64 most] 3 (0, 0)) := by rw [← hwf, ← hwe, ← hwd, ← hwc, ← hwb, ← hwa]; exact hal _ (hal _ (hal _ (hal _ (hal _ (heap_new w _)))))
  have b1 : wf.heap[w.heap.size + 1]? = some (.cells #[.slice none 0 0] 22 (0, 0)) := by rw [← hwf, ← hwe, ← hwd, ← hwc, ← hwb, ← sa]; exact hal _ (hal _ (hal _ (hal _ (heap_new wa _))))
  have b2 : wf.heap[w.heap.size + 2]? = some (.cells #[.slice none 0 0] 29 (0, 0)) := by rw [← hwf, ← hwe, ← hwd, ← hwc, ← sb]; exact hal _ (hal _ (hal _ (heap_new wb _)))
  have b3 : wf.heap[w.heap.size + 3]? = some (.cells #[.int .i64 y] 3 (0, 0)) := by rw [← hwf, ← hwe, ← hwd, ← sc]; exact hal _ (hal _ (heap_new wc _))
  have b4 : wf.heap[w.heap.size + 4]? = some (.cells #[.pointer (some ⟨A, 0, none⟩)] 24 (0, 0)) := by rw [← hwf, ← hwe, ← sd]; exact hal _ (heap_new wd _)
  have b5 : wf.heap[w.heap.size + 5]? = some (.cells #[.func (.func 36) #[] #[.pointer (some ⟨w.heap.size + 3, 0, none⟩)]] 54 (0, 0)) := by rw [← hwf, ← se]; exact heap_new we _
  have hB0 : Below w.heap.size w wf := by rw [← hwf, ← hwe, ← hwd, ← hwc, ← hwb, ← hwa]; go_grown
  have HT : Hid (Calls Try.prog 35 #[.func (.func 26) #[] #[.pointer (some ⟨w.heap.size + 1, 0, none⟩), .pointer (some ⟨w.heap.size + 2, 0, none⟩), .pointer (some ⟨w.heap.size, 0, none⟩)], .pointer (some ⟨w.heap.size + 4, 0, none⟩), .pointer (some ⟨w.heap.size + 5, 0, none⟩)] wf fun e W' => (∃ v, e = .returned v) ∧ OJ w most (tel (ql y) es es.length) W') := Lib.hid (callsIn_wide.1 ((telld_in Fence.wide 1 trivial trivial trivial rfl (by decide) (w.heap.size + 1) (w.heap.size + 2) w.heap.size (w.heap.size + 4) (w.heap.size + 5) (w.heap.size + 3) y (So w.heap.size) (.inr (.inl rfl)) (.inr (.inr rfl)) (.inl rfl) n0 A v es w (by omega) h (OJ w most) (fun s A B hs hb => hs.below hb)
    (fun pre i a b c d W _ hJ hlt => callsIn_wide.2 (of1_v w most pre W hJ (by omega) (by omega) i a b c d)) wf hB0 b4 b5 (.inl b3) ⟨_, _, b1, OR.nil _ _ _, b2, World.ownsRow_nil _ _ _ _, b0, hB0, by omega⟩).mono fun e W' ⟨h1, ys, h2, h3⟩ => ⟨h1, h2 ▸ h3⟩))
  have HE : Hid ((((((w.alloc (.cells #[.int .i64 most] 3)).alloc (.cells #[.slice none 0 0] 22)).alloc (.cells #[.slice none 0 0] 29)).alloc (.cells #[.int .i64 y] 3)).alloc (.cells #[.pointer (some ⟨A, 0, none⟩)] 24)).alloc (.cells #[.func (.func 36) #[] #[.pointer (some ⟨w.heap.size + 1 + 1 + 1, 0, none⟩)]] 54) = wf) := Lib.hid (by rw [← hwf, ← hwe, ← hwd, ← hwc, ← hwb, ← hwa])
  clear hwa hwb hwc hwd hwe hwf sa sb sc sd se sf b0 b1 b2 b3 b4 b5 hB0 h
  have HO := Lib.hid (ofl_v (some ⟨A, 0, none⟩) y)
  go_enter Try.func9, Try.ntmps9
  have hfe := eq_those
  go_wp2_with (first | (go_at_call 35; rw [HE.out]; refine HT.out.mono ?_; rintro _ W2 ⟨⟨v2, rfl⟩, hJ⟩; obtain ⟨a, b, hK⟩ := hJ; have c1 := cel0 hK.hx; have c2 := cel0 hK.hy; have n1 := lt_of hK.hx; have n2 := lt_of hK.hy; have HK := Lib.hid hK; clear hK) | (go_at_call 25; (with_reducible refine (HO.out _).mono ?_); rintro _ _ ⟨rfl, rfl⟩))
  go_quiet (fail)
  go_wp2_with fail
  go_ret2
  have hoy := HK.out.oy
  rw [List.length_map] at hoy
  exact ⟨a, b, rfl, HK.out.ox.below (by exact below_drewN _ _), own_keep hoy (fun g _ _ _ => rfl), HK.out.b.trans (Below.mono (below_drewN _ _) HK.out.b.size), HK.out.z⟩
end Go.Proofs.Ytokkgfefiblmiaa.lg
