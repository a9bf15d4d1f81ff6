/- What the builder's calls do (layer 7): New, Func, last. -/
import Derived.Test.YtdneblbaofhehaaBdA
import Derived.Deep.RegionHeld3
import Derived.Deep.DrawnRows
namespace Go.Proofs.Ytdneblbaofhehaa.bd
open Go.ChangeShapes Go.WideShapes Go.ChangeAt Go.RowKit Go.Maps
open Go.Proofs.Ytdneblbaofhehaa.ro
open Go.Proofs.Ytdneblbaofhehaa.pr
attribute [local go_sem ↓] Go.wp_at_zero Go.wp_at_succ
set_option linter.unusedVariables false
set_option linter.unusedSimpArgs false
theorem infoP : (Try.prog.info? 58).map (fun i => (i.zero, i.size, i.bytes)) = some (some (.pointer none), 1, 8) := by kernel_rfl
theorem infoL : (Try.prog.info? 72).map (fun i => (i.zero, i.size, i.bytes)) = some (some (.agg #[.int .i64 0, .string ByteArray.empty]), 2, 24) := by kernel_rfl
theorem zeroI (w : World) : (zeroValue 3).run Try.prog w = .ok (.int .i64 0) w := by kernel_rfl
theorem new_v (mem : Int) (w : World) : Calls Try.prog 8 #[.int .i64 mem] w fun e w' => ∃ Bb ρ, e = .returned (.pointer (some ⟨Bb, 0, none⟩)) ∧ BS w w' ρ Bb mem (.slice none 0 0) [] := by
  go_enter Try.func8, Try.ntmps8
  go_wp2_with fail
  go_ret
  refine ⟨w.heap.size, fun b => if b < w.heap.size then 0 else if b = w.heap.size then 1 else 9, rfl, fun k hk => if_pos hk, by go_grown, heap_alloc_new _ _, ?_, RR.nil _ _ _ _, fun j x hx => by simp at hx⟩
  show (if _ then _ else _) = _
  rw [if_neg (by omega), if_pos rfl]
section
variable {w0 w : World} {ρ : Ro} {Bb : Nat} {mem : Int} {fv : Value} {fs : List Fn}
theorem BS.cells (h : BS w0 w ρ Bb mem fv fs) : w.cell? ⟨Bb, 0, none⟩ = some (.int .i64 mem) ∧ w.cell? ⟨Bb, 1, none⟩ = some fv ∧ ∀ i, w.frozen? ⟨Bb, i, none⟩ = false := ⟨ro.cel h.o 0, ro.cel h.o 1, fun i => ro.frz h.o i⟩
theorem BS.row (h : BS w0 w ρ Bb mem fv fs) : ∃ a c, fv = .slice a fs.length c ∧ (fs.length ≤ c ∧ c ≤ maxLen) ∧ ∀ j x, fs[j]? = some x → ∃ g, a = some ⟨g, 0, none⟩ ∧ w.cell? ⟨g, j, none⟩ = some (.pointer (some ⟨x.F, 0, none⟩)) := by
  have hv := OR.rv recP h.r.o
  obtain ⟨hl, ⟨rfl, h0⟩ | ⟨g, cap, cur, rfl, hg, hh, h1, h2, h3, h4⟩⟩ := h.r.o
  · have h0' : fs.length = 0 := by simpa using h0
    exact ⟨none, 0, by rw [h0'], ⟨by omega, by unfold maxLen; omega⟩, fun j x hx => by rw [List.length_eq_zero_iff.1 h0'] at hx; simp at hx⟩
  · refine ⟨some ⟨g, 0, none⟩, cap, by simp, ⟨by simpa using h1, h2⟩, fun j x hx => ⟨g, rfl, ?_⟩⟩
    obtain ⟨b, o, e, _, hc⟩ := RV.at (by simpa using hv) j x.F (by rw [List.getElem?_map, hx]; rfl)
    rw [Option.some.injEq, Addr.mk.injEq] at e
    obtain ⟨rfl, rfl, _⟩ := e
    have := hc 0 (.pointer (some ⟨x.F, 0, none⟩)) rfl
    simpa using this
end
theorem three (w : World) (o1 o2 o3 : Obj) : (((w.alloc o1).alloc o2).alloc o3).heap[w.heap.size]? = some o1 ∧ (((w.alloc o1).alloc o2).alloc o3).heap[w.heap.size + 1]? = some o2 ∧ (((w.alloc o1).alloc o2).alloc o3).heap[w.heap.size + 1 + 1]? = some o3 ∧ Below w.heap.size w (((w.alloc o1).alloc o2).alloc o3) ∧ (((w.alloc o1).alloc o2).alloc o3).heap.size = w.heap.size + 1 + 1 + 1 := by
  refine ⟨?_, ?_, ?_, by go_grown, ?_⟩
  · show (((w.heap.push _).push _).push _)[w.heap.size]? = _
    simp only [Array.getElem?_push, Array.size_push]
    rw [if_neg (by omega), if_neg (by omega), if_pos trivial]
  · show (((w.heap.push _).push _).push _)[w.heap.size + 1]? = _
    simp only [Array.getElem?_push, Array.size_push]
    rw [if_neg (by omega), if_pos trivial]
  · show (((w.heap.push _).push _).push _)[w.heap.size + 1 + 1]? = _
    simp only [Array.getElem?_push, Array.size_push]
    rw [if_pos trivial]
  · show (((w.heap.push _).push _).push _).size = _
    simp
set_option maxRecDepth 20000 in
set_option maxHeartbeats 2000000 in
theorem func_v {w0 w : World} {ρ : Ro} {Bb : Nat} {mem : Int} {fv : Value} {fs : List Fn} (h : BS w0 w ρ Bb mem fv fs) (hl : fs.length ≤ 1000) :
    Calls Try.prog 16 #[.pointer (some ⟨Bb, 0, none⟩)] w fun e w' => ∃ ρ' fv' F M, e = .returned (.int .i64 (fs.length : Int)) ∧ BS w0 w' ρ' Bb mem fv' (fs ++ [⟨F, M, .slice none 0 0, .slice none 0 0, [], [], fun _ => none, 0⟩]) := by
  obtain ⟨c0, c1, cf⟩ := h.cells
  have f1 := cf 1
  have H := Lib.hid h
  have hmm := @run_makeMap Try.prog
  obtain ⟨a, c, hfv, hcap, _⟩ := h.row
  subst hfv
  clear h cf
  obtain ⟨n, hn⟩ : ∃ n, fs.length = n := ⟨_, rfl⟩
  rw [hn] at hl c1 hcap ⊢
  have HN := Lib.hid hn
  have HL := Lib.hid hl
  rw [hn] at H
  clear hn hcap hl
  go_enter Try.func16, Try.ntmps16
  go_wp2_with (at_builtin; refine wpList_appR (en := enP) rfl _ _ 54 58 (.pointer none) 8 rfl Try.underlying54 infoP rfl (by decide) recP 0 _ (fs.map Fn.F) rfl ⟨w.heap.size + 1 + 1, 0, none⟩ 1 rfl (w.heap.size + 1) ?own ?cell (by rw [List.length_map, HN.out]; have := HL.out; omega) (Nat.zero_le _) ?_)
  case own => exact OR.below H.out.r.o (by go_grown)
  case cell =>
    intro j u hu
    cases j with
    | zero =>
      simp [enP] at hu
      subst hu
      exact ro.cel (three w _ _ _).2.2.1 0
    | succ j => simp [enP] at hu
  intro v' w1 ho hg hor
  obtain ⟨t1, t2, t3, t4, t5⟩ := three w (Obj.map #[] 0) (Obj.cells #[.slice none 0 0, .map (some w.heap.size), .slice none 0 0] 67) (Obj.cells #[.pointer (some ⟨w.heap.size + 1, 0, none⟩)] 58)
  obtain ⟨W3, hW3⟩ : ∃ W3, ((w.alloc (Obj.map #[] 0)).alloc (Obj.cells #[.slice none 0 0, .map (some w.heap.size), .slice none 0 0] 67)).alloc (Obj.cells #[.pointer (some ⟨w.heap.size + 1, 0, none⟩)] 58) = W3 := ⟨_, rfl⟩
  have hm0 : W3.ownsMap Try.prog 9 (plainElem (H := Unit) Try.prog 3) w.heap.size 0 (.map []) := by
    rw [← hW3]
    exact ((World.ownsMap_made w Try.prog 9 (plainElem (H := Unit) Try.prog 3)).alloc _).alloc _
  rw [hW3] at t1 t2 t3 t4 t5 hg
  rw [← t5] at hor
  have HK : Hid (∃ ρ1, (∀ k, k < w.heap.size → ρ1 k = ρ k) ∧ ρ1 w.heap.size = 101 + 4 * n ∧ ρ1 (w.heap.size + 1) = 100 + 4 * n ∧ KX (fun _ => False) ρ ρ1 w W3) := Lib.hid ⟨fun b => if b < w.heap.size then ρ b else if b = w.heap.size then 101 + 4 * n else if b = w.heap.size + 1 then 100 + 4 * n else 9, fun k hk => if_pos hk, by
      show (if _ then _ else _) = _
      rw [if_neg (by omega), if_pos rfl], by
      show (if _ then _ else _) = _
      rw [if_neg (by omega), if_neg (by omega), if_pos rfl], ⟨t4.os, t4.tape, t4.output, t4.size, fun d _ k hk e => ⟨by show (if _ then _ else _) = _; rw [if_pos hk]; exact e, t4.block k hk⟩⟩⟩
  obtain ⟨ρ1, k0, k1, k2, hK⟩ := HK.out
  have h1 := H.out.keep hK (fun _ _ h => h)
  have hor1 : RR 1 enP W3 ρ1 2 58 (.slice a n c) (fs.map Fn.F) := h1.r
  obtain ⟨g1, g2⟩ := hor1.grown hg ho hor
  have bW := g2.blk h1.o h1.rb (by omega)
  have FW := g2.blk t2 k2 (by omega)
  have MW := g2.k (101 + 4 * n) (by omega) w.heap.size (by rw [t5]; omega) k1
  have HB : Hid (BS w0 (w1.setCell ⟨Bb, 1, none⟩ v') (ext ρ1 W3.heap.size 2) Bb mem v' (fs ++ [⟨w.heap.size + 1, w.heap.size, .slice none 0 0, .slice none 0 0, [], [], fun _ => none, 0⟩])) := Lib.hid (by
    have hs := KX.set (w := w1) Bb 1 v' bW.2
    have hk := g2.to hs
    have hz := hk.bel (by omega) h1.z h1.b.size
    refine ⟨hz.2, h1.b.trans hz.1, by rw [ro.set_blk w1 Bb 1 v' bW.1]; rfl, bW.2, by rw [List.map_append]; exact g1.keep hs (by omega), fun j x hx => ?_⟩
    by_cases e : j < fs.length
    · rw [List.getElem?_append_left e] at hx
      exact (h1.fn j x hx).keep hk (fun d _ _ => by omega)
    · rw [List.getElem?_append_right (by omega)] at hx
      have hj : j - fs.length = 0 := by
        rcases Nat.eq_zero_or_pos (j - fs.length) with h | h
        · exact h
        · rw [List.getElem?_eq_none (by simp; omega)] at hx; cases hx
      rw [hj] at hx
      cases hx
      have hjn : j = n := by have := HN.out; omega
      subst hjn
      have Fs := hs.blk FW.1 FW.2 (by omega)
      have Ms := hs.k (101 + 4 * j) (by omega) w.heap.size (by have := g2.size; rw [t5] at this; omega) MW.1
      exact ⟨Fs.1, Fs.2, ⟨.map [], ownsMap_blk hm0 (Ms.2.trans MW.2), Lab.empty⟩, Ms.1, RR.nil _ _ _ _, RR.nil _ _ _ _⟩)
  have c1' : w1.cell? ⟨Bb, 1, none⟩ = some (.slice a n c) := ro.cel bW.1 1
  have f1' : w1.frozen? ⟨Bb, 1, none⟩ = false := ro.frz bW.1 1
  obtain ⟨va, vc, hvf⟩ : ∃ va vc, v' = .slice va (n + 1) vc := by
    obtain ⟨a', c', e⟩ := OR.form ho
    exact ⟨a', c', by rw [e, List.length_append, List.length_map, HN.out]; rfl⟩
  subst hvf
  have hn2 : n + 1 ≤ 1001 := by have := HL.out; omega
  have hw1 : IntKind.i64.wrap ((n + 1 : Nat) : Int) = ((n + 1 : Nat) : Int) := by rw [IntKind.wrap_i64]; omega
  have HWN := Lib.hid (show IntKind.i64.wrap (((n + 1 : Nat) : Int) - 1) = (n : Int) by rw [IntKind.wrap_i64]; omega)
  clear t1 t2 t3 t4 t5 hg hor hm0 HK k0 k1 k2 hK h1 hor1 g1 g2 bW FW MW ho hW3 c1 f1
  go_wp2_with fail
  go_ret
  exact ⟨_, _, _, _, rfl, HB.out⟩
/-- the function that began last. -/
theorem last_v {w0 w : World} {ρ : Ro} {Bb : Nat} {mem : Int} {fv : Value} {fs : List Fn} {n : Nat} {x : Fn} (h : BS w0 w ρ Bb mem fv fs) (hn : fs.length = n + 1) (hx : fs[n]? = some x) (hl : n ≤ 1000) :
    Calls Try.prog 24 #[.pointer (some ⟨Bb, 0, none⟩)] w fun e w' => e = .returned (.pointer (some ⟨x.F, 0, none⟩)) ∧ ∃ m, w' = w.drewN m := by
  obtain ⟨c0, c1, cf⟩ := h.cells
  obtain ⟨a, c, hfv, hcap, hrow⟩ := h.row
  obtain ⟨g, ha, hc⟩ := hrow n x hx
  subst hfv ha
  rw [hn] at c1
  have hw1 : IntKind.i64.wrap (((n + 1 : Nat) : Int) - 1) = (n : Int) := by rw [IntKind.wrap_i64]; omega
  have hw2 : ((n + 1 : Nat) : Int) - 1 = (n : Int) := by omega
  have hw3 : IntKind.i64.wrap (n : Int) = (n : Int) := by rw [IntKind.wrap_i64]; omega
  have hne : (((n + 1 : Nat) : Int) == 0) = false := by simp; omega
  have hne2 : ¬ ((n + 1 : Nat) : Int) = 0 := by omega
  have hlt : n < n + 1 := by omega
  clear h hcap hrow cf c0 hn hx
  obtain ⟨m, hm⟩ : ∃ m, n + 1 = m := ⟨_, rfl⟩
  rw [hm] at c1 hw1 hw2 hne hne2 hlt
  clear hm
  go_enter Try.func24, Try.ntmps24
  go_wp2_with fail
  go_quiet (fail)
  go_wp2_with fail
  go_ret
  exact ⟨rfl, nq, rfl⟩
theorem last_none {w0 w : World} {ρ : Ro} {Bb : Nat} {mem : Int} {fv : Value} (h : BS w0 w ρ Bb mem fv []) :
    Calls Try.prog 24 #[.pointer (some ⟨Bb, 0, none⟩)] w fun e w' => e = .returned (.pointer none) ∧ w' = w := by
  obtain ⟨c0, c1, cf⟩ := h.cells
  obtain ⟨a, c, hfv, hcap, hrow⟩ := h.row
  subst hfv
  clear h hcap hrow cf c0
  go_enter Try.func24, Try.ntmps24
  go_wp2_with fail
  go_ret
  exact ⟨rfl, rfl⟩
theorem last_nil (w : World) : Calls Try.prog 24 #[.pointer none] w fun e w' => e = .returned (.pointer none) ∧ w' = w := by
  go_enter Try.func24, Try.ntmps24
  go_wp2_with fail
  go_ret
  exact ⟨rfl, rfl⟩
end Go.Proofs.Ytdneblbaofhehaa.bd
